/-
  A hash under way: nothing written yet; what is put behind; the sum.
-/
import Derived.Test.YtblhfbpokfegnaaShaMix
namespace Go.Proofs.Ytblhfbpokfegnaa.Sha
open Go.RowKit

/-- the walk stops at the operation that writes slot n -/
theorem sel {P : Program} {ops : Array Oper} {Q : Exit → Act → World → Prop} {rest : List Oper} {a : Act} {w : World} (n : Nat) {b : Op} {c : TypeId} {p : String} {e : Array Edge} {g : Option (Nat × Bool)}
    (h : wpList P ops Q ({ dst := some n, op := b, type := c, pos := p, after := e, guard := g } :: rest) a w) : wpList P ops Q ({ dst := some n, op := b, type := c, pos := p, after := e, guard := g } :: rest) a w := h

def Hs (w : World) (h t : Nat) (text : List Int) : Prop := h ≠ t ∧ Made w t ∧ Bytes text ∧ ∃ r : List Int, r.length = 64 ∧ Bytes r ∧ r.take (text.length % 64) = text.drop (text.length / 64 * 64) ∧ Blk w h 70 (hcells t (st text).toL r (text.length : Nat))

theorem zc : Try.zeroCells70 = ([Value.pointer none, .int .u32 0, .int .u32 0, .int .u32 0, .int .u32 0, .int .u32 0, .int .u32 0, .int .u32 0, .int .u32 0] ++ (List.replicate 64 (Value.int .u8 0) ++ [Value.int .u64 0])).toArray := by kernel_rfl
theorem hc_new (t : Nat) : (((((((((Try.zeroCells70.setIfInBounds 0 (.pointer (some ⟨t, 0, none⟩))).setIfInBounds 1 (.int .u32 (hW 0 : Nat))).setIfInBounds 2 (.int .u32 (hW 1 : Nat))).setIfInBounds 3 (.int .u32 (hW 2 : Nat))).setIfInBounds 4 (.int .u32 (hW 3 : Nat))).setIfInBounds 5 (.int .u32 (hW 4 : Nat))).setIfInBounds 6 (.int .u32 (hW 5 : Nat))).setIfInBounds 7 (.int .u32 (hW 6 : Nat))).setIfInBounds 8 (.int .u32 (hW 7 : Nat))) = hcells t (st []).toL (List.replicate 64 0) (([] : List Int).length : Nat) := by
  have : st [] = S0 := rfl
  rw [zc, this]
  simp [hcells, hcl, ints, S8.toL, S0]
def NewPost (t : Nat) (w : World) (e : Ending) (w' : World) : Prop := ∃ h, e = .returned (.pointer (some ⟨h, 0, none⟩)) ∧ w.heap.size ≤ h ∧ Hs w' h t [] ∧ Bar [t] w w'

set_option maxRecDepth 100000 in
set_option maxHeartbeats 400000 in
theorem new_any (t : Nat) (w : World) (ht : Tab w t) : Calls Try.prog 13 #[.pointer (some ⟨t, 0, none⟩)] w (NewPost t w) := by
  have c := Lib.hid (made_any t w ht)
  have tl : t < w.heap.size := by
    rcases ht with h | h
    · exact Blk.lt h
    · exact Blk.lt h
  clear ht
  go_enter Try.func13, Try.ntmps13
  go_wp2_with fail
  refine c.out.mono ?_
  rintro e w1 ⟨rfl, k, b⟩
  have e0 : w1.cell? ⟨t, 67, none⟩ = some (.int .u32 (hW 0 : Nat)) := (k.cell 67).trans (tbl_start _ _ _ _ _ 0 (by omega))
  have e1 : w1.cell? ⟨t, 68, none⟩ = some (.int .u32 (hW 1 : Nat)) := (k.cell 68).trans (tbl_start _ _ _ _ _ 1 (by omega))
  have e2 : w1.cell? ⟨t, 69, none⟩ = some (.int .u32 (hW 2 : Nat)) := (k.cell 69).trans (tbl_start _ _ _ _ _ 2 (by omega))
  have e3 : w1.cell? ⟨t, 70, none⟩ = some (.int .u32 (hW 3 : Nat)) := (k.cell 70).trans (tbl_start _ _ _ _ _ 3 (by omega))
  have e4 : w1.cell? ⟨t, 71, none⟩ = some (.int .u32 (hW 4 : Nat)) := (k.cell 71).trans (tbl_start _ _ _ _ _ 4 (by omega))
  have e5 : w1.cell? ⟨t, 72, none⟩ = some (.int .u32 (hW 5 : Nat)) := (k.cell 72).trans (tbl_start _ _ _ _ _ 5 (by omega))
  have e6 : w1.cell? ⟨t, 73, none⟩ = some (.int .u32 (hW 6 : Nat)) := (k.cell 73).trans (tbl_start _ _ _ _ _ 6 (by omega))
  have e7 : w1.cell? ⟨t, 74, none⟩ = some (.int .u32 (hW 7 : Nat)) := (k.cell 74).trans (tbl_start _ _ _ _ _ 7 (by omega))
  have K := Lib.hid k
  clear k
  go_wp2
  go_ret
  refine ⟨w1.heap.size, rfl, b.size, ⟨?_, K.out.alloc _, by intro x hx; simp at hx, List.replicate 64 0, by simp, ?_, rfl, ?_⟩, b.alloc _⟩
  · have := b.size; omega
  · intro x hx
    obtain ⟨_, rfl⟩ := List.mem_replicate.1 hx
    omega
  · rw [← hc_new]
    exact Blk.new_at _ _ _ _ rfl
end Go.Proofs.Ytblhfbpokfegnaa.Sha
