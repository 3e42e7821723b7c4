/-
  Parts laid together: Concat.
-/
import Derived.Test.YtidjkhpekhpffaaPart4
import Derived.Lib.AppendZeros

namespace Go.Proofs.Ytidjkhpekhpffaa.Sha
open Go.RowKit

def GrowPost (w : World) (e : Ending) (w' : World) : Prop := ∃ v, e = .returned v ∧ w'.ownsRow w.heap.size 5 1 v 0 [] ∧ Below w.heap.size w w'

set_option maxRecDepth 100000 in
set_option maxHeartbeats 1000000 in
theorem grow_any (n : Nat) (w : World) (hn : n ≤ 1073741824) :
    Calls Try.prog 31 #[.slice none 0 0, .int .i64 n] w (GrowPost w) := by
  by_cases h0 : n = 0
  · subst h0
    go_enter Try.func31, Try.ntmps31
    go_wp2
    go_ret
    exact ⟨_, rfl, World.ownsRow_nil _ _ _ _, Below.refl _ _⟩
  · have hp : 0 < (n : Int) := by omega
    obtain ⟨iu, hi, hz0, hz1, hz2⟩ := info_parts info_u8
    have hg := Kept.mk fun (w : World) ty => Lib.run_append_nil_zeros (P := Try.prog) w 22 3 ty 5 iu (.int .u8 0) .i64 .i64 Try.underlying22 Try.underlying3 hi hz0 n (by omega) (by omega) (by omega) (by rw [hz2]; omega)
    go_enter Try.func31, Try.ntmps31
    have hc1 := grownCap_ge w n 0 5
    have hc2 := grownCap_le_maxLen w n 0 5 (by unfold maxLen; omega)
    obtain ⟨c, hc⟩ : ∃ c, grownCap w n 0 5 = c := ⟨_, rfl⟩
    rw [hc] at hc1 hc2
    have hr := Kept.mk (hg.out w 22)
    rw [hc] at hr
    have hsz : (Builtin.zeroCells (Value.int IntKind.u8 0).cells n ++ Builtin.zeroCells (Value.int IntKind.u8 0).cells (c - n)).size = c := by
      rw [Array.size_append, size_zeroCells, size_zeroCells]; simp [Value.cells]; omega
    have ho := World.ownsRow_made (base := w.heap.size) (e := 5) (size := 1) w.drew (Builtin.zeroCells (Value.int IntKind.u8 0).cells n ++ Builtin.zeroCells (Value.int IntKind.u8 0).cells (c - n)) c (Nat.le_refl _) hc2 (by rw [hsz, Nat.mul_one])
    have hb : Below w.heap.size w (w.drew.alloc (.cells (Builtin.zeroCells (Value.int IntKind.u8 0).cells n ++ Builtin.zeroCells (Value.int IntKind.u8 0).cells (c - n)) 5)) := (Below.refl _ _).drew.alloc (Nat.le_refl _) _
    have HO := Kept.mk ho
    have HB := Kept.mk hb
    clear hg hc ho hb hsz hi hz0 hz1 hz2
    generalize w.drew.alloc (.cells (Builtin.zeroCells (Value.int IntKind.u8 0).cells n ++ Builtin.zeroCells (Value.int IntKind.u8 0).cells (c - n)) 5) = w2 at *
    go_wp2_with ((with_reducible refine sel 22 ?_); refine Lib.wpList_append_run _ rfl (.tmp 20) (.tmp 21) 22 3 rfl _ _ rfl rfl _ _ hr.out ?_)
    go_ret
    exact ⟨_, rfl, HO.out, HB.out⟩
theorem cat_mono (X : Nat → List Int) {k n : Nat} (h : k ≤ n) : (cat X k).length ≤ (cat X n).length := by
  induction n with
  | zero => obtain rfl : k = 0 := by omega
            exact Nat.le_refl _
  | succ n ih =>
    by_cases hk : k = n + 1
    · subst hk; exact Nat.le_refl _
    · rw [cat, List.length_append]; have := ih (by omega); omega
def ConcatPost (xs : List Int) (w : World) (e : Ending) (w' : World) : Prop := ∃ v, e = .returned v ∧ w'.ownsRow w.heap.size 5 1 v xs.length (ints .u8 xs) ∧ Below w.heap.size w w'

set_option maxRecDepth 100000 in
set_option maxHeartbeats 1000000 in
theorem concat_any (A : Option Addr) (n cap : Nat) (X : Nat → List Int) (w : World) (hr : Rws w A n X) (hn : n ≤ 1073741824) (hL : (cat X n).length ≤ 1073741824) :
    Calls Try.prog 20 #[.slice A n cap] w (ConcatPost (cat X n) w) := by
  have HR := Kept.mk hr
  have HM := Kept.mk fun k (hk : k ≤ n) => cat_mono X hk
  have HL := Kept.mk hL
  have PE : Kept (∀ v w', w'.ownsRow w.heap.size 5 1 v (cat X n).length (ints .u8 (cat X n)) → Below w.heap.size w w' → ConcatPost (cat X n) w (.returned v) w') := ⟨fun v w' h1 h2 => ⟨v, rfl, h1, h2⟩⟩
  clear hr hL
  go_enter Try.func20, Try.ntmps20
  go_wp2
  go_loopw [3, 5, 11] (fun s _s i wr => ∃ k : Nat, k ≤ n ∧ i = .int .i64 k ∧ s = .int .i64 ((cat X k).length : Nat) ∧ w = wr) (fun _ _ i _ => n - (Go.RowKit.intOf i).toNat)
  case atStart => exact ⟨0, by omega, rfl, rfl, rfl⟩
  case round =>
    obtain ⟨k, hk, rfl, rfl, rfl⟩ := hrel
    by_cases hkn : k < n
    · have hkn' : (k : Int) < n := by omega
      obtain ⟨bb, oo, rfl, hc⟩ := HR.out.resolve_left (by omega)
      obtain ⟨a, l, c, h1, h2, h3, h4⟩ := hc k hkn
      have hlen := HM.out (k + 1) (by omega)
      have hl4 := h4.1
      have hL := HL.out
      have hcat : (cat X (k + 1)).length = (cat X k).length + l := by rw [cat, List.length_append, hl4]
      have HC := Kept.mk hcat
      obtain ⟨z, hz⟩ : ∃ z, (cat X k).length = z := ⟨_, rfl⟩
      rw [hcat, hz] at hlen
      rw [hz] at HC ⊢
      have hz9 : z + l ≤ 1073741824 := by omega
      have hW : wrap64 ((z : Int) + l) = z + l := by unfold wrap64; omega
      have hneg : ¬ ((z : Int) + l < 0) := by omega
      clear hc h4 hl4 hcat hlen hL hz
      go_wp2
      go_roundw
      case rel => exact ⟨k + 1, by omega, by go_num, by rw [HC.out]; go_num, trivial⟩
      case measure => simp [Go.RowKit.intOf]; omega
    · obtain rfl : k = n := by omega
      have hkn' : ¬ (k : Int) < k := by omega
      obtain ⟨N, hN⟩ : ∃ N, w.heap.size = N := ⟨_, rfl⟩
      go_wp2_with fail
      refine (grow_any (cat X k).length w HL.out).mono ?_
      rintro e w1 ⟨v, rfl, o1, b1⟩
      rw [hN] at PE o1 b1
      have O1 := Kept.mk o1; have B1 := Kept.mk b1
      clear o1 b1
      go_wp2
      go_loopw [6, 8, 27] (fun v _s i wr => ∃ (j : Nat) (u : Value), j ≤ k ∧ u = v ∧ i = .int .i64 j ∧ Kept (wr.ownsRow N 5 1 u (cat X j).length (ints .u8 (cat X j))) ∧ Kept (Below N w wr)) (fun _ _ i _ => k - (Go.RowKit.intOf i).toNat)
      case atStart => exact ⟨0, v, by omega, rfl, rfl, O1, B1⟩
      case round =>
        clear O1 B1
        obtain ⟨j, u, hj, rfl, rfl, O, B⟩ := hrel
        by_cases hjk : j < k
        · have hjk' : (j : Int) < k := by omega
          obtain ⟨bb, oo, rfl, hc⟩ := HR.out.resolve_left (by omega)
          obtain ⟨a, l, c, h1, h2, h3, h4⟩ := hc j hjk
          have x0 : wr.cell? ⟨bb, oo + j, none⟩ = some (.slice a l c) := (B.out.cell (p := ⟨bb, oo + j, none⟩) (by rw [← hN]; exact World.block_lt_of_cell? _ _ h1)).trans h1
          have R4 := Kept.mk (h4.below (hN.symm ▸ B.out))
          have hlen := HM.out (j + 1) (by omega)
          have hl4 := h4.1
          have hL := HL.out
          have hcat : cat X (j + 1) = cat X j ++ X j := rfl
          have hcl : (cat X (j + 1)).length = (cat X j).length + l := by rw [hcat, List.length_append, hl4]
          have HC := Kept.mk (And.intro hcat hcl)
          rw [hcl] at hlen
          obtain ⟨z, hz⟩ : ∃ z, (cat X j).length = z := ⟨_, rfl⟩
          rw [hz] at hlen HC O
          have hz9 : z + l ≤ 1073741824 := by omega
          clear hc h1 h4 hl4 hcat hcl hL hlen
          go_wp2_with ((with_reducible refine sel 33 ?_); refine wpList_append_rd rfl (.tmp 31) (.tmp 32) 22 rfl N 5 Try.underlying22 info_u8 u z _ rfl O.out a l c (X j) rfl R4.out (by omega) (by rw [← hN]; exact B.out.size) ?_; intro v7 w7 o7 g7; have B7 := Kept.mk (B.out.trans (own_below O.out g7 (by rw [← hN]; exact B.out.size))); rw [← ints_append, ← HC.out.1, ← HC.out.2] at o7; clear g7)
          go_roundw
          case rel => exact ⟨j + 1, _, by omega, rfl, by go_num, o7, B7⟩
          case measure => simp [Go.RowKit.intOf]; omega
        · obtain rfl : j = k := by omega
          have hkn' : ¬ (j : Int) < j := by omega
          have PF := Kept.mk (PE.out _ _ O.out B.out)
          clear PE
          go_wp2
          go_ret
          exact PF.out
end Go.Proofs.Ytidjkhpekhpffaa.Sha
