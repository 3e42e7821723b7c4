/-
  Rows of whole numbers that are read.
-/
import Derived.Test.YthhjmbbfibgjpaaMem
namespace Go.Proofs.Ythhjmbbfibgjpaa.Sha
open Go.RowKit

/-- a slice of ints in memory, to be read: they are xs -/
def Ri (w : World) (A : Option Addr) (n : Nat) (xs : List Int) : Prop :=
  xs.length = n ∧ (n = 0 ∨ ∃ b o, A = some ⟨b, o, none⟩ ∧ ∀ i, i < n → w.cell? ⟨b, o + i, none⟩ = some (.int .i64 (at_ xs i)))
theorem Ri.bar {w w' : World} {A : Option Addr} {n : Nat} {xs : List Int} {l : List Nat} (r : Ri w A n xs) (b : Bar l w w') (hl : ∀ x ∈ l, w.heap.size ≤ x ∨ ∀ o, A ≠ some ⟨x, o, none⟩) : Ri w' A n xs := by
  obtain ⟨h1, h3⟩ := r
  refine ⟨h1, h3.imp id ?_⟩
  rintro ⟨bb, o, rfl, hc⟩
  refine ⟨bb, o, rfl, fun i hi => ?_⟩
  have hlt : bb < w.heap.size := World.block_lt_of_cell? _ _ (hc i hi)
  rw [← hc i hi]
  refine World.cell?_of_block (w := w) (b.block bb hlt (fun hm => ?_))
  rcases hl bb hm with h | h
  · omega
  · exact h o rfl
theorem Ri.below {w w' : World} {A : Option Addr} {n : Nat} {xs : List Int} (r : Ri w A n xs) (b : Below w.heap.size w w') : Ri w' A n xs := r.bar (l := []) (barOf b []) (by simp)
/-- behind changes from B on a row below B is as it was -/
theorem Ri.upto {w w' : World} {A : Option Addr} {n : Nat} {xs : List Int} {B : Nat} (r : Ri w A n xs) (b : Below B w w') (hB : n = 0 ∨ ∀ g o, A = some ⟨g, o, none⟩ → g < B) : Ri w' A n xs := by
  obtain ⟨h1, h3⟩ := r
  refine ⟨h1, ?_⟩
  rcases hB with h | h
  · exact .inl h
  · refine h3.imp id ?_
    rintro ⟨bb, o, rfl, hc⟩
    exact ⟨bb, o, rfl, fun i hi => by rw [← hc i hi]; exact World.cell?_of_block (w := w) (b.block bb (h bb o rfl))⟩
theorem Ri.blk {w : World} {M n : Nat} {T : TypeId} {xs : List Int} (h : Blk w M T (arr .i64 xs)) (hn : xs.length = n) : Ri w (some ⟨M, 0, none⟩) n xs :=
  ⟨hn, .inr ⟨M, 0, rfl, fun i hi => by rw [Nat.zero_add]; exact h.at_ i (by omega)⟩⟩
/-- a row of the law's argument -/
theorem ri_of_row {W : World} {a : Option Addr} {len cap : Nat} {zs : List Int} (h : (a = none ∧ len = 0 ∧ cap = 0 ∧ zs = []) ∨ ∃ x, a = some x ∧ len ≤ cap ∧ cap ≤ maxLen ∧ zs.length = cap ∧ (∀ i, i < zs.length → W.cell? (x.add i) = some (.int .i64 (zs.getD i 0))) ∧ ∀ n ∈ zs, (Lit.int .i64 n).wf = true) :
    Ri W a len (zs.take len) := by
  rcases h with ⟨rfl, rfl, rfl, rfl⟩ | ⟨x, rfl, hl, hm, hz, hcell, -⟩
  · exact ⟨rfl, .inl rfl⟩
  · refine ⟨by simp; omega, ?_⟩
    by_cases h0 : len = 0
    · exact .inl h0
    · refine .inr ?_
      obtain ⟨b, off, spot⟩ := x
      have hspot : spot = none := by
        have hc := hcell 0 (by omega)
        simpa [Addr.add] using World.cell?_spot hc
      subst hspot
      refine ⟨b, off, rfl, fun i hi => ?_⟩
      have := hcell i (by omega)
      have e : (⟨b, off, none⟩ : Addr).add i = ⟨b, off + i, none⟩ := by cases i <;> simp [Addr.add]
      rw [e] at this
      rw [this]
      unfold at_
      simp [List.getD_eq_getElem?_getD, hi]
theorem row_cap64 {W : World} {a : Option Addr} {len cap : Nat} {zs : List Int} (h : (a = none ∧ len = 0 ∧ cap = 0 ∧ zs = []) ∨ ∃ x, a = some x ∧ len ≤ cap ∧ cap ≤ maxLen ∧ zs.length = cap ∧ (∀ i, i < zs.length → W.cell? (x.add i) = some (.int .i64 (zs.getD i 0))) ∧ ∀ n ∈ zs, (Lit.int .i64 n).wf = true) :
    len ≤ cap ∧ cap ≤ 9223372036854775807 := by
  rcases h with ⟨-, rfl, rfl, -⟩ | ⟨x, -, hl, hm, -⟩
  · omega
  · unfold maxLen at hm; omega
theorem info_int : (Try.prog.info? 3).map (fun i => (i.zero, i.size, i.bytes)) = some (some (.int .i64 0), 1, 8) := by kernel_rfl
/-- make([]int, n): a new row of noughts -/
theorem make_ints (w : World) (n : Nat) (hn : n ≤ 400) : ∃ w', (Instr.makeSlice 38 (.int .i64 (n : Int)) (.int .i64 (n : Int))).run Try.prog w = .ok (.slice (some ⟨w.heap.size, 0, none⟩) n n) w' ∧ Blk w' w.heap.size 3 (arr .i64 (List.replicate n 0)) ∧ Below w.heap.size w w' := by
  obtain ⟨iu, hi, hz0, hz1, hz2⟩ := info_parts info_int
  obtain ⟨w', hm, own, gr⟩ := run_makeSlice_full (P := Try.prog) w w.heap.size 38 3 iu _ 1 Try.underlying38 hi hz0 hz1 .i64 .i64 n (by omega) (by rw [hz2]; omega) (by unfold maxLen; omega) (Nat.le_refl _)
  refine ⟨w', hm, ?_, ⟨gr.os, gr.tape, gr.output, gr.size, fun k hk => gr.block k hk (by simp)⟩⟩
  have e : (madeCells (Value.int .i64 0).cells (n * 1)).toList = ints .i64 (List.replicate n 0) := by
    rw [show (Value.int .i64 0).cells = #[.int .i64 0] from rfl, toList_madeCells_one, Nat.mul_one]
    simp [ints]
  rw [e] at own
  rcases own.2 with ⟨h0, -⟩ | ⟨g, cap, cur, hv, -, hh, h1, -, hs, ht⟩
  · cases h0
  · have hv2 : w.heap.size = g ∧ n = cap := by
      have := hv
      simp only [Value.slice.injEq, Option.some.injEq, Addr.mk.injEq] at this
      omega
    obtain ⟨hg, rfl⟩ := hv2
    rw [hg]
    have : cur = arr .i64 (List.replicate n 0) := by
      apply Array.toList_inj.1
      rw [List.take_of_length_le (by simp; omega)] at ht
      rw [ht]
      rfl
    rw [← this]
    exact hh
theorem make8 (w : World) : ∃ w', (Instr.makeSlice 38 (.int .i64 8) (.int .i64 8)).run Try.prog w = .ok (.slice (some ⟨w.heap.size, 0, none⟩) 8 8) w' ∧ Blk w' w.heap.size 3 (arr .i64 (List.replicate 8 0)) ∧ Below w.heap.size w w' := make_ints w 8 (by omega)
end Go.Proofs.Ythhjmbbfibgjpaa.Sha
