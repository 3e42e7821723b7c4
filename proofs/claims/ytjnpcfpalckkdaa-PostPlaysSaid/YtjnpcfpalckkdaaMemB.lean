/-
  Facts of memory that name bytes' types: for seats that have them.
-/
import Derived.Test.YtjnpcfpalckkdaaMem
namespace Go.Proofs.Ytjnpcfpalckkdaa.Sha
open Go.RowKit

theorem info_u8 : (Try.prog.info? 5).map (fun i => (i.zero, i.size, i.bytes)) = some (some (.int .u8 0), 1, 1) := by kernel_rfl
theorem rd_one (w : World) (x : Int) (hx : 0 ≤ x ∧ x ≤ 255) : Rd (w.alloc (.cells #[.int .u8 x] 5)) (some ⟨w.heap.size, 0, none⟩) 1 [x] :=
  Rd.blk (Blk.new w 5 (arr .u8 [x])) (by intro y hy; rw [List.mem_singleton] at hy; subst hy; exact hx) rfl
theorem own_rd2 {w : World} {base : Nat} {v : Value} {n : Nat} {xs : List Int} (h : w.ownsRow base 5 1 v n (ints .u8 xs)) (hb : Bytes xs) : ∃ A cap, v = .slice A n cap ∧ n ≤ cap ∧ cap ≤ 9223372036854775807 ∧ Rd w A n xs ∧
    (n = 0 ∨ ∃ g cs, A = some ⟨g, 0, none⟩ ∧ base ≤ g ∧ Blk w g 5 cs ∧ ∀ j, j < n → cs[j]? = some (.int .u8 (at_ xs j))) := by
  obtain ⟨A, cap, rfl, h1, h2, h3⟩ := own_rd h hb
  refine ⟨A, cap, rfl, h1, h2, h3, ?_⟩
  rcases h.2 with ⟨_, h0⟩ | ⟨g, cap, cur, hv, hg, hh, _⟩
  · exact .inl h0
  · injection hv with hA
    subst hA
    refine .inr ⟨g, cur, rfl, hg, hh, fun j hj => ?_⟩
    rw [← Blk.cell hh j]
    exact own_cell h j hj
theorem make_zeros (w : World) (n : Nat) (hn : n ≤ 400) : ∃ w', (Instr.makeSlice 32 (.int .i64 (n : Int)) (.int .i64 (n : Int))).run Try.prog w = .ok (.slice (some ⟨w.heap.size, 0, none⟩) n n) w' ∧ Rd w' (some ⟨w.heap.size, 0, none⟩) n (List.replicate n 0) ∧ Below w.heap.size w w' := by
  obtain ⟨iu, hi, hz0, hz1, hz2⟩ := info_parts info_u8
  obtain ⟨w', hm, own, gr⟩ := run_makeSlice_full (P := Try.prog) w w.heap.size 32 5 iu _ 1 Try.underlying32 hi hz0 hz1 .i64 .i64 n (by omega) (by rw [hz2]; omega) (by unfold maxLen; omega) (Nat.le_refl _)
  refine ⟨w', hm, ?_, ⟨gr.os, gr.tape, gr.output, gr.size, fun k hk => gr.block k hk (by simp)⟩⟩
  have e : (madeCells (Value.int .u8 0).cells (n * 1)).toList = ints .u8 (List.replicate n 0) := by
    rw [show (Value.int .u8 0).cells = #[.int .u8 0] from rfl, toList_madeCells_one, Nat.mul_one]
    simp [ints]
  rw [e] at own
  refine ⟨by simp, fun x hx => ?_, ?_⟩
  · have := List.eq_of_mem_replicate hx
    omega
  · exact .inr ⟨_, 0, rfl, fun i hi => by rw [Nat.zero_add]; exact own_cell own i hi⟩
theorem make_blk (w : World) (n : Nat) (hn : n ≤ 400) : ∃ w', (Instr.makeSlice 32 (.int .i64 (n : Int)) (.int .i64 (n : Int))).run Try.prog w = .ok (.slice (some ⟨w.heap.size, 0, none⟩) n n) w' ∧ Blk w' w.heap.size 5 (arr .u8 (List.replicate n 0)) ∧ Below w.heap.size w w' := by
  obtain ⟨iu, hi, hz0, hz1, hz2⟩ := info_parts info_u8
  obtain ⟨w', hm, own, gr⟩ := run_makeSlice_full (P := Try.prog) w w.heap.size 32 5 iu _ 1 Try.underlying32 hi hz0 hz1 .i64 .i64 n (by omega) (by rw [hz2]; omega) (by unfold maxLen; omega) (Nat.le_refl _)
  refine ⟨w', hm, ?_, ⟨gr.os, gr.tape, gr.output, gr.size, fun k hk => gr.block k hk (by simp)⟩⟩
  have e : (madeCells (Value.int .u8 0).cells (n * 1)).toList = ints .u8 (List.replicate n 0) := by
    rw [show (Value.int .u8 0).cells = #[.int .u8 0] from rfl, toList_madeCells_one, Nat.mul_one]
    simp [ints]
  rw [e] at own
  rcases own.2 with ⟨h0, -⟩ | ⟨g, cap, cur, hv, -, hh, h1, -, hs, ht⟩
  · cases h0
  · have hv2 : w.heap.size = g ∧ n = cap := by
      have := hv
      simp only [Value.slice.injEq, Option.some.injEq, Addr.mk.injEq] at this
      omega
    obtain ⟨hg, rfl⟩ := hv2
    rw [hg]
    have : cur = arr .u8 (List.replicate n 0) := by
      apply Array.toList_inj.1
      rw [List.take_of_length_le (by simp; omega)] at ht
      rw [ht]
      rfl
    rw [← this]
    exact hh
end Go.Proofs.Ytjnpcfpalckkdaa.Sha
