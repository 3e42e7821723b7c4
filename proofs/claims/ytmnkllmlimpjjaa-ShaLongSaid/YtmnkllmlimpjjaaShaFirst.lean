/-
  What all laws of chapter 2 begin and end with: the examples' first bytes; two lists of bytes held against each other; the words of the table.
-/
import Derived.Test.YtmnkllmlimpjjaaShaSum2
import Derived.Laws.BytesArg
import Derived.Lib.SlBytesConst
namespace Go.Proofs.Ytmnkllmlimpjjaa.Sha
open Go.RowKit

theorem conv_same {w : World} {A : Option Addr} {n cap : Nat} {xs : List Int} (r : Rd w A n xs) :
    (convert 22 9 (.slice A n cap)).run Try.prog w = .ok (.string (strOfNums xs)) w := by
  obtain ⟨h1, h2, h3⟩ := r
  by_cases h0 : n = 0
  · subst h0
    obtain rfl : xs = [] := List.eq_nil_of_length_eq_zero h1
    cases A with
    | none => exact run_convert_bytes_nil w _ _ Try.underlying22 Try.underlying5 0 cap _ Try.underlying9
    | some a =>
      have hl : (loadCells a 0).run Try.prog w = .ok (([] : List Int).map (Value.int .u8)).toArray w := by simp [loadCells, loadCellsFrom]
      rw [run_convert_bytes_string w _ _ 5 _ 0 cap Try.underlying22 Try.underlying5 Try.underlying9, run_bytesToString w _ 0 cap [] hl]
      simp [strOfNums, ByteArray.empty, ByteArray.emptyWithCapacity]
      rfl
  · rcases h3 with h3 | ⟨b, o, rfl, hc⟩
    · exact absurd h3 h0
    · exact run_convert_bytes_arg w _ _ Try.underlying22 Try.underlying5 b o n cap xs h1 hc _ Try.underlying9
set_option maxRecDepth 100000 in
set_option maxHeartbeats 400000 in
theorem bytes_same (A B : Option Addr) (n m c d : Nat) (xs : List Int) (w : World) (ha : Rd w A n xs) (hb : Rd w B m xs) :
    Calls Try.prog 15 #[.slice A n c, .slice B m d] w fun e w' => e = .returned (.bool true) ∧ w = w' := by
  have c1 := conv_same (cap := c) ha
  have c2 := conv_same (cap := d) hb
  generalize strOfNums xs = s at *
  clear ha hb
  go_enter Try.func15, Try.ntmps15
  go_wp2
  go_ret
  exact ⟨rfl, rfl⟩

theorem none_at : at_ (sha []) 0 = 227 ∧ at_ (sha []) 1 = 176 ∧ at_ (sha []) 2 = 196 ∧ at_ (sha []) 3 = 66 := by
  have h := sha_none
  have e : ∀ i, i < 4 → at_ (sha []) i = at_ ((sha []).take 4) i := fun i hi => (at_take hi).symm
  rw [e 0 (by omega), e 1 (by omega), e 2 (by omega), e 3 (by omega), h]
  exact ⟨rfl, rfl, rfl, rfl⟩
theorem abc_at : at_ (sha [97, 98, 99]) 0 = 186 ∧ at_ (sha [97, 98, 99]) 1 = 120 ∧ at_ (sha [97, 98, 99]) 2 = 22 ∧ at_ (sha [97, 98, 99]) 3 = 191 := by
  have h := sha_abc
  have e : ∀ i, i < 4 → at_ (sha [97, 98, 99]) i = at_ ((sha [97, 98, 99]).take 4) i := fun i hi => (at_take hi).symm
  rw [e 0 (by omega), e 1 (by omega), e 2 (by omega), e 3 (by omega), h]
  exact ⟨rfl, rfl, rfl, rfl⟩

theorem sha_cell {w : World} {M : Nat} {xs : List Int} {i : Nat} {v : Int} (h : Blk w M 5 (arr .u8 (sha xs))) (hi : i < 32) (hv : at_ (sha xs) i = v) : w.cell? ⟨M, i, none⟩ = some (.int .u8 v) := by
  rw [← hv]; exact h.at_ i (by rw [sha_len]; exact hi)

theorem Rd.made {w : World} {M n : Nat} {T : TypeId} {fr : Nat × Nat} {xs : List Int} (h : w.heap[M]? = some (.cells (arr .u8 xs) T fr)) (hb : Bytes xs) (hn : xs.length = n) : Rd w (some ⟨M, 0, none⟩) n xs :=
  ⟨hn, hb, .inr ⟨M, 0, rfl, fun i hi => by rw [Nat.zero_add, cell_of_row w M i _ T fr h]; exact arr_at _ _ _ (by omega)⟩⟩

set_option maxRecDepth 100000 in
set_option maxHeartbeats 1000000 in
theorem first_any (w : World) : Calls Try.prog 9 #[] w fun e w' => e = .returned (.bool true) ∧ Below w.heap.size w w' := by
  obtain ⟨N, hN⟩ : ∃ N, w.heap.size = N := ⟨_, rfl⟩
  have hT : Kept (Tab (w.alloc (.cells (tbl (.int .u32 0) (.int .i32 0) (.int .u32 0) 0 0) 58)) N) := ⟨.inl (Blk.new_at _ _ _ N hN.symm)⟩
  have hB : Kept (Bar [] w (w.alloc (.cells (tbl (.int .u32 0) (.int .i32 0) (.int .u32 0) 0 0) 58))) := ⟨(Bar.refl _ _).alloc _⟩
  have hlt : N < (w.alloc (.cells (tbl (.int .u32 0) (.int .i32 0) (.int .u32 0) 0 0) 58)).heap.size := by simp [hN]
  go_enter Try.func9, Try.ntmps9
  go_wp2_with fail
  refine (newtable_any w).mono ?_
  rintro e w1 ⟨rfl, rfl⟩
  rw [hN]
  generalize w.alloc (.cells (tbl (.int .u32 0) (.int .i32 0) (.int .u32 0) 0 0) 58) = w1 at *
  go_wp2_with fail
  refine (one_any N none 0 0 [] w1 hT.out Rd.nil_ (by omega) (by omega) (by omega)).mono ?_
  rintro e w2 ⟨M1, rfl, hM1, k1, m1, b1⟩
  have K1 := Kept.mk k1; have T1 := Kept.mk m1; have B1 := Kept.mk b1
  clear k1 m1 b1
  have hT3 : Tab (w2.alloc (.cells #[.int .u8 97, .int .u8 98, .int .u8 99] 5 (3, 4))) N := .inr (T1.out.alloc _)
  have hR3 : Rd (w2.alloc (.cells #[.int .u8 97, .int .u8 98, .int .u8 99] 5 (3, 4))) (some ⟨w2.heap.size, 0, none⟩) 3 [97, 98, 99] :=
    Rd.made (heap_alloc_new w2 (.cells (arr .u8 [97, 98, 99]) 5 (3, 4))) (by intro x hx; simp only [List.mem_cons, List.not_mem_nil, or_false] at hx; omega) rfl
  have c2 := Kept.mk (one_any N (some ⟨w2.heap.size, 0, none⟩) 3 3 [97, 98, 99] _ hT3 hR3 (by omega) (by omega) (by omega))
  have hcv := Lib.run_convert_bytes_const (P := Try.prog) w2 22 5 #[.int .u8 97, .int .u8 98, .int .u8 99] 3 3 Try.underlying22 Try.underlying5
  clear hT3 hR3
  go_wp2_with fail
  refine c2.out.mono ?_
  rintro e w3 ⟨M2, rfl, hM2, k2, m2, b2⟩
  clear c2
  have k1 : Blk w3 M1 5 (arr .u8 (sha [])) := (K1.out.alloc _).bar b2 (by simp; omega)
  have u0 := sha_cell k1 (by omega) none_at.1
  have u1 := sha_cell k1 (by omega) none_at.2.1
  have u2 := sha_cell k1 (by omega) none_at.2.2.1
  have u3 := sha_cell k1 (by omega) none_at.2.2.2
  have v0 := sha_cell k2 (by omega) abc_at.1
  have v1 := sha_cell k2 (by omega) abc_at.2.1
  have v2 := sha_cell k2 (by omega) abc_at.2.2.1
  have v3 := sha_cell k2 (by omega) abc_at.2.2.2
  have hb : Below w.heap.size w w3 := by
    have hb1 := (hB.out.trans B1.out (l' := [N]) (by simp; omega))
    exact ((hb1.alloc _).trans b2 (by simp; omega)).below (Nat.le_refl _) (by simp)
  have HB := Kept.mk hb
  clear hb k1 k2 m2 b2 hB hT hM1 hM2 T1 B1 K1 hcv
  go_wp2
  go_ret
  exact ⟨rfl, HB.out⟩
end Go.Proofs.Ytmnkllmlimpjjaa.Sha
