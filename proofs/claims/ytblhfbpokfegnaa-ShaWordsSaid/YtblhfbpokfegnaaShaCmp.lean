/-
  Two lists of bytes held against each other by the document's own Bytes; bytes in memory.
-/
import Derived.Test.YtblhfbpokfegnaaShaSum2
import Derived.Laws.BytesArg
import Derived.Lib.SlBytesConst
namespace Go.Proofs.Ytblhfbpokfegnaa.Sha
open Go.RowKit

theorem conv_same {w : World} {A : Option Addr} {n cap : Nat} {xs : List Int} (r : Rd w A n xs) :
    (convert 29 9 (.slice A n cap)).run Try.prog w = .ok (.string (strOfNums xs)) w := by
  obtain ⟨h1, h2, h3⟩ := r
  by_cases h0 : n = 0
  · subst h0
    obtain rfl : xs = [] := List.eq_nil_of_length_eq_zero h1
    cases A with
    | none => exact run_convert_bytes_nil w _ _ Try.underlying29 Try.underlying5 0 cap _ Try.underlying9
    | some a =>
      have hl : (loadCells a 0).run Try.prog w = .ok (([] : List Int).map (Value.int .u8)).toArray w := by simp [loadCells, loadCellsFrom]
      rw [run_convert_bytes_string w _ _ 5 _ 0 cap Try.underlying29 Try.underlying5 Try.underlying9, run_bytesToString w _ 0 cap [] hl]
      simp [strOfNums, ByteArray.empty, ByteArray.emptyWithCapacity]
      rfl
  · rcases h3 with h3 | ⟨b, o, rfl, hc⟩
    · exact absurd h3 h0
    · exact run_convert_bytes_arg w _ _ Try.underlying29 Try.underlying5 b o n cap xs h1 hc _ Try.underlying9
set_option maxRecDepth 100000 in
set_option maxHeartbeats 400000 in
theorem bytes_same (A B : Option Addr) (n m c d : Nat) (xs : List Int) (w : World) (ha : Rd w A n xs) (hb : Rd w B m xs) :
    Calls Try.prog 15 #[.slice A n c, .slice B m d] w fun e w' => e = .returned (.bool true) ∧ w = w' := by
  have c1 := conv_same (cap := c) ha
  have c2 := conv_same (cap := d) hb
  generalize strOfNums xs = s at *
  clear ha hb
  go_enter Try.func15, Try.ntmps15
  go_wp2
  go_ret
  exact ⟨rfl, rfl⟩

theorem none_at : at_ (sha []) 0 = 227 ∧ at_ (sha []) 1 = 176 ∧ at_ (sha []) 2 = 196 ∧ at_ (sha []) 3 = 66 := by
  have h := sha_none
  have e : ∀ i, i < 4 → at_ (sha []) i = at_ ((sha []).take 4) i := fun i hi => (at_take hi).symm
  rw [e 0 (by omega), e 1 (by omega), e 2 (by omega), e 3 (by omega), h]
  exact ⟨rfl, rfl, rfl, rfl⟩
theorem abc_at : at_ (sha [97, 98, 99]) 0 = 186 ∧ at_ (sha [97, 98, 99]) 1 = 120 ∧ at_ (sha [97, 98, 99]) 2 = 22 ∧ at_ (sha [97, 98, 99]) 3 = 191 := by
  have h := sha_abc
  have e : ∀ i, i < 4 → at_ (sha [97, 98, 99]) i = at_ ((sha [97, 98, 99]).take 4) i := fun i hi => (at_take hi).symm
  rw [e 0 (by omega), e 1 (by omega), e 2 (by omega), e 3 (by omega), h]
  exact ⟨rfl, rfl, rfl, rfl⟩

theorem sha_cell {w : World} {M : Nat} {xs : List Int} {i : Nat} {v : Int} (h : Blk w M 5 (arr .u8 (sha xs))) (hi : i < 32) (hv : at_ (sha xs) i = v) : w.cell? ⟨M, i, none⟩ = some (.int .u8 v) := by
  rw [← hv]; exact h.at_ i (by rw [sha_len]; exact hi)

theorem Rd.made {w : World} {M n : Nat} {T : TypeId} {fr : Nat × Nat} {xs : List Int} (h : w.heap[M]? = some (.cells (arr .u8 xs) T fr)) (hb : Bytes xs) (hn : xs.length = n) : Rd w (some ⟨M, 0, none⟩) n xs :=
  ⟨hn, hb, .inr ⟨M, 0, rfl, fun i hi => by rw [Nat.zero_add, cell_of_row w M i _ T fr h]; exact arr_at _ _ _ (by omega)⟩⟩
end Go.Proofs.Ytblhfbpokfegnaa.Sha
