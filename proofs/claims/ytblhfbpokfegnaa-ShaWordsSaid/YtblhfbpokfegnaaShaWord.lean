/-
  The words of the table, the code's.
-/
import Derived.Test.YtblhfbpokfegnaaShaUse
namespace Go.Proofs.Ytblhfbpokfegnaa.Sha
open Go.RowKit

set_option maxRecDepth 100000 in
set_option maxHeartbeats 400000 in
theorem word_any (t : Nat) (i : Int) (w : World) (ht : Tab w t) : Calls Try.prog 19 #[.pointer (some ⟨t, 0, none⟩), .int .i64 i] w fun e w' => e = .returned (.int .u32 (wordI i)) ∧ Tab w' t ∧ Bar [t] w w' := by
  by_cases h0 : i < 0
  · have e : wordI i = 0 := if_neg (by omega)
    rw [e]
    have HT := Kept.mk ht
    clear e ht
    go_enter Try.func19, Try.ntmps19
    go_wp2
    go_ret
    exact ⟨rfl, HT.out, Bar.refl _ _⟩
  · by_cases h1 : 64 ≤ i
    · have e : wordI i = 0 := if_neg (by omega)
      rw [e]
      have HT := Kept.mk ht
      clear e ht
      go_enter Try.func19, Try.ntmps19
      go_wp2
      go_ret
      exact ⟨rfl, HT.out, Bar.refl _ _⟩
    · obtain ⟨k, rfl⟩ := Int.eq_ofNat_of_zero_le (show 0 ≤ i by omega)
      have hk : k < 64 := by omega
      have e : wordI (k : Int) = (kW k : Nat) := by unfold wordI; rw [if_pos (by omega)]; rfl
      rw [e]
      have HT := Kept.mk ht
      clear e ht h0 h1
      have hk' : (k : Int) < 64 := by omega
      go_enter Try.func19, Try.ntmps19
      go_wp2_with fail
      refine (made_any t w HT.out).mono ?_
      rintro e w1 ⟨rfl, m, b⟩
      have c : w1.cell? ⟨t, 3 + k, none⟩ = some (.int .u32 (kW k : Nat)) := (m.cell (3 + k)).trans (by rw [tbl_word _ _ _ _ _ _ hk, if_pos hk])
      have M := Kept.mk m
      clear m
      go_wp2
      go_ret
      exact ⟨rfl, .inr M.out, b⟩
end Go.Proofs.Ytblhfbpokfegnaa.Sha
