/-
  'size == 8 || n < 1<<uint(8*size)', as the document reckons it.
-/
import Derived.Test.YtfjkbggbaoiiiaaMem
import Derived.Test.YtfjkbggbaoiiiaaWireSpec
namespace Go.Proofs.Ytfjkbggbaoiiiaa.Wire
open Go.RowKit Go.Proofs.Ytfjkbggbaoiiiaa.Sha

/-- what the law reckons: does it go? -/
theorem fits_code (n s : Int) (h1 : 1 ≤ s) (h8 : s < 8) (h0 : 0 ≤ n) (hm : n ≤ 4611686018427387904) : decide (n < 2 ^ (8 * s).toNat) = fits n s := by
  obtain ⟨k, rfl⟩ : ∃ k : Nat, s = k := ⟨s.toNat, by omega⟩
  rw [show (8 * (k : Int)).toNat = 8 * k by omega]
  unfold fits
  apply decide_eq_decide.2
  have e : (2 : Int) ^ (8 * k) = 256 ^ (k : Int).toNat := by
    rw [Int.toNat_natCast, Int.pow_mul]; rfl
  rw [e]
  exact ⟨fun h => ⟨h1, by omega, h0, hm, h⟩, fun h => h.2.2.2.2⟩
theorem errs_cases (n s : Int) : (1 ≤ s ∧ s ≤ 8 ∧ 0 ≤ n ∧ n ≤ 4611686018427387904 ∧ IntKind.u64.wrap (8 * s) = 8 * s ∧ IntKind.i64.wrap (8 * s) = 8 * s ∧ Kept ((s == 8 || decide (n < wrap64 (2 ^ (8 * s).toNat))) = fits n s)) ∨
      (fits n s = false ∧ (decide (1 ≤ s) = false ∨ (1 ≤ s ∧ decide (s ≤ 8) = false) ∨ (1 ≤ s ∧ s ≤ 8 ∧ decide (0 ≤ n) = false) ∨ (1 ≤ s ∧ s ≤ 8 ∧ 0 ≤ n ∧ decide (n ≤ 4611686018427387904) = false))) := by
    by_cases h1 : 1 ≤ s
    · by_cases h8 : s ≤ 8
      · by_cases h0 : 0 ≤ n
        · by_cases hm : n ≤ 4611686018427387904
          · refine .inl ⟨h1, h8, h0, hm, by rw [IntKind.wrap_u64]; omega, by rw [IntKind.wrap_i64]; omega, ⟨?_⟩⟩
            by_cases h : s = 8
            · subst h
              have hf : fits n 8 = true := decide_eq_true ⟨by omega, by omega, h0, hm, by
                have : (256 : Int) ^ (8 : Int).toNat = 18446744073709551616 := by decide +kernel
                rw [this]; omega⟩
              rw [hf]; rfl
            · rw [← fits_code n s h1 (by omega) h0 hm, beq_eq_false_iff_ne.2 h, Bool.false_or]
              have hk : s = 1 ∨ s = 2 ∨ s = 3 ∨ s = 4 ∨ s = 5 ∨ s = 6 ∨ s = 7 := by omega
              have hw : wrap64 (2 ^ (8 * s).toNat) = 2 ^ (8 * s).toNat := by
                rcases hk with rfl | rfl | rfl | rfl | rfl | rfl | rfl <;> decide +kernel
              rw [hw]
          · exact .inr ⟨decide_eq_false (fun hc => hm hc.2.2.2.1), .inr (.inr (.inr ⟨h1, h8, h0, decide_eq_false hm⟩))⟩
        · exact .inr ⟨decide_eq_false (fun hc => h0 hc.2.2.1), .inr (.inr (.inl ⟨h1, h8, decide_eq_false h0⟩))⟩
      · exact .inr ⟨decide_eq_false (fun hc => h8 hc.2.1), .inr (.inl ⟨h1, decide_eq_false h8⟩)⟩
    · exact .inr ⟨decide_eq_false (fun hc => h1 hc.1), .inl (decide_eq_false h1)⟩
end Go.Proofs.Ytfjkbggbaoiiiaa.Wire
