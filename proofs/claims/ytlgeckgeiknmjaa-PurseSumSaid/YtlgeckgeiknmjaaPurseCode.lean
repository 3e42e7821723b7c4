/-
  Package purse: what only reads.
-/
import Derived.Test.YtlgeckgeiknmjaaPurseMem
import Derived.Test.YtlgeckgeiknmjaaPurseFace
import Derived.Test.YtlgeckgeiknmjaaNumAmt
import Derived.Test.YtlgeckgeiknmjaaNumSum
namespace Go.Proofs.Ytlgeckgeiknmjaa.Purse
open Go.RowKit Go.Proofs.Ytlgeckgeiknmjaa.Sha Go.Proofs.Ytlgeckgeiknmjaa.Num

/-- package purse's Purse at block p -/
def Pc (w : World) (F : List Nat) (p : Nat) (s : PS) : Prop := WF s ∧ Mx 46 w F p s.na s.np (fun a i => s.v i a)
section
variable {w : World} {F : List Nat} {p : Nat} {s : PS}
theorem parties_any (h : Pc w F p s) : Calls Try.prog 21 #[.pointer (some ⟨p, 0, none⟩)] w fun e w' => e = .returned (.int .i64 (s.np : Nat)) ∧ w = w' := by
  obtain ⟨h0, g, c, R, C, h⟩ := h
  have p0 := h.p0
  have g0 := h.gi (i := 0) (by have := h0.a1; omega)
  have h1 := h0.a1
  clear h0 h
  generalize s.np = np at *
  generalize s.na = na at *
  go_enter Try.func21, Try.ntmps21
  go_wp2
  go_ret
  exact ⟨rfl, rfl⟩
theorem assets_any (h : Pc w F p s) : Calls Try.prog 22 #[.pointer (some ⟨p, 0, none⟩)] w fun e w' => e = .returned (.int .i64 (s.na : Nat)) ∧ w = w' := by
  obtain ⟨h0, g, c, R, C, h⟩ := h
  have p0 := h.p0
  clear h0 h
  generalize s.na = na at *
  go_enter Try.func22, Try.ntmps22
  go_wp2
  go_ret
  exact ⟨rfl, rfl⟩
theorem party_any (h : Pc w F p s) (i : Int) : Calls Try.prog 31 #[.pointer (some ⟨p, 0, none⟩), .int .i64 i] w fun e w' => e = .returned (.bool (isP s i)) ∧ w = w' := by
  have H := Kept.mk h
  have e : ∀ b, isP s i = b → Kept (isP s i = b) := fun b h => ⟨h⟩
  clear h
  by_cases h0 : 0 ≤ i
  · by_cases h1 : i < s.np
    · have E := e true (isP_iff.2 ⟨h0, h1⟩)
      rw [E.out]
      clear e E
      go_enter Try.func31, Try.ntmps31
      go_wp2_with (go_at_call 21; refine (parties_any H.out).mono ?_; rintro e w' ⟨rfl, rfl⟩)
      go_ret
      exact ⟨rfl, rfl⟩
    · have E := e false (by unfold isP; exact decide_eq_false (by omega))
      rw [E.out]
      clear e E
      have hd : decide (i < (s.np : Int)) = false := decide_eq_false h1
      go_enter Try.func31, Try.ntmps31
      go_wp2_with (go_at_call 21; refine (parties_any H.out).mono ?_; rintro e w' ⟨rfl, rfl⟩)
      go_ret
      exact ⟨rfl, rfl⟩
  · have E := e false (by unfold isP; exact decide_eq_false (by omega))
    rw [E.out]
    clear e E
    go_enter Try.func31, Try.ntmps31
    go_wp2_with (go_at_call 21; refine (parties_any H.out).mono ?_; rintro e w' ⟨rfl, rfl⟩)
    go_ret
    exact ⟨rfl, rfl⟩
theorem asset_any (h : Pc w F p s) (i : Int) : Calls Try.prog 32 #[.pointer (some ⟨p, 0, none⟩), .int .i64 i] w fun e w' => e = .returned (.bool (isA s i)) ∧ w = w' := by
  have H := Kept.mk h
  have e : ∀ b, isA s i = b → Kept (isA s i = b) := fun b h => ⟨h⟩
  clear h
  by_cases h0 : 0 ≤ i
  · by_cases h1 : i < s.na
    · have E := e true (isA_iff.2 ⟨h0, h1⟩)
      rw [E.out]
      clear e E
      go_enter Try.func32, Try.ntmps32
      go_wp2_with (go_at_call 22; refine (assets_any H.out).mono ?_; rintro e w' ⟨rfl, rfl⟩)
      go_ret
      exact ⟨rfl, rfl⟩
    · have E := e false (by unfold isA; exact decide_eq_false (by omega))
      rw [E.out]
      clear e E
      have hd : decide (i < (s.na : Int)) = false := decide_eq_false h1
      go_enter Try.func32, Try.ntmps32
      go_wp2_with (go_at_call 22; refine (assets_any H.out).mono ?_; rintro e w' ⟨rfl, rfl⟩)
      go_ret
      exact ⟨rfl, rfl⟩
  · have E := e false (by unfold isA; exact decide_eq_false (by omega))
    rw [E.out]
    clear e E
    go_enter Try.func32, Try.ntmps32
    go_wp2_with (go_at_call 22; refine (assets_any H.out).mono ?_; rintro e w' ⟨rfl, rfl⟩)
    go_ret
    exact ⟨rfl, rfl⟩
theorem fits_any (h : Pc w F p s) (i a n : Int) : Calls Try.prog 27 #[.pointer (some ⟨p, 0, none⟩), .int .i64 i, .int .i64 a, .int .i64 n] w fun e w' => e = .returned (.bool (fitB s i a n)) ∧ w = w' := by
  have P := Kept.mk (party_any h i)
  have A := Kept.mk (asset_any h a)
  clear h
  unfold fitB
  cases hp : isP s i with
  | false =>
    rw [hp] at P
    go_enter Try.func27, Try.ntmps27
    go_wp2_with (first | (go_at_call 31; refine P.out.mono ?_; rintro e w' ⟨rfl, rfl⟩) | (go_at_call 32; refine A.out.mono ?_; rintro e w' ⟨rfl, rfl⟩) | (go_at_call 35; refine (amount_any _ _).mono ?_; rintro e w' ⟨rfl, rfl⟩))
    go_ret
    exact ⟨rfl, rfl⟩
  | true =>
    rw [hp] at P
    cases ha : isA s a with
    | false =>
      rw [ha] at A
      go_enter Try.func27, Try.ntmps27
      go_wp2_with (first | (go_at_call 31; refine P.out.mono ?_; rintro e w' ⟨rfl, rfl⟩) | (go_at_call 32; refine A.out.mono ?_; rintro e w' ⟨rfl, rfl⟩) | (go_at_call 35; refine (amount_any _ _).mono ?_; rintro e w' ⟨rfl, rfl⟩))
      go_ret
      exact ⟨rfl, rfl⟩
    | true =>
      rw [ha] at A
      go_enter Try.func27, Try.ntmps27
      go_wp2_with (first | (go_at_call 31; refine P.out.mono ?_; rintro e w' ⟨rfl, rfl⟩) | (go_at_call 32; refine A.out.mono ?_; rintro e w' ⟨rfl, rfl⟩) | (go_at_call 35; refine (amount_any _ _).mono ?_; rintro e w' ⟨rfl, rfl⟩))
      go_ret
      exact ⟨rfl, rfl⟩
end
end Go.Proofs.Ytlgeckgeiknmjaa.Purse
