/-
  Package purse: Has, Total; one balance turned (Give, Take, Move).
-/
import Derived.Test.YtlgeckgeiknmjaaPurseCode
namespace Go.Proofs.Ytlgeckgeiknmjaa.Purse
open Go.RowKit Go.Proofs.Ytlgeckgeiknmjaa.Sha Go.Proofs.Ytlgeckgeiknmjaa.Num

section
variable {w : World} {F : List Nat} {p : Nat} {s : PS}
theorem Pc.at_ {i a : Nat} (h : Pc w F p s) (hi : i < s.np) (ha : a < s.na) : ∃ g c R C, w.cell? ⟨p, 0, none⟩ = some (.slice (some ⟨g, 0, none⟩) s.na c) ∧ w.cell? ⟨g, a, none⟩ = some (.slice (some ⟨R, 0, none⟩) s.np C) ∧ w.cell? ⟨R, i, none⟩ = some (.int .i64 (s.v i a)) ∧ w.frozen? ⟨R, i, none⟩ = false ∧
    ∀ x, WF (put s i a x) → Pc (w.setCell ⟨R, i, none⟩ (.int .i64 x)) F p (put s i a x) ∧ Fp F F w (w.setCell ⟨R, i, none⟩ (.int .i64 x)) := by
  obtain ⟨h0, g, c, R, C, h⟩ := h
  exact ⟨g, c, R a, C a, h.p0, h.gi ha, h.rij ha hi, h.fz ha i, fun x hx => ⟨⟨hx, Mx.congr ⟨g, c, R, C, h.set ha i x⟩ (fun b j _ _ => by
    show upd s.v i a x j b = upd (fun a i => s.v i a) a i x b j
    unfold upd
    by_cases e : j = i ∧ b = a
    · rw [if_pos e, if_pos ⟨e.2, e.1⟩]
    · rw [if_neg e, if_neg (fun k => e ⟨k.2, k.1⟩)])⟩, h.fp ha _⟩⟩
set_option maxHeartbeats 400000 in
theorem has_any (h : Pc w F p s) (i a : Int) : Calls Try.prog 17 #[.pointer (some ⟨p, 0, none⟩), .int .i64 i, .int .i64 a] w fun e w' => e = .returned (.int .i64 (hasP s i a)) ∧ w = w' := by
  have P := Kept.mk (party_any h i)
  have A := Kept.mk (asset_any h a)
  cases hp : isP s i with
  | false =>
    rw [hp] at P
    have e : hasP s i a = 0 := by simp [hasP, hp]
    rw [e]
    clear e h
    go_enter Try.func17, Try.ntmps17
    go_wp2_with (first | (go_at_call 31; refine P.out.mono ?_; rintro e w' ⟨rfl, rfl⟩) | (go_at_call 32; refine A.out.mono ?_; rintro e w' ⟨rfl, rfl⟩))
    go_ret
    exact ⟨rfl, rfl⟩
  | true =>
    rw [hp] at P
    cases ha : isA s a with
    | false =>
      rw [ha] at A
      have e : hasP s i a = 0 := by simp [hasP, ha]
      rw [e]
      clear e h
      go_enter Try.func17, Try.ntmps17
      go_wp2_with (first | (go_at_call 31; refine P.out.mono ?_; rintro e w' ⟨rfl, rfl⟩) | (go_at_call 32; refine A.out.mono ?_; rintro e w' ⟨rfl, rfl⟩))
      go_ret
      exact ⟨rfl, rfl⟩
    | true =>
      rw [ha] at A
      have e : hasP s i a = s.v i.toNat a.toNat := by simp [hasP, hp, ha]
      rw [e]
      clear e
      obtain ⟨k, rfl, hk⟩ := isP_nat hp
      obtain ⟨b, rfl, hb⟩ := isA_nat ha
      clear hp ha
      simp only [Int.toNat_natCast]
      obtain ⟨g, c, R, C, x1, x2, x3, -, -⟩ := h.at_ hk hb
      clear h
      go_enter Try.func17, Try.ntmps17
      go_wp2_with (first | (go_at_call 31; refine P.out.mono ?_; rintro e w' ⟨rfl, rfl⟩) | (go_at_call 32; refine A.out.mono ?_; rintro e w' ⟨rfl, rfl⟩))
      go_ret
      exact ⟨rfl, rfl⟩
set_option maxHeartbeats 400000 in
theorem total_any (h : Pc w F p s) (a : Int) : Calls Try.prog 19 #[.pointer (some ⟨p, 0, none⟩), .int .i64 a] w fun e w' => e = .returned (.int .i64 (totP s a)) ∧ w = w' := by
  have A := Kept.mk (asset_any h a)
  cases ha : isA s a with
  | false =>
    rw [ha] at A
    have e : totP s a = 0 := by simp [totP, ha]
    rw [e]
    clear e h
    go_enter Try.func19, Try.ntmps19
    go_wp2_with (go_at_call 32; refine A.out.mono ?_; rintro e w' ⟨rfl, rfl⟩)
    go_ret
    exact ⟨rfl, rfl⟩
  | true =>
    rw [ha] at A
    have e : totP s a = tot s.v s.np a.toNat := by simp [totP, ha]
    rw [e]
    clear e
    obtain ⟨b, rfl, hb⟩ := isA_nat ha
    clear ha
    simp only [Int.toNat_natCast]
    obtain ⟨h0, g, c, R, C, h⟩ := h
    have x1 := h.p0
    have x2 := h.gi hb
    have hs := fun cap => sum_any (some ⟨R b, 0, none⟩) s.np cap _ w (h.ints hb)
    rw [show ((List.range s.np).map fun i => s.v i b) = colV s.v s.np b from rfl, h0.sumN hb, h0.sumE hb] at hs
    have HS := Kept.mk hs
    clear hs h h0
    go_enter Try.func19, Try.ntmps19
    go_wp2_with (first | (go_at_call 32; refine A.out.mono ?_; rintro e w' ⟨rfl, rfl⟩) | (go_at_call 24; refine (HS.out _).mono ?_; rintro e w' ⟨rfl, rfl⟩))
    go_ret
    exact ⟨rfl, rfl⟩
end
end Go.Proofs.Ytlgeckgeiknmjaa.Purse
