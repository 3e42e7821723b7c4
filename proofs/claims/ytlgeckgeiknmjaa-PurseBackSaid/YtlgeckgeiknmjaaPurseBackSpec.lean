/-
  There and back, over plain values.
-/
import Derived.Test.YtlgeckgeiknmjaaPurseSpec
namespace Go.Proofs.Ytlgeckgeiknmjaa.Purse
open Go.Proofs.Ytlgeckgeiknmjaa.Num Go.Proofs.Ytlgeckgeiknmjaa.Sha

theorem PS.ext_ {s t : PS} (h1 : s.np = t.np) (h2 : s.na = t.na) (h3 : ∀ i a, s.v i a = t.v i a) : s = t := by
  obtain ⟨a, b, c⟩ := s
  obtain ⟨a', b', c'⟩ := t
  simp only at h1 h2 h3
  subst h1 h2
  have : c = c' := funext fun i => funext fun a => h3 i a
  rw [this]
theorem has_at {s : PS} {k b : Nat} (hk : k < s.np) (hb : b < s.na) : hasP s k b = s.v k b := by
  unfold hasP
  rw [if_pos (by rw [isP_iff.2 ⟨by omega, by omega⟩, isA_iff.2 ⟨by omega, by omega⟩]; rfl)]
  simp only [Int.toNat_natCast]
/-- Take: nothing, or less by n; and Give of as much brings it back -/
theorem take_cases {s : PS} (h : WF s) (i a n : Int) : (∃ e : Int, e ≠ 0 ∧ takeP s i a n = (e, s)) ∨
    ∃ s', takeP s i a n = (0, s') ∧ hasP s' i a = hasP s i a - n ∧ giveP s' i a n = (0, s) ∧ (0 ≤ n ∧ n ≤ hasP s i a ∧ hasP s i a ≤ 4611686018427387904) := by
  cases hf : fitB s i a n with
  | false => exact .inl ⟨1, by decide, take_no hf⟩
  | true =>
    obtain ⟨⟨k, rfl, hk⟩, ⟨b, rfl, hb⟩, h0, h1⟩ := fitB_iff.1 hf
    by_cases ht : s.v k b < n
    · exact .inl ⟨7, by decide, take_less hf ht⟩
    · have hv := h.le hk hb
      refine .inr ⟨put s k b (s.v k b - n), take_yes hf ht, ?_, ?_, h0, ?_⟩
      · rw [has_at (s := put s k b (s.v k b - n)) hk hb, has_at hk hb, put_v, upd_same]
      · have e1 : fitB (put s k b (s.v k b - n)) k b n = true := fitB_at (s := put s k b (s.v k b - n)) hk hb h0 h1
        have e2 := totP_put hk hb (s.v k b - n)
        have e3 := h.sum b hb
        rw [← totP_nat hb] at e3
        rw [give_yes e1 (by rw [e2]; omega)]
        congr 1
        refine PS.ext_ rfl rfl fun j c => ?_
        show upd (upd s.v k b (s.v k b - n)) k b (upd s.v k b (s.v k b - n) k b + n) j c = s.v j c
        unfold upd
        by_cases e : j = k ∧ c = b
        · obtain ⟨rfl, rfl⟩ := e
          simp
        · simp [e]
      · rw [has_at hk hb]; omega
/-- Move: nothing, or from one to the other; and back -/
theorem move_cases {s : PS} (h : WF s) (i j a n : Int) : (∃ e : Int, e ≠ 0 ∧ moveP s i j a n = (e, s)) ∨
    ∃ s', moveP s i j a n = (0, s') ∧ hasP s' i a = hasP s i a - n ∧ hasP s' j a = hasP s j a + n ∧ moveP s' j i a n = (0, s) ∧ i ≠ j ∧ (0 ≤ n ∧ n ≤ hasP s i a ∧ hasP s i a ≤ 4611686018427387904 ∧ 0 ≤ hasP s j a ∧ hasP s j a + n ≤ 4611686018427387904) := by
  cases hf : fitB s i a n with
  | false => exact .inl ⟨1, by decide, move_no (.inl hf)⟩
  | true =>
    cases hj : isP s j with
    | false => exact .inl ⟨1, by decide, move_no (.inr hj)⟩
    | true =>
      by_cases hij : i = j
      · subst hij; exact .inl ⟨14, by decide, move_same hf hj⟩
      · obtain ⟨⟨k, rfl, hk⟩, ⟨b, rfl, hb⟩, h0, h1⟩ := fitB_iff.1 hf
        obtain ⟨q, rfl, hq⟩ := isP_nat hj
        have hkq : k ≠ q := by omega
        by_cases ht : s.v k b < n
        · exact .inl ⟨7, by decide, move_less hf hj hij ht⟩
        · have hv := h.le hk hb
          have hv2 := h.le hq hb
          have h2 := two_tot (v := s.v) (a := b) hk hq hkq (fun j hj => h.pos j b hj hb)
          have h3 := h.sum b hb
          refine .inr ⟨_, move_yes hf hj hij ht, ?_, ?_, ?_, hij, h0, ?_⟩
          · rw [has_at (s := put (put s k b (s.v k b - n)) q b (s.v q b + n)) hk hb, has_at hk hb, put_v, upd_other _ _ _ _ (by omega), put_v, upd_same]
          · rw [has_at (s := put (put s k b (s.v k b - n)) q b (s.v q b + n)) hq hb, has_at hq hb, put_v, upd_same]
          · have e1 : fitB (put (put s k b (s.v k b - n)) q b (s.v q b + n)) q b n = true := fitB_at (s := put (put s k b (s.v k b - n)) q b (s.v q b + n)) hq hb h0 h1
            have e2 : isP (put (put s k b (s.v k b - n)) q b (s.v q b + n)) k = true := isP_iff.2 ⟨by omega, by show (k : Int) < s.np; omega⟩
            rw [move_yes e1 e2 (by omega) (by rw [put_v, upd_same]; omega)]
            congr 1
            refine PS.ext_ rfl rfl fun j c => ?_
            show upd (upd (upd (upd s.v k b (s.v k b - n)) q b (s.v q b + n)) q b (upd (upd s.v k b (s.v k b - n)) q b (s.v q b + n) q b - n)) k b (upd (upd s.v k b (s.v k b - n)) q b (s.v q b + n) k b + n) j c = s.v j c
            unfold upd
            by_cases e : j = k ∧ c = b
            · obtain ⟨rfl, rfl⟩ := e
              simp [hkq]
            · by_cases e3 : j = q ∧ c = b
              · obtain ⟨rfl, rfl⟩ := e3
                simp [Ne.symm hkq]
              · simp [e, e3]
          · rw [has_at hk hb, has_at hq hb]; omega
end Go.Proofs.Ytlgeckgeiknmjaa.Purse
