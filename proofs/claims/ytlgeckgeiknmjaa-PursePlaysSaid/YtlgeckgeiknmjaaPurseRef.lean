/-
  The document's own Purse: what only reads.
-/
import Derived.Test.YtlgeckgeiknmjaaPurseMem
import Derived.Test.YtlgeckgeiknmjaaPurseFace
import Derived.Test.YtlgeckgeiknmjaaNumRAmt
namespace Go.Proofs.Ytlgeckgeiknmjaa.Purse
open Go.RowKit Go.Proofs.Ytlgeckgeiknmjaa.Sha Go.Proofs.Ytlgeckgeiknmjaa.Num

/-- the document's Purse at block p -/
def Pr (w : World) (F : List Nat) (p : Nat) (s : PS) : Prop := WF s ∧ Mx 50 w F p s.np s.na s.v
section
variable {w : World} {F : List Nat} {p : Nat} {s : PS}
theorem Pr.at_ {i a : Nat} (h : Pr w F p s) (hi : i < s.np) (ha : a < s.na) : ∃ g c R C, w.cell? ⟨p, 0, none⟩ = some (.slice (some ⟨g, 0, none⟩) s.np c) ∧ w.cell? ⟨g, i, none⟩ = some (.slice (some ⟨R, 0, none⟩) s.na C) ∧ w.cell? ⟨R, a, none⟩ = some (.int .i64 (s.v i a)) ∧ w.frozen? ⟨R, a, none⟩ = false ∧
    ∀ x, WF (put s i a x) → Pr (w.setCell ⟨R, a, none⟩ (.int .i64 x)) F p (put s i a x) ∧ Fp F F w (w.setCell ⟨R, a, none⟩ (.int .i64 x)) := by
  obtain ⟨h0, g, c, R, C, h⟩ := h
  exact ⟨g, c, R i, C i, h.p0, h.gi hi, h.rij hi ha, h.fz hi a, fun x hx => ⟨⟨hx, ⟨g, c, R, C, h.set hi a x⟩⟩, h.fp hi _⟩⟩
theorem Pr.heads (h : Pr w F p s) : ∃ g c R C, w.cell? ⟨p, 0, none⟩ = some (.slice (some ⟨g, 0, none⟩) s.np c) ∧ w.cell? ⟨g, 0, none⟩ = some (.slice (some ⟨R, 0, none⟩) s.na C) := by
  obtain ⟨h0, g, c, R, C, h⟩ := h
  exact ⟨g, c, R 0, C 0, h.p0, h.gi (by have := h0.p2; omega)⟩
set_option maxHeartbeats 1000000 in
theorem ris_any (h : Pr w F p s) (i a : Int) : Calls Try.prog 29 #[.pointer (some ⟨p, 0, none⟩), .int .i64 i, .int .i64 a] w fun e w' => e = .returned (.bool (isP s i && isA s a)) ∧ w = w' := by
  obtain ⟨g, c, R, C, x1, x2⟩ := h.heads
  have p2 := h.1.p2
  clear h
  by_cases h0 : 0 ≤ i
  · by_cases h1 : i < s.np
    · have e1 : isP s i = true := isP_iff.2 ⟨h0, h1⟩
      by_cases h2 : 0 ≤ a
      · by_cases h3 : a < s.na
        · have e2 : isA s a = true := isA_iff.2 ⟨h2, h3⟩
          rw [e1, e2]
          clear e1 e2
          generalize s.np = np at *
          generalize s.na = na at *
          go_enter Try.func29, Try.ntmps29
          go_wp2
          go_ret
          exact ⟨rfl, rfl⟩
        · have e2 : isA s a = false := by unfold isA; exact decide_eq_false (by omega)
          have hd : decide (a < (s.na : Int)) = false := decide_eq_false h3
          rw [e1, e2]
          clear e1 e2
          generalize s.np = np at *
          generalize s.na = na at *
          go_enter Try.func29, Try.ntmps29
          go_wp2
          go_ret
          exact ⟨rfl, rfl⟩
      · have e2 : isA s a = false := by unfold isA; exact decide_eq_false (by omega)
        rw [e1, e2]
        clear e1 e2
        generalize s.np = np at *
        generalize s.na = na at *
        go_enter Try.func29, Try.ntmps29
        go_wp2
        go_ret
        exact ⟨rfl, rfl⟩
    · have e1 : isP s i = false := by unfold isP; exact decide_eq_false (by omega)
      have hd : decide (i < (s.np : Int)) = false := decide_eq_false h1
      rw [e1, Bool.false_and]
      clear e1
      generalize s.np = np at *
      generalize s.na = na at *
      go_enter Try.func29, Try.ntmps29
      go_wp2
      go_ret
      exact ⟨rfl, rfl⟩
  · have e1 : isP s i = false := by unfold isP; exact decide_eq_false (by omega)
    rw [e1, Bool.false_and]
    clear e1
    generalize s.np = np at *
    generalize s.na = na at *
    go_enter Try.func29, Try.ntmps29
    go_wp2
    go_ret
    exact ⟨rfl, rfl⟩
set_option maxHeartbeats 400000 in
theorem rhas_any (h : Pr w F p s) (i a : Int) : Calls Try.prog 18 #[.pointer (some ⟨p, 0, none⟩), .int .i64 i, .int .i64 a] w fun e w' => e = .returned (.int .i64 (hasP s i a)) ∧ w = w' := by
  have P := Kept.mk (ris_any h i a)
  cases hp : (isP s i && isA s a) with
  | false =>
    rw [hp] at P
    have e : hasP s i a = 0 := by unfold hasP; rw [hp]; rfl
    rw [e]
    clear e h
    go_enter Try.func18, Try.ntmps18
    go_wp2_with (go_at_call 29; refine P.out.mono ?_; rintro e w' ⟨rfl, rfl⟩)
    go_ret
    exact ⟨rfl, rfl⟩
  | true =>
    rw [hp] at P
    have e : hasP s i a = s.v i.toNat a.toNat := by unfold hasP; rw [hp]; rfl
    rw [e]
    clear e
    rw [Bool.and_eq_true] at hp
    obtain ⟨k, rfl, hk⟩ := isP_nat hp.1
    obtain ⟨b, rfl, hb⟩ := isA_nat hp.2
    clear hp
    simp only [Int.toNat_natCast]
    obtain ⟨g, c, R, C, x1, x2, x3, -, -⟩ := h.at_ hk hb
    clear h
    go_enter Try.func18, Try.ntmps18
    go_wp2_with (go_at_call 29; refine P.out.mono ?_; rintro e w' ⟨rfl, rfl⟩)
    go_ret
    exact ⟨rfl, rfl⟩
theorem hasP_nat {k b : Nat} (hk : k < s.np) (hb : b < s.na) : hasP s k b = s.v k b := by
  unfold hasP
  rw [if_pos (by rw [isP_iff.2 ⟨by omega, by omega⟩, isA_iff.2 ⟨by omega, by omega⟩]; rfl)]
  simp only [Int.toNat_natCast]
/-- the sum of the first k -/
def upTo (s : PS) (a : Int) (k : Nat) : Int := if isA s a then tot s.v k a.toNat else 0
theorem upTo_0 (a : Int) : upTo s a 0 = 0 := by unfold upTo; split <;> rfl
theorem upTo_all (a : Int) : upTo s a s.np = totP s a := rfl
theorem upTo_succ (a : Int) {k : Nat} (hk : k < s.np) : upTo s a (k + 1) = upTo s a k + hasP s k a := by
  unfold upTo hasP
  rw [isP_iff.2 ⟨by omega, by omega⟩, Bool.true_and]
  split
  · rw [Int.toNat_natCast]; rfl
  · rfl
theorem upTo_bd (h : WF s) (a : Int) {k : Nat} (hk : k ≤ s.np) : 0 ≤ upTo s a k ∧ upTo s a k ≤ 4611686018427387904 := by
  unfold upTo
  split
  · rename_i ha
    obtain ⟨b, rfl, hb⟩ := isA_nat ha
    rw [Int.toNat_natCast]
    exact ⟨tot_nonneg (fun i hi => h.pos i b (by omega) hb), Int.le_trans (tot_mono hk (fun i hi => h.pos i b hi hb)) (h.sum b hb)⟩
  · omega
set_option maxHeartbeats 400000 in
theorem rtotal_any (h : Pr w F p s) (a : Int) : Calls Try.prog 20 #[.pointer (some ⟨p, 0, none⟩), .int .i64 a] w fun e w' => e = .returned (.int .i64 (totP s a)) ∧ w = w' := by
  have H := Kept.mk h
  obtain ⟨g, c, R, C, x1, x2⟩ := h.heads
  have WW := Kept.mk h.1
  have E := Kept.mk (upTo_all (s := s) a)
  rw [← E.out]
  clear h x2 E
  obtain ⟨np, hnp⟩ : ∃ np, s.np = np := ⟨_, rfl⟩
  have p16 := WW.out.p16
  rw [hnp] at x1 p16 ⊢
  have HN := Kept.mk hnp
  clear hnp
  go_enter Try.func20, Try.ntmps20
  go_wp2
  go_loop [5, 6] (fun t i => ∃ (k : Nat) (u : Int), k ≤ np ∧ i = .int .i64 k ∧ t = .int .i64 u ∧ Kept (upTo s a k = u)) (fun _ i => np - (Go.RowKit.intOf i).toNat)
  case atStart => exact ⟨0, 0, Nat.zero_le _, rfl, rfl, ⟨upTo_0 a⟩⟩
  case round =>
    obtain ⟨k, u, hk, rfl, rfl, HU⟩ := hrel
    by_cases hkn : k < np
    · have hkn' : (k : Int) < np := by omega
      have b0 := upTo_bd WW.out a (k := k) (by rw [HN.out]; omega)
      have b1 := upTo_bd WW.out a (k := k + 1) (by rw [HN.out]; omega)
      have hs := upTo_succ (s := s) a (k := k) (by rw [HN.out]; omega)
      have Q := Kept.mk (rhas_any H.out k a)
      obtain ⟨x, hx⟩ : ∃ x, hasP s k a = x := ⟨_, rfl⟩
      rw [hx] at Q hs
      rw [hs] at b1
      rw [HU.out] at hs b0 b1
      have HS := Kept.mk hs
      clear hs hx
      go_wp2_with (go_at_call 18; refine Q.out.mono ?_; rintro e w' ⟨rfl, rfl⟩)
      go_round
      case rel => exact ⟨k + 1, u + x, by omega, by go_num, rfl, HS⟩
      case measure => simp [Go.RowKit.intOf]; omega
    · have hkn' : ¬ (k : Int) < np := by omega
      obtain rfl : k = np := by omega
      go_wp2
      go_ret
      exact ⟨by rw [HU.out]; rfl, rfl⟩
end
end Go.Proofs.Ytlgeckgeiknmjaa.Purse
