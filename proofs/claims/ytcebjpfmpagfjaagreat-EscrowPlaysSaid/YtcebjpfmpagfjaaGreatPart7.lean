/-
  Parts laid together: Rows2 PurseRef PurseRef2 CopyI PurseFew PurseCode3.
-/
import Derived.Test.YtcebjpfmpagfjaaGreatPart6
import Derived.Test.YtcebjpfmpagfjaaGreatPart5

namespace Go.Proofs.YtcebjpfmpagfjaaGreat.Sha
open Go.RowKit

/-- n rows of bytes in memory, to be read: row r holds X r -/
def Rws (w : World) (A : Option Addr) (n : Nat) (X : Nat → List Int) : Prop :=
  n = 0 ∨ ∃ b o, A = some ⟨b, o, none⟩ ∧ ∀ r, r < n → ∃ a l c, w.cell? ⟨b, o + r, none⟩ = some (.slice a l c) ∧ l ≤ c ∧ c ≤ 9223372036854775807 ∧ Rd w a l (X r)
theorem Rws.below {w w' : World} {A : Option Addr} {n : Nat} {X : Nat → List Int} (h : Rws w A n X) (b : Below w.heap.size w w') : Rws w' A n X := by
  refine h.imp id ?_
  rintro ⟨bb, o, rfl, hc⟩
  refine ⟨bb, o, rfl, fun r hr => ?_⟩
  obtain ⟨a, l, c, h1, h2, h3, h4⟩ := hc r hr
  exact ⟨a, l, c, by rw [b.cell (World.block_lt_of_cell? _ _ h1)]; exact h1, h2, h3, h4.below b⟩
/-- an argument's rows -/
theorem rws_of_row {W : World} {a : Option Addr} {len cap : Nat} (h : (a = none ∧ len = 0 ∧ cap = 0) ∨ ∃ (x : Addr) (A : Nat → Option Addr) (L C : Nat → Nat) (Z : Nat → List Int), a = some x ∧ len ≤ cap ∧ cap ≤ maxLen ∧ ∀ r, r < cap → W.cell? (x.add r) = some (.slice (A r) (L r) (C r)) ∧ L r ≤ C r ∧ C r ≤ maxLen ∧ (Z r).length = C r ∧ (∀ n ∈ Z r, (Lit.int .u8 n).wf = true) ∧ (A r = none → C r = 0) ∧ ∀ a' : Addr, A r = some a' → 0 ≤ a'.block ∧ ∀ c, c < C r → W.cell? (a'.add c) = some (.int .u8 ((Z r).getD c 0))) :
    ∃ X, Rws W a len X := by
  rcases h with ⟨rfl, rfl, rfl⟩ | ⟨x, A, L, C, Z, rfl, hl, hm, hr⟩
  · exact ⟨fun _ => [], .inl rfl⟩
  · refine ⟨fun r => (Z r).take (L r), ?_⟩
    by_cases h0 : len = 0
    · exact .inl h0
    · refine .inr ?_
      obtain ⟨b, off, spot⟩ := x
      have hspot : spot = none := by
        have hc := (hr 0 (by omega)).1
        simpa [Addr.add] using World.cell?_spot hc
      subst hspot
      refine ⟨b, off, rfl, fun r hrl => ?_⟩
      obtain ⟨h1, h2, h3, h4, h5, h6, h7⟩ := hr r (by omega)
      have e : (⟨b, off, none⟩ : Addr).add r = ⟨b, off + r, none⟩ := by cases r <;> simp [Addr.add]
      rw [e] at h1
      refine ⟨A r, L r, C r, h1, h2, by unfold maxLen at h3; omega, ?_⟩
      refine rd_of_row (cap := C r) ?_
      cases hA : A r with
      | none =>
        have hC := h6 hA
        have hZ : Z r = [] := List.eq_nil_of_length_eq_zero (by omega)
        exact .inl ⟨rfl, by omega, hC, hZ⟩
      | some a' =>
        exact .inr ⟨a', rfl, h2, h3, h4, fun i hi => (h7 a' hA).2 i (by omega), h5⟩
end Go.Proofs.YtcebjpfmpagfjaaGreat.Sha

namespace Go.Proofs.YtcebjpfmpagfjaaGreat.Purse
open Go.RowKit Go.Proofs.YtcebjpfmpagfjaaGreat.Sha Go.Proofs.YtcebjpfmpagfjaaGreat.Num

/-- the document's Purse at block p -/
def Pr (w : World) (F : List Nat) (p : Nat) (s : PS) : Prop := WF s ∧ Mx 57 w F p s.np s.na s.v
section
variable {w : World} {F : List Nat} {p : Nat} {s : PS}
theorem Pr.at_ {i a : Nat} (h : Pr w F p s) (hi : i < s.np) (ha : a < s.na) : ∃ g c R C, w.cell? ⟨p, 0, none⟩ = some (.slice (some ⟨g, 0, none⟩) s.np c) ∧ w.cell? ⟨g, i, none⟩ = some (.slice (some ⟨R, 0, none⟩) s.na C) ∧ w.cell? ⟨R, a, none⟩ = some (.int .i64 (s.v i a)) ∧ w.frozen? ⟨R, a, none⟩ = false ∧
    ∀ x, WF (put s i a x) → Pr (w.setCell ⟨R, a, none⟩ (.int .i64 x)) F p (put s i a x) ∧ Fp F F w (w.setCell ⟨R, a, none⟩ (.int .i64 x)) := by
  obtain ⟨h0, g, c, R, C, h⟩ := h
  exact ⟨g, c, R i, C i, h.p0, h.gi hi, h.rij hi ha, h.fz hi a, fun x hx => ⟨⟨hx, ⟨g, c, R, C, h.set hi a x⟩⟩, h.fp hi _⟩⟩
theorem Pr.heads (h : Pr w F p s) : ∃ g c R C, w.cell? ⟨p, 0, none⟩ = some (.slice (some ⟨g, 0, none⟩) s.np c) ∧ w.cell? ⟨g, 0, none⟩ = some (.slice (some ⟨R, 0, none⟩) s.na C) := by
  obtain ⟨h0, g, c, R, C, h⟩ := h
  exact ⟨g, c, R 0, C 0, h.p0, h.gi (by have := h0.p2; omega)⟩
set_option maxHeartbeats 1000000 in
theorem ris_any (h : Pr w F p s) (i a : Int) : Calls Tryz.prog 39 #[.pointer (some ⟨p, 0, none⟩), .int .i64 i, .int .i64 a] w fun e w' => e = .returned (.bool (isP s i && isA s a)) ∧ w = w' := by
  obtain ⟨g, c, R, C, x1, x2⟩ := h.heads
  have p2 := h.1.p2
  clear h
  by_cases h0 : 0 ≤ i
  · by_cases h1 : i < s.np
    · have e1 : isP s i = true := isP_iff.2 ⟨h0, h1⟩
      by_cases h2 : 0 ≤ a
      · by_cases h3 : a < s.na
        · have e2 : isA s a = true := isA_iff.2 ⟨h2, h3⟩
          rw [e1, e2]
          clear e1 e2
          generalize s.np = np at *
          generalize s.na = na at *
          go_enter Tryz.func39, Tryz.ntmps39
          go_wp2
          go_ret
          exact ⟨rfl, rfl⟩
        · have e2 : isA s a = false := by unfold isA; exact decide_eq_false (by omega)
          have hd : decide (a < (s.na : Int)) = false := decide_eq_false h3
          rw [e1, e2]
          clear e1 e2
          generalize s.np = np at *
          generalize s.na = na at *
          go_enter Tryz.func39, Tryz.ntmps39
          go_wp2
          go_ret
          exact ⟨rfl, rfl⟩
      · have e2 : isA s a = false := by unfold isA; exact decide_eq_false (by omega)
        rw [e1, e2]
        clear e1 e2
        generalize s.np = np at *
        generalize s.na = na at *
        go_enter Tryz.func39, Tryz.ntmps39
        go_wp2
        go_ret
        exact ⟨rfl, rfl⟩
    · have e1 : isP s i = false := by unfold isP; exact decide_eq_false (by omega)
      have hd : decide (i < (s.np : Int)) = false := decide_eq_false h1
      rw [e1, Bool.false_and]
      clear e1
      generalize s.np = np at *
      generalize s.na = na at *
      go_enter Tryz.func39, Tryz.ntmps39
      go_wp2
      go_ret
      exact ⟨rfl, rfl⟩
  · have e1 : isP s i = false := by unfold isP; exact decide_eq_false (by omega)
    rw [e1, Bool.false_and]
    clear e1
    generalize s.np = np at *
    generalize s.na = na at *
    go_enter Tryz.func39, Tryz.ntmps39
    go_wp2
    go_ret
    exact ⟨rfl, rfl⟩
set_option maxHeartbeats 400000 in
theorem rhas_any (h : Pr w F p s) (i a : Int) : Calls Tryz.prog 25 #[.pointer (some ⟨p, 0, none⟩), .int .i64 i, .int .i64 a] w fun e w' => e = .returned (.int .i64 (hasP s i a)) ∧ w = w' := by
  have P := Kept.mk (ris_any h i a)
  cases hp : (isP s i && isA s a) with
  | false =>
    rw [hp] at P
    have e : hasP s i a = 0 := by unfold hasP; rw [hp]; rfl
    rw [e]
    clear e h
    go_enter Tryz.func25, Tryz.ntmps25
    go_wp2_with (go_at_call 39; refine P.out.mono ?_; rintro e w' ⟨rfl, rfl⟩)
    go_ret
    exact ⟨rfl, rfl⟩
  | true =>
    rw [hp] at P
    have e : hasP s i a = s.v i.toNat a.toNat := by unfold hasP; rw [hp]; rfl
    rw [e]
    clear e
    rw [Bool.and_eq_true] at hp
    obtain ⟨k, rfl, hk⟩ := isP_nat hp.1
    obtain ⟨b, rfl, hb⟩ := isA_nat hp.2
    clear hp
    simp only [Int.toNat_natCast]
    obtain ⟨g, c, R, C, x1, x2, x3, -, -⟩ := h.at_ hk hb
    clear h
    go_enter Tryz.func25, Tryz.ntmps25
    go_wp2_with (go_at_call 39; refine P.out.mono ?_; rintro e w' ⟨rfl, rfl⟩)
    go_ret
    exact ⟨rfl, rfl⟩
theorem hasP_nat {k b : Nat} (hk : k < s.np) (hb : b < s.na) : hasP s k b = s.v k b := by
  unfold hasP
  rw [if_pos (by rw [isP_iff.2 ⟨by omega, by omega⟩, isA_iff.2 ⟨by omega, by omega⟩]; rfl)]
  simp only [Int.toNat_natCast]
/-- the sum of the first k -/
def upTo (s : PS) (a : Int) (k : Nat) : Int := if isA s a then tot s.v k a.toNat else 0
theorem upTo_0 (a : Int) : upTo s a 0 = 0 := by unfold upTo; split <;> rfl
theorem upTo_all (a : Int) : upTo s a s.np = totP s a := rfl
theorem upTo_succ (a : Int) {k : Nat} (hk : k < s.np) : upTo s a (k + 1) = upTo s a k + hasP s k a := by
  unfold upTo hasP
  rw [isP_iff.2 ⟨by omega, by omega⟩, Bool.true_and]
  split
  · rw [Int.toNat_natCast]; rfl
  · rfl
theorem upTo_bd (h : WF s) (a : Int) {k : Nat} (hk : k ≤ s.np) : 0 ≤ upTo s a k ∧ upTo s a k ≤ 4611686018427387904 := by
  unfold upTo
  split
  · rename_i ha
    obtain ⟨b, rfl, hb⟩ := isA_nat ha
    rw [Int.toNat_natCast]
    exact ⟨tot_nonneg (fun i hi => h.pos i b (by omega) hb), Int.le_trans (tot_mono hk (fun i hi => h.pos i b hi hb)) (h.sum b hb)⟩
  · omega
set_option maxHeartbeats 400000 in
theorem rtotal_any (h : Pr w F p s) (a : Int) : Calls Tryz.prog 48 #[.pointer (some ⟨p, 0, none⟩), .int .i64 a] w fun e w' => e = .returned (.int .i64 (totP s a)) ∧ w = w' := by
  have H := Kept.mk h
  obtain ⟨g, c, R, C, x1, x2⟩ := h.heads
  have WW := Kept.mk h.1
  have E := Kept.mk (upTo_all (s := s) a)
  rw [← E.out]
  clear h x2 E
  obtain ⟨np, hnp⟩ : ∃ np, s.np = np := ⟨_, rfl⟩
  have p16 := WW.out.p16
  rw [hnp] at x1 p16 ⊢
  have HN := Kept.mk hnp
  clear hnp
  go_enter Tryz.func48, Tryz.ntmps48
  go_wp2
  go_loop [5, 6] (fun t i => ∃ (k : Nat) (u : Int), k ≤ np ∧ i = .int .i64 k ∧ t = .int .i64 u ∧ Kept (upTo s a k = u)) (fun _ i => np - (Go.RowKit.intOf i).toNat)
  case atStart => exact ⟨0, 0, Nat.zero_le _, rfl, rfl, ⟨upTo_0 a⟩⟩
  case round =>
    obtain ⟨k, u, hk, rfl, rfl, HU⟩ := hrel
    by_cases hkn : k < np
    · have hkn' : (k : Int) < np := by omega
      have b0 := upTo_bd WW.out a (k := k) (by rw [HN.out]; omega)
      have b1 := upTo_bd WW.out a (k := k + 1) (by rw [HN.out]; omega)
      have hs := upTo_succ (s := s) a (k := k) (by rw [HN.out]; omega)
      have Q := Kept.mk (rhas_any H.out k a)
      obtain ⟨x, hx⟩ : ∃ x, hasP s k a = x := ⟨_, rfl⟩
      rw [hx] at Q hs
      rw [hs] at b1
      rw [HU.out] at hs b0 b1
      have HS := Kept.mk hs
      clear hs hx
      go_wp2_with (go_at_call 25; refine Q.out.mono ?_; rintro e w' ⟨rfl, rfl⟩)
      go_round
      case rel => exact ⟨k + 1, u + x, by omega, by go_num, rfl, HS⟩
      case measure => simp [Go.RowKit.intOf]; omega
    · have hkn' : ¬ (k : Int) < np := by omega
      obtain rfl : k = np := by omega
      go_wp2
      go_ret
      exact ⟨by rw [HU.out]; rfl, rfl⟩
end
end Go.Proofs.YtcebjpfmpagfjaaGreat.Purse

namespace Go.Proofs.YtcebjpfmpagfjaaGreat.Purse
open Go.RowKit Go.Proofs.YtcebjpfmpagfjaaGreat.Sha Go.Proofs.YtcebjpfmpagfjaaGreat.Num

section
variable {w : World} {F : List Nat} {p : Nat} {s : PS}
set_option maxHeartbeats 1000000 in
theorem rgive_any (i a n : Int) (h : Pr w F p s) : Calls Tryz.prog 45 #[.pointer (some ⟨p, 0, none⟩), .int .i64 i, .int .i64 a, .int .i64 n] w (StepPost (fun w' F' s' => Pr w' F' p s') w F (giveP s i a n)) := by
  have P := Kept.mk (ris_any h i a)
  have T := Kept.mk (rtotal_any h a)
  have M := Kept.mk (ramount_any n w)
  have H := Kept.mk h
  clear h
  cases hp : (isP s i && isA s a) with
  | false =>
    rw [hp] at P
    rw [give_no (.inl (by unfold fitB; rw [hp]; rfl))]
    clear hp
    go_enter Tryz.func45, Tryz.ntmps45
    go_wp2_with (first | (go_at_call 39; refine P.out.mono ?_; rintro e w' ⟨rfl, rfl⟩) | (go_at_call 40; refine M.out.mono ?_; rintro e w' ⟨rfl, rfl⟩) | (go_at_call 48; refine T.out.mono ?_; rintro e w' ⟨rfl, rfl⟩))
    go_ret
    exact ⟨rfl, F, H.out, Fp.refl _ _⟩
  | true =>
    rw [hp] at P
    cases hm : amtB n with
    | false =>
      rw [hm] at M
      rw [give_no (.inl (by unfold fitB; rw [hp, hm]; rfl))]
      clear hp hm
      go_enter Tryz.func45, Tryz.ntmps45
      go_wp2_with (first | (go_at_call 39; refine P.out.mono ?_; rintro e w' ⟨rfl, rfl⟩) | (go_at_call 40; refine M.out.mono ?_; rintro e w' ⟨rfl, rfl⟩) | (go_at_call 48; refine T.out.mono ?_; rintro e w' ⟨rfl, rfl⟩))
      go_ret
      exact ⟨rfl, F, H.out, Fp.refl _ _⟩
    | true =>
      rw [hm] at M
      have hf : fitB s i a n = true := by unfold fitB; rw [hp, hm]; rfl
      clear hp hm
      obtain ⟨⟨k, rfl, hk⟩, ⟨b, rfl, hb⟩, n0, n1⟩ := fitB_iff.1 hf
      have t0 := H.out.1.tot0 hb
      have t1 := H.out.1.sum b hb
      rw [← totP_nat hb] at t0 t1
      by_cases ht : totP s b + n ≤ 4611686018427387904
      · have hw := giveP_wf H.out.1 (k : Int) (b : Int) n
        rw [give_yes hf ht] at hw ⊢
        have hv := H.out.1.le hk hb
        obtain ⟨g, c, R, C, x1, x2, x3, x4, hput⟩ := H.out.at_ hk hb
        have PUT := Kept.mk (hput (s.v k b + n) hw)
        have hs : s.v k b + n ≤ 4611686018427387904 := by
          have := le_tot (v := s.v) (a := b) hk (fun j hj => H.out.1.pos j b hj hb)
          rw [totP_nat hb] at ht
          omega
        have ht' : ¬ 4611686018427387904 - totP s b < n := by omega
        clear hf hput hw ht
        generalize s.v k b = x at *
        generalize totP s b = t at *
        go_enter Tryz.func45, Tryz.ntmps45
        go_wp2_with (first | (go_at_call 39; refine P.out.mono ?_; rintro e w' ⟨rfl, rfl⟩) | (go_at_call 40; refine M.out.mono ?_; rintro e w' ⟨rfl, rfl⟩) | (go_at_call 48; refine T.out.mono ?_; rintro e w' ⟨rfl, rfl⟩))
        go_ret
        exact ⟨rfl, F, PUT.out.1, PUT.out.2⟩
      · rw [give_no (.inr ht)]
        have ht' : 4611686018427387904 - totP s b < n := by omega
        clear hf ht
        generalize totP s b = t at *
        go_enter Tryz.func45, Tryz.ntmps45
        go_wp2_with (first | (go_at_call 39; refine P.out.mono ?_; rintro e w' ⟨rfl, rfl⟩) | (go_at_call 40; refine M.out.mono ?_; rintro e w' ⟨rfl, rfl⟩) | (go_at_call 48; refine T.out.mono ?_; rintro e w' ⟨rfl, rfl⟩))
        go_ret
        exact ⟨rfl, F, H.out, Fp.refl _ _⟩
set_option maxHeartbeats 1000000 in
theorem rtake_any (i a n : Int) (h : Pr w F p s) : Calls Tryz.prog 42 #[.pointer (some ⟨p, 0, none⟩), .int .i64 i, .int .i64 a, .int .i64 n] w (StepPost (fun w' F' s' => Pr w' F' p s') w F (takeP s i a n)) := by
  have P := Kept.mk (ris_any h i a)
  have M := Kept.mk (ramount_any n w)
  have H := Kept.mk h
  clear h
  cases hp : (isP s i && isA s a) with
  | false =>
    rw [hp] at P
    rw [take_no (by unfold fitB; rw [hp]; rfl)]
    clear hp
    go_enter Tryz.func42, Tryz.ntmps42
    go_wp2_with (first | (go_at_call 39; refine P.out.mono ?_; rintro e w' ⟨rfl, rfl⟩) | (go_at_call 40; refine M.out.mono ?_; rintro e w' ⟨rfl, rfl⟩))
    go_ret
    exact ⟨rfl, F, H.out, Fp.refl _ _⟩
  | true =>
    rw [hp] at P
    cases hm : amtB n with
    | false =>
      rw [hm] at M
      rw [take_no (by unfold fitB; rw [hp, hm]; rfl)]
      clear hp hm
      go_enter Tryz.func42, Tryz.ntmps42
      go_wp2_with (first | (go_at_call 39; refine P.out.mono ?_; rintro e w' ⟨rfl, rfl⟩) | (go_at_call 40; refine M.out.mono ?_; rintro e w' ⟨rfl, rfl⟩))
      go_ret
      exact ⟨rfl, F, H.out, Fp.refl _ _⟩
    | true =>
      rw [hm] at M
      have hf : fitB s i a n = true := by unfold fitB; rw [hp, hm]; rfl
      clear hp hm
      obtain ⟨⟨k, rfl, hk⟩, ⟨b, rfl, hb⟩, n0, n1⟩ := fitB_iff.1 hf
      have hv := H.out.1.le hk hb
      obtain ⟨g, c, R, C, x1, x2, x3, x4, hput⟩ := H.out.at_ hk hb
      by_cases ht : s.v k b < n
      · rw [take_less hf ht]
        clear hf hput
        generalize s.v k b = x at *
        go_enter Tryz.func42, Tryz.ntmps42
        go_wp2_with (first | (go_at_call 39; refine P.out.mono ?_; rintro e w' ⟨rfl, rfl⟩) | (go_at_call 40; refine M.out.mono ?_; rintro e w' ⟨rfl, rfl⟩))
        go_ret
        exact ⟨rfl, F, H.out, Fp.refl _ _⟩
      · have hw := takeP_wf H.out.1 (k : Int) (b : Int) n
        rw [take_yes hf ht] at hw ⊢
        have PUT := Kept.mk (hput (s.v k b - n) hw)
        clear hf hput hw
        generalize s.v k b = x at *
        go_enter Tryz.func42, Tryz.ntmps42
        go_wp2_with (first | (go_at_call 39; refine P.out.mono ?_; rintro e w' ⟨rfl, rfl⟩) | (go_at_call 40; refine M.out.mono ?_; rintro e w' ⟨rfl, rfl⟩))
        go_ret
        exact ⟨rfl, F, PUT.out.1, PUT.out.2⟩
end
end Go.Proofs.YtcebjpfmpagfjaaGreat.Purse

namespace Go.Proofs.YtcebjpfmpagfjaaGreat.Sha
open Go.RowKit

set_option maxRecDepth 100000 in
set_option maxHeartbeats 400000 in
theorem copyi_any (A : Option Addr) (n cap : Nat) (xs : List Int) (w : World) (hr : Ri w A n xs) (hn : n < 2147483648) :
    Calls Tryz.prog 27 #[.slice A n cap] w (NewRowI n xs w) := by
  obtain ⟨N, hN⟩ : ∃ N, w.heap.size = N := ⟨_, rfl⟩
  have HR := Kept.mk (hr.bar (l := []) ((Bar.refl [] w).alloc (.cells #[] 3)) (by simp))
  have hown := World.ownsRow_made (base := N) (e := 3) (size := 1) w #[] 0 (by omega) (by unfold maxLen; omega) rfl
  rw [hN] at hown
  have bel : Below N w (w.alloc (.cells #[] 3)) := (Below.refl _ _).alloc (by omega) _
  have Own := Kept.mk hown
  have Bel := Kept.mk bel
  clear hown bel hr
  go_enter Tryz.func27, Tryz.ntmps27
  go_wp2_with ((with_reducible refine sel 5 ?_); refine wpList_append_ri rfl (.tmp 3) (.tmp 4) 54 rfl N 3 Tryz.underlying54 info_int (.slice (some ⟨N, 0, none⟩) 0 0) 0 [] rfl Own.out A n cap xs rfl HR.out (by omega) (by simp [hN]) ?_; intro v' w' ho hg _)
  go_ret
  refine ⟨v', rfl, ?_, ?_⟩
  · have := ho.out
    simpa [hN] using this
  · rw [hN]; exact Bel.out.grown hg (by simp; omega) (by intro k hk; injection hk with hk; simp at hk; omega)
end Go.Proofs.YtcebjpfmpagfjaaGreat.Sha

namespace Go.Proofs.YtcebjpfmpagfjaaGreat.Purse
open Go.RowKit Go.Proofs.YtcebjpfmpagfjaaGreat.Sha

def FewPost (n : Nat) (w : World) (e : Ending) (w' : World) : Prop := ∃ t : Bool, e = .returned (.bool t) ∧ (t = true → n ≤ 100) ∧ w = w'
set_option maxRecDepth 100000 in
set_option maxHeartbeats 1000000 in
theorem few_any (A : Option Addr) (n cap : Nat) (X : Nat → List Int) (w : World) (hr : Rwi w A n X) (hn : n ≤ 9223372036854775807) :
    Calls Tryz.prog 5 #[.slice A n cap] w (FewPost n w) := by
  have HR := Kept.mk hr
  clear hr
  go_enter Tryz.func5, Tryz.ntmps5
  go_wp2
  go_loop [3, 4] (fun s i => ∃ k z : Nat, k ≤ n ∧ k ≤ 100 ∧ z ≤ 1001 * k ∧ s = .int .i64 z ∧ i = .int .i64 k) (fun _ i => 100 - (Go.RowKit.intOf i).toNat)
  case atStart => exact ⟨0, 0, by omega, by omega, by omega, rfl, rfl⟩
  case round =>
    obtain ⟨k, z, hk, hk1, hz, rfl, rfl⟩ := hrel
    by_cases hkn : k < n
    · have hkn' : (k : Int) < n := by omega
      by_cases hk2 : k < 100
      · have hk2' : (k : Int) < 100 := by omega
        obtain ⟨b, o, a, l, c, rfl, h1, h2, h3, h4⟩ := HR.out.row k hkn
        clear h4
        by_cases hlT : l ≤ 1001
        · have hlT' : (l : Int) ≤ 1001 := by omega
          go_wp2
          go_round
          case rel => exact ⟨k + 1, z + l, by omega, by omega, by omega, by go_num, by go_num⟩
          case measure => simp [Go.RowKit.intOf]; omega
        · have hlT' : ¬ (l : Int) ≤ 1001 := by omega
          go_wp2
          go_round
          case rel => exact ⟨k + 1, z + 1001, by omega, by omega, by omega, by go_num, by go_num⟩
          case measure => simp [Go.RowKit.intOf]; omega
      · have hn2 : ¬ (n : Int) ≤ 100 := by omega
        have hk2' : ¬ (k : Int) < 100 := by omega
        go_wp2
        go_ret
        exact ⟨_, rfl, by simp, rfl⟩
    · have hkn' : ¬ (k : Int) < n := by omega
      obtain rfl : k = n := by omega
      have hk3 : (k : Int) ≤ 100 := by omega
      go_wp2
      go_ret
      exact ⟨_, rfl, fun _ => hk1, rfl⟩
end Go.Proofs.YtcebjpfmpagfjaaGreat.Purse

namespace Go.Proofs.YtcebjpfmpagfjaaGreat.Purse
open Go.RowKit Go.Proofs.YtcebjpfmpagfjaaGreat.Sha Go.Proofs.YtcebjpfmpagfjaaGreat.Num

section
variable {w : World} {F : List Nat} {p : Nat} {s : PS}
set_option maxHeartbeats 1000000 in
theorem give_any (i a n : Int) (h : Pc w F p s) : Calls Tryz.prog 64 #[.pointer (some ⟨p, 0, none⟩), .int .i64 i, .int .i64 a, .int .i64 n] w (StepPost (fun w' F' s' => Pc w' F' p s') w F (giveP s i a n)) := by
  have P := Kept.mk (fits_any h i a n)
  have T := Kept.mk (total_any h a)
  have H := Kept.mk h
  clear h
  cases hf : fitB s i a n with
  | false =>
    rw [hf] at P
    rw [give_no (.inl hf)]
    clear hf
    go_enter Tryz.func64, Tryz.ntmps64
    go_wp2_with (go_at_call 55; refine P.out.mono ?_; rintro e w' ⟨rfl, rfl⟩)
    go_ret
    exact ⟨rfl, F, H.out, Fp.refl _ _⟩
  | true =>
    rw [hf] at P
    obtain ⟨⟨k, rfl, hk⟩, ⟨b, rfl, hb⟩, n0, n1⟩ := fitB_iff.1 hf
    have t0 := H.out.1.tot0 hb
    have t1 := H.out.1.sum b hb
    rw [← totP_nat hb] at t0 t1
    by_cases ht : totP s b + n ≤ 4611686018427387904
    · have A := Kept.mk (add_yes (totP s b) n w (add_iff.2 ⟨t0, n0, ht⟩))
      have hw := giveP_wf H.out.1 (k : Int) (b : Int) n
      rw [give_yes hf ht] at hw ⊢
      have hv := H.out.1.le hk hb
      obtain ⟨g, c, R, C, x1, x2, x3, x4, hput⟩ := H.out.at_ hk hb
      have PUT := Kept.mk (hput (s.v k b + n) hw)
      have hs : s.v k b + n ≤ 4611686018427387904 := by
        have := le_tot (v := s.v) (a := b) hk (fun j hj => H.out.1.pos j b hj hb)
        rw [totP_nat hb] at ht
        omega
      clear hf hput hw ht
      generalize s.v k b = x at *
      go_enter Tryz.func64, Tryz.ntmps64
      go_wp2_with (first | (go_at_call 55; refine P.out.mono ?_; rintro e w' ⟨rfl, rfl⟩) | (go_at_call 47; refine T.out.mono ?_; rintro e w' ⟨rfl, rfl⟩) | (go_at_call 65; refine A.out.mono ?_; rintro e w' ⟨rfl, rfl⟩))
      go_ret
      exact ⟨rfl, F, PUT.out.1, PUT.out.2⟩
    · have A := Kept.mk (add_no (totP s b) n w (by
        cases hq : addB (totP s b) n with
        | false => rfl
        | true => exact absurd (add_iff.1 hq).2.2 ht))
      rw [give_no (.inr ht)]
      clear hf ht
      go_enter Tryz.func64, Tryz.ntmps64
      go_wp2_with (first | (go_at_call 55; refine P.out.mono ?_; rintro e w' ⟨rfl, rfl⟩) | (go_at_call 47; refine T.out.mono ?_; rintro e w' ⟨rfl, rfl⟩) | (go_at_call 65; refine A.out.mono ?_; rintro e w' ⟨rfl, rfl⟩))
      go_ret
      exact ⟨rfl, F, H.out, Fp.refl _ _⟩
set_option maxHeartbeats 1000000 in
theorem take_any (i a n : Int) (h : Pc w F p s) : Calls Tryz.prog 36 #[.pointer (some ⟨p, 0, none⟩), .int .i64 i, .int .i64 a, .int .i64 n] w (StepPost (fun w' F' s' => Pc w' F' p s') w F (takeP s i a n)) := by
  have P := Kept.mk (fits_any h i a n)
  have H := Kept.mk h
  clear h
  cases hf : fitB s i a n with
  | false =>
    rw [hf] at P
    rw [take_no hf]
    clear hf
    go_enter Tryz.func36, Tryz.ntmps36
    go_wp2_with (go_at_call 55; refine P.out.mono ?_; rintro e w' ⟨rfl, rfl⟩)
    go_ret
    exact ⟨rfl, F, H.out, Fp.refl _ _⟩
  | true =>
    rw [hf] at P
    obtain ⟨⟨k, rfl, hk⟩, ⟨b, rfl, hb⟩, n0, n1⟩ := fitB_iff.1 hf
    have hv := H.out.1.le hk hb
    obtain ⟨g, c, R, C, x1, x2, x3, x4, hput⟩ := H.out.at_ hk hb
    by_cases ht : s.v k b < n
    · rw [take_less hf ht]
      clear hf hput
      generalize s.v k b = x at *
      go_enter Tryz.func36, Tryz.ntmps36
      go_wp2_with (go_at_call 55; refine P.out.mono ?_; rintro e w' ⟨rfl, rfl⟩)
      go_ret
      exact ⟨rfl, F, H.out, Fp.refl _ _⟩
    · have hw := takeP_wf H.out.1 (k : Int) (b : Int) n
      rw [take_yes hf ht] at hw ⊢
      have PUT := Kept.mk (hput (s.v k b - n) hw)
      clear hf hput hw
      generalize s.v k b = x at *
      go_enter Tryz.func36, Tryz.ntmps36
      go_wp2_with (go_at_call 55; refine P.out.mono ?_; rintro e w' ⟨rfl, rfl⟩)
      go_ret
      exact ⟨rfl, F, PUT.out.1, PUT.out.2⟩
end
end Go.Proofs.YtcebjpfmpagfjaaGreat.Purse
