/-
  Parts laid together: EscrowFirst.
-/
import Derived.Test.YtcebjpfmpagfjaaPart14
import Derived.Test.YtcebjpfmpagfjaaPart17
import Derived.Test.YtcebjpfmpagfjaaPart6

namespace Go.Proofs.Ytcebjpfmpagfjaa.Escrow
open Go.RowKit Go.Proofs.Ytcebjpfmpagfjaa.Sha Go.Proofs.Ytcebjpfmpagfjaa.Purse Go.Proofs.Ytcebjpfmpagfjaa.Num

theorem wb_of_wf {s : PS} (h : WF s) : WB ⟨s, []⟩ := by
  refine ⟨h, fun k hk => absurd hk (Nat.not_lt_zero _), fun a ha => ?_⟩
  obtain ⟨q, rfl, hq⟩ := isA_nat ha
  show totP s q + 0 ≤ _
  rw [Int.add_zero, totP_nat hq]
  exact h.sum q hq
def P0 : PS := newP 2 (twoX 5 0)
def P1 : PS := put P0 0 0 (P0.v 0 0 - 3)
def P2 : PS := put P1 1 0 (P1.v 1 0 + 3)
section
variable {h s : List Int}
def b1 (h : List Int) : BS := ⟨P1, [⟨0, 1, 0, 3, 10, 0, h, []⟩]⟩
def b2 (h s : List Int) : BS := ⟨P2, [⟨0, 1, 0, 3, 10, 1, h, s⟩]⟩
theorem first_lock (hh : h.length = 32) : lockB ⟨P0, []⟩ 0 1 0 3 h 10 2 = ((0, 0), b1 h) := by
  have ht : takeP P0 0 0 3 = (0, P1) := take_yes (k := 0) (b := 0) (by decide) (by decide)
  unfold lockB
  rw [if_neg (fun k => k (by show isP P0 0 = true ∧ isP P0 1 = true ∧ isA P0 0 = true ∧ amtB 3 = true ∧ (3 : Int) ≠ 0 ∧ tickB 10 = true ∧ tickB 2 = true; decide)), if_neg (by omega), if_neg (by decide), if_neg (by decide)]
  show (if (takeP P0 0 0 3).1 ≠ 0 then _ else _) = _
  rw [ht]
  rfl
theorem first_late : claimB (b1 h) 1 0 s 10 = (11, b1 h) := by
  refine (claim_some (b := b1 h) (who := 1) (clock := 10) (s := s) (k := 0) (Nat.zero_lt_one)).trans ?_
  show (if (1 : Int) ≠ 1 then _ else if (0 : Int) ≠ 0 then _ else if (10 : Int) ≤ 10 ∨ tickB 10 = false then _ else _) = _
  rw [if_neg (by decide), if_neg (by decide), if_pos (by decide)]
theorem first_other (hs : s.length = 32) (hn : sha s ≠ h) : claimB (b1 h) 1 0 s 9 = (10, b1 h) := by
  refine (claim_some (b := b1 h) (who := 1) (clock := 9) (s := s) (k := 0) (Nat.zero_lt_one)).trans ?_
  show (if (1 : Int) ≠ 1 then _ else if (0 : Int) ≠ 0 then _ else if (10 : Int) ≤ 9 ∨ tickB 9 = false then _ else if s.length ≠ 32 then _ else if sha s ≠ h then _ else _) = _
  rw [if_neg (by decide), if_neg (by decide), if_neg (by decide), if_neg (by omega), if_pos hn]
theorem first_claim (hs : s.length = 32) (hn : sha s = h) : claimB (b1 h) 1 0 s 9 = (0, b2 h s) := by
  have hg : giveP P1 1 0 3 = (0, P2) := give_yes (k := 1) (b := 0) (by decide) (by decide)
  refine (claim_some (b := b1 h) (who := 1) (clock := 9) (s := s) (k := 0) (Nat.zero_lt_one)).trans ?_
  show (if (1 : Int) ≠ 1 then _ else if (0 : Int) ≠ 0 then _ else if (10 : Int) ≤ 9 ∨ tickB 9 = false then _ else if s.length ≠ 32 then _ else if sha s ≠ h then _ else if (giveP P1 1 0 3).1 ≠ 0 then _ else (0, (⟨(giveP P1 1 0 3).2, _⟩ : BS))) = _
  rw [if_neg (by decide), if_neg (by decide), if_neg (by decide), if_neg (by omega), if_neg (fun e => e hn), hg]
  rfl
theorem first_tot : totB (b2 h s) 0 = 5 := by
  show totP P2 0 + (0 + if (1 : Int) = 0 ∧ (0 : Int) = 0 then (3 : Int) else 0) = 5
  rw [if_neg (by decide)]
  decide
theorem first_wb (w : WF P0) (hb : Bytes h) (hs : Bytes s) (hh : h.length = 32) (hl : s.length = 32) (hn : sha s = h) : WB (b2 h s) := by
  have w1 : WB (b1 h) := by
    have := (lock_wb (i := 0) (j := 1) (a := 0) (n := 3) (due := 10) (clock := 2) (wb_of_wf w) hb).1
    rw [first_lock hh] at this
    exact this
  rcases claim_cases w1 1 0 hs 9 with ⟨e, h0, h1⟩ | ⟨k, i, a, -, -, -, -, -, -, -, -, -, -, -, -, h1, h2, -⟩
  · rw [first_claim hl hn] at h1
    exact absurd (congrArg Prod.fst h1).symm h0
  · rw [first_claim hl hn] at h1
    have h3 : b2 h s = _ := congrArg Prod.snd h1
    rw [h3]
    exact h2
end
theorem sha_8 : sha (secretOf 8) ≠ sha (secretOf 7) := by
  have h : (sha (secretOf 8)).take 4 ≠ (sha (secretOf 7)).take 4 := by decide +kernel
  exact fun e => h (by rw [e])
def Holds (w : World) (e : Ending) (w' : World) : Prop := e = .returned (.bool true) ∧ Below w.heap.size w w'
theorem two_made (a b : Int) (h : twoOk a b = true) : newOk 2 (twoX a b) := two_ok h
section
variable {Ck : World → List Nat → Nat → Nat → BS → Prop}
set_option maxRecDepth 100000 in
set_option maxHeartbeats 4000000 in
theorem first_any (api : EscrowApi Ck) (w : World) : Calls Try.prog 6 #[] w (Holds w) := by
  have M := Kept.mk (made_any api _ 2 2 _ _ (two_rows w 5 0))
  have BT := Kept.mk (twoW_below w 5 0)
  obtain ⟨S7, h7⟩ : ∃ S, secretOf 7 = S := ⟨_, rfl⟩
  obtain ⟨S8, h8⟩ : ∃ S, secretOf 8 = S := ⟨_, rfl⟩
  have B7 := Kept.mk (secretOf_bytes (s := 7) (by omega))
  have B8 := Kept.mk (secretOf_bytes (s := 8) (by omega))
  have L7 := Kept.mk (secretOf_len 7)
  have L8 := Kept.mk (secretOf_len 8)
  have N8 := Kept.mk sha_8
  have T7 := Kept.mk (fun w => secret_any w 7 (by omega))
  have T8 := Kept.mk (fun w => secret_any w 8 (by omega))
  obtain ⟨H, hH⟩ : ∃ H, sha (secretOf 7) = H := ⟨_, rfl⟩
  have BH := Kept.mk (sha_bytes (secretOf 7))
  have LH := Kept.mk (sha_len (secretOf 7))
  have TX : Kept (∀ w, Calls Try.prog 13 #[.agg (opC ⟨0, 0, 0, 0, 0, 0, 0, 0, [], true, 7⟩)] w (StrPost w (sha (secretOf 7)))) := ⟨fun w => text_any w ⟨0, 0, 0, 0, 0, 0, 0, 0, [], true, 7⟩ ⟨by decide, by intro x hx; cases hx⟩⟩
  rw [hH] at N8 BH LH TX
  rw [h7] at B7 L7 T7 hH
  rw [h8] at B8 L8 T8 N8
  have HH := Kept.mk hH
  clear h7 h8 hH
  go_enter Try.func6, Try.ntmps6
  go_wp2_with fail
  refine M.out.mono ?_
  rintro e w1 (⟨hn, -, -⟩ | ⟨-, x, q, F, rfl, hc, fp⟩)
  · exact absurd (two_ok (by decide)) hn
  obtain ⟨B, L⟩ := step_fp BT fp (none_least _)
  have C : Kept (Ck w1 F x q ⟨P0, []⟩) := ⟨hc⟩
  have W : Kept (WF P0) := by obtain ⟨G, -, hp⟩ := api.purse hc; exact ⟨hp.1⟩
  clear hc fp M BT
  go_wp2_with fail
  refine (api.purseOf C.out).mono ?_
  rintro e w2 ⟨rfl, d, rfl⟩
  replace C := api.drewN C d
  replace B := Kept.mk (below_drewN B.out d)
  generalize w1.drewN d = w2 at *
  go_wp2_with fail
  refine (TX.out _).mono ?_
  rintro e w3 ⟨rfl, b3⟩
  replace C := api.below C b3
  replace B := step_below B b3
  clear b3
  go_wp2_with fail
  have K := api.lock 0 1 0 3 H 10 2 C.out BH.out (by simp)
  rw [first_lock LH.out] at K
  refine K.mono ?_
  rintro e w4 ⟨rfl, F4, hc, fp⟩
  obtain ⟨B, L⟩ := step_fp B fp L
  replace C : Kept (Ck w4 F4 x q (b1 H)) := ⟨hc⟩
  clear hc fp K
  go_wp2_with fail
  refine (T7.out _).mono ?_
  rintro e w5 ⟨rfl, b3⟩
  replace C := api.below C b3
  replace B := step_below B b3
  clear b3
  have BB : Kept (∀ k, k < (b1 H).l.length → Bytes (atE (b1 H).l k).hash) := ⟨fun k hk => by
    obtain rfl : k = 0 := Nat.lt_one_iff.1 hk
    exact BH.out⟩
  go_wp2_with fail
  have K := api.claim 1 0 S7 10 C.out B7.out BB.out
  rw [first_late] at K
  refine K.mono ?_
  rintro e w6 ⟨rfl, F6, hc, fp⟩
  obtain ⟨B, L⟩ := step_fp B fp L
  replace C : Kept (Ck w6 F6 x q (b1 H)) := ⟨hc⟩
  clear hc fp K
  go_wp2_with fail
  refine (T8.out _).mono ?_
  rintro e w7 ⟨rfl, b3⟩
  replace C := api.below C b3
  replace B := step_below B b3
  clear b3
  go_wp2_with fail
  have K := api.claim 1 0 S8 9 C.out B8.out BB.out
  rw [first_other L8.out N8.out] at K
  refine K.mono ?_
  rintro e w8 ⟨rfl, F8, hc, fp⟩
  obtain ⟨B, L⟩ := step_fp B fp L
  replace C : Kept (Ck w8 F8 x q (b1 H)) := ⟨hc⟩
  clear hc fp K
  go_wp2_with fail
  refine (T7.out _).mono ?_
  rintro e w9 ⟨rfl, b3⟩
  replace C := api.below C b3
  replace B := step_below B b3
  clear b3
  go_wp2_with fail
  have K := api.claim 1 0 S7 9 C.out B7.out BB.out
  rw [first_claim L7.out HH.out] at K
  refine K.mono ?_
  rintro e w10 ⟨rfl, F10, hc, fp⟩
  obtain ⟨B, L⟩ := step_fp B fp L
  replace C : Kept (Ck w10 F10 x q (b2 H S7)) := ⟨hc⟩
  have W2 := Kept.mk (first_wb W.out BH.out B7.out LH.out L7.out HH.out)
  clear hc fp K
  go_wp2_with fail
  refine (api.purseOf C.out).mono ?_
  rintro e w11 ⟨rfl, d, rfl⟩
  replace C := api.drewN C d
  replace B := Kept.mk (below_drewN B.out d)
  generalize w10.drewN d = w11 at *
  obtain ⟨G, -, hp⟩ := api.purse C.out
  have K := Kept.mk (has_any hp 1 0)
  rw [show hasP (b2 H S7).p 1 0 = 3 from by show hasP P2 1 0 = 3; decide] at K
  clear hp
  go_wp2_with fail
  refine K.out.mono ?_
  rintro e w12 ⟨rfl, rfl⟩
  clear K
  have K := Kept.mk (api.total 0 C.out W2.out)
  rw [first_tot] at K
  go_wp2_with fail
  refine K.out.mono ?_
  rintro e w13 ⟨rfl, b3⟩
  replace B := step_below B b3
  go_wp2
  go_ret
  exact ⟨rfl, B.out⟩
end
end Go.Proofs.Ytcebjpfmpagfjaa.Escrow
