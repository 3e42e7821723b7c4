/-
  The law ReqBack, walked over contracts.
-/
import Derived.Test.YtcafffnkkjnpbaaPart10
import Derived.Deep.Cut
import Derived.Deep.CutRange
namespace Go.Proofs.Ytcafffnkkjnpbaa.Req
open Go.RowKit Go.Proofs.Ytcafffnkkjnpbaa.Sha Go.Proofs.Ytcafffnkkjnpbaa.Wire

set_option maxRecDepth 100000 in
set_option maxHeartbeats 4000000 in
theorem reqback_walk (api : ReqApi) (s1 : Int) (A1 : Option Addr) (n1 c1 : Nat) (l1 : List RV) (t2 s2 : Int) (A2 : Option Addr) (n2 c2 : Nat) (l2 : List PV) (D2 : Option Addr) (m2 e2 : Nat) (u2 : List VV) (A3 : Option Addr) (n3 c3 : Nat) (bs : List Int) (w : World)
    (h1 : Rr w A1 n1 l1) (hc1 : n1 ≤ c1) (hm1 : c1 ≤ 9223372036854775807) (o1 : ∀ r ∈ l1, r.ok) (h2 : Rp w A2 n2 l2) (g2 : Rv w D2 m2 u2) (hc2 : n2 ≤ c2) (hm2 : c2 ≤ 9223372036854775807) (hd2 : m2 ≤ e2) (he2 : e2 ≤ 9223372036854775807) (o2 : ∀ r ∈ u2, r.ok) (h3 : Rd w A3 n3 bs) (hc3 : n3 ≤ c3) (hm3 : c3 ≤ 9223372036854775807) :
    Calls Try.prog 5 #[.agg #[.int .i64 s1, .slice A1 n1 c1], .agg #[.int .i64 t2, .int .i64 s2, .slice A2 n2 c2, .slice D2 m2 e2], .slice A3 n3 c3] w (Yes w) := by
  obtain ⟨N, hN⟩ : ∃ N, w.heap.size = N := ⟨_, rfl⟩
  have X : Kept (Blk ((w.alloc (.cells #[.int .i64 s1, .slice A1 n1 c1] 24)).alloc (.cells #[.int .i64 t2, .int .i64 s2, .slice A2 n2 c2, .slice D2 m2 e2] 39)) N 24 #[.int .i64 s1, .slice A1 n1 c1]) := ⟨(Blk.new_at w _ _ N hN.symm).alloc _⟩
  have Y : Kept (Blk ((w.alloc (.cells #[.int .i64 s1, .slice A1 n1 c1] 24)).alloc (.cells #[.int .i64 t2, .int .i64 s2, .slice A2 n2 c2, .slice D2 m2 e2] 39)) (N + 1) 39 #[.int .i64 t2, .int .i64 s2, .slice A2 n2 c2, .slice D2 m2 e2]) := ⟨Blk.new_at _ _ _ (N + 1) (by simp [hN])⟩
  have B : Kept (Below w.heap.size w ((w.alloc (.cells #[.int .i64 s1, .slice A1 n1 c1] 24)).alloc (.cells #[.int .i64 t2, .int .i64 s2, .slice A2 n2 c2, .slice D2 m2 e2] 39))) := ⟨((Below.refl _ _).alloc (Nat.le_refl _) _).alloc (by simp) _⟩
  have H1 := Kept.mk (h1.below B.out); have H2 := Kept.mk (h2.below B.out); have H3 := Kept.mk (h3.below B.out); have G2 := Kept.mk (g2.below B.out)
  have O1 := Kept.mk o1; have O2 := Kept.mk o2
  clear h1 h2 h3 o1 o2 g2
  go_enter Try.func5, Try.ntmps5
  go_upto_region 1 with (fail)
  generalize ((w.alloc (.cells #[.int .i64 s1, .slice A1 n1 c1] 24)).alloc (.cells #[.int .i64 t2, .int .i64 s2, .slice A2 n2 c2, .slice D2 m2 e2] 39)) = w1 at *
  go_wp2_with fail
  refine (first_any api _).mono ?_
  rintro e w2 ⟨rfl, bb⟩
  replace X := Kept.mk (X.out.below bb X.out.lt); replace Y := Kept.mk (Y.out.below bb Y.out.lt); replace H1 := Kept.mk (H1.out.below bb); replace H2 := Kept.mk (H2.out.below bb); replace H3 := Kept.mk (H3.out.below bb); replace G2 := Kept.mk (G2.out.below bb); replace B := Kept.mk (B.out.trans (bb.mono B.out.size))
  clear bb
  have x0 := X.out.cell 0; have x1 := X.out.cell 1
  have KF := few_any s1 A1 n1 c1 l1 w2 H1.out (by omega)
  unfold FewPost at KF
  have KF2 := Kept.mk KF
  clear KF
  go_wp2_with fail
  refine KF2.out.mono ?_
  rintro e w3 ⟨t, rfl, ht, bb⟩
  replace X := Kept.mk (X.out.below bb X.out.lt); replace Y := Kept.mk (Y.out.below bb Y.out.lt); replace H1 := Kept.mk (H1.out.below bb); replace H2 := Kept.mk (H2.out.below bb); replace H3 := Kept.mk (H3.out.below bb); replace G2 := Kept.mk (G2.out.below bb); replace B := Kept.mk (B.out.trans (bb.mono B.out.size))
  have Q1 := Kept.mk ht
  clear bb ht KF2 x0 x1
  cases t with
  | false =>
    go_wp2_with fail
    refine (first_any api _).mono ?_
    rintro e w4 ⟨rfl, bb⟩
    replace X := Kept.mk (X.out.below bb X.out.lt); replace Y := Kept.mk (Y.out.below bb Y.out.lt); replace H1 := Kept.mk (H1.out.below bb); replace H2 := Kept.mk (H2.out.below bb); replace H3 := Kept.mk (H3.out.below bb); replace G2 := Kept.mk (G2.out.below bb); replace B := Kept.mk (B.out.trans (bb.mono B.out.size))
    clear bb
    go_wp2
    go_ret
    exact ⟨rfl, B.out⟩
  | true =>
    obtain ⟨few1, sm1⟩ := Q1.out rfl
    have S1 := Kept.mk sm1
    clear sm1
    have y0 := Y.out.cell 0; have y1 := Y.out.cell 1; have y2 := Y.out.cell 2; have y3 := Y.out.cell 3
    have KF := fewa_any t2 s2 A2 n2 c2 D2 m2 e2 u2 w3 G2.out (by omega)
    unfold FewPost at KF
    have KF2 := Kept.mk KF
    clear KF
    go_wp2_with fail
    refine KF2.out.mono ?_
    rintro e w4 ⟨t, rfl, ht, bb⟩
    replace X := Kept.mk (X.out.below bb X.out.lt); replace Y := Kept.mk (Y.out.below bb Y.out.lt); replace H1 := Kept.mk (H1.out.below bb); replace H2 := Kept.mk (H2.out.below bb); replace H3 := Kept.mk (H3.out.below bb); replace G2 := Kept.mk (G2.out.below bb); replace B := Kept.mk (B.out.trans (bb.mono B.out.size))
    have Q2 := Kept.mk ht
    clear bb ht KF2 y0 y1 y2 y3
    cases t with
    | false =>
      go_wp2_with fail
      refine (first_any api _).mono ?_
      rintro e w5 ⟨rfl, bb⟩
      replace X := Kept.mk (X.out.below bb X.out.lt); replace Y := Kept.mk (Y.out.below bb Y.out.lt); replace H1 := Kept.mk (H1.out.below bb); replace H2 := Kept.mk (H2.out.below bb); replace H3 := Kept.mk (H3.out.below bb); replace G2 := Kept.mk (G2.out.below bb); replace B := Kept.mk (B.out.trans (bb.mono B.out.size))
      clear bb
      go_wp2
      go_ret
      exact ⟨rfl, B.out⟩
    | true =>
      obtain ⟨fep2, few2, sm2⟩ := Q2.out rfl
      have S2 := Kept.mk sm2
      clear sm2
      by_cases hb : 40000 < n3
      · have hb' : (40000 : Int) < n3 := by omega
        go_wp2_with fail
        refine (first_any api _).mono ?_
        rintro e w5 ⟨rfl, bb⟩
        replace X := Kept.mk (X.out.below bb X.out.lt); replace Y := Kept.mk (Y.out.below bb Y.out.lt); replace H1 := Kept.mk (H1.out.below bb); replace H2 := Kept.mk (H2.out.below bb); replace H3 := Kept.mk (H3.out.below bb); replace G2 := Kept.mk (G2.out.below bb); replace B := Kept.mk (B.out.trans (bb.mono B.out.size))
        clear bb
        go_wp2
        go_ret
        exact ⟨rfl, B.out⟩
      · have hb' : ¬ (40000 : Int) < n3 := by omega
        have x0 := X.out.cell 0; have x1 := X.out.cell 1
        have KE := api.encb s1 H1.out hc1 hm1 (by omega) O1.out S1.out
        obtain ⟨⟨ra, ba⟩, hRa⟩ : ∃ R, encB ⟨s1, l1⟩ = R := ⟨_, rfl⟩
        rw [hRa] at KE
        unfold EncPost at KE
        have KE2 := Kept.mk KE
        have ERa := Kept.mk hRa
        clear KE hRa
        go_wp2_with fail
        refine KE2.out.mono ?_
        rintro e w5 ⟨Pa, pa, ka, rfl, hka, hma, rr, bb⟩
        (try dsimp only at rr)
        replace X := Kept.mk (X.out.below bb X.out.lt); replace Y := Kept.mk (Y.out.below bb Y.out.lt); replace H1 := Kept.mk (H1.out.below bb); replace H2 := Kept.mk (H2.out.below bb); replace H3 := Kept.mk (H3.out.below bb); replace G2 := Kept.mk (G2.out.below bb); replace B := Kept.mk (B.out.trans (bb.mono B.out.size))
        have Ra := Kept.mk rr
        clear rr bb KE2 x0 x1
        go_upto_if 45 with (fail)
        go_cut [9, 10] from 46 to 59 (fun _ _ wx => Kept (Blk wx N 24 #[.int .i64 s1, .slice A1 n1 c1]) ∧ Kept (Blk wx (N + 1) 39 #[.int .i64 t2, .int .i64 s2, .slice A2 n2 c2, .slice D2 m2 e2]) ∧ Kept (Rr wx A1 n1 l1) ∧ Kept (Rp wx A2 n2 l2) ∧ Kept (Rd wx A3 n3 bs) ∧ Kept (Rv wx D2 m2 u2) ∧ Kept (Below w.heap.size w wx))
        case first =>
          by_cases hz : ra = 0
          · subst hz
            have hl := Ra.out.1
            have hl2 := encB_len ⟨s1, l1⟩
            rw [ERa.out] at hl2
            (try dsimp only at hl2)
            have KD := api.decb Ra.out hka hma (by omega)
            unfold DecBPost at KD
            have KD2 := Kept.mk KD
            clear KD
            go_wp2_with fail
            refine KD2.out.mono ?_
            rintro e w6 ⟨eu, su, Au, nu, cu, lu, rfl, hcu, hmu, rr, ok, dd, bb⟩
            replace X := Kept.mk (X.out.below bb X.out.lt); replace Y := Kept.mk (Y.out.below bb Y.out.lt); replace H1 := Kept.mk (H1.out.below bb); replace H2 := Kept.mk (H2.out.below bb); replace H3 := Kept.mk (H3.out.below bb); replace G2 := Kept.mk (G2.out.below bb); replace Ra := Kept.mk (Ra.out.below bb); replace B := Kept.mk (B.out.trans (bb.mono B.out.size))
            have Zu := Kept.mk rr; have OKu := Kept.mk ok; have DDu := Kept.mk dd
            clear rr ok dd bb KD2
            go_upto_region 8 with (fail)
            have bb : Below w6.heap.size w6 (w6.alloc (.cells #[.int .i64 su, .slice Au nu cu] 24)) := (Below.refl _ _).alloc (Nat.le_refl _) _
            have Cu : Kept (Blk (w6.alloc (.cells #[.int .i64 su, .slice Au nu cu] 24)) w6.heap.size 24 #[.int .i64 su, .slice Au nu cu]) := ⟨Blk.new _ _ _⟩
            replace X := Kept.mk (X.out.below bb X.out.lt); replace Y := Kept.mk (Y.out.below bb Y.out.lt); replace H1 := Kept.mk (H1.out.below bb); replace H2 := Kept.mk (H2.out.below bb); replace H3 := Kept.mk (H3.out.below bb); replace G2 := Kept.mk (G2.out.below bb); replace Ra := Kept.mk (Ra.out.below bb); replace Zu := Kept.mk (Zu.out.below bb); replace B := Kept.mk (B.out.trans (bb.mono B.out.size))
            clear bb
            generalize w6.alloc (.cells #[.int .i64 su, .slice Au nu cu] 24) = w7 at *
            generalize w6.heap.size = Nu at *
            obtain ⟨rfl, hx⟩ := DDu.out.one (.inl ⟨rfl, ERa.out⟩)
            injection hx with hs hl3
            subst hs hl3
            have nu := Zu.out.1; have n1l := H1.out.1
            have KS := api.sameb su su Zu.out H1.out hcu hmu hc1 hm1 (by omega) (by omega) OKu.out O1.out
            unfold SamePost at KS
            have KS2 := Kept.mk KS
            clear KS hl hl2 nu n1l
            have u0 := Cu.out.cell 0; have u1 := Cu.out.cell 1; have x0 := X.out.cell 0; have x1 := X.out.cell 1
            go_wp2_with fail
            refine KS2.out.mono ?_
            rintro e w8 ⟨q, rfl, hq, bb⟩
            obtain rfl : q = true := hq.2 (by first | trivial | rfl)
            replace X := Kept.mk (X.out.below bb X.out.lt); replace Y := Kept.mk (Y.out.below bb Y.out.lt); replace H1 := Kept.mk (H1.out.below bb); replace H2 := Kept.mk (H2.out.below bb); replace H3 := Kept.mk (H3.out.below bb); replace G2 := Kept.mk (G2.out.below bb); replace Ra := Kept.mk (Ra.out.below bb); replace Zu := Kept.mk (Zu.out.below bb); replace Cu := Kept.mk (Cu.out.below bb Cu.out.lt); replace B := Kept.mk (B.out.trans (bb.mono B.out.size))
            clear bb KS2 hq u0 u1 x0 x1
            go_wp2
            go_meet
            case rel => exact ⟨X, Y, H1, H2, H3, G2, B⟩
          · have hz' : (ra == 0) = false := beq_eq_false_iff_ne.2 hz
            go_wp2
            go_meet
            case rel => exact ⟨X, Y, H1, H2, H3, G2, B⟩
        case rest =>
          clear X Y H1 H2 H3 G2 B
          obtain ⟨X, Y, H1, H2, H3, G2, B⟩ := hcut
          generalize wc = w9 at *
          have y0 := Y.out.cell 0; have y1 := Y.out.cell 1; have y2 := Y.out.cell 2; have y3 := Y.out.cell 3
          have KE := api.enca t2 s2 H2.out G2.out hc2 hm2 hd2 he2 (by omega) (by omega) O2.out S2.out
          obtain ⟨⟨rc, bc⟩, hRc⟩ : ∃ R, encA ⟨t2, s2, l2, u2⟩ = R := ⟨_, rfl⟩
          rw [hRc] at KE
          unfold EncPost at KE
          have KE2 := Kept.mk KE
          have ERc := Kept.mk hRc
          clear KE hRc
          go_wp2_with fail
          refine KE2.out.mono ?_
          rintro e w10 ⟨Pc, pc, kc, rfl, hkc, hmc, rr, bb⟩
          (try dsimp only at rr)
          replace X := Kept.mk (X.out.below bb X.out.lt); replace Y := Kept.mk (Y.out.below bb Y.out.lt); replace H1 := Kept.mk (H1.out.below bb); replace H2 := Kept.mk (H2.out.below bb); replace H3 := Kept.mk (H3.out.below bb); replace G2 := Kept.mk (G2.out.below bb); replace B := Kept.mk (B.out.trans (bb.mono B.out.size))
          have Rc := Kept.mk rr
          clear rr bb KE2 y0 y1 y2 y3
          go_upto_if 65 with (fail)
          go_cut [13, 14] from 66 to 79 (fun _ _ wx => Kept (Blk wx N 24 #[.int .i64 s1, .slice A1 n1 c1]) ∧ Kept (Blk wx (N + 1) 39 #[.int .i64 t2, .int .i64 s2, .slice A2 n2 c2, .slice D2 m2 e2]) ∧ Kept (Rr wx A1 n1 l1) ∧ Kept (Rp wx A2 n2 l2) ∧ Kept (Rd wx A3 n3 bs) ∧ Kept (Rv wx D2 m2 u2) ∧ Kept (Below w.heap.size w wx))
          case first =>
            by_cases hz : rc = 0
            · subst hz
              have Rc_ := Rc
              have hl := Rc_.out.1
              have hl2 := encA_len ⟨t2, s2, l2, u2⟩
              rw [ERc.out] at hl2
              (try dsimp only at hl2)
              clear Rc
              have KD := api.deca Rc_.out hkc hmc (by omega)
              unfold DecAPost at KD
              have KD2 := Kept.mk KD
              clear KD
              go_wp2_with fail
              refine KD2.out.mono ?_
              rintro e w11 ⟨ev, tv, sv, Av, nv, cv, lv, Dv, mv, dv, vv, rfl, hcv, hmv, hdv, hev, rr, rv, ok, dd, bb⟩
              replace X := Kept.mk (X.out.below bb X.out.lt); replace Y := Kept.mk (Y.out.below bb Y.out.lt); replace H1 := Kept.mk (H1.out.below bb); replace H2 := Kept.mk (H2.out.below bb); replace H3 := Kept.mk (H3.out.below bb); replace G2 := Kept.mk (G2.out.below bb); replace Rc_ := Kept.mk (Rc_.out.below bb); replace B := Kept.mk (B.out.trans (bb.mono B.out.size))
              have Zv := Kept.mk rr; have OKv := Kept.mk ok; have DDv := Kept.mk dd
              have ZVv := Kept.mk rv
              clear rr ok dd bb KD2 rv
              go_upto_region 13 with (fail)
              have bb : Below w11.heap.size w11 (w11.alloc (.cells #[.int .i64 tv, .int .i64 sv, .slice Av nv cv, .slice Dv mv dv] 39)) := (Below.refl _ _).alloc (Nat.le_refl _) _
              have Cv : Kept (Blk (w11.alloc (.cells #[.int .i64 tv, .int .i64 sv, .slice Av nv cv, .slice Dv mv dv] 39)) w11.heap.size 39 #[.int .i64 tv, .int .i64 sv, .slice Av nv cv, .slice Dv mv dv]) := ⟨Blk.new _ _ _⟩
              replace X := Kept.mk (X.out.below bb X.out.lt); replace Y := Kept.mk (Y.out.below bb Y.out.lt); replace H1 := Kept.mk (H1.out.below bb); replace H2 := Kept.mk (H2.out.below bb); replace H3 := Kept.mk (H3.out.below bb); replace G2 := Kept.mk (G2.out.below bb); replace Rc_ := Kept.mk (Rc_.out.below bb); replace Zv := Kept.mk (Zv.out.below bb); replace ZVv := Kept.mk (ZVv.out.below bb); replace B := Kept.mk (B.out.trans (bb.mono B.out.size))
              clear bb
              generalize w11.alloc (.cells #[.int .i64 tv, .int .i64 sv, .slice Av nv cv, .slice Dv mv dv] 39) = w12 at *
              generalize w11.heap.size = Nv at *
              obtain ⟨rfl, hx⟩ := DDv.out.one (.inl ⟨rfl, ERc.out⟩)
              injection hx with ht hs hl3 hv3
              subst ht hs hl3 hv3
              have nv := Zv.out.1; have n2l := H2.out.1; have mv := ZVv.out.1; have m2l := G2.out.1
              have KS := api.samea tv sv tv sv Zv.out H2.out ZVv.out G2.out hcv hmv hc2 hm2 hdv hev hd2 he2 (by omega) (by omega) (by omega) (by omega) OKv.out O2.out
              unfold SamePost at KS
              have KS2 := Kept.mk KS
              clear KS hl hl2 nv n2l mv m2l
              have v0 := Cv.out.cell 0; have v1 := Cv.out.cell 1; have v2 := Cv.out.cell 2; have v3 := Cv.out.cell 3; have y0 := Y.out.cell 0; have y1 := Y.out.cell 1; have y2 := Y.out.cell 2; have y3 := Y.out.cell 3
              go_wp2_with fail
              refine KS2.out.mono ?_
              rintro e w13 ⟨q, rfl, hq, bb⟩
              obtain rfl : q = true := hq.2 (by first | trivial | rfl)
              replace X := Kept.mk (X.out.below bb X.out.lt); replace Y := Kept.mk (Y.out.below bb Y.out.lt); replace H1 := Kept.mk (H1.out.below bb); replace H2 := Kept.mk (H2.out.below bb); replace H3 := Kept.mk (H3.out.below bb); replace G2 := Kept.mk (G2.out.below bb); replace Rc_ := Kept.mk (Rc_.out.below bb); replace Zv := Kept.mk (Zv.out.below bb); replace ZVv := Kept.mk (ZVv.out.below bb); replace Cv := Kept.mk (Cv.out.below bb Cv.out.lt); replace B := Kept.mk (B.out.trans (bb.mono B.out.size))
              clear bb KS2 hq v0 v1 v2 v3 y0 y1 y2 y3
              go_wp2
              go_meet
              case rel => exact ⟨X, Y, H1, H2, H3, G2, B⟩
            · have hz' : (rc == 0) = false := beq_eq_false_iff_ne.2 hz
              go_wp2
              go_meet
              case rel => exact ⟨X, Y, H1, H2, H3, G2, B⟩
          case rest =>
            clear X Y H1 H2 H3 G2 B
            obtain ⟨X, Y, H1, H2, H3, G2, B⟩ := hcut
            generalize wc = w14 at *
            have KD := api.decb H3.out hc3 hm3 (by omega)
            unfold DecBPost at KD
            have KD2 := Kept.mk KD
            clear KD
            go_wp2_with fail
            refine KD2.out.mono ?_
            rintro e w15 ⟨eg, sg, Ag, ng, cg, lg, rfl, hcg, hmg, rr, ok, dd, bb⟩
            replace X := Kept.mk (X.out.below bb X.out.lt); replace Y := Kept.mk (Y.out.below bb Y.out.lt); replace H1 := Kept.mk (H1.out.below bb); replace H2 := Kept.mk (H2.out.below bb); replace H3 := Kept.mk (H3.out.below bb); replace G2 := Kept.mk (G2.out.below bb); replace B := Kept.mk (B.out.trans (bb.mono B.out.size))
            have Zg := Kept.mk rr; have OKg := Kept.mk ok; have DDg := Kept.mk dd
            clear rr ok dd bb KD2
            go_upto_region 16 with (fail)
            have bb : Below w15.heap.size w15 (w15.alloc (.cells #[.int .i64 sg, .slice Ag ng cg] 24)) := (Below.refl _ _).alloc (Nat.le_refl _) _
            have Cg : Kept (Blk (w15.alloc (.cells #[.int .i64 sg, .slice Ag ng cg] 24)) w15.heap.size 24 #[.int .i64 sg, .slice Ag ng cg]) := ⟨Blk.new _ _ _⟩
            replace X := Kept.mk (X.out.below bb X.out.lt); replace Y := Kept.mk (Y.out.below bb Y.out.lt); replace H1 := Kept.mk (H1.out.below bb); replace H2 := Kept.mk (H2.out.below bb); replace H3 := Kept.mk (H3.out.below bb); replace G2 := Kept.mk (G2.out.below bb); replace Zg := Kept.mk (Zg.out.below bb); replace B := Kept.mk (B.out.trans (bb.mono B.out.size))
            clear bb
            generalize w15.alloc (.cells #[.int .i64 sg, .slice Ag ng cg] 24) = w16 at *
            generalize w15.heap.size = Ng at *
            go_upto_if 85 with (fail)
            go_cut [17, 18] from 86 to 99 (fun _ _ wx => Kept (Blk wx N 24 #[.int .i64 s1, .slice A1 n1 c1]) ∧ Kept (Blk wx (N + 1) 39 #[.int .i64 t2, .int .i64 s2, .slice A2 n2 c2, .slice D2 m2 e2]) ∧ Kept (Rr wx A1 n1 l1) ∧ Kept (Rp wx A2 n2 l2) ∧ Kept (Rd wx A3 n3 bs) ∧ Kept (Rv wx D2 m2 u2) ∧ Kept (Rr wx Ag ng lg) ∧ Kept (Blk wx Ng 24 #[.int .i64 sg, .slice Ag ng cg]) ∧ Kept (Below w.heap.size w wx))
            case first =>
              by_cases hz : eg = 0
              · subst hz
                have EB : Kept (encB ⟨sg, lg⟩ = (0, bs)) := ⟨by
                  rcases DDg.out with ⟨-, h⟩ | ⟨h, -⟩
                  · exact h
                  · cases h⟩
                have hlg := DDg.out.len
                have nl := Zg.out.1
                have u0 := Cg.out.cell 0; have u1 := Cg.out.cell 1
                have KE := api.encb sg Zg.out hcg hmg (by have := hlg.1; dsimp only at this; omega) OKg.out hlg.2
                rw [EB.out] at KE
                unfold EncPost at KE
                have KE2 := Kept.mk KE
                clear KE hlg nl
                go_wp2_with fail
                refine KE2.out.mono ?_
                rintro e w17 ⟨P9, p9, k9, rfl, hk9, hm9, rr, bb⟩
                (try dsimp only at rr)
                replace X := Kept.mk (X.out.below bb X.out.lt); replace Y := Kept.mk (Y.out.below bb Y.out.lt); replace H1 := Kept.mk (H1.out.below bb); replace H2 := Kept.mk (H2.out.below bb); replace H3 := Kept.mk (H3.out.below bb); replace G2 := Kept.mk (G2.out.below bb); replace Zg := Kept.mk (Zg.out.below bb); replace Cg := Kept.mk (Cg.out.below bb Cg.out.lt); replace B := Kept.mk (B.out.trans (bb.mono B.out.size))
                have KB := Kept.mk (bytes_same P9 A3 p9 n3 k9 c3 bs _ rr H3.out)
                clear rr bb KE2 u0 u1
                go_wp2_with fail
                refine KB.out.mono ?_
                rintro e _ ⟨rfl, rfl⟩
                clear KB
                go_wp2
                go_meet
                case rel => exact ⟨X, Y, H1, H2, H3, G2, Zg, Cg, B⟩
              · have hz' : (eg == 0) = false := beq_eq_false_iff_ne.2 hz
                go_wp2
                go_meet
                case rel => exact ⟨X, Y, H1, H2, H3, G2, Zg, Cg, B⟩
            case rest =>
              clear X Y H1 H2 H3 G2 Zg Cg B
              obtain ⟨X, Y, H1, H2, H3, G2, Zg, Cg, B⟩ := hcut
              generalize wc = w18 at *
              have KD := api.deca H3.out hc3 hm3 (by omega)
              unfold DecAPost at KD
              have KD2 := Kept.mk KD
              clear KD
              go_wp2_with fail
              refine KD2.out.mono ?_
              rintro e w19 ⟨eh, th, sh, Ah, nh, ch, lh, Dh, mh, dh, vh, rfl, hch, hmh, hdh, heh, rr, rv, ok, dd, bb⟩
              replace X := Kept.mk (X.out.below bb X.out.lt); replace Y := Kept.mk (Y.out.below bb Y.out.lt); replace H1 := Kept.mk (H1.out.below bb); replace H2 := Kept.mk (H2.out.below bb); replace H3 := Kept.mk (H3.out.below bb); replace G2 := Kept.mk (G2.out.below bb); replace B := Kept.mk (B.out.trans (bb.mono B.out.size))
              have Zh := Kept.mk rr; have OKh := Kept.mk ok; have DDh := Kept.mk dd
              have ZVh := Kept.mk rv
              clear rr ok dd bb KD2 rv
              go_upto_region 21 with (fail)
              have bb : Below w19.heap.size w19 (w19.alloc (.cells #[.int .i64 th, .int .i64 sh, .slice Ah nh ch, .slice Dh mh dh] 39)) := (Below.refl _ _).alloc (Nat.le_refl _) _
              have Ch : Kept (Blk (w19.alloc (.cells #[.int .i64 th, .int .i64 sh, .slice Ah nh ch, .slice Dh mh dh] 39)) w19.heap.size 39 #[.int .i64 th, .int .i64 sh, .slice Ah nh ch, .slice Dh mh dh]) := ⟨Blk.new _ _ _⟩
              replace X := Kept.mk (X.out.below bb X.out.lt); replace Y := Kept.mk (Y.out.below bb Y.out.lt); replace H1 := Kept.mk (H1.out.below bb); replace H2 := Kept.mk (H2.out.below bb); replace H3 := Kept.mk (H3.out.below bb); replace G2 := Kept.mk (G2.out.below bb); replace Zh := Kept.mk (Zh.out.below bb); replace ZVh := Kept.mk (ZVh.out.below bb); replace B := Kept.mk (B.out.trans (bb.mono B.out.size))
              clear bb
              generalize w19.alloc (.cells #[.int .i64 th, .int .i64 sh, .slice Ah nh ch, .slice Dh mh dh] 39) = w20 at *
              generalize w19.heap.size = Nh at *
              go_upto_if 105 with (fail)
              go_cut [21, 22] from 106 to 119 (fun _ _ wx => Kept (Blk wx N 24 #[.int .i64 s1, .slice A1 n1 c1]) ∧ Kept (Blk wx (N + 1) 39 #[.int .i64 t2, .int .i64 s2, .slice A2 n2 c2, .slice D2 m2 e2]) ∧ Kept (Rr wx A1 n1 l1) ∧ Kept (Rp wx A2 n2 l2) ∧ Kept (Rd wx A3 n3 bs) ∧ Kept (Rv wx D2 m2 u2) ∧ Kept (Rp wx Ah nh lh) ∧ Kept (Rv wx Dh mh vh) ∧ Kept (Blk wx Nh 39 #[.int .i64 th, .int .i64 sh, .slice Ah nh ch, .slice Dh mh dh]) ∧ Kept (Below w.heap.size w wx))
              case first =>
                by_cases hz : eh = 0
                · subst hz
                  have EB : Kept (encA ⟨th, sh, lh, vh⟩ = (0, bs)) := ⟨by
                    rcases DDh.out with ⟨-, h⟩ | ⟨h, -⟩
                    · exact h
                    · cases h⟩
                  have hlh := DDh.out.len
                  have nl := Zh.out.1; have ml := ZVh.out.1
                  have u0 := Ch.out.cell 0; have u1 := Ch.out.cell 1; have u2 := Ch.out.cell 2; have u3 := Ch.out.cell 3
                  have KE := api.enca th sh Zh.out ZVh.out hch hmh hdh heh (by have := hlh.1; dsimp only at this; omega) (by have := hlh.2.1; dsimp only at this; omega) OKh.out hlh.2.2
                  rw [EB.out] at KE
                  unfold EncPost at KE
                  have KE2 := Kept.mk KE
                  clear KE hlh nl ml
                  go_wp2_with fail
                  refine KE2.out.mono ?_
                  rintro e w21 ⟨P9, p9, k9, rfl, hk9, hm9, rr, bb⟩
                  (try dsimp only at rr)
                  replace X := Kept.mk (X.out.below bb X.out.lt); replace Y := Kept.mk (Y.out.below bb Y.out.lt); replace H1 := Kept.mk (H1.out.below bb); replace H2 := Kept.mk (H2.out.below bb); replace H3 := Kept.mk (H3.out.below bb); replace G2 := Kept.mk (G2.out.below bb); replace Zh := Kept.mk (Zh.out.below bb); replace ZVh := Kept.mk (ZVh.out.below bb); replace Ch := Kept.mk (Ch.out.below bb Ch.out.lt); replace B := Kept.mk (B.out.trans (bb.mono B.out.size))
                  have KB := Kept.mk (bytes_same P9 A3 p9 n3 k9 c3 bs _ rr H3.out)
                  clear rr bb KE2 u0 u1 u2 u3
                  go_wp2_with fail
                  refine KB.out.mono ?_
                  rintro e _ ⟨rfl, rfl⟩
                  clear KB
                  go_wp2
                  go_meet
                  case rel => exact ⟨X, Y, H1, H2, H3, G2, Zh, ZVh, Ch, B⟩
                · have hz' : (eh == 0) = false := beq_eq_false_iff_ne.2 hz
                  go_wp2
                  go_meet
                  case rel => exact ⟨X, Y, H1, H2, H3, G2, Zh, ZVh, Ch, B⟩
              case rest =>
                clear X Y H1 H2 H3 G2 Zh ZVh Ch B
                obtain ⟨X, Y, H1, H2, H3, G2, Zh, ZVh, Ch, B⟩ := hcut
                generalize wc = w22 at *
                go_wp2_with fail
                refine (first_any api _).mono ?_
                rintro e w23 ⟨rfl, bb⟩
                replace X := Kept.mk (X.out.below bb X.out.lt); replace Y := Kept.mk (Y.out.below bb Y.out.lt); replace H1 := Kept.mk (H1.out.below bb); replace H2 := Kept.mk (H2.out.below bb); replace H3 := Kept.mk (H3.out.below bb); replace G2 := Kept.mk (G2.out.below bb); replace Zh := Kept.mk (Zh.out.below bb); replace ZVh := Kept.mk (ZVh.out.below bb); replace Ch := Kept.mk (Ch.out.below bb Ch.out.lt); replace B := Kept.mk (B.out.trans (bb.mono B.out.size))
                clear bb
                go_wp2
                go_ret
                exact ⟨rfl, B.out⟩
end Go.Proofs.Ytcafffnkkjnpbaa.Req
