/-
  The law ReqAnswers, walked over contracts.
-/
import Derived.Test.YtcafffnkkjnpbaaPart10
import Derived.Test.YtcafffnkkjnpbaaPart18
import Derived.Test.YtcafffnkkjnpbaaPart11
namespace Go.Proofs.Ytcafffnkkjnpbaa.Req
open Go.RowKit Go.Proofs.Ytcafffnkkjnpbaa.Sha Go.Proofs.Ytcafffnkkjnpbaa.Wire
--PLAINHI
set_option maxRecDepth 100000 in
set_option maxHeartbeats 4000000 in
theorem reqanswers_walk (api : ReqApi) (t1 s1 : Int) (A1 : Option Addr) (n1 c1 : Nat) (l1 : List PV) (D1 : Option Addr) (m1 e1 : Nat) (v1 : List VV) (t2 s2 : Int) (A2 : Option Addr) (n2 c2 : Nat) (l2 : List PV) (D2 : Option Addr) (m2 e2 : Nat) (v2 : List VV) (A3 : Option Addr) (n3 c3 : Nat) (bs : List Int) (w : World) (h1 : Rp w A1 n1 l1) (g1 : Rv w D1 m1 v1) (hc1 : n1 ≤ c1) (hm1 : c1 ≤ 9223372036854775807) (hd1 : m1 ≤ e1) (he1 : e1 ≤ 9223372036854775807) (o1 : ∀ r ∈ v1, r.ok) (h2 : Rp w A2 n2 l2) (g2 : Rv w D2 m2 v2) (hc2 : n2 ≤ c2) (hm2 : c2 ≤ 9223372036854775807) (hd2 : m2 ≤ e2) (he2 : e2 ≤ 9223372036854775807) (o2 : ∀ r ∈ v2, r.ok) (h3 : Rd w A3 n3 bs) (hc3 : n3 ≤ c3) (hm3 : c3 ≤ 9223372036854775807) :
    Calls Try.prog 4 #[.agg #[.int .i64 t1, .int .i64 s1, .slice A1 n1 c1, .slice D1 m1 e1], .agg #[.int .i64 t2, .int .i64 s2, .slice A2 n2 c2, .slice D2 m2 e2], .slice A3 n3 c3] w (Yes w) := by
  obtain ⟨N, hN⟩ : ∃ N, w.heap.size = N := ⟨_, rfl⟩
  have X : Kept (Blk ((w.alloc (.cells #[.int .i64 t1, .int .i64 s1, .slice A1 n1 c1, .slice D1 m1 e1] 39)).alloc (.cells #[.int .i64 t2, .int .i64 s2, .slice A2 n2 c2, .slice D2 m2 e2] 39)) N 39 #[.int .i64 t1, .int .i64 s1, .slice A1 n1 c1, .slice D1 m1 e1]) := ⟨(Blk.new_at w _ _ N hN.symm).alloc _⟩
  have Y : Kept (Blk ((w.alloc (.cells #[.int .i64 t1, .int .i64 s1, .slice A1 n1 c1, .slice D1 m1 e1] 39)).alloc (.cells #[.int .i64 t2, .int .i64 s2, .slice A2 n2 c2, .slice D2 m2 e2] 39)) (N + 1) 39 #[.int .i64 t2, .int .i64 s2, .slice A2 n2 c2, .slice D2 m2 e2]) := ⟨Blk.new_at _ _ _ (N + 1) (by simp [hN])⟩
  have B : Kept (Below w.heap.size w ((w.alloc (.cells #[.int .i64 t1, .int .i64 s1, .slice A1 n1 c1, .slice D1 m1 e1] 39)).alloc (.cells #[.int .i64 t2, .int .i64 s2, .slice A2 n2 c2, .slice D2 m2 e2] 39))) := ⟨((Below.refl _ _).alloc (Nat.le_refl _) _).alloc (by simp) _⟩
  have H1 := Kept.mk (h1.below B.out); have H2 := Kept.mk (h2.below B.out); have H3 := Kept.mk (h3.below B.out)
  have G1 := Kept.mk (g1.below B.out); have G2 := Kept.mk (g2.below B.out)
  have O1 := Kept.mk o1; have O2 := Kept.mk o2
  clear h1 h2 h3 o1 o2 g1 g2
  go_enter Try.func4, Try.ntmps4
  go_upto_region 1 with (fail)
  generalize ((w.alloc (.cells #[.int .i64 t1, .int .i64 s1, .slice A1 n1 c1, .slice D1 m1 e1] 39)).alloc (.cells #[.int .i64 t2, .int .i64 s2, .slice A2 n2 c2, .slice D2 m2 e2] 39)) = w1 at *
  go_wp2_with fail
  refine (first_any api _).mono ?_
  rintro e w2 ⟨rfl, bb⟩
  replace X := Kept.mk (X.out.below bb X.out.lt); replace Y := Kept.mk (Y.out.below bb Y.out.lt); replace H1 := Kept.mk (H1.out.below bb); replace H2 := Kept.mk (H2.out.below bb); replace H3 := Kept.mk (H3.out.below bb); replace G1 := Kept.mk (G1.out.below bb); replace G2 := Kept.mk (G2.out.below bb); replace B := Kept.mk (B.out.trans (bb.mono B.out.size))
  clear bb
  have x0 := X.out.cell 0; have x1 := X.out.cell 1; have x2 := X.out.cell 2; have x3 := X.out.cell 3
  have KF := fewa_any t1 s1 A1 n1 c1 D1 m1 e1 v1 w2 G1.out (by omega)
  unfold FewPost at KF
  have KF2 := Kept.mk KF
  clear KF
  go_wp2_with fail
  refine KF2.out.mono ?_
  rintro e w3 ⟨t, rfl, ht, bb⟩
  replace X := Kept.mk (X.out.below bb X.out.lt); replace Y := Kept.mk (Y.out.below bb Y.out.lt); replace H1 := Kept.mk (H1.out.below bb); replace H2 := Kept.mk (H2.out.below bb); replace H3 := Kept.mk (H3.out.below bb); replace G1 := Kept.mk (G1.out.below bb); replace G2 := Kept.mk (G2.out.below bb); replace B := Kept.mk (B.out.trans (bb.mono B.out.size))
  have Q1 := Kept.mk ht
  clear bb ht KF2 x0 x1 x2 x3
  cases t with
  | false =>
    go_wp2_with fail
    refine (first_any api _).mono ?_
    rintro e w4 ⟨rfl, bb⟩
    replace X := Kept.mk (X.out.below bb X.out.lt); replace Y := Kept.mk (Y.out.below bb Y.out.lt); replace H1 := Kept.mk (H1.out.below bb); replace H2 := Kept.mk (H2.out.below bb); replace H3 := Kept.mk (H3.out.below bb); replace G1 := Kept.mk (G1.out.below bb); replace G2 := Kept.mk (G2.out.below bb); replace B := Kept.mk (B.out.trans (bb.mono B.out.size))
    clear bb
    go_wp2
    go_ret
    exact ⟨rfl, B.out⟩
  | true =>
    obtain ⟨fep1, few1, sm1⟩ := Q1.out rfl
    have S1 := Kept.mk sm1
    clear sm1
    have y0 := Y.out.cell 0; have y1 := Y.out.cell 1; have y2 := Y.out.cell 2; have y3 := Y.out.cell 3
    have KF := fewa_any t2 s2 A2 n2 c2 D2 m2 e2 v2 w3 G2.out (by omega)
    unfold FewPost at KF
    have KF2 := Kept.mk KF
    clear KF
    go_wp2_with fail
    refine KF2.out.mono ?_
    rintro e w4 ⟨t, rfl, ht, bb⟩
    replace X := Kept.mk (X.out.below bb X.out.lt); replace Y := Kept.mk (Y.out.below bb Y.out.lt); replace H1 := Kept.mk (H1.out.below bb); replace H2 := Kept.mk (H2.out.below bb); replace H3 := Kept.mk (H3.out.below bb); replace G1 := Kept.mk (G1.out.below bb); replace G2 := Kept.mk (G2.out.below bb); replace B := Kept.mk (B.out.trans (bb.mono B.out.size))
    have Q2 := Kept.mk ht
    clear bb ht KF2 y0 y1 y2 y3
    cases t with
    | false =>
      go_wp2_with fail
      refine (first_any api _).mono ?_
      rintro e w5 ⟨rfl, bb⟩
      replace X := Kept.mk (X.out.below bb X.out.lt); replace Y := Kept.mk (Y.out.below bb Y.out.lt); replace H1 := Kept.mk (H1.out.below bb); replace H2 := Kept.mk (H2.out.below bb); replace H3 := Kept.mk (H3.out.below bb); replace G1 := Kept.mk (G1.out.below bb); replace G2 := Kept.mk (G2.out.below bb); replace B := Kept.mk (B.out.trans (bb.mono B.out.size))
      clear bb
      go_wp2
      go_ret
      exact ⟨rfl, B.out⟩
    | true =>
      obtain ⟨fep2, few2, sm2⟩ := Q2.out rfl
      have S2 := Kept.mk sm2
      clear sm2
      by_cases hb : 40000 < n3
      · have hb' : (40000 : Int) < n3 := by omega
        go_wp2_with fail
        refine (first_any api _).mono ?_
        rintro e w5 ⟨rfl, bb⟩
        replace X := Kept.mk (X.out.below bb X.out.lt); replace Y := Kept.mk (Y.out.below bb Y.out.lt); replace H1 := Kept.mk (H1.out.below bb); replace H2 := Kept.mk (H2.out.below bb); replace H3 := Kept.mk (H3.out.below bb); replace G1 := Kept.mk (G1.out.below bb); replace G2 := Kept.mk (G2.out.below bb); replace B := Kept.mk (B.out.trans (bb.mono B.out.size))
        clear bb
        go_wp2
        go_ret
        exact ⟨rfl, B.out⟩
      · have hb' : ¬ (40000 : Int) < n3 := by omega
        obtain ⟨R, hR⟩ : ∃ R, encA ⟨t1, s1, l1, v1⟩ = R := ⟨_, rfl⟩
        have x0 := X.out.cell 0; have x1 := X.out.cell 1; have x2 := X.out.cell 2; have x3 := X.out.cell 3
        have KE := api.enca t1 s1 H1.out G1.out hc1 hm1 hd1 he1 (by omega) (by omega) O1.out S1.out
        rw [hR] at KE
        unfold EncPost at KE
        have KE2 := Kept.mk KE
        clear KE
        go_wp2_with fail
        refine KE2.out.mono ?_
        rintro e w5 ⟨AP, nP, cP, rfl, -, -, r, bb⟩
        replace X := Kept.mk (X.out.below bb X.out.lt); replace Y := Kept.mk (Y.out.below bb Y.out.lt); replace H1 := Kept.mk (H1.out.below bb); replace H2 := Kept.mk (H2.out.below bb); replace H3 := Kept.mk (H3.out.below bb); replace G1 := Kept.mk (G1.out.below bb); replace G2 := Kept.mk (G2.out.below bb); replace B := Kept.mk (B.out.trans (bb.mono B.out.size))
        have RP := Kept.mk r
        clear r bb KE2 x0 x1 x2 x3
        have x0 := X.out.cell 0; have x1 := X.out.cell 1; have x2 := X.out.cell 2; have x3 := X.out.cell 3
        have KE := renca_any t1 s1 A1 n1 c1 l1 D1 m1 e1 v1 w5 H1.out G1.out O1.out (by omega) (by omega)
        rw [hR] at KE
        unfold EncPost at KE
        have KE2 := Kept.mk KE
        clear KE
        go_wp2_with fail
        refine KE2.out.mono ?_
        rintro e w6 ⟨AQ, nQ, cQ, rfl, -, -, r, bb⟩
        replace X := Kept.mk (X.out.below bb X.out.lt); replace Y := Kept.mk (Y.out.below bb Y.out.lt); replace H1 := Kept.mk (H1.out.below bb); replace H2 := Kept.mk (H2.out.below bb); replace H3 := Kept.mk (H3.out.below bb); replace G1 := Kept.mk (G1.out.below bb); replace G2 := Kept.mk (G2.out.below bb); replace RP := Kept.mk (RP.out.below bb); replace B := Kept.mk (B.out.trans (bb.mono B.out.size))
        have RQ := Kept.mk r
        clear r bb KE2 x0 x1 x2 x3
        clear hR
        have KD := api.deca H3.out hc3 hm3 (by omega)
        unfold DecAPost at KD
        have KD2 := Kept.mk KD
        clear KD
        go_wp2_with fail
        refine KD2.out.mono ?_
        rintro e w7 ⟨eU, tU, sU, AU, nU, cU, lU, DU, mU, dU, vU, rfl, hcU, hmU, hdU, heU, rr, rv, ok, dd, bb⟩
        replace X := Kept.mk (X.out.below bb X.out.lt); replace Y := Kept.mk (Y.out.below bb Y.out.lt); replace H1 := Kept.mk (H1.out.below bb); replace H2 := Kept.mk (H2.out.below bb); replace H3 := Kept.mk (H3.out.below bb); replace G1 := Kept.mk (G1.out.below bb); replace G2 := Kept.mk (G2.out.below bb); replace RP := Kept.mk (RP.out.below bb); replace RQ := Kept.mk (RQ.out.below bb); replace B := Kept.mk (B.out.trans (bb.mono B.out.size))
        have ZU := Kept.mk rr; have OKU := Kept.mk ok; have DDU := Kept.mk dd
        have ZVU := Kept.mk rv
        clear rr ok dd bb KD2 rv
        go_upto_region 8 with (fail)
        have bb : Below w7.heap.size w7 (w7.alloc (.cells #[.int .i64 tU, .int .i64 sU, .slice AU nU cU, .slice DU mU dU] 39)) := (Below.refl _ _).alloc (Nat.le_refl _) _
        have CU : Kept (Blk (w7.alloc (.cells #[.int .i64 tU, .int .i64 sU, .slice AU nU cU, .slice DU mU dU] 39)) w7.heap.size 39 #[.int .i64 tU, .int .i64 sU, .slice AU nU cU, .slice DU mU dU]) := ⟨Blk.new _ _ _⟩
        replace X := Kept.mk (X.out.below bb X.out.lt); replace Y := Kept.mk (Y.out.below bb Y.out.lt); replace H1 := Kept.mk (H1.out.below bb); replace H2 := Kept.mk (H2.out.below bb); replace H3 := Kept.mk (H3.out.below bb); replace G1 := Kept.mk (G1.out.below bb); replace G2 := Kept.mk (G2.out.below bb); replace RP := Kept.mk (RP.out.below bb); replace RQ := Kept.mk (RQ.out.below bb); replace ZU := Kept.mk (ZU.out.below bb); replace ZVU := Kept.mk (ZVU.out.below bb); replace B := Kept.mk (B.out.trans (bb.mono B.out.size))
        clear bb
        generalize w7.alloc (.cells #[.int .i64 tU, .int .i64 sU, .slice AU nU cU, .slice DU mU dU] 39) = w8 at *
        generalize w7.heap.size = NU at *
        have KD := rdeca_any A3 n3 c3 bs w8 H3.out hc3 hm3 (by omega)
        unfold DecAPost at KD
        have KD2 := Kept.mk KD
        clear KD
        go_wp2_with fail
        refine KD2.out.mono ?_
        rintro e w9 ⟨eV, tV, sV, AV, nV, cV, lV, DV, mV, dV, vV, rfl, hcV, hmV, hdV, heV, rr, rv, ok, dd, bb⟩
        replace X := Kept.mk (X.out.below bb X.out.lt); replace Y := Kept.mk (Y.out.below bb Y.out.lt); replace H1 := Kept.mk (H1.out.below bb); replace H2 := Kept.mk (H2.out.below bb); replace H3 := Kept.mk (H3.out.below bb); replace G1 := Kept.mk (G1.out.below bb); replace G2 := Kept.mk (G2.out.below bb); replace RP := Kept.mk (RP.out.below bb); replace RQ := Kept.mk (RQ.out.below bb); replace ZU := Kept.mk (ZU.out.below bb); replace ZVU := Kept.mk (ZVU.out.below bb); replace CU := Kept.mk (CU.out.below bb CU.out.lt); replace B := Kept.mk (B.out.trans (bb.mono B.out.size))
        have ZV := Kept.mk rr; have OKV := Kept.mk ok; have DDV := Kept.mk dd
        have ZVV := Kept.mk rv
        clear rr ok dd bb KD2 rv
        go_upto_region 9 with (fail)
        have bb : Below w9.heap.size w9 (w9.alloc (.cells #[.int .i64 tV, .int .i64 sV, .slice AV nV cV, .slice DV mV dV] 39)) := (Below.refl _ _).alloc (Nat.le_refl _) _
        have CV : Kept (Blk (w9.alloc (.cells #[.int .i64 tV, .int .i64 sV, .slice AV nV cV, .slice DV mV dV] 39)) w9.heap.size 39 #[.int .i64 tV, .int .i64 sV, .slice AV nV cV, .slice DV mV dV]) := ⟨Blk.new _ _ _⟩
        replace X := Kept.mk (X.out.below bb X.out.lt); replace Y := Kept.mk (Y.out.below bb Y.out.lt); replace H1 := Kept.mk (H1.out.below bb); replace H2 := Kept.mk (H2.out.below bb); replace H3 := Kept.mk (H3.out.below bb); replace G1 := Kept.mk (G1.out.below bb); replace G2 := Kept.mk (G2.out.below bb); replace RP := Kept.mk (RP.out.below bb); replace RQ := Kept.mk (RQ.out.below bb); replace ZU := Kept.mk (ZU.out.below bb); replace ZVU := Kept.mk (ZVU.out.below bb); replace CU := Kept.mk (CU.out.below bb CU.out.lt); replace ZV := Kept.mk (ZV.out.below bb); replace ZVV := Kept.mk (ZVV.out.below bb); replace B := Kept.mk (B.out.trans (bb.mono B.out.size))
        clear bb
        generalize w9.alloc (.cells #[.int .i64 tV, .int .i64 sV, .slice AV nV cV, .slice DV mV dV] 39) = w10 at *
        generalize w9.heap.size = NV at *
        obtain ⟨he1', he2'⟩ := DDU.out.one DDV.out
        subst he1'
        injection he2' with ht hs hl hv
        subst ht hs hl hv
        have LU := DDU.out.len
        have nUl := ZU.out.1; have nVl := ZV.out.1; have mUl := ZVU.out.1; have mVl := ZVV.out.1
        have HS : Kept (∀ w', Below w10.heap.size w10 w' → w'.cell? ⟨N, 0, none⟩ = some (.int .i64 t1) ∧ w'.cell? ⟨N, 1, none⟩ = some (.int .i64 s1) ∧ w'.cell? ⟨N, 2, none⟩ = some (.slice A1 n1 c1) ∧ w'.cell? ⟨N, 3, none⟩ = some (.slice D1 m1 e1) ∧ w'.cell? ⟨N + 1, 0, none⟩ = some (.int .i64 t2) ∧ w'.cell? ⟨N + 1, 1, none⟩ = some (.int .i64 s2) ∧ w'.cell? ⟨N + 1, 2, none⟩ = some (.slice A2 n2 c2) ∧ w'.cell? ⟨N + 1, 3, none⟩ = some (.slice D2 m2 e2) ∧ w'.cell? ⟨NU, 0, none⟩ = some (.int .i64 tU) ∧ w'.cell? ⟨NU, 1, none⟩ = some (.int .i64 sU) ∧ w'.cell? ⟨NU, 2, none⟩ = some (.slice AU nU cU) ∧ w'.cell? ⟨NU, 3, none⟩ = some (.slice DU mU dU) ∧ w'.cell? ⟨NV, 0, none⟩ = some (.int .i64 tU) ∧ w'.cell? ⟨NV, 1, none⟩ = some (.int .i64 sU) ∧ w'.cell? ⟨NV, 2, none⟩ = some (.slice AV nV cV) ∧ w'.cell? ⟨NV, 3, none⟩ = some (.slice DV mV dV)) := ⟨fun w' bb => by
          have h1 := X.out.below bb X.out.lt; have h2 := Y.out.below bb Y.out.lt; have h3 := CU.out.below bb CU.out.lt; have h4 := CV.out.below bb CV.out.lt
          exact ⟨h1.cell 0, h1.cell 1, h1.cell 2, h1.cell 3, h2.cell 0, h2.cell 1, h2.cell 2, h2.cell 3, h3.cell 0, h3.cell 1, h3.cell 2, h3.cell 3, h4.cell 0, h4.cell 1, h4.cell 2, h4.cell 3⟩⟩
        refine wp_region_noPanic ?_
        refine wp_region_held_drew (S := fun w' : World => w'.cell? ⟨N, 0, none⟩ = some (.int .i64 t1) ∧ w'.cell? ⟨N, 1, none⟩ = some (.int .i64 s1) ∧ w'.cell? ⟨N, 2, none⟩ = some (.slice A1 n1 c1) ∧ w'.cell? ⟨N, 3, none⟩ = some (.slice D1 m1 e1) ∧ w'.cell? ⟨N + 1, 0, none⟩ = some (.int .i64 t2) ∧ w'.cell? ⟨N + 1, 1, none⟩ = some (.int .i64 s2) ∧ w'.cell? ⟨N + 1, 2, none⟩ = some (.slice A2 n2 c2) ∧ w'.cell? ⟨N + 1, 3, none⟩ = some (.slice D2 m2 e2) ∧ w'.cell? ⟨NU, 0, none⟩ = some (.int .i64 tU) ∧ w'.cell? ⟨NU, 1, none⟩ = some (.int .i64 sU) ∧ w'.cell? ⟨NU, 2, none⟩ = some (.slice AU nU cU) ∧ w'.cell? ⟨NU, 3, none⟩ = some (.slice DU mU dU) ∧ w'.cell? ⟨NV, 0, none⟩ = some (.int .i64 tU) ∧ w'.cell? ⟨NV, 1, none⟩ = some (.int .i64 sU) ∧ w'.cell? ⟨NV, 2, none⟩ = some (.slice AV nV cV) ∧ w'.cell? ⟨NV, 3, none⟩ = some (.slice DV mV dV)) (by kernel_rfl) (HS.out _ (Below.refl _ _).drew) (fun hHeld => ?_)
        have BW : Kept (Below w10.heap.size w10 w10.drew) := ⟨(Below.refl _ _).drew⟩
        replace X := Kept.mk (X.out.below BW.out X.out.lt); replace Y := Kept.mk (Y.out.below BW.out Y.out.lt); replace H1 := Kept.mk (H1.out.below BW.out); replace H2 := Kept.mk (H2.out.below BW.out); replace H3 := Kept.mk (H3.out.below BW.out); replace G1 := Kept.mk (G1.out.below BW.out); replace G2 := Kept.mk (G2.out.below BW.out); replace RP := Kept.mk (RP.out.below BW.out); replace RQ := Kept.mk (RQ.out.below BW.out); replace ZU := Kept.mk (ZU.out.below BW.out); replace ZVU := Kept.mk (ZVU.out.below BW.out); replace CU := Kept.mk (CU.out.below BW.out CU.out.lt); replace ZV := Kept.mk (ZV.out.below BW.out); replace ZVV := Kept.mk (ZVV.out.below BW.out); replace CV := Kept.mk (CV.out.below BW.out CV.out.lt); replace B := Kept.mk (B.out.trans (BW.out.mono B.out.size))
        generalize w10.drew = w11 at *
        refine wpAnyH_ready (rs := [0]) (by kernel_rfl) (by simp) ?_
        refine AllReadyH.cons (o := ?o177) ?hi177 (fun K hK => ?_) AllReadyH.nil
        case hi177 => (simp only [List.getElem?_toArray]; exact rfl)
        go_simp
        go_at_call 9
        refine (first_any api _).mono ?_
        rintro e w12 ⟨rfl, bb⟩
        clear hHeld
        replace X := Kept.mk (X.out.below bb X.out.lt); replace Y := Kept.mk (Y.out.below bb Y.out.lt); replace H1 := Kept.mk (H1.out.below bb); replace H2 := Kept.mk (H2.out.below bb); replace H3 := Kept.mk (H3.out.below bb); replace G1 := Kept.mk (G1.out.below bb); replace G2 := Kept.mk (G2.out.below bb); replace RP := Kept.mk (RP.out.below bb); replace RQ := Kept.mk (RQ.out.below bb); replace ZU := Kept.mk (ZU.out.below bb); replace ZVU := Kept.mk (ZVU.out.below bb); replace CU := Kept.mk (CU.out.below bb CU.out.lt); replace ZV := Kept.mk (ZV.out.below bb); replace ZVV := Kept.mk (ZVV.out.below bb); replace CV := Kept.mk (CV.out.below bb CV.out.lt); replace B := Kept.mk (B.out.trans (bb.mono B.out.size))
        replace BW := Kept.mk (BW.out.trans (bb.mono BW.out.size))
        refine hK.out _ _ (HS.out _ BW.out) (fun hHeld => ?_)
        clear hK K bb
        try simp only [Act.put, List.setIfInBounds_toArray, List.set_cons_zero, List.set_cons_succ]
        refine wpAnyH_take (i := 1) (oi := ?o151) (v := ?v151) ?hi151 (by kernel_rfl) (by kernel_rfl) (by kernel_rfl) ?hq151 (Or.inl ⟨?hw151, ?hy151⟩) (by assumption) ?r151
        case hi151 => (simp only [List.getElem?_toArray]; exact rfl)
        case hq151 => exact fun _ _ _ h => h
        case hw151 => rfl
        case hy151 => (intro w hSw; (try dsimp only at hSw); go_simp; try exact rfl)
        simp only [Act.put, List.setIfInBounds_toArray, List.set_cons_zero, List.set_cons_succ]
        refine wpAnyH_take (i := 2) (oi := ?o152) (v := ?v152) ?hi152 (by kernel_rfl) (by kernel_rfl) (by kernel_rfl) ?hq152 (Or.inl ⟨?hw152, ?hy152⟩) (by assumption) ?r152
        case hi152 => (simp only [List.getElem?_toArray]; exact rfl)
        case hq152 => exact fun _ _ _ h => h
        case hw152 => rfl
        case hy152 => (intro w hSw; (try dsimp only at hSw); go_simp; try exact rfl)
        simp only [Act.put, List.setIfInBounds_toArray, List.set_cons_zero, List.set_cons_succ]
        refine wpAnyH_take (i := 3) (oi := ?o153) (v := ?v153) ?hi153 (by kernel_rfl) (by kernel_rfl) (by kernel_rfl) ?hq153 (Or.inl ⟨?hw153, ?hy153⟩) (by assumption) ?r153
        case hi153 => (simp only [List.getElem?_toArray]; exact rfl)
        case hq153 => exact fun _ _ _ h => h
        case hw153 => rfl
        case hy153 => (intro w hSw; (try dsimp only at hSw); go_simp; try exact rfl)
        simp only [Act.put, List.setIfInBounds_toArray, List.set_cons_zero, List.set_cons_succ]
        refine wpAnyH_ready (rs := [4]) (by kernel_rfl) (by simp) ?_
        refine AllReadyH.cons (o := ?o178) ?hi178 (fun K hK => ?_) AllReadyH.nil
        case hi178 => (simp only [List.getElem?_toArray]; exact rfl)
        go_simp
        go_at_call 15
        refine (bytes_same AP AQ nP nQ cP cQ _ _ RP.out RQ.out).mono ?_
        rintro e _ ⟨rfl, rfl⟩
        refine hK.out _ _ hHeld (fun hHeld => ?_)
        clear hK K
        try simp only [Act.put, List.setIfInBounds_toArray, List.set_cons_zero, List.set_cons_succ]
        refine wpAnyH_take (i := 5) (oi := ?o154) (v := ?v154) ?hi154 (by kernel_rfl) (by kernel_rfl) (by kernel_rfl) ?hq154 (Or.inl ⟨?hw154, ?hy154⟩) (by assumption) ?r154
        case hi154 => (simp only [List.getElem?_toArray]; exact rfl)
        case hq154 => exact fun _ _ _ h => h
        case hw154 => rfl
        case hy154 => (intro w hSw; (try dsimp only at hSw); go_simp; try exact rfl)
        simp only [Act.put, List.setIfInBounds_toArray, List.set_cons_zero, List.set_cons_succ]
        refine wpAnyH_take (i := 6) (oi := ?o155) (v := ?v155) ?hi155 (by kernel_rfl) (by kernel_rfl) (by kernel_rfl) ?hq155 (Or.inl ⟨?hw155, ?hy155⟩) (by assumption) ?r155
        case hi155 => (simp only [List.getElem?_toArray]; exact rfl)
        case hq155 => exact fun _ _ _ h => h
        case hw155 => rfl
        case hy155 => (intro w hSw; (try dsimp only at hSw); go_simp; try exact rfl)
        simp only [Act.put, List.setIfInBounds_toArray, List.set_cons_zero, List.set_cons_succ]
        refine wpAnyH_take (i := 7) (oi := ?o156) (v := ?v156) ?hi156 (by kernel_rfl) (by kernel_rfl) (by kernel_rfl) ?hq156 (Or.inl ⟨?hw156, ?hy156⟩) (by assumption) ?r156
        case hi156 => (simp only [List.getElem?_toArray]; exact rfl)
        case hq156 => exact fun _ _ _ h => h
        case hw156 => rfl
        case hy156 => (intro w hSw; (try dsimp only at hSw); go_simp; try exact rfl)
        simp only [Act.put, List.setIfInBounds_toArray, List.set_cons_zero, List.set_cons_succ]
        refine wpAnyH_take (i := 8) (oi := ?o157) (v := ?v157) ?hi157 (by kernel_rfl) (by kernel_rfl) (by kernel_rfl) ?hq157 (Or.inl ⟨?hw157, ?hy157⟩) (by assumption) ?r157
        case hi157 => (simp only [List.getElem?_toArray]; exact rfl)
        case hq157 => exact fun _ _ _ h => h
        case hw157 => rfl
        case hy157 => (intro w hSw; (try dsimp only at hSw); go_simp; try exact rfl)
        simp only [Act.put, List.setIfInBounds_toArray, List.set_cons_zero, List.set_cons_succ]
        refine wpAnyH_take (i := 9) (oi := ?o158) (v := ?v158) ?hi158 (by kernel_rfl) (by kernel_rfl) (by kernel_rfl) ?hq158 (Or.inl ⟨?hw158, ?hy158⟩) (by assumption) ?r158
        case hi158 => (simp only [List.getElem?_toArray]; exact rfl)
        case hq158 => exact fun _ _ _ h => h
        case hw158 => rfl
        case hy158 => (intro w hSw; (try dsimp only at hSw); go_simp; try exact rfl)
        simp only [Act.put, List.setIfInBounds_toArray, List.set_cons_zero, List.set_cons_succ]
        refine wpAnyH_take (i := 10) (oi := ?o159) (v := ?v159) ?hi159 (by kernel_rfl) (by kernel_rfl) (by kernel_rfl) ?hq159 (Or.inl ⟨?hw159, ?hy159⟩) (by assumption) ?r159
        case hi159 => (simp only [List.getElem?_toArray]; exact rfl)
        case hq159 => exact fun _ _ _ h => h
        case hw159 => rfl
        case hy159 => (intro w hSw; (try dsimp only at hSw); go_simp; try exact rfl)
        simp only [Act.put, List.setIfInBounds_toArray, List.set_cons_zero, List.set_cons_succ]
        refine wpAnyH_take (i := 11) (oi := ?o160) (v := ?v160) ?hi160 (by kernel_rfl) (by kernel_rfl) (by kernel_rfl) ?hq160 (Or.inl ⟨?hw160, ?hy160⟩) (by assumption) ?r160
        case hi160 => (simp only [List.getElem?_toArray]; exact rfl)
        case hq160 => exact fun _ _ _ h => h
        case hw160 => rfl
        case hy160 => (intro w hSw; (try dsimp only at hSw); go_simp; try exact rfl)
        simp only [Act.put, List.setIfInBounds_toArray, List.set_cons_zero, List.set_cons_succ]
        refine wpAnyH_take (i := 12) (oi := ?o161) (v := ?v161) ?hi161 (by kernel_rfl) (by kernel_rfl) (by kernel_rfl) ?hq161 (Or.inl ⟨?hw161, ?hy161⟩) (by assumption) ?r161
        case hi161 => (simp only [List.getElem?_toArray]; exact rfl)
        case hq161 => exact fun _ _ _ h => h
        case hw161 => rfl
        case hy161 => (intro w hSw; (try dsimp only at hSw); go_simp; try exact rfl)
        simp only [Act.put, List.setIfInBounds_toArray, List.set_cons_zero, List.set_cons_succ]
        refine wpAnyH_take (i := 13) (oi := ?o162) (v := ?v162) ?hi162 (by kernel_rfl) (by kernel_rfl) (by kernel_rfl) ?hq162 (Or.inl ⟨?hw162, ?hy162⟩) (by assumption) ?r162
        case hi162 => (simp only [List.getElem?_toArray]; exact rfl)
        case hq162 => exact fun _ _ _ h => h
        case hw162 => rfl
        case hy162 => (intro w hSw; (try dsimp only at hSw); go_simp; try exact rfl)
        simp only [Act.put, List.setIfInBounds_toArray, List.set_cons_zero, List.set_cons_succ]
        refine wpAnyH_ready (rs := [14]) (by kernel_rfl) (by simp) ?_
        refine AllReadyH.cons (o := ?o179) ?hi179 (fun K hK => ?_) AllReadyH.nil
        case hi179 => (simp only [List.getElem?_toArray]; exact rfl)
        go_simp
        have KS := rsamea_any tU sU AU nU cU lU DU mU dU vU tU sU AV nV cV lU DV mV dV vU _ ZU.out ZV.out ZVU.out ZVV.out (by omega) (by omega) OKU.out OKV.out
        unfold SamePost at KS
        go_at_call 23
        refine KS.mono ?_
        rintro e w13 ⟨q, rfl, hq, bb⟩
        obtain rfl : q = true := hq.2 rfl
        clear hHeld
        replace X := Kept.mk (X.out.below bb X.out.lt); replace Y := Kept.mk (Y.out.below bb Y.out.lt); replace H1 := Kept.mk (H1.out.below bb); replace H2 := Kept.mk (H2.out.below bb); replace H3 := Kept.mk (H3.out.below bb); replace G1 := Kept.mk (G1.out.below bb); replace G2 := Kept.mk (G2.out.below bb); replace RP := Kept.mk (RP.out.below bb); replace RQ := Kept.mk (RQ.out.below bb); replace ZU := Kept.mk (ZU.out.below bb); replace ZVU := Kept.mk (ZVU.out.below bb); replace CU := Kept.mk (CU.out.below bb CU.out.lt); replace ZV := Kept.mk (ZV.out.below bb); replace ZVV := Kept.mk (ZVV.out.below bb); replace CV := Kept.mk (CV.out.below bb CV.out.lt); replace B := Kept.mk (B.out.trans (bb.mono B.out.size))
        replace BW := Kept.mk (BW.out.trans (bb.mono BW.out.size))
        refine hK.out _ _ (HS.out _ BW.out) (fun hHeld => ?_)
        clear hK K bb KS hq
        try simp only [Act.put, List.setIfInBounds_toArray, List.set_cons_zero, List.set_cons_succ]
        refine wpAnyH_take (i := 15) (oi := ?o163) (v := ?v163) ?hi163 (by kernel_rfl) (by kernel_rfl) (by kernel_rfl) ?hq163 (Or.inl ⟨?hw163, ?hy163⟩) (by assumption) ?r163
        case hi163 => (simp only [List.getElem?_toArray]; exact rfl)
        case hq163 => exact fun _ _ _ h => h
        case hw163 => rfl
        case hy163 => (intro w hSw; (try dsimp only at hSw); go_simp; try exact rfl)
        simp only [Act.put, List.setIfInBounds_toArray, List.set_cons_zero, List.set_cons_succ]
        refine wpAnyH_take (i := 16) (oi := ?o164) (v := ?v164) ?hi164 (by kernel_rfl) (by kernel_rfl) (by kernel_rfl) ?hq164 (Or.inl ⟨?hw164, ?hy164⟩) (by assumption) ?r164
        case hi164 => (simp only [List.getElem?_toArray]; exact rfl)
        case hq164 => exact fun _ _ _ h => h
        case hw164 => rfl
        case hy164 => (intro w hSw; (try dsimp only at hSw); go_simp; try exact rfl)
        simp only [Act.put, List.setIfInBounds_toArray, List.set_cons_zero, List.set_cons_succ]
        refine wpAnyH_take (i := 17) (oi := ?o165) (v := ?v165) ?hi165 (by kernel_rfl) (by kernel_rfl) (by kernel_rfl) ?hq165 (Or.inl ⟨?hw165, ?hy165⟩) (by assumption) ?r165
        case hi165 => (simp only [List.getElem?_toArray]; exact rfl)
        case hq165 => exact fun _ _ _ h => h
        case hw165 => rfl
        case hy165 => (intro w hSw; (try dsimp only at hSw); go_simp; try exact rfl)
        simp only [Act.put, List.setIfInBounds_toArray, List.set_cons_zero, List.set_cons_succ]
        refine wpAnyH_take (i := 18) (oi := ?o166) (v := ?v166) ?hi166 (by kernel_rfl) (by kernel_rfl) (by kernel_rfl) ?hq166 (Or.inl ⟨?hw166, ?hy166⟩) (by assumption) ?r166
        case hi166 => (simp only [List.getElem?_toArray]; exact rfl)
        case hq166 => exact fun _ _ _ h => h
        case hw166 => rfl
        case hy166 => (intro w hSw; (try dsimp only at hSw); go_simp; try exact rfl)
        simp only [Act.put, List.setIfInBounds_toArray, List.set_cons_zero, List.set_cons_succ]
        refine wpAnyH_take (i := 19) (oi := ?o167) (v := ?v167) ?hi167 (by kernel_rfl) (by kernel_rfl) (by kernel_rfl) ?hq167 (Or.inl ⟨?hw167, ?hy167⟩) (by assumption) ?r167
        case hi167 => (simp only [List.getElem?_toArray]; exact rfl)
        case hq167 => exact fun _ _ _ h => h
        case hw167 => rfl
        case hy167 => (intro w hSw; (try dsimp only at hSw); go_simp; try exact rfl)
        simp only [Act.put, List.setIfInBounds_toArray, List.set_cons_zero, List.set_cons_succ]
        refine wpAnyH_take (i := 20) (oi := ?o168) (v := ?v168) ?hi168 (by kernel_rfl) (by kernel_rfl) (by kernel_rfl) ?hq168 (Or.inl ⟨?hw168, ?hy168⟩) (by assumption) ?r168
        case hi168 => (simp only [List.getElem?_toArray]; exact rfl)
        case hq168 => exact fun _ _ _ h => h
        case hw168 => rfl
        case hy168 => (intro w hSw; (try dsimp only at hSw); go_simp; try exact rfl)
        simp only [Act.put, List.setIfInBounds_toArray, List.set_cons_zero, List.set_cons_succ]
        refine wpAnyH_take (i := 21) (oi := ?o169) (v := ?v169) ?hi169 (by kernel_rfl) (by kernel_rfl) (by kernel_rfl) ?hq169 (Or.inl ⟨?hw169, ?hy169⟩) (by assumption) ?r169
        case hi169 => (simp only [List.getElem?_toArray]; exact rfl)
        case hq169 => exact fun _ _ _ h => h
        case hw169 => rfl
        case hy169 => (intro w hSw; (try dsimp only at hSw); go_simp; try exact rfl)
        simp only [Act.put, List.setIfInBounds_toArray, List.set_cons_zero, List.set_cons_succ]
        refine wpAnyH_take (i := 22) (oi := ?o170) (v := ?v170) ?hi170 (by kernel_rfl) (by kernel_rfl) (by kernel_rfl) ?hq170 (Or.inl ⟨?hw170, ?hy170⟩) (by assumption) ?r170
        case hi170 => (simp only [List.getElem?_toArray]; exact rfl)
        case hq170 => exact fun _ _ _ h => h
        case hw170 => rfl
        case hy170 => (intro w hSw; (try dsimp only at hSw); go_simp; try exact rfl)
        simp only [Act.put, List.setIfInBounds_toArray, List.set_cons_zero, List.set_cons_succ]
        refine wpAnyH_take (i := 23) (oi := ?o171) (v := ?v171) ?hi171 (by kernel_rfl) (by kernel_rfl) (by kernel_rfl) ?hq171 (Or.inl ⟨?hw171, ?hy171⟩) (by assumption) ?r171
        case hi171 => (simp only [List.getElem?_toArray]; exact rfl)
        case hq171 => exact fun _ _ _ h => h
        case hw171 => rfl
        case hy171 => (intro w hSw; (try dsimp only at hSw); go_simp; try exact rfl)
        simp only [Act.put, List.setIfInBounds_toArray, List.set_cons_zero, List.set_cons_succ]
        refine wpAnyH_take (i := 25) (oi := ?o172) (v := ?v172) ?hi172 (by kernel_rfl) (by kernel_rfl) (by kernel_rfl) ?hq172 (Or.inl ⟨?hw172, ?hy172⟩) (by assumption) ?r172
        case hi172 => (simp only [List.getElem?_toArray]; exact rfl)
        case hq172 => exact fun _ _ _ h => h
        case hw172 => rfl
        case hy172 => (intro w hSw; (try dsimp only at hSw); go_simp; try exact rfl)
        simp only [Act.put, List.setIfInBounds_toArray, List.set_cons_zero, List.set_cons_succ]
        refine wpAnyH_take (i := 26) (oi := ?o173) (v := ?v173) ?hi173 (by kernel_rfl) (by kernel_rfl) (by kernel_rfl) ?hq173 (Or.inl ⟨?hw173, ?hy173⟩) (by assumption) ?r173
        case hi173 => (simp only [List.getElem?_toArray]; exact rfl)
        case hq173 => exact fun _ _ _ h => h
        case hw173 => rfl
        case hy173 => (intro w hSw; (try dsimp only at hSw); go_simp; try exact rfl)
        simp only [Act.put, List.setIfInBounds_toArray, List.set_cons_zero, List.set_cons_succ]
        refine wpAnyH_ready (rs := [24]) (by kernel_rfl) (by simp) ?_
        refine AllReadyH.cons (o := ?o180) ?hi180 (fun K hK => ?_) AllReadyH.nil
        case hi180 => (simp only [List.getElem?_toArray]; exact rfl)
        go_simp
        have KS := api.samea t1 s1 t2 s2 H1.out H2.out G1.out G2.out hc1 hm1 hc2 hm2 hd1 he1 hd2 he2 (by omega) (by omega) (by omega) (by omega) O1.out O2.out
        unfold SamePost at KS
        go_at_call 24
        refine KS.mono ?_
        rintro e w14 ⟨q1, rfl, hq1, bb⟩
        have HQ1 := Kept.mk hq1
        clear hHeld
        replace X := Kept.mk (X.out.below bb X.out.lt); replace Y := Kept.mk (Y.out.below bb Y.out.lt); replace H1 := Kept.mk (H1.out.below bb); replace H2 := Kept.mk (H2.out.below bb); replace H3 := Kept.mk (H3.out.below bb); replace G1 := Kept.mk (G1.out.below bb); replace G2 := Kept.mk (G2.out.below bb); replace RP := Kept.mk (RP.out.below bb); replace RQ := Kept.mk (RQ.out.below bb); replace ZU := Kept.mk (ZU.out.below bb); replace ZVU := Kept.mk (ZVU.out.below bb); replace CU := Kept.mk (CU.out.below bb CU.out.lt); replace ZV := Kept.mk (ZV.out.below bb); replace ZVV := Kept.mk (ZVV.out.below bb); replace CV := Kept.mk (CV.out.below bb CV.out.lt); replace B := Kept.mk (B.out.trans (bb.mono B.out.size))
        replace BW := Kept.mk (BW.out.trans (bb.mono BW.out.size))
        refine hK.out _ _ (HS.out _ BW.out) (fun hHeld => ?_)
        clear hK K bb KS hq1
        try simp only [Act.put, List.setIfInBounds_toArray, List.set_cons_zero, List.set_cons_succ]
        refine wpAnyH_ready (rs := [27]) (by kernel_rfl) (by simp) ?_
        refine AllReadyH.cons (o := ?o181) ?hi181 (fun K hK => ?_) AllReadyH.nil
        case hi181 => (simp only [List.getElem?_toArray]; exact rfl)
        go_simp
        have KS := rsamea_any t1 s1 A1 n1 c1 l1 D1 m1 e1 v1 t2 s2 A2 n2 c2 l2 D2 m2 e2 v2 _ H1.out H2.out G1.out G2.out (by omega) (by omega) O1.out O2.out
        unfold SamePost at KS
        go_at_call 23
        refine KS.mono ?_
        rintro e w15 ⟨q2, rfl, hq2, bb⟩
        obtain rfl : q1 = q2 := by
          have h1 := HQ1.out
          cases q1 <;> cases q2 <;> simp_all
        clear hHeld
        replace X := Kept.mk (X.out.below bb X.out.lt); replace Y := Kept.mk (Y.out.below bb Y.out.lt); replace H1 := Kept.mk (H1.out.below bb); replace H2 := Kept.mk (H2.out.below bb); replace H3 := Kept.mk (H3.out.below bb); replace G1 := Kept.mk (G1.out.below bb); replace G2 := Kept.mk (G2.out.below bb); replace RP := Kept.mk (RP.out.below bb); replace RQ := Kept.mk (RQ.out.below bb); replace ZU := Kept.mk (ZU.out.below bb); replace ZVU := Kept.mk (ZVU.out.below bb); replace CU := Kept.mk (CU.out.below bb CU.out.lt); replace ZV := Kept.mk (ZV.out.below bb); replace ZVV := Kept.mk (ZVV.out.below bb); replace CV := Kept.mk (CV.out.below bb CV.out.lt); replace B := Kept.mk (B.out.trans (bb.mono B.out.size))
        replace BW := Kept.mk (BW.out.trans (bb.mono BW.out.size))
        refine hK.out _ _ (HS.out _ BW.out) (fun hHeld => ?_)
        clear hK K bb KS hq2
        try simp only [Act.put, List.setIfInBounds_toArray, List.set_cons_zero, List.set_cons_succ]
        refine wpAnyH_take (i := 28) (oi := ?o174) (v := ?v174) ?hi174 (by kernel_rfl) (by kernel_rfl) (by kernel_rfl) ?hq174 (Or.inl ⟨?hw174, ?hy174⟩) (by assumption) ?r174
        case hi174 => (simp only [List.getElem?_toArray]; exact rfl)
        case hq174 => exact fun _ _ _ h => h
        case hw174 => rfl
        case hy174 => (intro w hSw; (try dsimp only at hSw); go_simp; try exact rfl)
        simp only [Act.put, List.setIfInBounds_toArray, List.set_cons_zero, List.set_cons_succ]
        refine wpAnyH_take (i := 29) (oi := ?o175) (v := ?v175) ?hi175 (by kernel_rfl) (by kernel_rfl) (by kernel_rfl) ?hq175 (Or.inl ⟨?hw175, ?hy175⟩) (by assumption) ?r175
        case hi175 => (simp only [List.getElem?_toArray]; exact rfl)
        case hq175 => exact fun _ _ _ h => h
        case hw175 => rfl
        case hy175 => (intro w hSw; (try dsimp only at hSw); go_simp; try exact rfl)
        simp only [Act.put, List.setIfInBounds_toArray, List.set_cons_zero, List.set_cons_succ]
        refine wpAnyH_take (i := 30) (oi := ?o176) (v := ?v176) ?hi176 (by kernel_rfl) (by kernel_rfl) (by kernel_rfl) ?hq176 (Or.inl ⟨?hw176, ?hy176⟩) (by assumption) ?r176
        case hi176 => (simp only [List.getElem?_toArray]; exact rfl)
        case hq176 => exact fun _ _ _ h => h
        case hw176 => rfl
        case hy176 => (intro w hSw; (try dsimp only at hSw); go_simp; try exact rfl)
        simp only [Act.put, List.setIfInBounds_toArray, List.set_cons_zero, List.set_cons_succ]
        refine wpAnyH_done (by kernel_rfl) ?_ _
        refine NoPanic.normal ?_
        clear hHeld
        go_wp2
        go_ret
        exact ⟨rfl, B.out⟩
end Go.Proofs.Ytcafffnkkjnpbaa.Req
