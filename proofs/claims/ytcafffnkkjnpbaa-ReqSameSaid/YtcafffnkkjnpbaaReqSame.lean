/-
  The law ReqSame, walked over contracts.
-/
import Derived.Test.YtcafffnkkjnpbaaPart10
import Derived.Deep.Cut
import Derived.Deep.CutRange
import Derived.Deep.RegionHeld3
namespace Go.Proofs.Ytcafffnkkjnpbaa.Req
open Go.RowKit Go.Proofs.Ytcafffnkkjnpbaa.Sha Go.Proofs.Ytcafffnkkjnpbaa.Wire

theorem encB_same {x y : BV} {b c : List Int} (hx : encB x = (0, b)) (hy : encB y = (0, c)) {q : Bool} (h : q = true ↔ x = y) : sameB b c = q := by
  have key : (b = c) ↔ x = y := ⟨fun e => by subst e; exact encB_inj hx hy, fun e => by subst e; rw [hx] at hy; injection hy⟩
  unfold sameB
  cases q with
  | true => exact decide_eq_true (key.2 (h.1 rfl))
  | false => exact decide_eq_false (fun e => by have := h.2 (key.1 e); cases this)
theorem encA_same {x y : AV} {b c : List Int} (hx : encA x = (0, b)) (hy : encA y = (0, c)) {q : Bool} (h : q = true ↔ x = y) : sameB b c = q := by
  have key : (b = c) ↔ x = y := ⟨fun e => by subst e; exact encA_inj hx hy, fun e => by subst e; rw [hx] at hy; injection hy⟩
  unfold sameB
  cases q with
  | true => exact decide_eq_true (key.2 (h.1 rfl))
  | false => exact decide_eq_false (fun e => by have := h.2 (key.1 e); cases this)

--PLAINHI
set_option maxRecDepth 100000 in
set_option maxHeartbeats 4000000 in
theorem reqsame_walk (api : ReqApi) (s1 : Int) (A1 : Option Addr) (n1 c1 : Nat) (l1 : List RV) (s2 : Int) (A2 : Option Addr) (n2 c2 : Nat) (l2 : List RV) (t3 s3 : Int) (A3 : Option Addr) (n3 c3 : Nat) (l3 : List PV) (D3 : Option Addr) (m3 e3 : Nat) (v3 : List VV) (t4 s4 : Int) (A4 : Option Addr) (n4 c4 : Nat) (l4 : List PV) (D4 : Option Addr) (m4 e4 : Nat) (v4 : List VV) (w : World) (h1 : Rr w A1 n1 l1) (hc1 : n1 ≤ c1) (hm1 : c1 ≤ 9223372036854775807) (o1 : ∀ r ∈ l1, r.ok) (h2 : Rr w A2 n2 l2) (hc2 : n2 ≤ c2) (hm2 : c2 ≤ 9223372036854775807) (o2 : ∀ r ∈ l2, r.ok) (h3 : Rp w A3 n3 l3) (g3 : Rv w D3 m3 v3) (hc3 : n3 ≤ c3) (hm3 : c3 ≤ 9223372036854775807) (hd3 : m3 ≤ e3) (he3 : e3 ≤ 9223372036854775807) (o3 : ∀ r ∈ v3, r.ok) (h4 : Rp w A4 n4 l4) (g4 : Rv w D4 m4 v4) (hc4 : n4 ≤ c4) (hm4 : c4 ≤ 9223372036854775807) (hd4 : m4 ≤ e4) (he4 : e4 ≤ 9223372036854775807) (o4 : ∀ r ∈ v4, r.ok) :
    Calls Try.prog 8 #[.agg #[.int .i64 s1, .slice A1 n1 c1], .agg #[.int .i64 s2, .slice A2 n2 c2], .agg #[.int .i64 t3, .int .i64 s3, .slice A3 n3 c3, .slice D3 m3 e3], .agg #[.int .i64 t4, .int .i64 s4, .slice A4 n4 c4, .slice D4 m4 e4]] w (Yes w) := by
  obtain ⟨N, hN⟩ : ∃ N, w.heap.size = N := ⟨_, rfl⟩
  have B : Kept (Below w.heap.size w ((((w.alloc (.cells #[.int .i64 s1, .slice A1 n1 c1] 24)).alloc (.cells #[.int .i64 s2, .slice A2 n2 c2] 24)).alloc (.cells #[.int .i64 t3, .int .i64 s3, .slice A3 n3 c3, .slice D3 m3 e3] 39)).alloc (.cells #[.int .i64 t4, .int .i64 s4, .slice A4 n4 c4, .slice D4 m4 e4] 39))) := ⟨((((Below.refl _ _).alloc (Nat.le_refl _) _).alloc (by simp) _).alloc (by simp; omega) _).alloc (by simp; omega) _⟩
  have X : Kept (Blk ((((w.alloc (.cells #[.int .i64 s1, .slice A1 n1 c1] 24)).alloc (.cells #[.int .i64 s2, .slice A2 n2 c2] 24)).alloc (.cells #[.int .i64 t3, .int .i64 s3, .slice A3 n3 c3, .slice D3 m3 e3] 39)).alloc (.cells #[.int .i64 t4, .int .i64 s4, .slice A4 n4 c4, .slice D4 m4 e4] 39)) N 24 #[.int .i64 s1, .slice A1 n1 c1]) := ⟨(((Blk.new_at w _ _ N hN.symm).alloc _).alloc _).alloc _⟩
  have Y : Kept (Blk ((((w.alloc (.cells #[.int .i64 s1, .slice A1 n1 c1] 24)).alloc (.cells #[.int .i64 s2, .slice A2 n2 c2] 24)).alloc (.cells #[.int .i64 t3, .int .i64 s3, .slice A3 n3 c3, .slice D3 m3 e3] 39)).alloc (.cells #[.int .i64 t4, .int .i64 s4, .slice A4 n4 c4, .slice D4 m4 e4] 39)) (N + 1) 24 #[.int .i64 s2, .slice A2 n2 c2]) := ⟨((Blk.new_at _ _ _ (N + 1) (by simp [hN])).alloc _).alloc _⟩
  have U : Kept (Blk ((((w.alloc (.cells #[.int .i64 s1, .slice A1 n1 c1] 24)).alloc (.cells #[.int .i64 s2, .slice A2 n2 c2] 24)).alloc (.cells #[.int .i64 t3, .int .i64 s3, .slice A3 n3 c3, .slice D3 m3 e3] 39)).alloc (.cells #[.int .i64 t4, .int .i64 s4, .slice A4 n4 c4, .slice D4 m4 e4] 39)) (N + 2) 39 #[.int .i64 t3, .int .i64 s3, .slice A3 n3 c3, .slice D3 m3 e3]) := ⟨(Blk.new_at _ _ _ (N + 2) (by simp [hN])).alloc _⟩
  have V : Kept (Blk ((((w.alloc (.cells #[.int .i64 s1, .slice A1 n1 c1] 24)).alloc (.cells #[.int .i64 s2, .slice A2 n2 c2] 24)).alloc (.cells #[.int .i64 t3, .int .i64 s3, .slice A3 n3 c3, .slice D3 m3 e3] 39)).alloc (.cells #[.int .i64 t4, .int .i64 s4, .slice A4 n4 c4, .slice D4 m4 e4] 39)) (N + 3) 39 #[.int .i64 t4, .int .i64 s4, .slice A4 n4 c4, .slice D4 m4 e4]) := ⟨Blk.new_at _ _ _ (N + 3) (by simp [hN])⟩
  have H1 := Kept.mk (h1.below B.out); have H2 := Kept.mk (h2.below B.out); have H3 := Kept.mk (h3.below B.out); have H4 := Kept.mk (h4.below B.out); have G3 := Kept.mk (g3.below B.out); have G4 := Kept.mk (g4.below B.out)
  have O1 := Kept.mk o1; have O2 := Kept.mk o2; have O3 := Kept.mk o3; have O4 := Kept.mk o4
  clear h1 h2 h3 h4 g3 g4 o1 o2 o3 o4
  go_enter Try.func8, Try.ntmps8
  go_upto_region 1 with (fail)
  generalize ((((w.alloc (.cells #[.int .i64 s1, .slice A1 n1 c1] 24)).alloc (.cells #[.int .i64 s2, .slice A2 n2 c2] 24)).alloc (.cells #[.int .i64 t3, .int .i64 s3, .slice A3 n3 c3, .slice D3 m3 e3] 39)).alloc (.cells #[.int .i64 t4, .int .i64 s4, .slice A4 n4 c4, .slice D4 m4 e4] 39)) = w1 at *
  go_wp2_with fail
  refine (first_any api _).mono ?_
  rintro e w2 ⟨rfl, bb⟩
  replace X := Kept.mk (X.out.below bb X.out.lt); replace Y := Kept.mk (Y.out.below bb Y.out.lt); replace U := Kept.mk (U.out.below bb U.out.lt); replace V := Kept.mk (V.out.below bb V.out.lt); replace H1 := Kept.mk (H1.out.below bb); replace H2 := Kept.mk (H2.out.below bb); replace H3 := Kept.mk (H3.out.below bb); replace H4 := Kept.mk (H4.out.below bb); replace G3 := Kept.mk (G3.out.below bb); replace G4 := Kept.mk (G4.out.below bb); replace B := Kept.mk (B.out.trans (bb.mono B.out.size))
  clear bb
  have x0 := X.out.cell 0; have x1 := X.out.cell 1
  have KF := few_any s1 A1 n1 c1 l1 w2 H1.out (by omega)
  unfold FewPost at KF
  have KF2 := Kept.mk KF
  clear KF
  go_wp2_with fail
  refine KF2.out.mono ?_
  rintro e w3 ⟨t, rfl, ht, bb⟩
  replace X := Kept.mk (X.out.below bb X.out.lt); replace Y := Kept.mk (Y.out.below bb Y.out.lt); replace U := Kept.mk (U.out.below bb U.out.lt); replace V := Kept.mk (V.out.below bb V.out.lt); replace H1 := Kept.mk (H1.out.below bb); replace H2 := Kept.mk (H2.out.below bb); replace H3 := Kept.mk (H3.out.below bb); replace H4 := Kept.mk (H4.out.below bb); replace G3 := Kept.mk (G3.out.below bb); replace G4 := Kept.mk (G4.out.below bb); replace B := Kept.mk (B.out.trans (bb.mono B.out.size))
  have Q1 := Kept.mk ht
  clear bb ht KF2 x0 x1
  cases t with
  | false =>
    go_wp2_with fail
    refine (first_any api _).mono ?_
    rintro e w4 ⟨rfl, bb⟩
    replace X := Kept.mk (X.out.below bb X.out.lt); replace Y := Kept.mk (Y.out.below bb Y.out.lt); replace U := Kept.mk (U.out.below bb U.out.lt); replace V := Kept.mk (V.out.below bb V.out.lt); replace H1 := Kept.mk (H1.out.below bb); replace H2 := Kept.mk (H2.out.below bb); replace H3 := Kept.mk (H3.out.below bb); replace H4 := Kept.mk (H4.out.below bb); replace G3 := Kept.mk (G3.out.below bb); replace G4 := Kept.mk (G4.out.below bb); replace B := Kept.mk (B.out.trans (bb.mono B.out.size))
    clear bb
    go_wp2
    go_ret
    exact ⟨rfl, B.out⟩
  | true =>
    obtain ⟨few1, sm1⟩ := Q1.out rfl
    have S1 := Kept.mk sm1
    clear sm1
    have y0 := Y.out.cell 0; have y1 := Y.out.cell 1
    have KF := few_any s2 A2 n2 c2 l2 w3 H2.out (by omega)
    unfold FewPost at KF
    have KF2 := Kept.mk KF
    clear KF
    go_wp2_with fail
    refine KF2.out.mono ?_
    rintro e w4 ⟨t, rfl, ht, bb⟩
    replace X := Kept.mk (X.out.below bb X.out.lt); replace Y := Kept.mk (Y.out.below bb Y.out.lt); replace U := Kept.mk (U.out.below bb U.out.lt); replace V := Kept.mk (V.out.below bb V.out.lt); replace H1 := Kept.mk (H1.out.below bb); replace H2 := Kept.mk (H2.out.below bb); replace H3 := Kept.mk (H3.out.below bb); replace H4 := Kept.mk (H4.out.below bb); replace G3 := Kept.mk (G3.out.below bb); replace G4 := Kept.mk (G4.out.below bb); replace B := Kept.mk (B.out.trans (bb.mono B.out.size))
    have Q2 := Kept.mk ht
    clear bb ht KF2 y0 y1
    cases t with
    | false =>
      go_wp2_with fail
      refine (first_any api _).mono ?_
      rintro e w5 ⟨rfl, bb⟩
      replace X := Kept.mk (X.out.below bb X.out.lt); replace Y := Kept.mk (Y.out.below bb Y.out.lt); replace U := Kept.mk (U.out.below bb U.out.lt); replace V := Kept.mk (V.out.below bb V.out.lt); replace H1 := Kept.mk (H1.out.below bb); replace H2 := Kept.mk (H2.out.below bb); replace H3 := Kept.mk (H3.out.below bb); replace H4 := Kept.mk (H4.out.below bb); replace G3 := Kept.mk (G3.out.below bb); replace G4 := Kept.mk (G4.out.below bb); replace B := Kept.mk (B.out.trans (bb.mono B.out.size))
      clear bb
      go_wp2
      go_ret
      exact ⟨rfl, B.out⟩
    | true =>
      obtain ⟨few2, sm2⟩ := Q2.out rfl
      have S2 := Kept.mk sm2
      clear sm2
      have u0 := U.out.cell 0; have u1 := U.out.cell 1; have u2 := U.out.cell 2; have u3 := U.out.cell 3
      have KF := fewa_any t3 s3 A3 n3 c3 D3 m3 e3 v3 w4 G3.out (by omega)
      unfold FewPost at KF
      have KF2 := Kept.mk KF
      clear KF
      go_wp2_with fail
      refine KF2.out.mono ?_
      rintro e w5 ⟨t, rfl, ht, bb⟩
      replace X := Kept.mk (X.out.below bb X.out.lt); replace Y := Kept.mk (Y.out.below bb Y.out.lt); replace U := Kept.mk (U.out.below bb U.out.lt); replace V := Kept.mk (V.out.below bb V.out.lt); replace H1 := Kept.mk (H1.out.below bb); replace H2 := Kept.mk (H2.out.below bb); replace H3 := Kept.mk (H3.out.below bb); replace H4 := Kept.mk (H4.out.below bb); replace G3 := Kept.mk (G3.out.below bb); replace G4 := Kept.mk (G4.out.below bb); replace B := Kept.mk (B.out.trans (bb.mono B.out.size))
      have Q3 := Kept.mk ht
      clear bb ht KF2 u0 u1 u2 u3
      cases t with
      | false =>
        go_wp2_with fail
        refine (first_any api _).mono ?_
        rintro e w6 ⟨rfl, bb⟩
        replace X := Kept.mk (X.out.below bb X.out.lt); replace Y := Kept.mk (Y.out.below bb Y.out.lt); replace U := Kept.mk (U.out.below bb U.out.lt); replace V := Kept.mk (V.out.below bb V.out.lt); replace H1 := Kept.mk (H1.out.below bb); replace H2 := Kept.mk (H2.out.below bb); replace H3 := Kept.mk (H3.out.below bb); replace H4 := Kept.mk (H4.out.below bb); replace G3 := Kept.mk (G3.out.below bb); replace G4 := Kept.mk (G4.out.below bb); replace B := Kept.mk (B.out.trans (bb.mono B.out.size))
        clear bb
        go_wp2
        go_ret
        exact ⟨rfl, B.out⟩
      | true =>
        obtain ⟨fep3, few3, sm3⟩ := Q3.out rfl
        have S3 := Kept.mk sm3
        clear sm3
        have z0 := V.out.cell 0; have z1 := V.out.cell 1; have z2 := V.out.cell 2; have z3 := V.out.cell 3
        have KF := fewa_any t4 s4 A4 n4 c4 D4 m4 e4 v4 w5 G4.out (by omega)
        unfold FewPost at KF
        have KF2 := Kept.mk KF
        clear KF
        go_wp2_with fail
        refine KF2.out.mono ?_
        rintro e w6 ⟨t, rfl, ht, bb⟩
        replace X := Kept.mk (X.out.below bb X.out.lt); replace Y := Kept.mk (Y.out.below bb Y.out.lt); replace U := Kept.mk (U.out.below bb U.out.lt); replace V := Kept.mk (V.out.below bb V.out.lt); replace H1 := Kept.mk (H1.out.below bb); replace H2 := Kept.mk (H2.out.below bb); replace H3 := Kept.mk (H3.out.below bb); replace H4 := Kept.mk (H4.out.below bb); replace G3 := Kept.mk (G3.out.below bb); replace G4 := Kept.mk (G4.out.below bb); replace B := Kept.mk (B.out.trans (bb.mono B.out.size))
        have Q4 := Kept.mk ht
        clear bb ht KF2 z0 z1 z2 z3
        cases t with
        | false =>
          go_wp2_with fail
          refine (first_any api _).mono ?_
          rintro e w7 ⟨rfl, bb⟩
          replace X := Kept.mk (X.out.below bb X.out.lt); replace Y := Kept.mk (Y.out.below bb Y.out.lt); replace U := Kept.mk (U.out.below bb U.out.lt); replace V := Kept.mk (V.out.below bb V.out.lt); replace H1 := Kept.mk (H1.out.below bb); replace H2 := Kept.mk (H2.out.below bb); replace H3 := Kept.mk (H3.out.below bb); replace H4 := Kept.mk (H4.out.below bb); replace G3 := Kept.mk (G3.out.below bb); replace G4 := Kept.mk (G4.out.below bb); replace B := Kept.mk (B.out.trans (bb.mono B.out.size))
          clear bb
          go_wp2
          go_ret
          exact ⟨rfl, B.out⟩
        | true =>
          obtain ⟨fep4, few4, sm4⟩ := Q4.out rfl
          have S4 := Kept.mk sm4
          clear sm4
          have x0 := X.out.cell 0; have x1 := X.out.cell 1
          have KE := api.encb s1 H1.out hc1 hm1 (by omega) O1.out S1.out
          obtain ⟨⟨ra, ba⟩, hR⟩ : ∃ R, encB ⟨s1, l1⟩ = R := ⟨_, rfl⟩
          rw [hR] at KE
          unfold EncPost at KE
          have KE2 := Kept.mk KE
          have ERa := Kept.mk hR
          clear KE hR
          go_wp2_with fail
          refine KE2.out.mono ?_
          rintro e w7 ⟨Pa, pa, ka, rfl, -, -, rr, bb⟩
          (try dsimp only at rr)
          replace X := Kept.mk (X.out.below bb X.out.lt); replace Y := Kept.mk (Y.out.below bb Y.out.lt); replace U := Kept.mk (U.out.below bb U.out.lt); replace V := Kept.mk (V.out.below bb V.out.lt); replace H1 := Kept.mk (H1.out.below bb); replace H2 := Kept.mk (H2.out.below bb); replace H3 := Kept.mk (H3.out.below bb); replace H4 := Kept.mk (H4.out.below bb); replace G3 := Kept.mk (G3.out.below bb); replace G4 := Kept.mk (G4.out.below bb); replace B := Kept.mk (B.out.trans (bb.mono B.out.size))
          have Ra := Kept.mk rr
          clear rr bb KE2 x0 x1
          have y0 := Y.out.cell 0; have y1 := Y.out.cell 1
          have KE := api.encb s2 H2.out hc2 hm2 (by omega) O2.out S2.out
          obtain ⟨⟨rb, bb⟩, hR⟩ : ∃ R, encB ⟨s2, l2⟩ = R := ⟨_, rfl⟩
          rw [hR] at KE
          unfold EncPost at KE
          have KE2 := Kept.mk KE
          have ERb := Kept.mk hR
          clear KE hR
          go_wp2_with fail
          refine KE2.out.mono ?_
          rintro e w8 ⟨Pb, pb, kb, rfl, -, -, rr, bb⟩
          (try dsimp only at rr)
          replace X := Kept.mk (X.out.below bb X.out.lt); replace Y := Kept.mk (Y.out.below bb Y.out.lt); replace U := Kept.mk (U.out.below bb U.out.lt); replace V := Kept.mk (V.out.below bb V.out.lt); replace H1 := Kept.mk (H1.out.below bb); replace H2 := Kept.mk (H2.out.below bb); replace H3 := Kept.mk (H3.out.below bb); replace H4 := Kept.mk (H4.out.below bb); replace G3 := Kept.mk (G3.out.below bb); replace G4 := Kept.mk (G4.out.below bb); replace Ra := Kept.mk (Ra.out.below bb); replace B := Kept.mk (B.out.trans (bb.mono B.out.size))
          have Rb := Kept.mk rr
          clear rr bb KE2 y0 y1
          have u0 := U.out.cell 0; have u1 := U.out.cell 1; have u2 := U.out.cell 2; have u3 := U.out.cell 3
          have KE := api.enca t3 s3 H3.out G3.out hc3 hm3 hd3 he3 (by omega) (by omega) O3.out S3.out
          obtain ⟨⟨rg, bg⟩, hR⟩ : ∃ R, encA ⟨t3, s3, l3, v3⟩ = R := ⟨_, rfl⟩
          rw [hR] at KE
          unfold EncPost at KE
          have KE2 := Kept.mk KE
          have ERg := Kept.mk hR
          clear KE hR
          go_wp2_with fail
          refine KE2.out.mono ?_
          rintro e w9 ⟨Pg, pg, kg, rfl, -, -, rr, bb⟩
          (try dsimp only at rr)
          replace X := Kept.mk (X.out.below bb X.out.lt); replace Y := Kept.mk (Y.out.below bb Y.out.lt); replace U := Kept.mk (U.out.below bb U.out.lt); replace V := Kept.mk (V.out.below bb V.out.lt); replace H1 := Kept.mk (H1.out.below bb); replace H2 := Kept.mk (H2.out.below bb); replace H3 := Kept.mk (H3.out.below bb); replace H4 := Kept.mk (H4.out.below bb); replace G3 := Kept.mk (G3.out.below bb); replace G4 := Kept.mk (G4.out.below bb); replace Ra := Kept.mk (Ra.out.below bb); replace Rb := Kept.mk (Rb.out.below bb); replace B := Kept.mk (B.out.trans (bb.mono B.out.size))
          have Rg := Kept.mk rr
          clear rr bb KE2 u0 u1 u2 u3
          have z0 := V.out.cell 0; have z1 := V.out.cell 1; have z2 := V.out.cell 2; have z3 := V.out.cell 3
          have KE := api.enca t4 s4 H4.out G4.out hc4 hm4 hd4 he4 (by omega) (by omega) O4.out S4.out
          obtain ⟨⟨rh, bh⟩, hR⟩ : ∃ R, encA ⟨t4, s4, l4, v4⟩ = R := ⟨_, rfl⟩
          rw [hR] at KE
          unfold EncPost at KE
          have KE2 := Kept.mk KE
          have ERh := Kept.mk hR
          clear KE hR
          go_wp2_with fail
          refine KE2.out.mono ?_
          rintro e w10 ⟨Ph, ph, kh, rfl, -, -, rr, bb⟩
          (try dsimp only at rr)
          replace X := Kept.mk (X.out.below bb X.out.lt); replace Y := Kept.mk (Y.out.below bb Y.out.lt); replace U := Kept.mk (U.out.below bb U.out.lt); replace V := Kept.mk (V.out.below bb V.out.lt); replace H1 := Kept.mk (H1.out.below bb); replace H2 := Kept.mk (H2.out.below bb); replace H3 := Kept.mk (H3.out.below bb); replace H4 := Kept.mk (H4.out.below bb); replace G3 := Kept.mk (G3.out.below bb); replace G4 := Kept.mk (G4.out.below bb); replace Ra := Kept.mk (Ra.out.below bb); replace Rb := Kept.mk (Rb.out.below bb); replace Rg := Kept.mk (Rg.out.below bb); replace B := Kept.mk (B.out.trans (bb.mono B.out.size))
          have Rh := Kept.mk rr
          clear rr bb KE2 z0 z1 z2 z3
          go_upto_region 9 with (fail)
          go_cut [72] from 58 to 91 (fun c wx => c = .bool false ∧ Kept (Blk wx N 24 #[.int .i64 s1, .slice A1 n1 c1]) ∧ Kept (Blk wx (N + 1) 24 #[.int .i64 s2, .slice A2 n2 c2]) ∧ Kept (Blk wx (N + 2) 39 #[.int .i64 t3, .int .i64 s3, .slice A3 n3 c3, .slice D3 m3 e3]) ∧ Kept (Blk wx (N + 3) 39 #[.int .i64 t4, .int .i64 s4, .slice A4 n4 c4, .slice D4 m4 e4]) ∧ Kept (Rr wx A1 n1 l1) ∧ Kept (Rr wx A2 n2 l2) ∧ Kept (Rp wx A3 n3 l3) ∧ Kept (Rp wx A4 n4 l4) ∧ Kept (Rv wx D3 m3 v3) ∧ Kept (Rv wx D4 m4 v4) ∧ Kept (Rd wx Pa pa ba) ∧ Kept (Rd wx Pb pb bb) ∧ Kept (Rd wx Pg pg bg) ∧ Kept (Rd wx Ph ph bh) ∧ Kept (Below w.heap.size w wx))
          case first =>
            by_cases ha : ra = 0
            · subst ha
              by_cases hb : rb = 0
              · subst hb
                have HS : Kept (∀ w', Below w10.heap.size w10 w' → w'.cell? ⟨N, 0, none⟩ = some (.int .i64 s1) ∧ w'.cell? ⟨N, 1, none⟩ = some (.slice A1 n1 c1) ∧ w'.cell? ⟨N + 1, 0, none⟩ = some (.int .i64 s2) ∧ w'.cell? ⟨N + 1, 1, none⟩ = some (.slice A2 n2 c2)) := ⟨fun w' bb => by
                  have h0 := X.out.below bb X.out.lt; have h1 := Y.out.below bb Y.out.lt
                  exact ⟨h0.cell 0, h0.cell 1, h1.cell 0, h1.cell 1⟩⟩
                refine wp_region_noPanic ?_
                refine wp_region_held_drew (S := fun w' : World => w'.cell? ⟨N, 0, none⟩ = some (.int .i64 s1) ∧ w'.cell? ⟨N, 1, none⟩ = some (.slice A1 n1 c1) ∧ w'.cell? ⟨N + 1, 0, none⟩ = some (.int .i64 s2) ∧ w'.cell? ⟨N + 1, 1, none⟩ = some (.slice A2 n2 c2)) (by kernel_rfl) (HS.out _ (Below.refl _ _).drew) (fun hHeld => ?_)
                have BW : Kept (Below w10.heap.size w10 w10.drew) := ⟨(Below.refl _ _).drew⟩
                replace X := Kept.mk (X.out.below BW.out X.out.lt); replace Y := Kept.mk (Y.out.below BW.out Y.out.lt); replace U := Kept.mk (U.out.below BW.out U.out.lt); replace V := Kept.mk (V.out.below BW.out V.out.lt); replace H1 := Kept.mk (H1.out.below BW.out); replace H2 := Kept.mk (H2.out.below BW.out); replace H3 := Kept.mk (H3.out.below BW.out); replace H4 := Kept.mk (H4.out.below BW.out); replace G3 := Kept.mk (G3.out.below BW.out); replace G4 := Kept.mk (G4.out.below BW.out); replace Ra := Kept.mk (Ra.out.below BW.out); replace Rb := Kept.mk (Rb.out.below BW.out); replace Rg := Kept.mk (Rg.out.below BW.out); replace Rh := Kept.mk (Rh.out.below BW.out); replace B := Kept.mk (B.out.trans (BW.out.mono B.out.size))
                generalize w10.drew = w11 at *
                refine wpAnyH_take (i := 0) (oi := ?o182) (v := ?v182) ?hi182 (by kernel_rfl) (by kernel_rfl) (by kernel_rfl) ?hq182 (Or.inl ⟨?hw182, ?hy182⟩) (by assumption) ?r182
                case hi182 => (simp only [List.getElem?_toArray]; exact rfl)
                case hq182 => exact fun _ _ _ h => h
                case hw182 => rfl
                case hy182 => (intro w hSw; (try dsimp only at hSw); go_simp; try exact rfl)
                simp only [Act.put, List.setIfInBounds_toArray, List.set_cons_zero, List.set_cons_succ]
                refine wpAnyH_take (i := 1) (oi := ?o183) (v := ?v183) ?hi183 (by kernel_rfl) (by kernel_rfl) (by kernel_rfl) ?hq183 (Or.inl ⟨?hw183, ?hy183⟩) (by assumption) ?r183
                case hi183 => (simp only [List.getElem?_toArray]; exact rfl)
                case hq183 => exact fun _ _ _ h => h
                case hw183 => rfl
                case hy183 => (intro w hSw; (try dsimp only at hSw); go_simp; try exact rfl)
                simp only [Act.put, List.setIfInBounds_toArray, List.set_cons_zero, List.set_cons_succ]
                refine wpAnyH_take (i := 2) (oi := ?o184) (v := ?v184) ?hi184 (by kernel_rfl) (by kernel_rfl) (by kernel_rfl) ?hq184 (Or.inl ⟨?hw184, ?hy184⟩) (by assumption) ?r184
                case hi184 => (simp only [List.getElem?_toArray]; exact rfl)
                case hq184 => exact fun _ _ _ h => h
                case hw184 => rfl
                case hy184 => (intro w hSw; (try dsimp only at hSw); go_simp; try exact rfl)
                simp only [Act.put, List.setIfInBounds_toArray, List.set_cons_zero, List.set_cons_succ]
                refine wpAnyH_take (i := 3) (oi := ?o185) (v := ?v185) ?hi185 (by kernel_rfl) (by kernel_rfl) (by kernel_rfl) ?hq185 (Or.inl ⟨?hw185, ?hy185⟩) (by assumption) ?r185
                case hi185 => (simp only [List.getElem?_toArray]; exact rfl)
                case hq185 => exact fun _ _ _ h => h
                case hw185 => rfl
                case hy185 => (intro w hSw; (try dsimp only at hSw); go_simp; try exact rfl)
                simp only [Act.put, List.setIfInBounds_toArray, List.set_cons_zero, List.set_cons_succ]
                refine wpAnyH_take (i := 4) (oi := ?o186) (v := ?v186) ?hi186 (by kernel_rfl) (by kernel_rfl) (by kernel_rfl) ?hq186 (Or.inl ⟨?hw186, ?hy186⟩) (by assumption) ?r186
                case hi186 => (simp only [List.getElem?_toArray]; exact rfl)
                case hq186 => exact fun _ _ _ h => h
                case hw186 => rfl
                case hy186 => (intro w hSw; (try dsimp only at hSw); go_simp; try exact rfl)
                simp only [Act.put, List.setIfInBounds_toArray, List.set_cons_zero, List.set_cons_succ]
                refine wpAnyH_take (i := 5) (oi := ?o187) (v := ?v187) ?hi187 (by kernel_rfl) (by kernel_rfl) (by kernel_rfl) ?hq187 (Or.inl ⟨?hw187, ?hy187⟩) (by assumption) ?r187
                case hi187 => (simp only [List.getElem?_toArray]; exact rfl)
                case hq187 => exact fun _ _ _ h => h
                case hw187 => rfl
                case hy187 => (intro w hSw; (try dsimp only at hSw); go_simp; try exact rfl)
                simp only [Act.put, List.setIfInBounds_toArray, List.set_cons_zero, List.set_cons_succ]
                refine wpAnyH_take (i := 6) (oi := ?o188) (v := ?v188) ?hi188 (by kernel_rfl) (by kernel_rfl) (by kernel_rfl) ?hq188 (Or.inl ⟨?hw188, ?hy188⟩) (by assumption) ?r188
                case hi188 => (simp only [List.getElem?_toArray]; exact rfl)
                case hq188 => exact fun _ _ _ h => h
                case hw188 => rfl
                case hy188 => (intro w hSw; (try dsimp only at hSw); go_simp; try exact rfl)
                simp only [Act.put, List.setIfInBounds_toArray, List.set_cons_zero, List.set_cons_succ]
                refine wpAnyH_take (i := 7) (oi := ?o189) (v := ?v189) ?hi189 (by kernel_rfl) (by kernel_rfl) (by kernel_rfl) ?hq189 (Or.inl ⟨?hw189, ?hy189⟩) (by assumption) ?r189
                case hi189 => (simp only [List.getElem?_toArray]; exact rfl)
                case hq189 => exact fun _ _ _ h => h
                case hw189 => rfl
                case hy189 => (intro w hSw; (try dsimp only at hSw); go_simp; try exact rfl)
                simp only [Act.put, List.setIfInBounds_toArray, List.set_cons_zero, List.set_cons_succ]
                refine wpAnyH_take (i := 8) (oi := ?o190) (v := ?v190) ?hi190 (by kernel_rfl) (by kernel_rfl) (by kernel_rfl) ?hq190 (Or.inl ⟨?hw190, ?hy190⟩) (by assumption) ?r190
                case hi190 => (simp only [List.getElem?_toArray]; exact rfl)
                case hq190 => exact fun _ _ _ h => h
                case hw190 => rfl
                case hy190 => (intro w hSw; (try dsimp only at hSw); go_simp; try exact rfl)
                simp only [Act.put, List.setIfInBounds_toArray, List.set_cons_zero, List.set_cons_succ]
                refine wpAnyH_take (i := 10) (oi := ?o191) (v := ?v191) ?hi191 (by kernel_rfl) (by kernel_rfl) (by kernel_rfl) ?hq191 (Or.inl ⟨?hw191, ?hy191⟩) (by assumption) ?r191
                case hi191 => (simp only [List.getElem?_toArray]; exact rfl)
                case hq191 => exact fun _ _ _ h => h
                case hw191 => rfl
                case hy191 => (intro w hSw; (try dsimp only at hSw); go_simp; try exact rfl)
                simp only [Act.put, List.setIfInBounds_toArray, List.set_cons_zero, List.set_cons_succ]
                refine wpAnyH_take (i := 11) (oi := ?o192) (v := ?v192) ?hi192 (by kernel_rfl) (by kernel_rfl) (by kernel_rfl) ?hq192 (Or.inl ⟨?hw192, ?hy192⟩) (by assumption) ?r192
                case hi192 => (simp only [List.getElem?_toArray]; exact rfl)
                case hq192 => exact fun _ _ _ h => h
                case hw192 => rfl
                case hy192 => (intro w hSw; (try dsimp only at hSw); go_simp; try exact rfl)
                simp only [Act.put, List.setIfInBounds_toArray, List.set_cons_zero, List.set_cons_succ]
                refine wpAnyH_ready (rs := [9]) (by kernel_rfl) (by simp) ?_
                refine AllReadyH.cons (o := ?o277) ?hi277 (fun K hK => ?_) AllReadyH.nil
                case hi277 => (simp only [List.getElem?_toArray]; exact rfl)
                go_simp
                go_at_call 15
                refine (bytes_any Pa Pb pa pb ka kb _ _ _ Ra.out Rb.out).mono ?_
                rintro e _ ⟨rfl, rfl⟩
                refine hK.out _ _ hHeld (fun hHeld => ?_)
                clear hK K
                try simp only [Act.put, List.setIfInBounds_toArray, List.set_cons_zero, List.set_cons_succ]
                refine wpAnyH_ready (rs := [12]) (by kernel_rfl) (by simp) ?_
                refine AllReadyH.cons (o := ?o278) ?hi278 (fun K hK => ?_) AllReadyH.nil
                case hi278 => (simp only [List.getElem?_toArray]; exact rfl)
                go_simp
                have KS := api.sameb s1 s2 H1.out H2.out hc1 hm1 hc2 hm2 (by omega) (by omega) O1.out O2.out
                unfold SamePost at KS
                go_at_call 17
                refine KS.mono ?_
                rintro e w12 ⟨q, rfl, hq, bb⟩
                have hs := encB_same ERa.out ERb.out hq
                clear hHeld
                replace X := Kept.mk (X.out.below bb X.out.lt); replace Y := Kept.mk (Y.out.below bb Y.out.lt); replace U := Kept.mk (U.out.below bb U.out.lt); replace V := Kept.mk (V.out.below bb V.out.lt); replace H1 := Kept.mk (H1.out.below bb); replace H2 := Kept.mk (H2.out.below bb); replace H3 := Kept.mk (H3.out.below bb); replace H4 := Kept.mk (H4.out.below bb); replace G3 := Kept.mk (G3.out.below bb); replace G4 := Kept.mk (G4.out.below bb); replace Ra := Kept.mk (Ra.out.below bb); replace Rb := Kept.mk (Rb.out.below bb); replace Rg := Kept.mk (Rg.out.below bb); replace Rh := Kept.mk (Rh.out.below bb); replace B := Kept.mk (B.out.trans (bb.mono B.out.size))
                replace BW := Kept.mk (BW.out.trans (bb.mono BW.out.size))
                rw [hs]
                clear hs hq KS
                refine hK.out _ _ (HS.out _ BW.out) (fun hHeld => ?_)
                clear hK K bb
                try simp only [Act.put, List.setIfInBounds_toArray, List.set_cons_zero, List.set_cons_succ]
                refine wpAnyH_take (i := 13) (oi := ?o193) (v := ?v193) ?hi193 (by kernel_rfl) (by kernel_rfl) (by kernel_rfl) ?hq193 (Or.inl ⟨?hw193, ?hy193⟩) (by assumption) ?r193
                case hi193 => (simp only [List.getElem?_toArray]; exact rfl)
                case hq193 => exact fun _ _ _ h => h
                case hw193 => rfl
                case hy193 => (intro w hSw; (try dsimp only at hSw); go_simp; try exact rfl)
                simp only [Act.put, List.setIfInBounds_toArray, List.set_cons_zero, List.set_cons_succ]
                refine wpAnyH_take (i := 14) (oi := ?o194) (v := ?v194) ?hi194 (by kernel_rfl) (by kernel_rfl) (by kernel_rfl) ?hq194 (Or.inl ⟨?hw194, ?hy194⟩) (by assumption) ?r194
                case hi194 => (simp only [List.getElem?_toArray]; exact rfl)
                case hq194 => exact fun _ _ _ h => h
                case hw194 => rfl
                case hy194 => (intro w hSw; (try dsimp only at hSw); go_simp; try exact rfl)
                simp only [Act.put, List.setIfInBounds_toArray, List.set_cons_zero, List.set_cons_succ]
                refine wpAnyH_done (by kernel_rfl) ?_ _
                refine NoPanic.normal ?_
                clear hHeld HS BW
                go_wp2
                go_meet
                case rel => exact ⟨rfl, X, Y, U, V, H1, H2, H3, H4, G3, G4, Ra, Rb, Rg, Rh, B⟩
              · have hb' : (rb == 0) = false := beq_eq_false_iff_ne.2 hb
                have HS : Kept (∀ w', Below w10.heap.size w10 w' → w'.cell? ⟨N, 0, none⟩ = some (.int .i64 s1) ∧ w'.cell? ⟨N, 1, none⟩ = some (.slice A1 n1 c1) ∧ w'.cell? ⟨N + 1, 0, none⟩ = some (.int .i64 s2) ∧ w'.cell? ⟨N + 1, 1, none⟩ = some (.slice A2 n2 c2)) := ⟨fun w' bb => by
                  have h0 := X.out.below bb X.out.lt; have h1 := Y.out.below bb Y.out.lt
                  exact ⟨h0.cell 0, h0.cell 1, h1.cell 0, h1.cell 1⟩⟩
                refine wp_region_noPanic ?_
                refine wp_region_held_drew (S := fun w' : World => w'.cell? ⟨N, 0, none⟩ = some (.int .i64 s1) ∧ w'.cell? ⟨N, 1, none⟩ = some (.slice A1 n1 c1) ∧ w'.cell? ⟨N + 1, 0, none⟩ = some (.int .i64 s2) ∧ w'.cell? ⟨N + 1, 1, none⟩ = some (.slice A2 n2 c2)) (by kernel_rfl) (HS.out _ (Below.refl _ _).drew) (fun hHeld => ?_)
                have BW : Kept (Below w10.heap.size w10 w10.drew) := ⟨(Below.refl _ _).drew⟩
                replace X := Kept.mk (X.out.below BW.out X.out.lt); replace Y := Kept.mk (Y.out.below BW.out Y.out.lt); replace U := Kept.mk (U.out.below BW.out U.out.lt); replace V := Kept.mk (V.out.below BW.out V.out.lt); replace H1 := Kept.mk (H1.out.below BW.out); replace H2 := Kept.mk (H2.out.below BW.out); replace H3 := Kept.mk (H3.out.below BW.out); replace H4 := Kept.mk (H4.out.below BW.out); replace G3 := Kept.mk (G3.out.below BW.out); replace G4 := Kept.mk (G4.out.below BW.out); replace Ra := Kept.mk (Ra.out.below BW.out); replace Rb := Kept.mk (Rb.out.below BW.out); replace Rg := Kept.mk (Rg.out.below BW.out); replace Rh := Kept.mk (Rh.out.below BW.out); replace B := Kept.mk (B.out.trans (BW.out.mono B.out.size))
                generalize w10.drew = w11 at *
                refine wpAnyH_take (i := 0) (oi := ?o195) (v := ?v195) ?hi195 (by kernel_rfl) (by kernel_rfl) (by kernel_rfl) ?hq195 (Or.inl ⟨?hw195, ?hy195⟩) (by assumption) ?r195
                case hi195 => (simp only [List.getElem?_toArray]; exact rfl)
                case hq195 => exact fun _ _ _ h => h
                case hw195 => rfl
                case hy195 => (intro w hSw; (try dsimp only at hSw); go_simp; try exact rfl)
                simp only [Act.put, List.setIfInBounds_toArray, List.set_cons_zero, List.set_cons_succ]
                refine wpAnyH_take (i := 1) (oi := ?o196) (v := ?v196) ?hi196 (by kernel_rfl) (by kernel_rfl) (by kernel_rfl) ?hq196 (Or.inl ⟨?hw196, ?hy196⟩) (by assumption) ?r196
                case hi196 => (simp only [List.getElem?_toArray]; exact rfl)
                case hq196 => exact fun _ _ _ h => h
                case hw196 => rfl
                case hy196 => (intro w hSw; (try dsimp only at hSw); go_simp; try exact rfl)
                simp only [Act.put, List.setIfInBounds_toArray, List.set_cons_zero, List.set_cons_succ]
                refine wpAnyH_take (i := 2) (oi := ?o197) (v := ?v197) ?hi197 (by kernel_rfl) (by kernel_rfl) (by kernel_rfl) ?hq197 (Or.inl ⟨?hw197, ?hy197⟩) (by assumption) ?r197
                case hi197 => (simp only [List.getElem?_toArray]; exact rfl)
                case hq197 => exact fun _ _ _ h => h
                case hw197 => rfl
                case hy197 => (intro w hSw; (try dsimp only at hSw); go_simp; try exact rfl)
                simp only [Act.put, List.setIfInBounds_toArray, List.set_cons_zero, List.set_cons_succ]
                refine wpAnyH_take (i := 3) (oi := ?o198) (v := ?v198) ?hi198 (by kernel_rfl) (by kernel_rfl) (by kernel_rfl) ?hq198 (Or.inl ⟨?hw198, ?hy198⟩) (by assumption) ?r198
                case hi198 => (simp only [List.getElem?_toArray]; exact rfl)
                case hq198 => exact fun _ _ _ h => h
                case hw198 => rfl
                case hy198 => (intro w hSw; (try dsimp only at hSw); go_simp; try exact rfl)
                simp only [Act.put, List.setIfInBounds_toArray, List.set_cons_zero, List.set_cons_succ]
                refine wpAnyH_take (i := 4) (oi := ?o199) (v := ?v199) ?hi199 (by kernel_rfl) (by kernel_rfl) (by kernel_rfl) ?hq199 (Or.inl ⟨?hw199, ?hy199⟩) (by assumption) ?r199
                case hi199 => (simp only [List.getElem?_toArray]; exact rfl)
                case hq199 => exact fun _ _ _ h => h
                case hw199 => rfl
                case hy199 => (intro w hSw; (try dsimp only at hSw); go_simp; try exact rfl)
                simp only [Act.put, List.setIfInBounds_toArray, List.set_cons_zero, List.set_cons_succ]
                refine wpAnyH_take (i := 5) (oi := ?o200) (v := ?v200) ?hi200 (by kernel_rfl) (by kernel_rfl) (by kernel_rfl) ?hq200 (Or.inl ⟨?hw200, ?hy200⟩) (by assumption) ?r200
                case hi200 => (simp only [List.getElem?_toArray]; exact rfl)
                case hq200 => exact fun _ _ _ h => h
                case hw200 => rfl
                case hy200 => (intro w hSw; (try dsimp only at hSw); go_simp; try exact rfl)
                simp only [Act.put, List.setIfInBounds_toArray, List.set_cons_zero, List.set_cons_succ]
                refine wpAnyH_take (i := 6) (oi := ?o201) (v := ?v201) ?hi201 (by kernel_rfl) (by kernel_rfl) (by kernel_rfl) ?hq201 (Or.inl ⟨?hw201, ?hy201⟩) (by assumption) ?r201
                case hi201 => (simp only [List.getElem?_toArray]; exact rfl)
                case hq201 => exact fun _ _ _ h => h
                case hw201 => rfl
                case hy201 => (intro w hSw; (try dsimp only at hSw); go_simp; try exact rfl)
                simp only [Act.put, List.setIfInBounds_toArray, List.set_cons_zero, List.set_cons_succ]
                refine wpAnyH_take (i := 7) (oi := ?o202) (v := undef) ?hi202 (by kernel_rfl) (by kernel_rfl) (by kernel_rfl) ?hq202 (Or.inr ⟨?hw202, rfl⟩) (by assumption) ?r202
                case hi202 => (simp only [List.getElem?_toArray]; exact rfl)
                case hq202 => exact fun _ _ _ h => h
                case hw202 => rfl
                simp only [Act.put, List.setIfInBounds_toArray, List.set_cons_zero, List.set_cons_succ]
                refine wpAnyH_take (i := 8) (oi := ?o203) (v := undef) ?hi203 (by kernel_rfl) (by kernel_rfl) (by kernel_rfl) ?hq203 (Or.inr ⟨?hw203, rfl⟩) (by assumption) ?r203
                case hi203 => (simp only [List.getElem?_toArray]; exact rfl)
                case hq203 => exact fun _ _ _ h => h
                case hw203 => rfl
                simp only [Act.put, List.setIfInBounds_toArray, List.set_cons_zero, List.set_cons_succ]
                refine wpAnyH_take (i := 9) (oi := ?o204) (v := undef) ?hi204 (by kernel_rfl) (by kernel_rfl) (by kernel_rfl) ?hq204 (Or.inr ⟨?hw204, rfl⟩) (by assumption) ?r204
                case hi204 => (simp only [List.getElem?_toArray]; exact rfl)
                case hq204 => exact fun _ _ _ h => h
                case hw204 => rfl
                simp only [Act.put, List.setIfInBounds_toArray, List.set_cons_zero, List.set_cons_succ]
                refine wpAnyH_take (i := 10) (oi := ?o205) (v := undef) ?hi205 (by kernel_rfl) (by kernel_rfl) (by kernel_rfl) ?hq205 (Or.inr ⟨?hw205, rfl⟩) (by assumption) ?r205
                case hi205 => (simp only [List.getElem?_toArray]; exact rfl)
                case hq205 => exact fun _ _ _ h => h
                case hw205 => rfl
                simp only [Act.put, List.setIfInBounds_toArray, List.set_cons_zero, List.set_cons_succ]
                refine wpAnyH_take (i := 11) (oi := ?o206) (v := undef) ?hi206 (by kernel_rfl) (by kernel_rfl) (by kernel_rfl) ?hq206 (Or.inr ⟨?hw206, rfl⟩) (by assumption) ?r206
                case hi206 => (simp only [List.getElem?_toArray]; exact rfl)
                case hq206 => exact fun _ _ _ h => h
                case hw206 => rfl
                simp only [Act.put, List.setIfInBounds_toArray, List.set_cons_zero, List.set_cons_succ]
                refine wpAnyH_take (i := 12) (oi := ?o207) (v := undef) ?hi207 (by kernel_rfl) (by kernel_rfl) (by kernel_rfl) ?hq207 (Or.inr ⟨?hw207, rfl⟩) (by assumption) ?r207
                case hi207 => (simp only [List.getElem?_toArray]; exact rfl)
                case hq207 => exact fun _ _ _ h => h
                case hw207 => rfl
                simp only [Act.put, List.setIfInBounds_toArray, List.set_cons_zero, List.set_cons_succ]
                refine wpAnyH_take (i := 13) (oi := ?o208) (v := undef) ?hi208 (by kernel_rfl) (by kernel_rfl) (by kernel_rfl) ?hq208 (Or.inr ⟨?hw208, rfl⟩) (by assumption) ?r208
                case hi208 => (simp only [List.getElem?_toArray]; exact rfl)
                case hq208 => exact fun _ _ _ h => h
                case hw208 => rfl
                simp only [Act.put, List.setIfInBounds_toArray, List.set_cons_zero, List.set_cons_succ]
                refine wpAnyH_take (i := 14) (oi := ?o209) (v := ?v209) ?hi209 (by kernel_rfl) (by kernel_rfl) (by kernel_rfl) ?hq209 (Or.inl ⟨?hw209, ?hy209⟩) (by assumption) ?r209
                case hi209 => (simp only [List.getElem?_toArray]; exact rfl)
                case hq209 => exact fun _ _ _ h => h
                case hw209 => rfl
                case hy209 => (intro w hSw; (try dsimp only at hSw); go_simp; try exact rfl)
                simp only [Act.put, List.setIfInBounds_toArray, List.set_cons_zero, List.set_cons_succ]
                refine wpAnyH_done (by kernel_rfl) ?_ _
                refine NoPanic.normal ?_
                clear hHeld HS BW
                go_wp2
                go_meet
                case rel => exact ⟨rfl, X, Y, U, V, H1, H2, H3, H4, G3, G4, Ra, Rb, Rg, Rh, B⟩
            · have ha' : (ra == 0) = false := beq_eq_false_iff_ne.2 ha
              have HS : Kept (∀ w', Below w10.heap.size w10 w' → w'.cell? ⟨N, 0, none⟩ = some (.int .i64 s1) ∧ w'.cell? ⟨N, 1, none⟩ = some (.slice A1 n1 c1) ∧ w'.cell? ⟨N + 1, 0, none⟩ = some (.int .i64 s2) ∧ w'.cell? ⟨N + 1, 1, none⟩ = some (.slice A2 n2 c2)) := ⟨fun w' bb => by
                have h0 := X.out.below bb X.out.lt; have h1 := Y.out.below bb Y.out.lt
                exact ⟨h0.cell 0, h0.cell 1, h1.cell 0, h1.cell 1⟩⟩
              refine wp_region_noPanic ?_
              refine wp_region_held_drew (S := fun w' : World => w'.cell? ⟨N, 0, none⟩ = some (.int .i64 s1) ∧ w'.cell? ⟨N, 1, none⟩ = some (.slice A1 n1 c1) ∧ w'.cell? ⟨N + 1, 0, none⟩ = some (.int .i64 s2) ∧ w'.cell? ⟨N + 1, 1, none⟩ = some (.slice A2 n2 c2)) (by kernel_rfl) (HS.out _ (Below.refl _ _).drew) (fun hHeld => ?_)
              have BW : Kept (Below w10.heap.size w10 w10.drew) := ⟨(Below.refl _ _).drew⟩
              replace X := Kept.mk (X.out.below BW.out X.out.lt); replace Y := Kept.mk (Y.out.below BW.out Y.out.lt); replace U := Kept.mk (U.out.below BW.out U.out.lt); replace V := Kept.mk (V.out.below BW.out V.out.lt); replace H1 := Kept.mk (H1.out.below BW.out); replace H2 := Kept.mk (H2.out.below BW.out); replace H3 := Kept.mk (H3.out.below BW.out); replace H4 := Kept.mk (H4.out.below BW.out); replace G3 := Kept.mk (G3.out.below BW.out); replace G4 := Kept.mk (G4.out.below BW.out); replace Ra := Kept.mk (Ra.out.below BW.out); replace Rb := Kept.mk (Rb.out.below BW.out); replace Rg := Kept.mk (Rg.out.below BW.out); replace Rh := Kept.mk (Rh.out.below BW.out); replace B := Kept.mk (B.out.trans (BW.out.mono B.out.size))
              generalize w10.drew = w11 at *
              refine wpAnyH_take (i := 0) (oi := ?o210) (v := ?v210) ?hi210 (by kernel_rfl) (by kernel_rfl) (by kernel_rfl) ?hq210 (Or.inl ⟨?hw210, ?hy210⟩) (by assumption) ?r210
              case hi210 => (simp only [List.getElem?_toArray]; exact rfl)
              case hq210 => exact fun _ _ _ h => h
              case hw210 => rfl
              case hy210 => (intro w hSw; (try dsimp only at hSw); go_simp; try exact rfl)
              simp only [Act.put, List.setIfInBounds_toArray, List.set_cons_zero, List.set_cons_succ]
              refine wpAnyH_take (i := 1) (oi := ?o211) (v := ?v211) ?hi211 (by kernel_rfl) (by kernel_rfl) (by kernel_rfl) ?hq211 (Or.inl ⟨?hw211, ?hy211⟩) (by assumption) ?r211
              case hi211 => (simp only [List.getElem?_toArray]; exact rfl)
              case hq211 => exact fun _ _ _ h => h
              case hw211 => rfl
              case hy211 => (intro w hSw; (try dsimp only at hSw); go_simp; try exact rfl)
              simp only [Act.put, List.setIfInBounds_toArray, List.set_cons_zero, List.set_cons_succ]
              refine wpAnyH_take (i := 2) (oi := ?o212) (v := ?v212) ?hi212 (by kernel_rfl) (by kernel_rfl) (by kernel_rfl) ?hq212 (Or.inl ⟨?hw212, ?hy212⟩) (by assumption) ?r212
              case hi212 => (simp only [List.getElem?_toArray]; exact rfl)
              case hq212 => exact fun _ _ _ h => h
              case hw212 => rfl
              case hy212 => (intro w hSw; (try dsimp only at hSw); go_simp; try exact rfl)
              simp only [Act.put, List.setIfInBounds_toArray, List.set_cons_zero, List.set_cons_succ]
              refine wpAnyH_take (i := 3) (oi := ?o213) (v := undef) ?hi213 (by kernel_rfl) (by kernel_rfl) (by kernel_rfl) ?hq213 (Or.inr ⟨?hw213, rfl⟩) (by assumption) ?r213
              case hi213 => (simp only [List.getElem?_toArray]; exact rfl)
              case hq213 => exact fun _ _ _ h => h
              case hw213 => rfl
              simp only [Act.put, List.setIfInBounds_toArray, List.set_cons_zero, List.set_cons_succ]
              refine wpAnyH_take (i := 4) (oi := ?o214) (v := undef) ?hi214 (by kernel_rfl) (by kernel_rfl) (by kernel_rfl) ?hq214 (Or.inr ⟨?hw214, rfl⟩) (by assumption) ?r214
              case hi214 => (simp only [List.getElem?_toArray]; exact rfl)
              case hq214 => exact fun _ _ _ h => h
              case hw214 => rfl
              simp only [Act.put, List.setIfInBounds_toArray, List.set_cons_zero, List.set_cons_succ]
              refine wpAnyH_take (i := 5) (oi := ?o215) (v := ?v215) ?hi215 (by kernel_rfl) (by kernel_rfl) (by kernel_rfl) ?hq215 (Or.inl ⟨?hw215, ?hy215⟩) (by assumption) ?r215
              case hi215 => (simp only [List.getElem?_toArray]; exact rfl)
              case hq215 => exact fun _ _ _ h => h
              case hw215 => rfl
              case hy215 => (intro w hSw; (try dsimp only at hSw); go_simp; try exact rfl)
              simp only [Act.put, List.setIfInBounds_toArray, List.set_cons_zero, List.set_cons_succ]
              refine wpAnyH_take (i := 6) (oi := ?o216) (v := ?v216) ?hi216 (by kernel_rfl) (by kernel_rfl) (by kernel_rfl) ?hq216 (Or.inl ⟨?hw216, ?hy216⟩) (by assumption) ?r216
              case hi216 => (simp only [List.getElem?_toArray]; exact rfl)
              case hq216 => exact fun _ _ _ h => h
              case hw216 => rfl
              case hy216 => (intro w hSw; (try dsimp only at hSw); go_simp; try exact rfl)
              simp only [Act.put, List.setIfInBounds_toArray, List.set_cons_zero, List.set_cons_succ]
              refine wpAnyH_take (i := 7) (oi := ?o217) (v := undef) ?hi217 (by kernel_rfl) (by kernel_rfl) (by kernel_rfl) ?hq217 (Or.inr ⟨?hw217, rfl⟩) (by assumption) ?r217
              case hi217 => (simp only [List.getElem?_toArray]; exact rfl)
              case hq217 => exact fun _ _ _ h => h
              case hw217 => rfl
              simp only [Act.put, List.setIfInBounds_toArray, List.set_cons_zero, List.set_cons_succ]
              refine wpAnyH_take (i := 8) (oi := ?o218) (v := undef) ?hi218 (by kernel_rfl) (by kernel_rfl) (by kernel_rfl) ?hq218 (Or.inr ⟨?hw218, rfl⟩) (by assumption) ?r218
              case hi218 => (simp only [List.getElem?_toArray]; exact rfl)
              case hq218 => exact fun _ _ _ h => h
              case hw218 => rfl
              simp only [Act.put, List.setIfInBounds_toArray, List.set_cons_zero, List.set_cons_succ]
              refine wpAnyH_take (i := 9) (oi := ?o219) (v := undef) ?hi219 (by kernel_rfl) (by kernel_rfl) (by kernel_rfl) ?hq219 (Or.inr ⟨?hw219, rfl⟩) (by assumption) ?r219
              case hi219 => (simp only [List.getElem?_toArray]; exact rfl)
              case hq219 => exact fun _ _ _ h => h
              case hw219 => rfl
              simp only [Act.put, List.setIfInBounds_toArray, List.set_cons_zero, List.set_cons_succ]
              refine wpAnyH_take (i := 10) (oi := ?o220) (v := undef) ?hi220 (by kernel_rfl) (by kernel_rfl) (by kernel_rfl) ?hq220 (Or.inr ⟨?hw220, rfl⟩) (by assumption) ?r220
              case hi220 => (simp only [List.getElem?_toArray]; exact rfl)
              case hq220 => exact fun _ _ _ h => h
              case hw220 => rfl
              simp only [Act.put, List.setIfInBounds_toArray, List.set_cons_zero, List.set_cons_succ]
              refine wpAnyH_take (i := 11) (oi := ?o221) (v := undef) ?hi221 (by kernel_rfl) (by kernel_rfl) (by kernel_rfl) ?hq221 (Or.inr ⟨?hw221, rfl⟩) (by assumption) ?r221
              case hi221 => (simp only [List.getElem?_toArray]; exact rfl)
              case hq221 => exact fun _ _ _ h => h
              case hw221 => rfl
              simp only [Act.put, List.setIfInBounds_toArray, List.set_cons_zero, List.set_cons_succ]
              refine wpAnyH_take (i := 12) (oi := ?o222) (v := undef) ?hi222 (by kernel_rfl) (by kernel_rfl) (by kernel_rfl) ?hq222 (Or.inr ⟨?hw222, rfl⟩) (by assumption) ?r222
              case hi222 => (simp only [List.getElem?_toArray]; exact rfl)
              case hq222 => exact fun _ _ _ h => h
              case hw222 => rfl
              simp only [Act.put, List.setIfInBounds_toArray, List.set_cons_zero, List.set_cons_succ]
              refine wpAnyH_take (i := 13) (oi := ?o223) (v := undef) ?hi223 (by kernel_rfl) (by kernel_rfl) (by kernel_rfl) ?hq223 (Or.inr ⟨?hw223, rfl⟩) (by assumption) ?r223
              case hi223 => (simp only [List.getElem?_toArray]; exact rfl)
              case hq223 => exact fun _ _ _ h => h
              case hw223 => rfl
              simp only [Act.put, List.setIfInBounds_toArray, List.set_cons_zero, List.set_cons_succ]
              refine wpAnyH_take (i := 14) (oi := ?o224) (v := ?v224) ?hi224 (by kernel_rfl) (by kernel_rfl) (by kernel_rfl) ?hq224 (Or.inl ⟨?hw224, ?hy224⟩) (by assumption) ?r224
              case hi224 => (simp only [List.getElem?_toArray]; exact rfl)
              case hq224 => exact fun _ _ _ h => h
              case hw224 => rfl
              case hy224 => (intro w hSw; (try dsimp only at hSw); go_simp; try exact rfl)
              simp only [Act.put, List.setIfInBounds_toArray, List.set_cons_zero, List.set_cons_succ]
              refine wpAnyH_done (by kernel_rfl) ?_ _
              refine NoPanic.normal ?_
              clear hHeld HS BW
              go_wp2
              go_meet
              case rel => exact ⟨rfl, X, Y, U, V, H1, H2, H3, H4, G3, G4, Ra, Rb, Rg, Rh, B⟩
          case rest =>
            clear X Y U V H1 H2 H3 H4 G3 G4 Ra Rb Rg Rh B
            obtain ⟨rfl, X, Y, U, V, H1, H2, H3, H4, G3, G4, Ra, Rb, Rg, Rh, B⟩ := hcut
            generalize wc = w21 at *
            go_upto_region 11 with (fail)
            by_cases hg : rg = 0
            · subst hg
              by_cases hh : rh = 0
              · subst hh
                have HS : Kept (∀ w', Below w21.heap.size w21 w' → w'.cell? ⟨N + 2, 0, none⟩ = some (.int .i64 t3) ∧ w'.cell? ⟨N + 2, 1, none⟩ = some (.int .i64 s3) ∧ w'.cell? ⟨N + 2, 2, none⟩ = some (.slice A3 n3 c3) ∧ w'.cell? ⟨N + 2, 3, none⟩ = some (.slice D3 m3 e3) ∧ w'.cell? ⟨N + 3, 0, none⟩ = some (.int .i64 t4) ∧ w'.cell? ⟨N + 3, 1, none⟩ = some (.int .i64 s4) ∧ w'.cell? ⟨N + 3, 2, none⟩ = some (.slice A4 n4 c4) ∧ w'.cell? ⟨N + 3, 3, none⟩ = some (.slice D4 m4 e4)) := ⟨fun w' bb => by
                  have h0 := U.out.below bb U.out.lt; have h1 := V.out.below bb V.out.lt
                  exact ⟨h0.cell 0, h0.cell 1, h0.cell 2, h0.cell 3, h1.cell 0, h1.cell 1, h1.cell 2, h1.cell 3⟩⟩
                refine wp_region_noPanic ?_
                refine wp_region_held_drew (S := fun w' : World => w'.cell? ⟨N + 2, 0, none⟩ = some (.int .i64 t3) ∧ w'.cell? ⟨N + 2, 1, none⟩ = some (.int .i64 s3) ∧ w'.cell? ⟨N + 2, 2, none⟩ = some (.slice A3 n3 c3) ∧ w'.cell? ⟨N + 2, 3, none⟩ = some (.slice D3 m3 e3) ∧ w'.cell? ⟨N + 3, 0, none⟩ = some (.int .i64 t4) ∧ w'.cell? ⟨N + 3, 1, none⟩ = some (.int .i64 s4) ∧ w'.cell? ⟨N + 3, 2, none⟩ = some (.slice A4 n4 c4) ∧ w'.cell? ⟨N + 3, 3, none⟩ = some (.slice D4 m4 e4)) (by kernel_rfl) (HS.out _ (Below.refl _ _).drew) (fun hHeld => ?_)
                have BW : Kept (Below w21.heap.size w21 w21.drew) := ⟨(Below.refl _ _).drew⟩
                replace X := Kept.mk (X.out.below BW.out X.out.lt); replace Y := Kept.mk (Y.out.below BW.out Y.out.lt); replace U := Kept.mk (U.out.below BW.out U.out.lt); replace V := Kept.mk (V.out.below BW.out V.out.lt); replace H1 := Kept.mk (H1.out.below BW.out); replace H2 := Kept.mk (H2.out.below BW.out); replace H3 := Kept.mk (H3.out.below BW.out); replace H4 := Kept.mk (H4.out.below BW.out); replace G3 := Kept.mk (G3.out.below BW.out); replace G4 := Kept.mk (G4.out.below BW.out); replace Ra := Kept.mk (Ra.out.below BW.out); replace Rb := Kept.mk (Rb.out.below BW.out); replace Rg := Kept.mk (Rg.out.below BW.out); replace Rh := Kept.mk (Rh.out.below BW.out); replace B := Kept.mk (B.out.trans (BW.out.mono B.out.size))
                generalize w21.drew = w22 at *
                refine wpAnyH_ready (rs := [0]) (by kernel_rfl) (by simp) ?_
                refine AllReadyH.cons (o := ?o279) ?hi279 (fun K hK => ?_) AllReadyH.nil
                case hi279 => (simp only [List.getElem?_toArray]; exact rfl)
                go_simp
                go_at_call 9
                refine (first_any api _).mono ?_
                rintro e w23 ⟨rfl, bb⟩
                clear hHeld
                replace X := Kept.mk (X.out.below bb X.out.lt); replace Y := Kept.mk (Y.out.below bb Y.out.lt); replace U := Kept.mk (U.out.below bb U.out.lt); replace V := Kept.mk (V.out.below bb V.out.lt); replace H1 := Kept.mk (H1.out.below bb); replace H2 := Kept.mk (H2.out.below bb); replace H3 := Kept.mk (H3.out.below bb); replace H4 := Kept.mk (H4.out.below bb); replace G3 := Kept.mk (G3.out.below bb); replace G4 := Kept.mk (G4.out.below bb); replace Ra := Kept.mk (Ra.out.below bb); replace Rb := Kept.mk (Rb.out.below bb); replace Rg := Kept.mk (Rg.out.below bb); replace Rh := Kept.mk (Rh.out.below bb); replace B := Kept.mk (B.out.trans (bb.mono B.out.size))
                replace BW := Kept.mk (BW.out.trans (bb.mono BW.out.size))
                refine hK.out _ _ (HS.out _ BW.out) (fun hHeld => ?_)
                clear hK K bb
                try simp only [Act.put, List.setIfInBounds_toArray, List.set_cons_zero, List.set_cons_succ]
                refine wpAnyH_take (i := 1) (oi := ?o225) (v := ?v225) ?hi225 (by kernel_rfl) (by kernel_rfl) (by kernel_rfl) ?hq225 (Or.inl ⟨?hw225, ?hy225⟩) (by assumption) ?r225
                case hi225 => (simp only [List.getElem?_toArray]; exact rfl)
                case hq225 => exact fun _ _ _ h => h
                case hw225 => rfl
                case hy225 => (intro w hSw; (try dsimp only at hSw); go_simp; try exact rfl)
                simp only [Act.put, List.setIfInBounds_toArray, List.set_cons_zero, List.set_cons_succ]
                refine wpAnyH_take (i := 2) (oi := ?o226) (v := ?v226) ?hi226 (by kernel_rfl) (by kernel_rfl) (by kernel_rfl) ?hq226 (Or.inl ⟨?hw226, ?hy226⟩) (by assumption) ?r226
                case hi226 => (simp only [List.getElem?_toArray]; exact rfl)
                case hq226 => exact fun _ _ _ h => h
                case hw226 => rfl
                case hy226 => (intro w hSw; (try dsimp only at hSw); go_simp; try exact rfl)
                simp only [Act.put, List.setIfInBounds_toArray, List.set_cons_zero, List.set_cons_succ]
                refine wpAnyH_take (i := 3) (oi := ?o227) (v := ?v227) ?hi227 (by kernel_rfl) (by kernel_rfl) (by kernel_rfl) ?hq227 (Or.inl ⟨?hw227, ?hy227⟩) (by assumption) ?r227
                case hi227 => (simp only [List.getElem?_toArray]; exact rfl)
                case hq227 => exact fun _ _ _ h => h
                case hw227 => rfl
                case hy227 => (intro w hSw; (try dsimp only at hSw); go_simp; try exact rfl)
                simp only [Act.put, List.setIfInBounds_toArray, List.set_cons_zero, List.set_cons_succ]
                refine wpAnyH_take (i := 4) (oi := ?o228) (v := ?v228) ?hi228 (by kernel_rfl) (by kernel_rfl) (by kernel_rfl) ?hq228 (Or.inl ⟨?hw228, ?hy228⟩) (by assumption) ?r228
                case hi228 => (simp only [List.getElem?_toArray]; exact rfl)
                case hq228 => exact fun _ _ _ h => h
                case hw228 => rfl
                case hy228 => (intro w hSw; (try dsimp only at hSw); go_simp; try exact rfl)
                simp only [Act.put, List.setIfInBounds_toArray, List.set_cons_zero, List.set_cons_succ]
                refine wpAnyH_take (i := 5) (oi := ?o229) (v := ?v229) ?hi229 (by kernel_rfl) (by kernel_rfl) (by kernel_rfl) ?hq229 (Or.inl ⟨?hw229, ?hy229⟩) (by assumption) ?r229
                case hi229 => (simp only [List.getElem?_toArray]; exact rfl)
                case hq229 => exact fun _ _ _ h => h
                case hw229 => rfl
                case hy229 => (intro w hSw; (try dsimp only at hSw); go_simp; try exact rfl)
                simp only [Act.put, List.setIfInBounds_toArray, List.set_cons_zero, List.set_cons_succ]
                refine wpAnyH_take (i := 6) (oi := ?o230) (v := ?v230) ?hi230 (by kernel_rfl) (by kernel_rfl) (by kernel_rfl) ?hq230 (Or.inl ⟨?hw230, ?hy230⟩) (by assumption) ?r230
                case hi230 => (simp only [List.getElem?_toArray]; exact rfl)
                case hq230 => exact fun _ _ _ h => h
                case hw230 => rfl
                case hy230 => (intro w hSw; (try dsimp only at hSw); go_simp; try exact rfl)
                simp only [Act.put, List.setIfInBounds_toArray, List.set_cons_zero, List.set_cons_succ]
                refine wpAnyH_take (i := 7) (oi := ?o231) (v := ?v231) ?hi231 (by kernel_rfl) (by kernel_rfl) (by kernel_rfl) ?hq231 (Or.inl ⟨?hw231, ?hy231⟩) (by assumption) ?r231
                case hi231 => (simp only [List.getElem?_toArray]; exact rfl)
                case hq231 => exact fun _ _ _ h => h
                case hw231 => rfl
                case hy231 => (intro w hSw; (try dsimp only at hSw); go_simp; try exact rfl)
                simp only [Act.put, List.setIfInBounds_toArray, List.set_cons_zero, List.set_cons_succ]
                refine wpAnyH_take (i := 8) (oi := ?o232) (v := ?v232) ?hi232 (by kernel_rfl) (by kernel_rfl) (by kernel_rfl) ?hq232 (Or.inl ⟨?hw232, ?hy232⟩) (by assumption) ?r232
                case hi232 => (simp only [List.getElem?_toArray]; exact rfl)
                case hq232 => exact fun _ _ _ h => h
                case hw232 => rfl
                case hy232 => (intro w hSw; (try dsimp only at hSw); go_simp; try exact rfl)
                simp only [Act.put, List.setIfInBounds_toArray, List.set_cons_zero, List.set_cons_succ]
                refine wpAnyH_take (i := 9) (oi := ?o233) (v := ?v233) ?hi233 (by kernel_rfl) (by kernel_rfl) (by kernel_rfl) ?hq233 (Or.inl ⟨?hw233, ?hy233⟩) (by assumption) ?r233
                case hi233 => (simp only [List.getElem?_toArray]; exact rfl)
                case hq233 => exact fun _ _ _ h => h
                case hw233 => rfl
                case hy233 => (intro w hSw; (try dsimp only at hSw); go_simp; try exact rfl)
                simp only [Act.put, List.setIfInBounds_toArray, List.set_cons_zero, List.set_cons_succ]
                refine wpAnyH_take (i := 10) (oi := ?o234) (v := ?v234) ?hi234 (by kernel_rfl) (by kernel_rfl) (by kernel_rfl) ?hq234 (Or.inl ⟨?hw234, ?hy234⟩) (by assumption) ?r234
                case hi234 => (simp only [List.getElem?_toArray]; exact rfl)
                case hq234 => exact fun _ _ _ h => h
                case hw234 => rfl
                case hy234 => (intro w hSw; (try dsimp only at hSw); go_simp; try exact rfl)
                simp only [Act.put, List.setIfInBounds_toArray, List.set_cons_zero, List.set_cons_succ]
                refine wpAnyH_take (i := 12) (oi := ?o235) (v := ?v235) ?hi235 (by kernel_rfl) (by kernel_rfl) (by kernel_rfl) ?hq235 (Or.inl ⟨?hw235, ?hy235⟩) (by assumption) ?r235
                case hi235 => (simp only [List.getElem?_toArray]; exact rfl)
                case hq235 => exact fun _ _ _ h => h
                case hw235 => rfl
                case hy235 => (intro w hSw; (try dsimp only at hSw); go_simp; try exact rfl)
                simp only [Act.put, List.setIfInBounds_toArray, List.set_cons_zero, List.set_cons_succ]
                refine wpAnyH_take (i := 13) (oi := ?o236) (v := ?v236) ?hi236 (by kernel_rfl) (by kernel_rfl) (by kernel_rfl) ?hq236 (Or.inl ⟨?hw236, ?hy236⟩) (by assumption) ?r236
                case hi236 => (simp only [List.getElem?_toArray]; exact rfl)
                case hq236 => exact fun _ _ _ h => h
                case hw236 => rfl
                case hy236 => (intro w hSw; (try dsimp only at hSw); go_simp; try exact rfl)
                simp only [Act.put, List.setIfInBounds_toArray, List.set_cons_zero, List.set_cons_succ]
                refine wpAnyH_ready (rs := [11]) (by kernel_rfl) (by simp) ?_
                refine AllReadyH.cons (o := ?o280) ?hi280 (fun K hK => ?_) AllReadyH.nil
                case hi280 => (simp only [List.getElem?_toArray]; exact rfl)
                go_simp
                go_at_call 15
                refine (bytes_any Pg Ph pg ph kg kh _ _ _ Rg.out Rh.out).mono ?_
                rintro e _ ⟨rfl, rfl⟩
                refine hK.out _ _ hHeld (fun hHeld => ?_)
                clear hK K
                try simp only [Act.put, List.setIfInBounds_toArray, List.set_cons_zero, List.set_cons_succ]
                refine wpAnyH_ready (rs := [14]) (by kernel_rfl) (by simp) ?_
                refine AllReadyH.cons (o := ?o281) ?hi281 (fun K hK => ?_) AllReadyH.nil
                case hi281 => (simp only [List.getElem?_toArray]; exact rfl)
                go_simp
                have KS := api.samea t3 s3 t4 s4 H3.out H4.out G3.out G4.out hc3 hm3 hc4 hm4 hd3 he3 hd4 he4 (by omega) (by omega) (by omega) (by omega) O3.out O4.out
                unfold SamePost at KS
                go_at_call 24
                refine KS.mono ?_
                rintro e w24 ⟨q, rfl, hq, bb⟩
                have hs := encA_same ERg.out ERh.out hq
                clear hHeld
                replace X := Kept.mk (X.out.below bb X.out.lt); replace Y := Kept.mk (Y.out.below bb Y.out.lt); replace U := Kept.mk (U.out.below bb U.out.lt); replace V := Kept.mk (V.out.below bb V.out.lt); replace H1 := Kept.mk (H1.out.below bb); replace H2 := Kept.mk (H2.out.below bb); replace H3 := Kept.mk (H3.out.below bb); replace H4 := Kept.mk (H4.out.below bb); replace G3 := Kept.mk (G3.out.below bb); replace G4 := Kept.mk (G4.out.below bb); replace Ra := Kept.mk (Ra.out.below bb); replace Rb := Kept.mk (Rb.out.below bb); replace Rg := Kept.mk (Rg.out.below bb); replace Rh := Kept.mk (Rh.out.below bb); replace B := Kept.mk (B.out.trans (bb.mono B.out.size))
                replace BW := Kept.mk (BW.out.trans (bb.mono BW.out.size))
                rw [hs]
                clear hs hq KS
                refine hK.out _ _ (HS.out _ BW.out) (fun hHeld => ?_)
                clear hK K bb
                try simp only [Act.put, List.setIfInBounds_toArray, List.set_cons_zero, List.set_cons_succ]
                refine wpAnyH_take (i := 15) (oi := ?o237) (v := ?v237) ?hi237 (by kernel_rfl) (by kernel_rfl) (by kernel_rfl) ?hq237 (Or.inl ⟨?hw237, ?hy237⟩) (by assumption) ?r237
                case hi237 => (simp only [List.getElem?_toArray]; exact rfl)
                case hq237 => exact fun _ _ _ h => h
                case hw237 => rfl
                case hy237 => (intro w hSw; (try dsimp only at hSw); go_simp; try exact rfl)
                simp only [Act.put, List.setIfInBounds_toArray, List.set_cons_zero, List.set_cons_succ]
                refine wpAnyH_take (i := 16) (oi := ?o238) (v := ?v238) ?hi238 (by kernel_rfl) (by kernel_rfl) (by kernel_rfl) ?hq238 (Or.inl ⟨?hw238, ?hy238⟩) (by assumption) ?r238
                case hi238 => (simp only [List.getElem?_toArray]; exact rfl)
                case hq238 => exact fun _ _ _ h => h
                case hw238 => rfl
                case hy238 => (intro w hSw; (try dsimp only at hSw); go_simp; try exact rfl)
                simp only [Act.put, List.setIfInBounds_toArray, List.set_cons_zero, List.set_cons_succ]
                refine wpAnyH_take (i := 17) (oi := ?o239) (v := ?v239) ?hi239 (by kernel_rfl) (by kernel_rfl) (by kernel_rfl) ?hq239 (Or.inl ⟨?hw239, ?hy239⟩) (by assumption) ?r239
                case hi239 => (simp only [List.getElem?_toArray]; exact rfl)
                case hq239 => exact fun _ _ _ h => h
                case hw239 => rfl
                case hy239 => (intro w hSw; (try dsimp only at hSw); go_simp; try exact rfl)
                simp only [Act.put, List.setIfInBounds_toArray, List.set_cons_zero, List.set_cons_succ]
                refine wpAnyH_take (i := 18) (oi := ?o240) (v := ?v240) ?hi240 (by kernel_rfl) (by kernel_rfl) (by kernel_rfl) ?hq240 (Or.inl ⟨?hw240, ?hy240⟩) (by assumption) ?r240
                case hi240 => (simp only [List.getElem?_toArray]; exact rfl)
                case hq240 => exact fun _ _ _ h => h
                case hw240 => rfl
                case hy240 => (intro w hSw; (try dsimp only at hSw); go_simp; try exact rfl)
                simp only [Act.put, List.setIfInBounds_toArray, List.set_cons_zero, List.set_cons_succ]
                refine wpAnyH_done (by kernel_rfl) ?_ _
                refine NoPanic.normal ?_
                clear hHeld
                go_wp2
                go_ret
                exact ⟨rfl, B.out⟩
              · have hh' : (rh != 0) = true := by simpa using hh
                have HS : Kept (∀ w', Below w21.heap.size w21 w' → w'.cell? ⟨N + 2, 0, none⟩ = some (.int .i64 t3) ∧ w'.cell? ⟨N + 2, 1, none⟩ = some (.int .i64 s3) ∧ w'.cell? ⟨N + 2, 2, none⟩ = some (.slice A3 n3 c3) ∧ w'.cell? ⟨N + 2, 3, none⟩ = some (.slice D3 m3 e3) ∧ w'.cell? ⟨N + 3, 0, none⟩ = some (.int .i64 t4) ∧ w'.cell? ⟨N + 3, 1, none⟩ = some (.int .i64 s4) ∧ w'.cell? ⟨N + 3, 2, none⟩ = some (.slice A4 n4 c4) ∧ w'.cell? ⟨N + 3, 3, none⟩ = some (.slice D4 m4 e4)) := ⟨fun w' bb => by
                  have h0 := U.out.below bb U.out.lt; have h1 := V.out.below bb V.out.lt
                  exact ⟨h0.cell 0, h0.cell 1, h0.cell 2, h0.cell 3, h1.cell 0, h1.cell 1, h1.cell 2, h1.cell 3⟩⟩
                refine wp_region_noPanic ?_
                refine wp_region_held_drew (S := fun w' : World => w'.cell? ⟨N + 2, 0, none⟩ = some (.int .i64 t3) ∧ w'.cell? ⟨N + 2, 1, none⟩ = some (.int .i64 s3) ∧ w'.cell? ⟨N + 2, 2, none⟩ = some (.slice A3 n3 c3) ∧ w'.cell? ⟨N + 2, 3, none⟩ = some (.slice D3 m3 e3) ∧ w'.cell? ⟨N + 3, 0, none⟩ = some (.int .i64 t4) ∧ w'.cell? ⟨N + 3, 1, none⟩ = some (.int .i64 s4) ∧ w'.cell? ⟨N + 3, 2, none⟩ = some (.slice A4 n4 c4) ∧ w'.cell? ⟨N + 3, 3, none⟩ = some (.slice D4 m4 e4)) (by kernel_rfl) (HS.out _ (Below.refl _ _).drew) (fun hHeld => ?_)
                have BW : Kept (Below w21.heap.size w21 w21.drew) := ⟨(Below.refl _ _).drew⟩
                replace X := Kept.mk (X.out.below BW.out X.out.lt); replace Y := Kept.mk (Y.out.below BW.out Y.out.lt); replace U := Kept.mk (U.out.below BW.out U.out.lt); replace V := Kept.mk (V.out.below BW.out V.out.lt); replace H1 := Kept.mk (H1.out.below BW.out); replace H2 := Kept.mk (H2.out.below BW.out); replace H3 := Kept.mk (H3.out.below BW.out); replace H4 := Kept.mk (H4.out.below BW.out); replace G3 := Kept.mk (G3.out.below BW.out); replace G4 := Kept.mk (G4.out.below BW.out); replace Ra := Kept.mk (Ra.out.below BW.out); replace Rb := Kept.mk (Rb.out.below BW.out); replace Rg := Kept.mk (Rg.out.below BW.out); replace Rh := Kept.mk (Rh.out.below BW.out); replace B := Kept.mk (B.out.trans (BW.out.mono B.out.size))
                generalize w21.drew = w22 at *
                refine wpAnyH_ready (rs := [0]) (by kernel_rfl) (by simp) ?_
                refine AllReadyH.cons (o := ?o282) ?hi282 (fun K hK => ?_) AllReadyH.nil
                case hi282 => (simp only [List.getElem?_toArray]; exact rfl)
                go_simp
                go_at_call 9
                refine (first_any api _).mono ?_
                rintro e w23 ⟨rfl, bb⟩
                clear hHeld
                replace X := Kept.mk (X.out.below bb X.out.lt); replace Y := Kept.mk (Y.out.below bb Y.out.lt); replace U := Kept.mk (U.out.below bb U.out.lt); replace V := Kept.mk (V.out.below bb V.out.lt); replace H1 := Kept.mk (H1.out.below bb); replace H2 := Kept.mk (H2.out.below bb); replace H3 := Kept.mk (H3.out.below bb); replace H4 := Kept.mk (H4.out.below bb); replace G3 := Kept.mk (G3.out.below bb); replace G4 := Kept.mk (G4.out.below bb); replace Ra := Kept.mk (Ra.out.below bb); replace Rb := Kept.mk (Rb.out.below bb); replace Rg := Kept.mk (Rg.out.below bb); replace Rh := Kept.mk (Rh.out.below bb); replace B := Kept.mk (B.out.trans (bb.mono B.out.size))
                replace BW := Kept.mk (BW.out.trans (bb.mono BW.out.size))
                refine hK.out _ _ (HS.out _ BW.out) (fun hHeld => ?_)
                clear hK K bb
                try simp only [Act.put, List.setIfInBounds_toArray, List.set_cons_zero, List.set_cons_succ]
                refine wpAnyH_take (i := 1) (oi := ?o241) (v := ?v241) ?hi241 (by kernel_rfl) (by kernel_rfl) (by kernel_rfl) ?hq241 (Or.inl ⟨?hw241, ?hy241⟩) (by assumption) ?r241
                case hi241 => (simp only [List.getElem?_toArray]; exact rfl)
                case hq241 => exact fun _ _ _ h => h
                case hw241 => rfl
                case hy241 => (intro w hSw; (try dsimp only at hSw); go_simp; try exact rfl)
                simp only [Act.put, List.setIfInBounds_toArray, List.set_cons_zero, List.set_cons_succ]
                refine wpAnyH_take (i := 2) (oi := ?o242) (v := ?v242) ?hi242 (by kernel_rfl) (by kernel_rfl) (by kernel_rfl) ?hq242 (Or.inl ⟨?hw242, ?hy242⟩) (by assumption) ?r242
                case hi242 => (simp only [List.getElem?_toArray]; exact rfl)
                case hq242 => exact fun _ _ _ h => h
                case hw242 => rfl
                case hy242 => (intro w hSw; (try dsimp only at hSw); go_simp; try exact rfl)
                simp only [Act.put, List.setIfInBounds_toArray, List.set_cons_zero, List.set_cons_succ]
                refine wpAnyH_take (i := 3) (oi := ?o243) (v := ?v243) ?hi243 (by kernel_rfl) (by kernel_rfl) (by kernel_rfl) ?hq243 (Or.inl ⟨?hw243, ?hy243⟩) (by assumption) ?r243
                case hi243 => (simp only [List.getElem?_toArray]; exact rfl)
                case hq243 => exact fun _ _ _ h => h
                case hw243 => rfl
                case hy243 => (intro w hSw; (try dsimp only at hSw); go_simp; try exact rfl)
                simp only [Act.put, List.setIfInBounds_toArray, List.set_cons_zero, List.set_cons_succ]
                refine wpAnyH_take (i := 4) (oi := ?o244) (v := ?v244) ?hi244 (by kernel_rfl) (by kernel_rfl) (by kernel_rfl) ?hq244 (Or.inl ⟨?hw244, ?hy244⟩) (by assumption) ?r244
                case hi244 => (simp only [List.getElem?_toArray]; exact rfl)
                case hq244 => exact fun _ _ _ h => h
                case hw244 => rfl
                case hy244 => (intro w hSw; (try dsimp only at hSw); go_simp; try exact rfl)
                simp only [Act.put, List.setIfInBounds_toArray, List.set_cons_zero, List.set_cons_succ]
                refine wpAnyH_take (i := 5) (oi := ?o245) (v := ?v245) ?hi245 (by kernel_rfl) (by kernel_rfl) (by kernel_rfl) ?hq245 (Or.inl ⟨?hw245, ?hy245⟩) (by assumption) ?r245
                case hi245 => (simp only [List.getElem?_toArray]; exact rfl)
                case hq245 => exact fun _ _ _ h => h
                case hw245 => rfl
                case hy245 => (intro w hSw; (try dsimp only at hSw); go_simp; try exact rfl)
                simp only [Act.put, List.setIfInBounds_toArray, List.set_cons_zero, List.set_cons_succ]
                refine wpAnyH_take (i := 6) (oi := ?o246) (v := ?v246) ?hi246 (by kernel_rfl) (by kernel_rfl) (by kernel_rfl) ?hq246 (Or.inl ⟨?hw246, ?hy246⟩) (by assumption) ?r246
                case hi246 => (simp only [List.getElem?_toArray]; exact rfl)
                case hq246 => exact fun _ _ _ h => h
                case hw246 => rfl
                case hy246 => (intro w hSw; (try dsimp only at hSw); go_simp; try exact rfl)
                simp only [Act.put, List.setIfInBounds_toArray, List.set_cons_zero, List.set_cons_succ]
                refine wpAnyH_take (i := 7) (oi := ?o247) (v := ?v247) ?hi247 (by kernel_rfl) (by kernel_rfl) (by kernel_rfl) ?hq247 (Or.inl ⟨?hw247, ?hy247⟩) (by assumption) ?r247
                case hi247 => (simp only [List.getElem?_toArray]; exact rfl)
                case hq247 => exact fun _ _ _ h => h
                case hw247 => rfl
                case hy247 => (intro w hSw; (try dsimp only at hSw); go_simp; try exact rfl)
                simp only [Act.put, List.setIfInBounds_toArray, List.set_cons_zero, List.set_cons_succ]
                refine wpAnyH_take (i := 8) (oi := ?o248) (v := ?v248) ?hi248 (by kernel_rfl) (by kernel_rfl) (by kernel_rfl) ?hq248 (Or.inl ⟨?hw248, ?hy248⟩) (by assumption) ?r248
                case hi248 => (simp only [List.getElem?_toArray]; exact rfl)
                case hq248 => exact fun _ _ _ h => h
                case hw248 => rfl
                case hy248 => (intro w hSw; (try dsimp only at hSw); go_simp; try exact rfl)
                simp only [Act.put, List.setIfInBounds_toArray, List.set_cons_zero, List.set_cons_succ]
                refine wpAnyH_take (i := 9) (oi := ?o249) (v := undef) ?hi249 (by kernel_rfl) (by kernel_rfl) (by kernel_rfl) ?hq249 (Or.inr ⟨?hw249, rfl⟩) (by assumption) ?r249
                case hi249 => (simp only [List.getElem?_toArray]; exact rfl)
                case hq249 => exact fun _ _ _ h => h
                case hw249 => rfl
                simp only [Act.put, List.setIfInBounds_toArray, List.set_cons_zero, List.set_cons_succ]
                refine wpAnyH_take (i := 10) (oi := ?o250) (v := undef) ?hi250 (by kernel_rfl) (by kernel_rfl) (by kernel_rfl) ?hq250 (Or.inr ⟨?hw250, rfl⟩) (by assumption) ?r250
                case hi250 => (simp only [List.getElem?_toArray]; exact rfl)
                case hq250 => exact fun _ _ _ h => h
                case hw250 => rfl
                simp only [Act.put, List.setIfInBounds_toArray, List.set_cons_zero, List.set_cons_succ]
                refine wpAnyH_take (i := 11) (oi := ?o251) (v := undef) ?hi251 (by kernel_rfl) (by kernel_rfl) (by kernel_rfl) ?hq251 (Or.inr ⟨?hw251, rfl⟩) (by assumption) ?r251
                case hi251 => (simp only [List.getElem?_toArray]; exact rfl)
                case hq251 => exact fun _ _ _ h => h
                case hw251 => rfl
                simp only [Act.put, List.setIfInBounds_toArray, List.set_cons_zero, List.set_cons_succ]
                refine wpAnyH_take (i := 12) (oi := ?o252) (v := undef) ?hi252 (by kernel_rfl) (by kernel_rfl) (by kernel_rfl) ?hq252 (Or.inr ⟨?hw252, rfl⟩) (by assumption) ?r252
                case hi252 => (simp only [List.getElem?_toArray]; exact rfl)
                case hq252 => exact fun _ _ _ h => h
                case hw252 => rfl
                simp only [Act.put, List.setIfInBounds_toArray, List.set_cons_zero, List.set_cons_succ]
                refine wpAnyH_take (i := 13) (oi := ?o253) (v := undef) ?hi253 (by kernel_rfl) (by kernel_rfl) (by kernel_rfl) ?hq253 (Or.inr ⟨?hw253, rfl⟩) (by assumption) ?r253
                case hi253 => (simp only [List.getElem?_toArray]; exact rfl)
                case hq253 => exact fun _ _ _ h => h
                case hw253 => rfl
                simp only [Act.put, List.setIfInBounds_toArray, List.set_cons_zero, List.set_cons_succ]
                refine wpAnyH_take (i := 14) (oi := ?o254) (v := undef) ?hi254 (by kernel_rfl) (by kernel_rfl) (by kernel_rfl) ?hq254 (Or.inr ⟨?hw254, rfl⟩) (by assumption) ?r254
                case hi254 => (simp only [List.getElem?_toArray]; exact rfl)
                case hq254 => exact fun _ _ _ h => h
                case hw254 => rfl
                simp only [Act.put, List.setIfInBounds_toArray, List.set_cons_zero, List.set_cons_succ]
                refine wpAnyH_take (i := 15) (oi := ?o255) (v := undef) ?hi255 (by kernel_rfl) (by kernel_rfl) (by kernel_rfl) ?hq255 (Or.inr ⟨?hw255, rfl⟩) (by assumption) ?r255
                case hi255 => (simp only [List.getElem?_toArray]; exact rfl)
                case hq255 => exact fun _ _ _ h => h
                case hw255 => rfl
                simp only [Act.put, List.setIfInBounds_toArray, List.set_cons_zero, List.set_cons_succ]
                refine wpAnyH_take (i := 16) (oi := ?o256) (v := ?v256) ?hi256 (by kernel_rfl) (by kernel_rfl) (by kernel_rfl) ?hq256 (Or.inl ⟨?hw256, ?hy256⟩) (by assumption) ?r256
                case hi256 => (simp only [List.getElem?_toArray]; exact rfl)
                case hq256 => exact fun _ _ _ h => h
                case hw256 => rfl
                case hy256 => (intro w hSw; (try dsimp only at hSw); go_simp; try exact rfl)
                simp only [Act.put, List.setIfInBounds_toArray, List.set_cons_zero, List.set_cons_succ]
                refine wpAnyH_take (i := 17) (oi := ?o257) (v := ?v257) ?hi257 (by kernel_rfl) (by kernel_rfl) (by kernel_rfl) ?hq257 (Or.inl ⟨?hw257, ?hy257⟩) (by assumption) ?r257
                case hi257 => (simp only [List.getElem?_toArray]; exact rfl)
                case hq257 => exact fun _ _ _ h => h
                case hw257 => rfl
                case hy257 => (intro w hSw; (try dsimp only at hSw); go_simp; try exact rfl)
                simp only [Act.put, List.setIfInBounds_toArray, List.set_cons_zero, List.set_cons_succ]
                refine wpAnyH_take (i := 18) (oi := ?o258) (v := ?v258) ?hi258 (by kernel_rfl) (by kernel_rfl) (by kernel_rfl) ?hq258 (Or.inl ⟨?hw258, ?hy258⟩) (by assumption) ?r258
                case hi258 => (simp only [List.getElem?_toArray]; exact rfl)
                case hq258 => exact fun _ _ _ h => h
                case hw258 => rfl
                case hy258 => (intro w hSw; (try dsimp only at hSw); go_simp; try exact rfl)
                simp only [Act.put, List.setIfInBounds_toArray, List.set_cons_zero, List.set_cons_succ]
                refine wpAnyH_done (by kernel_rfl) ?_ _
                refine NoPanic.normal ?_
                clear hHeld
                go_wp2
                go_ret
                exact ⟨rfl, B.out⟩
            · have hg' : (rg != 0) = true := by simpa using hg
              have HS : Kept (∀ w', Below w21.heap.size w21 w' → w'.cell? ⟨N + 2, 0, none⟩ = some (.int .i64 t3) ∧ w'.cell? ⟨N + 2, 1, none⟩ = some (.int .i64 s3) ∧ w'.cell? ⟨N + 2, 2, none⟩ = some (.slice A3 n3 c3) ∧ w'.cell? ⟨N + 2, 3, none⟩ = some (.slice D3 m3 e3) ∧ w'.cell? ⟨N + 3, 0, none⟩ = some (.int .i64 t4) ∧ w'.cell? ⟨N + 3, 1, none⟩ = some (.int .i64 s4) ∧ w'.cell? ⟨N + 3, 2, none⟩ = some (.slice A4 n4 c4) ∧ w'.cell? ⟨N + 3, 3, none⟩ = some (.slice D4 m4 e4)) := ⟨fun w' bb => by
                have h0 := U.out.below bb U.out.lt; have h1 := V.out.below bb V.out.lt
                exact ⟨h0.cell 0, h0.cell 1, h0.cell 2, h0.cell 3, h1.cell 0, h1.cell 1, h1.cell 2, h1.cell 3⟩⟩
              refine wp_region_noPanic ?_
              refine wp_region_held_drew (S := fun w' : World => w'.cell? ⟨N + 2, 0, none⟩ = some (.int .i64 t3) ∧ w'.cell? ⟨N + 2, 1, none⟩ = some (.int .i64 s3) ∧ w'.cell? ⟨N + 2, 2, none⟩ = some (.slice A3 n3 c3) ∧ w'.cell? ⟨N + 2, 3, none⟩ = some (.slice D3 m3 e3) ∧ w'.cell? ⟨N + 3, 0, none⟩ = some (.int .i64 t4) ∧ w'.cell? ⟨N + 3, 1, none⟩ = some (.int .i64 s4) ∧ w'.cell? ⟨N + 3, 2, none⟩ = some (.slice A4 n4 c4) ∧ w'.cell? ⟨N + 3, 3, none⟩ = some (.slice D4 m4 e4)) (by kernel_rfl) (HS.out _ (Below.refl _ _).drew) (fun hHeld => ?_)
              have BW : Kept (Below w21.heap.size w21 w21.drew) := ⟨(Below.refl _ _).drew⟩
              replace X := Kept.mk (X.out.below BW.out X.out.lt); replace Y := Kept.mk (Y.out.below BW.out Y.out.lt); replace U := Kept.mk (U.out.below BW.out U.out.lt); replace V := Kept.mk (V.out.below BW.out V.out.lt); replace H1 := Kept.mk (H1.out.below BW.out); replace H2 := Kept.mk (H2.out.below BW.out); replace H3 := Kept.mk (H3.out.below BW.out); replace H4 := Kept.mk (H4.out.below BW.out); replace G3 := Kept.mk (G3.out.below BW.out); replace G4 := Kept.mk (G4.out.below BW.out); replace Ra := Kept.mk (Ra.out.below BW.out); replace Rb := Kept.mk (Rb.out.below BW.out); replace Rg := Kept.mk (Rg.out.below BW.out); replace Rh := Kept.mk (Rh.out.below BW.out); replace B := Kept.mk (B.out.trans (BW.out.mono B.out.size))
              generalize w21.drew = w22 at *
              refine wpAnyH_ready (rs := [0]) (by kernel_rfl) (by simp) ?_
              refine AllReadyH.cons (o := ?o283) ?hi283 (fun K hK => ?_) AllReadyH.nil
              case hi283 => (simp only [List.getElem?_toArray]; exact rfl)
              go_simp
              go_at_call 9
              refine (first_any api _).mono ?_
              rintro e w23 ⟨rfl, bb⟩
              clear hHeld
              replace X := Kept.mk (X.out.below bb X.out.lt); replace Y := Kept.mk (Y.out.below bb Y.out.lt); replace U := Kept.mk (U.out.below bb U.out.lt); replace V := Kept.mk (V.out.below bb V.out.lt); replace H1 := Kept.mk (H1.out.below bb); replace H2 := Kept.mk (H2.out.below bb); replace H3 := Kept.mk (H3.out.below bb); replace H4 := Kept.mk (H4.out.below bb); replace G3 := Kept.mk (G3.out.below bb); replace G4 := Kept.mk (G4.out.below bb); replace Ra := Kept.mk (Ra.out.below bb); replace Rb := Kept.mk (Rb.out.below bb); replace Rg := Kept.mk (Rg.out.below bb); replace Rh := Kept.mk (Rh.out.below bb); replace B := Kept.mk (B.out.trans (bb.mono B.out.size))
              replace BW := Kept.mk (BW.out.trans (bb.mono BW.out.size))
              refine hK.out _ _ (HS.out _ BW.out) (fun hHeld => ?_)
              clear hK K bb
              try simp only [Act.put, List.setIfInBounds_toArray, List.set_cons_zero, List.set_cons_succ]
              refine wpAnyH_take (i := 1) (oi := ?o259) (v := ?v259) ?hi259 (by kernel_rfl) (by kernel_rfl) (by kernel_rfl) ?hq259 (Or.inl ⟨?hw259, ?hy259⟩) (by assumption) ?r259
              case hi259 => (simp only [List.getElem?_toArray]; exact rfl)
              case hq259 => exact fun _ _ _ h => h
              case hw259 => rfl
              case hy259 => (intro w hSw; (try dsimp only at hSw); go_simp; try exact rfl)
              simp only [Act.put, List.setIfInBounds_toArray, List.set_cons_zero, List.set_cons_succ]
              refine wpAnyH_take (i := 2) (oi := ?o260) (v := ?v260) ?hi260 (by kernel_rfl) (by kernel_rfl) (by kernel_rfl) ?hq260 (Or.inl ⟨?hw260, ?hy260⟩) (by assumption) ?r260
              case hi260 => (simp only [List.getElem?_toArray]; exact rfl)
              case hq260 => exact fun _ _ _ h => h
              case hw260 => rfl
              case hy260 => (intro w hSw; (try dsimp only at hSw); go_simp; try exact rfl)
              simp only [Act.put, List.setIfInBounds_toArray, List.set_cons_zero, List.set_cons_succ]
              refine wpAnyH_take (i := 3) (oi := ?o261) (v := ?v261) ?hi261 (by kernel_rfl) (by kernel_rfl) (by kernel_rfl) ?hq261 (Or.inl ⟨?hw261, ?hy261⟩) (by assumption) ?r261
              case hi261 => (simp only [List.getElem?_toArray]; exact rfl)
              case hq261 => exact fun _ _ _ h => h
              case hw261 => rfl
              case hy261 => (intro w hSw; (try dsimp only at hSw); go_simp; try exact rfl)
              simp only [Act.put, List.setIfInBounds_toArray, List.set_cons_zero, List.set_cons_succ]
              refine wpAnyH_take (i := 4) (oi := ?o262) (v := ?v262) ?hi262 (by kernel_rfl) (by kernel_rfl) (by kernel_rfl) ?hq262 (Or.inl ⟨?hw262, ?hy262⟩) (by assumption) ?r262
              case hi262 => (simp only [List.getElem?_toArray]; exact rfl)
              case hq262 => exact fun _ _ _ h => h
              case hw262 => rfl
              case hy262 => (intro w hSw; (try dsimp only at hSw); go_simp; try exact rfl)
              simp only [Act.put, List.setIfInBounds_toArray, List.set_cons_zero, List.set_cons_succ]
              refine wpAnyH_take (i := 5) (oi := ?o263) (v := undef) ?hi263 (by kernel_rfl) (by kernel_rfl) (by kernel_rfl) ?hq263 (Or.inr ⟨?hw263, rfl⟩) (by assumption) ?r263
              case hi263 => (simp only [List.getElem?_toArray]; exact rfl)
              case hq263 => exact fun _ _ _ h => h
              case hw263 => rfl
              simp only [Act.put, List.setIfInBounds_toArray, List.set_cons_zero, List.set_cons_succ]
              refine wpAnyH_take (i := 6) (oi := ?o264) (v := undef) ?hi264 (by kernel_rfl) (by kernel_rfl) (by kernel_rfl) ?hq264 (Or.inr ⟨?hw264, rfl⟩) (by assumption) ?r264
              case hi264 => (simp only [List.getElem?_toArray]; exact rfl)
              case hq264 => exact fun _ _ _ h => h
              case hw264 => rfl
              simp only [Act.put, List.setIfInBounds_toArray, List.set_cons_zero, List.set_cons_succ]
              refine wpAnyH_take (i := 7) (oi := ?o265) (v := ?v265) ?hi265 (by kernel_rfl) (by kernel_rfl) (by kernel_rfl) ?hq265 (Or.inl ⟨?hw265, ?hy265⟩) (by assumption) ?r265
              case hi265 => (simp only [List.getElem?_toArray]; exact rfl)
              case hq265 => exact fun _ _ _ h => h
              case hw265 => rfl
              case hy265 => (intro w hSw; (try dsimp only at hSw); go_simp; try exact rfl)
              simp only [Act.put, List.setIfInBounds_toArray, List.set_cons_zero, List.set_cons_succ]
              refine wpAnyH_take (i := 8) (oi := ?o266) (v := ?v266) ?hi266 (by kernel_rfl) (by kernel_rfl) (by kernel_rfl) ?hq266 (Or.inl ⟨?hw266, ?hy266⟩) (by assumption) ?r266
              case hi266 => (simp only [List.getElem?_toArray]; exact rfl)
              case hq266 => exact fun _ _ _ h => h
              case hw266 => rfl
              case hy266 => (intro w hSw; (try dsimp only at hSw); go_simp; try exact rfl)
              simp only [Act.put, List.setIfInBounds_toArray, List.set_cons_zero, List.set_cons_succ]
              refine wpAnyH_take (i := 9) (oi := ?o267) (v := undef) ?hi267 (by kernel_rfl) (by kernel_rfl) (by kernel_rfl) ?hq267 (Or.inr ⟨?hw267, rfl⟩) (by assumption) ?r267
              case hi267 => (simp only [List.getElem?_toArray]; exact rfl)
              case hq267 => exact fun _ _ _ h => h
              case hw267 => rfl
              simp only [Act.put, List.setIfInBounds_toArray, List.set_cons_zero, List.set_cons_succ]
              refine wpAnyH_take (i := 10) (oi := ?o268) (v := undef) ?hi268 (by kernel_rfl) (by kernel_rfl) (by kernel_rfl) ?hq268 (Or.inr ⟨?hw268, rfl⟩) (by assumption) ?r268
              case hi268 => (simp only [List.getElem?_toArray]; exact rfl)
              case hq268 => exact fun _ _ _ h => h
              case hw268 => rfl
              simp only [Act.put, List.setIfInBounds_toArray, List.set_cons_zero, List.set_cons_succ]
              refine wpAnyH_take (i := 11) (oi := ?o269) (v := undef) ?hi269 (by kernel_rfl) (by kernel_rfl) (by kernel_rfl) ?hq269 (Or.inr ⟨?hw269, rfl⟩) (by assumption) ?r269
              case hi269 => (simp only [List.getElem?_toArray]; exact rfl)
              case hq269 => exact fun _ _ _ h => h
              case hw269 => rfl
              simp only [Act.put, List.setIfInBounds_toArray, List.set_cons_zero, List.set_cons_succ]
              refine wpAnyH_take (i := 12) (oi := ?o270) (v := undef) ?hi270 (by kernel_rfl) (by kernel_rfl) (by kernel_rfl) ?hq270 (Or.inr ⟨?hw270, rfl⟩) (by assumption) ?r270
              case hi270 => (simp only [List.getElem?_toArray]; exact rfl)
              case hq270 => exact fun _ _ _ h => h
              case hw270 => rfl
              simp only [Act.put, List.setIfInBounds_toArray, List.set_cons_zero, List.set_cons_succ]
              refine wpAnyH_take (i := 13) (oi := ?o271) (v := undef) ?hi271 (by kernel_rfl) (by kernel_rfl) (by kernel_rfl) ?hq271 (Or.inr ⟨?hw271, rfl⟩) (by assumption) ?r271
              case hi271 => (simp only [List.getElem?_toArray]; exact rfl)
              case hq271 => exact fun _ _ _ h => h
              case hw271 => rfl
              simp only [Act.put, List.setIfInBounds_toArray, List.set_cons_zero, List.set_cons_succ]
              refine wpAnyH_take (i := 14) (oi := ?o272) (v := undef) ?hi272 (by kernel_rfl) (by kernel_rfl) (by kernel_rfl) ?hq272 (Or.inr ⟨?hw272, rfl⟩) (by assumption) ?r272
              case hi272 => (simp only [List.getElem?_toArray]; exact rfl)
              case hq272 => exact fun _ _ _ h => h
              case hw272 => rfl
              simp only [Act.put, List.setIfInBounds_toArray, List.set_cons_zero, List.set_cons_succ]
              refine wpAnyH_take (i := 15) (oi := ?o273) (v := undef) ?hi273 (by kernel_rfl) (by kernel_rfl) (by kernel_rfl) ?hq273 (Or.inr ⟨?hw273, rfl⟩) (by assumption) ?r273
              case hi273 => (simp only [List.getElem?_toArray]; exact rfl)
              case hq273 => exact fun _ _ _ h => h
              case hw273 => rfl
              simp only [Act.put, List.setIfInBounds_toArray, List.set_cons_zero, List.set_cons_succ]
              refine wpAnyH_take (i := 16) (oi := ?o274) (v := ?v274) ?hi274 (by kernel_rfl) (by kernel_rfl) (by kernel_rfl) ?hq274 (Or.inl ⟨?hw274, ?hy274⟩) (by assumption) ?r274
              case hi274 => (simp only [List.getElem?_toArray]; exact rfl)
              case hq274 => exact fun _ _ _ h => h
              case hw274 => rfl
              case hy274 => (intro w hSw; (try dsimp only at hSw); go_simp; try exact rfl)
              simp only [Act.put, List.setIfInBounds_toArray, List.set_cons_zero, List.set_cons_succ]
              refine wpAnyH_take (i := 17) (oi := ?o275) (v := ?v275) ?hi275 (by kernel_rfl) (by kernel_rfl) (by kernel_rfl) ?hq275 (Or.inl ⟨?hw275, ?hy275⟩) (by assumption) ?r275
              case hi275 => (simp only [List.getElem?_toArray]; exact rfl)
              case hq275 => exact fun _ _ _ h => h
              case hw275 => rfl
              case hy275 => (intro w hSw; (try dsimp only at hSw); go_simp; try exact rfl)
              simp only [Act.put, List.setIfInBounds_toArray, List.set_cons_zero, List.set_cons_succ]
              refine wpAnyH_take (i := 18) (oi := ?o276) (v := ?v276) ?hi276 (by kernel_rfl) (by kernel_rfl) (by kernel_rfl) ?hq276 (Or.inl ⟨?hw276, ?hy276⟩) (by assumption) ?r276
              case hi276 => (simp only [List.getElem?_toArray]; exact rfl)
              case hq276 => exact fun _ _ _ h => h
              case hw276 => rfl
              case hy276 => (intro w hSw; (try dsimp only at hSw); go_simp; try exact rfl)
              simp only [Act.put, List.setIfInBounds_toArray, List.set_cons_zero, List.set_cons_succ]
              refine wpAnyH_done (by kernel_rfl) ?_ _
              refine NoPanic.normal ?_
              clear hHeld
              go_wp2
              go_ret
              exact ⟨rfl, B.out⟩
end Go.Proofs.Ytcafffnkkjnpbaa.Req
