/-
  The law ReqBatches, walked over contracts.
-/
import Derived.Test.YtcafffnkkjnpbaaPart8
import Derived.Test.YtcafffnkkjnpbaaPart15
namespace Go.Proofs.Ytcafffnkkjnpbaa.Req
open Go.RowKit Go.Proofs.Ytcafffnkkjnpbaa.Sha Go.Proofs.Ytcafffnkkjnpbaa.Wire
--PLAINHI
set_option maxRecDepth 100000 in
set_option maxHeartbeats 4000000 in
theorem reqbatches_walk (api : ReqApi) (s1 : Int) (A1 : Option Addr) (n1 c1 : Nat) (l1 : List RV) (s2 : Int) (A2 : Option Addr) (n2 c2 : Nat) (l2 : List RV) (A3 : Option Addr) (n3 c3 : Nat) (bs : List Int) (w : World) (h1 : Rr w A1 n1 l1) (hc1 : n1 ≤ c1) (hm1 : c1 ≤ 9223372036854775807) (o1 : ∀ r ∈ l1, r.ok) (h2 : Rr w A2 n2 l2) (hc2 : n2 ≤ c2) (hm2 : c2 ≤ 9223372036854775807) (o2 : ∀ r ∈ l2, r.ok) (h3 : Rd w A3 n3 bs) (hc3 : n3 ≤ c3) (hm3 : c3 ≤ 9223372036854775807) :
    Calls Try.prog 3 #[.agg #[.int .i64 s1, .slice A1 n1 c1], .agg #[.int .i64 s2, .slice A2 n2 c2], .slice A3 n3 c3] w (Yes w) := by
  obtain ⟨N, hN⟩ : ∃ N, w.heap.size = N := ⟨_, rfl⟩
  have X : Kept (Blk ((w.alloc (.cells #[.int .i64 s1, .slice A1 n1 c1] 24)).alloc (.cells #[.int .i64 s2, .slice A2 n2 c2] 24)) N 24 #[.int .i64 s1, .slice A1 n1 c1]) := ⟨(Blk.new_at w _ _ N hN.symm).alloc _⟩
  have Y : Kept (Blk ((w.alloc (.cells #[.int .i64 s1, .slice A1 n1 c1] 24)).alloc (.cells #[.int .i64 s2, .slice A2 n2 c2] 24)) (N + 1) 24 #[.int .i64 s2, .slice A2 n2 c2]) := ⟨Blk.new_at _ _ _ (N + 1) (by simp [hN])⟩
  have B : Kept (Below w.heap.size w ((w.alloc (.cells #[.int .i64 s1, .slice A1 n1 c1] 24)).alloc (.cells #[.int .i64 s2, .slice A2 n2 c2] 24))) := ⟨((Below.refl _ _).alloc (Nat.le_refl _) _).alloc (by simp) _⟩
  have H1 := Kept.mk (h1.below B.out); have H2 := Kept.mk (h2.below B.out); have H3 := Kept.mk (h3.below B.out)
  have O1 := Kept.mk o1; have O2 := Kept.mk o2
  clear h1 h2 h3 o1 o2
  go_enter Try.func3, Try.ntmps3
  go_upto_region 1 with (fail)
  generalize ((w.alloc (.cells #[.int .i64 s1, .slice A1 n1 c1] 24)).alloc (.cells #[.int .i64 s2, .slice A2 n2 c2] 24)) = w1 at *
  go_wp2_with fail
  refine (first_any api _).mono ?_
  rintro e w2 ⟨rfl, bb⟩
  replace X := Kept.mk (X.out.below bb X.out.lt); replace Y := Kept.mk (Y.out.below bb Y.out.lt); replace H1 := Kept.mk (H1.out.below bb); replace H2 := Kept.mk (H2.out.below bb); replace H3 := Kept.mk (H3.out.below bb); replace B := Kept.mk (B.out.trans (bb.mono B.out.size))
  clear bb
  have x0 := X.out.cell 0; have x1 := X.out.cell 1
  have KF := few_any s1 A1 n1 c1 l1 w2 H1.out (by omega)
  unfold FewPost at KF
  have KF2 := Kept.mk KF
  clear KF
  go_wp2_with fail
  refine KF2.out.mono ?_
  rintro e w3 ⟨t, rfl, ht, bb⟩
  replace X := Kept.mk (X.out.below bb X.out.lt); replace Y := Kept.mk (Y.out.below bb Y.out.lt); replace H1 := Kept.mk (H1.out.below bb); replace H2 := Kept.mk (H2.out.below bb); replace H3 := Kept.mk (H3.out.below bb); replace B := Kept.mk (B.out.trans (bb.mono B.out.size))
  have Q1 := Kept.mk ht
  clear bb ht KF2 x0 x1
  cases t with
  | false =>
    go_wp2_with fail
    refine (first_any api _).mono ?_
    rintro e w4 ⟨rfl, bb⟩
    replace X := Kept.mk (X.out.below bb X.out.lt); replace Y := Kept.mk (Y.out.below bb Y.out.lt); replace H1 := Kept.mk (H1.out.below bb); replace H2 := Kept.mk (H2.out.below bb); replace H3 := Kept.mk (H3.out.below bb); replace B := Kept.mk (B.out.trans (bb.mono B.out.size))
    clear bb
    go_wp2
    go_ret
    exact ⟨rfl, B.out⟩
  | true =>
    obtain ⟨few1, sm1⟩ := Q1.out rfl
    have S1 := Kept.mk sm1
    clear sm1
    have y0 := Y.out.cell 0; have y1 := Y.out.cell 1
    have KF := few_any s2 A2 n2 c2 l2 w3 H2.out (by omega)
    unfold FewPost at KF
    have KF2 := Kept.mk KF
    clear KF
    go_wp2_with fail
    refine KF2.out.mono ?_
    rintro e w4 ⟨t, rfl, ht, bb⟩
    replace X := Kept.mk (X.out.below bb X.out.lt); replace Y := Kept.mk (Y.out.below bb Y.out.lt); replace H1 := Kept.mk (H1.out.below bb); replace H2 := Kept.mk (H2.out.below bb); replace H3 := Kept.mk (H3.out.below bb); replace B := Kept.mk (B.out.trans (bb.mono B.out.size))
    have Q2 := Kept.mk ht
    clear bb ht KF2 y0 y1
    cases t with
    | false =>
      go_wp2_with fail
      refine (first_any api _).mono ?_
      rintro e w5 ⟨rfl, bb⟩
      replace X := Kept.mk (X.out.below bb X.out.lt); replace Y := Kept.mk (Y.out.below bb Y.out.lt); replace H1 := Kept.mk (H1.out.below bb); replace H2 := Kept.mk (H2.out.below bb); replace H3 := Kept.mk (H3.out.below bb); replace B := Kept.mk (B.out.trans (bb.mono B.out.size))
      clear bb
      go_wp2
      go_ret
      exact ⟨rfl, B.out⟩
    | true =>
      obtain ⟨few2, sm2⟩ := Q2.out rfl
      have S2 := Kept.mk sm2
      clear sm2
      by_cases hb : 20000 < n3
      · have hb' : (20000 : Int) < n3 := by omega
        go_wp2_with fail
        refine (first_any api _).mono ?_
        rintro e w5 ⟨rfl, bb⟩
        replace X := Kept.mk (X.out.below bb X.out.lt); replace Y := Kept.mk (Y.out.below bb Y.out.lt); replace H1 := Kept.mk (H1.out.below bb); replace H2 := Kept.mk (H2.out.below bb); replace H3 := Kept.mk (H3.out.below bb); replace B := Kept.mk (B.out.trans (bb.mono B.out.size))
        clear bb
        go_wp2
        go_ret
        exact ⟨rfl, B.out⟩
      · have hb' : ¬ (20000 : Int) < n3 := by omega
        obtain ⟨R, hR⟩ : ∃ R, encB ⟨s1, l1⟩ = R := ⟨_, rfl⟩
        have x0 := X.out.cell 0; have x1 := X.out.cell 1
        have KE := api.encb s1 H1.out hc1 hm1 (by omega) O1.out S1.out
        rw [hR] at KE
        unfold EncPost at KE
        have KE2 := Kept.mk KE
        clear KE
        go_wp2_with fail
        refine KE2.out.mono ?_
        rintro e w5 ⟨AP, nP, cP, rfl, -, -, r, bb⟩
        replace X := Kept.mk (X.out.below bb X.out.lt); replace Y := Kept.mk (Y.out.below bb Y.out.lt); replace H1 := Kept.mk (H1.out.below bb); replace H2 := Kept.mk (H2.out.below bb); replace H3 := Kept.mk (H3.out.below bb); replace B := Kept.mk (B.out.trans (bb.mono B.out.size))
        have RP := Kept.mk r
        clear r bb KE2 x0 x1
        have x0 := X.out.cell 0; have x1 := X.out.cell 1
        have KE := rencb_any s1 A1 n1 c1 l1 w5 H1.out O1.out (by omega)
        rw [hR] at KE
        unfold EncPost at KE
        have KE2 := Kept.mk KE
        clear KE
        go_wp2_with fail
        refine KE2.out.mono ?_
        rintro e w6 ⟨AQ, nQ, cQ, rfl, -, -, r, bb⟩
        replace X := Kept.mk (X.out.below bb X.out.lt); replace Y := Kept.mk (Y.out.below bb Y.out.lt); replace H1 := Kept.mk (H1.out.below bb); replace H2 := Kept.mk (H2.out.below bb); replace H3 := Kept.mk (H3.out.below bb); replace RP := Kept.mk (RP.out.below bb); replace B := Kept.mk (B.out.trans (bb.mono B.out.size))
        have RQ := Kept.mk r
        clear r bb KE2 x0 x1
        clear hR
        have KD := api.decb H3.out hc3 hm3 (by omega)
        unfold DecBPost at KD
        have KD2 := Kept.mk KD
        clear KD
        go_wp2_with fail
        refine KD2.out.mono ?_
        rintro e w7 ⟨eU, sU, AU, nU, cU, lU, rfl, hcU, hmU, rr, ok, dd, bb⟩
        replace X := Kept.mk (X.out.below bb X.out.lt); replace Y := Kept.mk (Y.out.below bb Y.out.lt); replace H1 := Kept.mk (H1.out.below bb); replace H2 := Kept.mk (H2.out.below bb); replace H3 := Kept.mk (H3.out.below bb); replace RP := Kept.mk (RP.out.below bb); replace RQ := Kept.mk (RQ.out.below bb); replace B := Kept.mk (B.out.trans (bb.mono B.out.size))
        have ZU := Kept.mk rr; have OKU := Kept.mk ok; have DDU := Kept.mk dd
        clear rr ok dd bb KD2
        go_upto_region 8 with (fail)
        have bb : Below w7.heap.size w7 (w7.alloc (.cells #[.int .i64 sU, .slice AU nU cU] 24)) := (Below.refl _ _).alloc (Nat.le_refl _) _
        have CU : Kept (Blk (w7.alloc (.cells #[.int .i64 sU, .slice AU nU cU] 24)) w7.heap.size 24 #[.int .i64 sU, .slice AU nU cU]) := ⟨Blk.new _ _ _⟩
        replace X := Kept.mk (X.out.below bb X.out.lt); replace Y := Kept.mk (Y.out.below bb Y.out.lt); replace H1 := Kept.mk (H1.out.below bb); replace H2 := Kept.mk (H2.out.below bb); replace H3 := Kept.mk (H3.out.below bb); replace RP := Kept.mk (RP.out.below bb); replace RQ := Kept.mk (RQ.out.below bb); replace ZU := Kept.mk (ZU.out.below bb); replace B := Kept.mk (B.out.trans (bb.mono B.out.size))
        clear bb
        generalize w7.alloc (.cells #[.int .i64 sU, .slice AU nU cU] 24) = w8 at *
        generalize w7.heap.size = NU at *
        have KD := rdecb_any A3 n3 c3 bs w8 H3.out hc3 hm3 (by omega)
        unfold DecBPost at KD
        have KD2 := Kept.mk KD
        clear KD
        go_wp2_with fail
        refine KD2.out.mono ?_
        rintro e w9 ⟨eV, sV, AV, nV, cV, lV, rfl, hcV, hmV, rr, ok, dd, bb⟩
        replace X := Kept.mk (X.out.below bb X.out.lt); replace Y := Kept.mk (Y.out.below bb Y.out.lt); replace H1 := Kept.mk (H1.out.below bb); replace H2 := Kept.mk (H2.out.below bb); replace H3 := Kept.mk (H3.out.below bb); replace RP := Kept.mk (RP.out.below bb); replace RQ := Kept.mk (RQ.out.below bb); replace ZU := Kept.mk (ZU.out.below bb); replace CU := Kept.mk (CU.out.below bb CU.out.lt); replace B := Kept.mk (B.out.trans (bb.mono B.out.size))
        have ZV := Kept.mk rr; have OKV := Kept.mk ok; have DDV := Kept.mk dd
        clear rr ok dd bb KD2
        go_upto_region 9 with (fail)
        have bb : Below w9.heap.size w9 (w9.alloc (.cells #[.int .i64 sV, .slice AV nV cV] 24)) := (Below.refl _ _).alloc (Nat.le_refl _) _
        have CV : Kept (Blk (w9.alloc (.cells #[.int .i64 sV, .slice AV nV cV] 24)) w9.heap.size 24 #[.int .i64 sV, .slice AV nV cV]) := ⟨Blk.new _ _ _⟩
        replace X := Kept.mk (X.out.below bb X.out.lt); replace Y := Kept.mk (Y.out.below bb Y.out.lt); replace H1 := Kept.mk (H1.out.below bb); replace H2 := Kept.mk (H2.out.below bb); replace H3 := Kept.mk (H3.out.below bb); replace RP := Kept.mk (RP.out.below bb); replace RQ := Kept.mk (RQ.out.below bb); replace ZU := Kept.mk (ZU.out.below bb); replace CU := Kept.mk (CU.out.below bb CU.out.lt); replace ZV := Kept.mk (ZV.out.below bb); replace B := Kept.mk (B.out.trans (bb.mono B.out.size))
        clear bb
        generalize w9.alloc (.cells #[.int .i64 sV, .slice AV nV cV] 24) = w10 at *
        generalize w9.heap.size = NV at *
        obtain ⟨he1', he2'⟩ := DDU.out.one DDV.out
        subst he1'
        injection he2' with hs hl
        subst hs hl
        have LU := DDU.out.len
        have nUl := ZU.out.1; have nVl := ZV.out.1
        have HS : Kept (∀ w', Below w10.heap.size w10 w' → w'.cell? ⟨N, 0, none⟩ = some (.int .i64 s1) ∧ w'.cell? ⟨N, 1, none⟩ = some (.slice A1 n1 c1) ∧ w'.cell? ⟨N + 1, 0, none⟩ = some (.int .i64 s2) ∧ w'.cell? ⟨N + 1, 1, none⟩ = some (.slice A2 n2 c2) ∧ w'.cell? ⟨NU, 0, none⟩ = some (.int .i64 sU) ∧ w'.cell? ⟨NU, 1, none⟩ = some (.slice AU nU cU) ∧ w'.cell? ⟨NV, 0, none⟩ = some (.int .i64 sU) ∧ w'.cell? ⟨NV, 1, none⟩ = some (.slice AV nV cV)) := ⟨fun w' bb => by
          have h1 := X.out.below bb X.out.lt; have h2 := Y.out.below bb Y.out.lt; have h3 := CU.out.below bb CU.out.lt; have h4 := CV.out.below bb CV.out.lt
          exact ⟨h1.cell 0, h1.cell 1, h2.cell 0, h2.cell 1, h3.cell 0, h3.cell 1, h4.cell 0, h4.cell 1⟩⟩
        refine wp_region_noPanic ?_
        refine wp_region_held_drew (S := fun w' : World => w'.cell? ⟨N, 0, none⟩ = some (.int .i64 s1) ∧ w'.cell? ⟨N, 1, none⟩ = some (.slice A1 n1 c1) ∧ w'.cell? ⟨N + 1, 0, none⟩ = some (.int .i64 s2) ∧ w'.cell? ⟨N + 1, 1, none⟩ = some (.slice A2 n2 c2) ∧ w'.cell? ⟨NU, 0, none⟩ = some (.int .i64 sU) ∧ w'.cell? ⟨NU, 1, none⟩ = some (.slice AU nU cU) ∧ w'.cell? ⟨NV, 0, none⟩ = some (.int .i64 sU) ∧ w'.cell? ⟨NV, 1, none⟩ = some (.slice AV nV cV)) (by kernel_rfl) (HS.out _ (Below.refl _ _).drew) (fun hHeld => ?_)
        have BW : Kept (Below w10.heap.size w10 w10.drew) := ⟨(Below.refl _ _).drew⟩
        replace X := Kept.mk (X.out.below BW.out X.out.lt); replace Y := Kept.mk (Y.out.below BW.out Y.out.lt); replace H1 := Kept.mk (H1.out.below BW.out); replace H2 := Kept.mk (H2.out.below BW.out); replace H3 := Kept.mk (H3.out.below BW.out); replace RP := Kept.mk (RP.out.below BW.out); replace RQ := Kept.mk (RQ.out.below BW.out); replace ZU := Kept.mk (ZU.out.below BW.out); replace CU := Kept.mk (CU.out.below BW.out CU.out.lt); replace ZV := Kept.mk (ZV.out.below BW.out); replace CV := Kept.mk (CV.out.below BW.out CV.out.lt); replace B := Kept.mk (B.out.trans (BW.out.mono B.out.size))
        generalize w10.drew = w11 at *
        refine wpAnyH_ready (rs := [0]) (by kernel_rfl) (by simp) ?_
        refine AllReadyH.cons (o := ?o75) ?hi75 (fun K hK => ?_) AllReadyH.nil
        case hi75 => (simp only [List.getElem?_toArray]; exact rfl)
        go_simp
        go_at_call 9
        refine (first_any api _).mono ?_
        rintro e w12 ⟨rfl, bb⟩
        clear hHeld
        replace X := Kept.mk (X.out.below bb X.out.lt); replace Y := Kept.mk (Y.out.below bb Y.out.lt); replace H1 := Kept.mk (H1.out.below bb); replace H2 := Kept.mk (H2.out.below bb); replace H3 := Kept.mk (H3.out.below bb); replace RP := Kept.mk (RP.out.below bb); replace RQ := Kept.mk (RQ.out.below bb); replace ZU := Kept.mk (ZU.out.below bb); replace CU := Kept.mk (CU.out.below bb CU.out.lt); replace ZV := Kept.mk (ZV.out.below bb); replace CV := Kept.mk (CV.out.below bb CV.out.lt); replace B := Kept.mk (B.out.trans (bb.mono B.out.size))
        replace BW := Kept.mk (BW.out.trans (bb.mono BW.out.size))
        refine hK.out _ _ (HS.out _ BW.out) (fun hHeld => ?_)
        clear hK K bb
        try simp only [Act.put, List.setIfInBounds_toArray, List.set_cons_zero, List.set_cons_succ]
        refine wpAnyH_take (i := 1) (oi := ?o49) (v := ?v49) ?hi49 (by kernel_rfl) (by kernel_rfl) (by kernel_rfl) ?hq49 (Or.inl ⟨?hw49, ?hy49⟩) (by assumption) ?r49
        case hi49 => (simp only [List.getElem?_toArray]; exact rfl)
        case hq49 => exact fun _ _ _ h => h
        case hw49 => rfl
        case hy49 => (intro w hSw; (try dsimp only at hSw); go_simp; try exact rfl)
        simp only [Act.put, List.setIfInBounds_toArray, List.set_cons_zero, List.set_cons_succ]
        refine wpAnyH_take (i := 2) (oi := ?o50) (v := ?v50) ?hi50 (by kernel_rfl) (by kernel_rfl) (by kernel_rfl) ?hq50 (Or.inl ⟨?hw50, ?hy50⟩) (by assumption) ?r50
        case hi50 => (simp only [List.getElem?_toArray]; exact rfl)
        case hq50 => exact fun _ _ _ h => h
        case hw50 => rfl
        case hy50 => (intro w hSw; (try dsimp only at hSw); go_simp; try exact rfl)
        simp only [Act.put, List.setIfInBounds_toArray, List.set_cons_zero, List.set_cons_succ]
        refine wpAnyH_take (i := 3) (oi := ?o51) (v := ?v51) ?hi51 (by kernel_rfl) (by kernel_rfl) (by kernel_rfl) ?hq51 (Or.inl ⟨?hw51, ?hy51⟩) (by assumption) ?r51
        case hi51 => (simp only [List.getElem?_toArray]; exact rfl)
        case hq51 => exact fun _ _ _ h => h
        case hw51 => rfl
        case hy51 => (intro w hSw; (try dsimp only at hSw); go_simp; try exact rfl)
        simp only [Act.put, List.setIfInBounds_toArray, List.set_cons_zero, List.set_cons_succ]
        refine wpAnyH_ready (rs := [4]) (by kernel_rfl) (by simp) ?_
        refine AllReadyH.cons (o := ?o76) ?hi76 (fun K hK => ?_) AllReadyH.nil
        case hi76 => (simp only [List.getElem?_toArray]; exact rfl)
        go_simp
        go_at_call 15
        refine (bytes_same AP AQ nP nQ cP cQ _ _ RP.out RQ.out).mono ?_
        rintro e _ ⟨rfl, rfl⟩
        refine hK.out _ _ hHeld (fun hHeld => ?_)
        clear hK K
        try simp only [Act.put, List.setIfInBounds_toArray, List.set_cons_zero, List.set_cons_succ]
        refine wpAnyH_take (i := 5) (oi := ?o52) (v := ?v52) ?hi52 (by kernel_rfl) (by kernel_rfl) (by kernel_rfl) ?hq52 (Or.inl ⟨?hw52, ?hy52⟩) (by assumption) ?r52
        case hi52 => (simp only [List.getElem?_toArray]; exact rfl)
        case hq52 => exact fun _ _ _ h => h
        case hw52 => rfl
        case hy52 => (intro w hSw; (try dsimp only at hSw); go_simp; try exact rfl)
        simp only [Act.put, List.setIfInBounds_toArray, List.set_cons_zero, List.set_cons_succ]
        refine wpAnyH_take (i := 6) (oi := ?o53) (v := ?v53) ?hi53 (by kernel_rfl) (by kernel_rfl) (by kernel_rfl) ?hq53 (Or.inl ⟨?hw53, ?hy53⟩) (by assumption) ?r53
        case hi53 => (simp only [List.getElem?_toArray]; exact rfl)
        case hq53 => exact fun _ _ _ h => h
        case hw53 => rfl
        case hy53 => (intro w hSw; (try dsimp only at hSw); go_simp; try exact rfl)
        simp only [Act.put, List.setIfInBounds_toArray, List.set_cons_zero, List.set_cons_succ]
        refine wpAnyH_take (i := 7) (oi := ?o54) (v := ?v54) ?hi54 (by kernel_rfl) (by kernel_rfl) (by kernel_rfl) ?hq54 (Or.inl ⟨?hw54, ?hy54⟩) (by assumption) ?r54
        case hi54 => (simp only [List.getElem?_toArray]; exact rfl)
        case hq54 => exact fun _ _ _ h => h
        case hw54 => rfl
        case hy54 => (intro w hSw; (try dsimp only at hSw); go_simp; try exact rfl)
        simp only [Act.put, List.setIfInBounds_toArray, List.set_cons_zero, List.set_cons_succ]
        refine wpAnyH_take (i := 8) (oi := ?o55) (v := ?v55) ?hi55 (by kernel_rfl) (by kernel_rfl) (by kernel_rfl) ?hq55 (Or.inl ⟨?hw55, ?hy55⟩) (by assumption) ?r55
        case hi55 => (simp only [List.getElem?_toArray]; exact rfl)
        case hq55 => exact fun _ _ _ h => h
        case hw55 => rfl
        case hy55 => (intro w hSw; (try dsimp only at hSw); go_simp; try exact rfl)
        simp only [Act.put, List.setIfInBounds_toArray, List.set_cons_zero, List.set_cons_succ]
        refine wpAnyH_take (i := 9) (oi := ?o56) (v := ?v56) ?hi56 (by kernel_rfl) (by kernel_rfl) (by kernel_rfl) ?hq56 (Or.inl ⟨?hw56, ?hy56⟩) (by assumption) ?r56
        case hi56 => (simp only [List.getElem?_toArray]; exact rfl)
        case hq56 => exact fun _ _ _ h => h
        case hw56 => rfl
        case hy56 => (intro w hSw; (try dsimp only at hSw); go_simp; try exact rfl)
        simp only [Act.put, List.setIfInBounds_toArray, List.set_cons_zero, List.set_cons_succ]
        refine wpAnyH_take (i := 10) (oi := ?o57) (v := ?v57) ?hi57 (by kernel_rfl) (by kernel_rfl) (by kernel_rfl) ?hq57 (Or.inl ⟨?hw57, ?hy57⟩) (by assumption) ?r57
        case hi57 => (simp only [List.getElem?_toArray]; exact rfl)
        case hq57 => exact fun _ _ _ h => h
        case hw57 => rfl
        case hy57 => (intro w hSw; (try dsimp only at hSw); go_simp; try exact rfl)
        simp only [Act.put, List.setIfInBounds_toArray, List.set_cons_zero, List.set_cons_succ]
        refine wpAnyH_take (i := 11) (oi := ?o58) (v := ?v58) ?hi58 (by kernel_rfl) (by kernel_rfl) (by kernel_rfl) ?hq58 (Or.inl ⟨?hw58, ?hy58⟩) (by assumption) ?r58
        case hi58 => (simp only [List.getElem?_toArray]; exact rfl)
        case hq58 => exact fun _ _ _ h => h
        case hw58 => rfl
        case hy58 => (intro w hSw; (try dsimp only at hSw); go_simp; try exact rfl)
        simp only [Act.put, List.setIfInBounds_toArray, List.set_cons_zero, List.set_cons_succ]
        refine wpAnyH_take (i := 12) (oi := ?o59) (v := ?v59) ?hi59 (by kernel_rfl) (by kernel_rfl) (by kernel_rfl) ?hq59 (Or.inl ⟨?hw59, ?hy59⟩) (by assumption) ?r59
        case hi59 => (simp only [List.getElem?_toArray]; exact rfl)
        case hq59 => exact fun _ _ _ h => h
        case hw59 => rfl
        case hy59 => (intro w hSw; (try dsimp only at hSw); go_simp; try exact rfl)
        simp only [Act.put, List.setIfInBounds_toArray, List.set_cons_zero, List.set_cons_succ]
        refine wpAnyH_take (i := 13) (oi := ?o60) (v := ?v60) ?hi60 (by kernel_rfl) (by kernel_rfl) (by kernel_rfl) ?hq60 (Or.inl ⟨?hw60, ?hy60⟩) (by assumption) ?r60
        case hi60 => (simp only [List.getElem?_toArray]; exact rfl)
        case hq60 => exact fun _ _ _ h => h
        case hw60 => rfl
        case hy60 => (intro w hSw; (try dsimp only at hSw); go_simp; try exact rfl)
        simp only [Act.put, List.setIfInBounds_toArray, List.set_cons_zero, List.set_cons_succ]
        refine wpAnyH_ready (rs := [14]) (by kernel_rfl) (by simp) ?_
        refine AllReadyH.cons (o := ?o77) ?hi77 (fun K hK => ?_) AllReadyH.nil
        case hi77 => (simp only [List.getElem?_toArray]; exact rfl)
        go_simp
        have KS := rsameb_any sU AU nU cU lU sU AV nV cV lU _ ZU.out ZV.out (by omega) OKU.out OKV.out
        unfold SamePost at KS
        go_at_call 16
        refine KS.mono ?_
        rintro e w13 ⟨q, rfl, hq, bb⟩
        obtain rfl : q = true := hq.2 rfl
        clear hHeld
        replace X := Kept.mk (X.out.below bb X.out.lt); replace Y := Kept.mk (Y.out.below bb Y.out.lt); replace H1 := Kept.mk (H1.out.below bb); replace H2 := Kept.mk (H2.out.below bb); replace H3 := Kept.mk (H3.out.below bb); replace RP := Kept.mk (RP.out.below bb); replace RQ := Kept.mk (RQ.out.below bb); replace ZU := Kept.mk (ZU.out.below bb); replace CU := Kept.mk (CU.out.below bb CU.out.lt); replace ZV := Kept.mk (ZV.out.below bb); replace CV := Kept.mk (CV.out.below bb CV.out.lt); replace B := Kept.mk (B.out.trans (bb.mono B.out.size))
        replace BW := Kept.mk (BW.out.trans (bb.mono BW.out.size))
        refine hK.out _ _ (HS.out _ BW.out) (fun hHeld => ?_)
        clear hK K bb KS hq
        try simp only [Act.put, List.setIfInBounds_toArray, List.set_cons_zero, List.set_cons_succ]
        refine wpAnyH_take (i := 15) (oi := ?o61) (v := ?v61) ?hi61 (by kernel_rfl) (by kernel_rfl) (by kernel_rfl) ?hq61 (Or.inl ⟨?hw61, ?hy61⟩) (by assumption) ?r61
        case hi61 => (simp only [List.getElem?_toArray]; exact rfl)
        case hq61 => exact fun _ _ _ h => h
        case hw61 => rfl
        case hy61 => (intro w hSw; (try dsimp only at hSw); go_simp; try exact rfl)
        simp only [Act.put, List.setIfInBounds_toArray, List.set_cons_zero, List.set_cons_succ]
        refine wpAnyH_take (i := 16) (oi := ?o62) (v := ?v62) ?hi62 (by kernel_rfl) (by kernel_rfl) (by kernel_rfl) ?hq62 (Or.inl ⟨?hw62, ?hy62⟩) (by assumption) ?r62
        case hi62 => (simp only [List.getElem?_toArray]; exact rfl)
        case hq62 => exact fun _ _ _ h => h
        case hw62 => rfl
        case hy62 => (intro w hSw; (try dsimp only at hSw); go_simp; try exact rfl)
        simp only [Act.put, List.setIfInBounds_toArray, List.set_cons_zero, List.set_cons_succ]
        refine wpAnyH_take (i := 17) (oi := ?o63) (v := ?v63) ?hi63 (by kernel_rfl) (by kernel_rfl) (by kernel_rfl) ?hq63 (Or.inl ⟨?hw63, ?hy63⟩) (by assumption) ?r63
        case hi63 => (simp only [List.getElem?_toArray]; exact rfl)
        case hq63 => exact fun _ _ _ h => h
        case hw63 => rfl
        case hy63 => (intro w hSw; (try dsimp only at hSw); go_simp; try exact rfl)
        simp only [Act.put, List.setIfInBounds_toArray, List.set_cons_zero, List.set_cons_succ]
        refine wpAnyH_take (i := 18) (oi := ?o64) (v := ?v64) ?hi64 (by kernel_rfl) (by kernel_rfl) (by kernel_rfl) ?hq64 (Or.inl ⟨?hw64, ?hy64⟩) (by assumption) ?r64
        case hi64 => (simp only [List.getElem?_toArray]; exact rfl)
        case hq64 => exact fun _ _ _ h => h
        case hw64 => rfl
        case hy64 => (intro w hSw; (try dsimp only at hSw); go_simp; try exact rfl)
        simp only [Act.put, List.setIfInBounds_toArray, List.set_cons_zero, List.set_cons_succ]
        refine wpAnyH_take (i := 19) (oi := ?o65) (v := ?v65) ?hi65 (by kernel_rfl) (by kernel_rfl) (by kernel_rfl) ?hq65 (Or.inl ⟨?hw65, ?hy65⟩) (by assumption) ?r65
        case hi65 => (simp only [List.getElem?_toArray]; exact rfl)
        case hq65 => exact fun _ _ _ h => h
        case hw65 => rfl
        case hy65 => (intro w hSw; (try dsimp only at hSw); go_simp; try exact rfl)
        simp only [Act.put, List.setIfInBounds_toArray, List.set_cons_zero, List.set_cons_succ]
        refine wpAnyH_take (i := 20) (oi := ?o66) (v := ?v66) ?hi66 (by kernel_rfl) (by kernel_rfl) (by kernel_rfl) ?hq66 (Or.inl ⟨?hw66, ?hy66⟩) (by assumption) ?r66
        case hi66 => (simp only [List.getElem?_toArray]; exact rfl)
        case hq66 => exact fun _ _ _ h => h
        case hw66 => rfl
        case hy66 => (intro w hSw; (try dsimp only at hSw); go_simp; try exact rfl)
        simp only [Act.put, List.setIfInBounds_toArray, List.set_cons_zero, List.set_cons_succ]
        refine wpAnyH_take (i := 21) (oi := ?o67) (v := ?v67) ?hi67 (by kernel_rfl) (by kernel_rfl) (by kernel_rfl) ?hq67 (Or.inl ⟨?hw67, ?hy67⟩) (by assumption) ?r67
        case hi67 => (simp only [List.getElem?_toArray]; exact rfl)
        case hq67 => exact fun _ _ _ h => h
        case hw67 => rfl
        case hy67 => (intro w hSw; (try dsimp only at hSw); go_simp; try exact rfl)
        simp only [Act.put, List.setIfInBounds_toArray, List.set_cons_zero, List.set_cons_succ]
        refine wpAnyH_take (i := 22) (oi := ?o68) (v := ?v68) ?hi68 (by kernel_rfl) (by kernel_rfl) (by kernel_rfl) ?hq68 (Or.inl ⟨?hw68, ?hy68⟩) (by assumption) ?r68
        case hi68 => (simp only [List.getElem?_toArray]; exact rfl)
        case hq68 => exact fun _ _ _ h => h
        case hw68 => rfl
        case hy68 => (intro w hSw; (try dsimp only at hSw); go_simp; try exact rfl)
        simp only [Act.put, List.setIfInBounds_toArray, List.set_cons_zero, List.set_cons_succ]
        refine wpAnyH_take (i := 23) (oi := ?o69) (v := ?v69) ?hi69 (by kernel_rfl) (by kernel_rfl) (by kernel_rfl) ?hq69 (Or.inl ⟨?hw69, ?hy69⟩) (by assumption) ?r69
        case hi69 => (simp only [List.getElem?_toArray]; exact rfl)
        case hq69 => exact fun _ _ _ h => h
        case hw69 => rfl
        case hy69 => (intro w hSw; (try dsimp only at hSw); go_simp; try exact rfl)
        simp only [Act.put, List.setIfInBounds_toArray, List.set_cons_zero, List.set_cons_succ]
        refine wpAnyH_take (i := 25) (oi := ?o70) (v := ?v70) ?hi70 (by kernel_rfl) (by kernel_rfl) (by kernel_rfl) ?hq70 (Or.inl ⟨?hw70, ?hy70⟩) (by assumption) ?r70
        case hi70 => (simp only [List.getElem?_toArray]; exact rfl)
        case hq70 => exact fun _ _ _ h => h
        case hw70 => rfl
        case hy70 => (intro w hSw; (try dsimp only at hSw); go_simp; try exact rfl)
        simp only [Act.put, List.setIfInBounds_toArray, List.set_cons_zero, List.set_cons_succ]
        refine wpAnyH_take (i := 26) (oi := ?o71) (v := ?v71) ?hi71 (by kernel_rfl) (by kernel_rfl) (by kernel_rfl) ?hq71 (Or.inl ⟨?hw71, ?hy71⟩) (by assumption) ?r71
        case hi71 => (simp only [List.getElem?_toArray]; exact rfl)
        case hq71 => exact fun _ _ _ h => h
        case hw71 => rfl
        case hy71 => (intro w hSw; (try dsimp only at hSw); go_simp; try exact rfl)
        simp only [Act.put, List.setIfInBounds_toArray, List.set_cons_zero, List.set_cons_succ]
        refine wpAnyH_ready (rs := [24]) (by kernel_rfl) (by simp) ?_
        refine AllReadyH.cons (o := ?o78) ?hi78 (fun K hK => ?_) AllReadyH.nil
        case hi78 => (simp only [List.getElem?_toArray]; exact rfl)
        go_simp
        have KS := api.sameb s1 s2 H1.out H2.out hc1 hm1 hc2 hm2 (by omega) (by omega) O1.out O2.out
        unfold SamePost at KS
        go_at_call 17
        refine KS.mono ?_
        rintro e w14 ⟨q1, rfl, hq1, bb⟩
        have HQ1 := Kept.mk hq1
        clear hHeld
        replace X := Kept.mk (X.out.below bb X.out.lt); replace Y := Kept.mk (Y.out.below bb Y.out.lt); replace H1 := Kept.mk (H1.out.below bb); replace H2 := Kept.mk (H2.out.below bb); replace H3 := Kept.mk (H3.out.below bb); replace RP := Kept.mk (RP.out.below bb); replace RQ := Kept.mk (RQ.out.below bb); replace ZU := Kept.mk (ZU.out.below bb); replace CU := Kept.mk (CU.out.below bb CU.out.lt); replace ZV := Kept.mk (ZV.out.below bb); replace CV := Kept.mk (CV.out.below bb CV.out.lt); replace B := Kept.mk (B.out.trans (bb.mono B.out.size))
        replace BW := Kept.mk (BW.out.trans (bb.mono BW.out.size))
        refine hK.out _ _ (HS.out _ BW.out) (fun hHeld => ?_)
        clear hK K bb KS hq1
        try simp only [Act.put, List.setIfInBounds_toArray, List.set_cons_zero, List.set_cons_succ]
        refine wpAnyH_ready (rs := [27]) (by kernel_rfl) (by simp) ?_
        refine AllReadyH.cons (o := ?o79) ?hi79 (fun K hK => ?_) AllReadyH.nil
        case hi79 => (simp only [List.getElem?_toArray]; exact rfl)
        go_simp
        have KS := rsameb_any s1 A1 n1 c1 l1 s2 A2 n2 c2 l2 _ H1.out H2.out (by omega) O1.out O2.out
        unfold SamePost at KS
        go_at_call 16
        refine KS.mono ?_
        rintro e w15 ⟨q2, rfl, hq2, bb⟩
        obtain rfl : q1 = q2 := by
          have h1 := HQ1.out
          cases q1 <;> cases q2 <;> simp_all
        clear hHeld
        replace X := Kept.mk (X.out.below bb X.out.lt); replace Y := Kept.mk (Y.out.below bb Y.out.lt); replace H1 := Kept.mk (H1.out.below bb); replace H2 := Kept.mk (H2.out.below bb); replace H3 := Kept.mk (H3.out.below bb); replace RP := Kept.mk (RP.out.below bb); replace RQ := Kept.mk (RQ.out.below bb); replace ZU := Kept.mk (ZU.out.below bb); replace CU := Kept.mk (CU.out.below bb CU.out.lt); replace ZV := Kept.mk (ZV.out.below bb); replace CV := Kept.mk (CV.out.below bb CV.out.lt); replace B := Kept.mk (B.out.trans (bb.mono B.out.size))
        replace BW := Kept.mk (BW.out.trans (bb.mono BW.out.size))
        refine hK.out _ _ (HS.out _ BW.out) (fun hHeld => ?_)
        clear hK K bb KS hq2
        try simp only [Act.put, List.setIfInBounds_toArray, List.set_cons_zero, List.set_cons_succ]
        refine wpAnyH_take (i := 28) (oi := ?o72) (v := ?v72) ?hi72 (by kernel_rfl) (by kernel_rfl) (by kernel_rfl) ?hq72 (Or.inl ⟨?hw72, ?hy72⟩) (by assumption) ?r72
        case hi72 => (simp only [List.getElem?_toArray]; exact rfl)
        case hq72 => exact fun _ _ _ h => h
        case hw72 => rfl
        case hy72 => (intro w hSw; (try dsimp only at hSw); go_simp; try exact rfl)
        simp only [Act.put, List.setIfInBounds_toArray, List.set_cons_zero, List.set_cons_succ]
        refine wpAnyH_take (i := 29) (oi := ?o73) (v := ?v73) ?hi73 (by kernel_rfl) (by kernel_rfl) (by kernel_rfl) ?hq73 (Or.inl ⟨?hw73, ?hy73⟩) (by assumption) ?r73
        case hi73 => (simp only [List.getElem?_toArray]; exact rfl)
        case hq73 => exact fun _ _ _ h => h
        case hw73 => rfl
        case hy73 => (intro w hSw; (try dsimp only at hSw); go_simp; try exact rfl)
        simp only [Act.put, List.setIfInBounds_toArray, List.set_cons_zero, List.set_cons_succ]
        refine wpAnyH_take (i := 30) (oi := ?o74) (v := ?v74) ?hi74 (by kernel_rfl) (by kernel_rfl) (by kernel_rfl) ?hq74 (Or.inl ⟨?hw74, ?hy74⟩) (by assumption) ?r74
        case hi74 => (simp only [List.getElem?_toArray]; exact rfl)
        case hq74 => exact fun _ _ _ h => h
        case hw74 => rfl
        case hy74 => (intro w hSw; (try dsimp only at hSw); go_simp; try exact rfl)
        simp only [Act.put, List.setIfInBounds_toArray, List.set_cons_zero, List.set_cons_succ]
        refine wpAnyH_done (by kernel_rfl) ?_ _
        refine NoPanic.normal ?_
        clear hHeld
        go_wp2
        go_ret
        exact ⟨rfl, B.out⟩
end Go.Proofs.Ytcafffnkkjnpbaa.Req
