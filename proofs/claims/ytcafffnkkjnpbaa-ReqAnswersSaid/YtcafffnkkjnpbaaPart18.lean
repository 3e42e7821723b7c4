/-
  Parts laid together: ReqREncA ReqRDecA.
-/
import Derived.Test.YtcafffnkkjnpbaaPart15
import Derived.Test.YtcafffnkkjnpbaaPart13
import Derived.Test.YtcafffnkkjnpbaaPart10
import Derived.Test.YtcafffnkkjnpbaaPart11
import Derived.Deep.CutBlock
import Derived.Deep.CutRange

namespace Go.Proofs.Ytcafffnkkjnpbaa.Req
open Go.RowKit Go.Proofs.Ytcafffnkkjnpbaa.Sha Go.Proofs.Ytcafffnkkjnpbaa.Wire Go.Proofs.Ytcafffnkkjnpbaa.Num

/-- of the first k p holds (q), or not of all (else) -/
structure UpTo {α : Type} (p : α → Prop) (l : List α) (k : Nat) (q : Bool) : Prop where
  yes : q = true → ∀ r ∈ l.take k, p r
  no : q = false → ¬ ∀ r ∈ l, p r
set_option maxRecDepth 100000 in
set_option maxHeartbeats 8000000 in
theorem renca_any (clock seen : Int) (A : Option Addr) (n c : Nat) (P : List PV) (D : Option Addr) (m e : Nat) (V : List VV) (w : World) (hp : Rp w A n P) (hv : Rv w D m V) (hok : ∀ r ∈ V, r.ok) (hc : n ≤ 9223372036854775807) (hd : m ≤ 9223372036854775807) : Calls Try.prog 20 #[.agg #[.int .i64 clock, .int .i64 seen, .slice A n c, .slice D m e]] w (EncPost (encA ⟨clock, seen, P, V⟩) w) := by
  have HO := Kept.mk hok
  have LN := Kept.mk hp.1; have LM := Kept.mk hv.1
  have hb0 := encA_bytes (x := ⟨clock, seen, P, V⟩) hok
  obtain ⟨R, hR⟩ : ∃ R, encA ⟨clock, seen, P, V⟩ = R := ⟨_, rfl⟩
  rw [hR] at hb0 ⊢
  have HE := Kept.mk hR
  have HB := Kept.mk hb0
  obtain ⟨N, hN⟩ : ∃ N, w.heap.size = N := ⟨_, rfl⟩
  have B0 : Below w.heap.size w (w.alloc (.cells #[.int .i64 clock, .int .i64 seen, .slice A n c, .slice D m e] 39)) := (Below.refl _ _).alloc (Nat.le_refl _) _
  have X : Kept (Blk (w.alloc (.cells #[.int .i64 clock, .int .i64 seen, .slice A n c, .slice D m e] 39)) N 39 #[.int .i64 clock, .int .i64 seen, .slice A n c, .slice D m e]) := ⟨Blk.new_at w _ _ N hN.symm⟩
  have HP := Kept.mk hp; have HV := Kept.mk hv
  have B := Kept.mk B0
  have cT := Kept.mk (fun w => rtick_any clock w)
  clear B0 hp hv hok hR hb0
  by_cases h0 : tickB clock = true ∧ 0 ≤ seen ∧ seen ≤ 65535 ∧ n ≤ 64 ∧ m ≤ 400
  · obtain ⟨ht, h0, h1, h2, h3⟩ := h0
    have hT : Tck clock := of_decide_eq_true ht
    rw [ht] at cT
    have h2' : (n : Int) ≤ 64 := by omega
    have h3' : (m : Int) ≤ 400 := by omega
    go_enter Try.func20, Try.ntmps20
    go_upto_region 1 with (fail)
    generalize (w.alloc (.cells #[.int .i64 clock, .int .i64 seen, .slice A n c, .slice D m e] 39)) = w1 at *
    have x0 := X.out.cell 0; have x1 := X.out.cell 1; have x2 := X.out.cell 2; have x3 := X.out.cell 3
    go_wp2_with (go_at_call 49; (with_reducible refine (cT.out _).mono ?_); rintro e w' ⟨rfl, rfl⟩)
    have HQ : Kept (UpTo MayP P 0 true) := ⟨by simp, by simp⟩
    clear x0 x1 x2 x3 cT
    go_loopw [4, 5] (fun ok i wr => ∃ (q : Bool) (k : Nat), k ≤ n ∧ ok = .bool q ∧ i = .int .i64 k ∧ Kept (UpTo MayP P k q) ∧ Kept (Blk wr N 39 #[.int .i64 clock, .int .i64 seen, .slice A n c, .slice D m e]) ∧ Kept (Below w.heap.size w wr)) (fun _ i _ => n - (Go.RowKit.intOf i).toNat)
    case atStart => exact ⟨true, 0, by omega, rfl, rfl, HQ, X, B⟩
    case round =>
      clear HQ X B
      obtain ⟨q, k, hk, rfl, rfl, HQ, X, B⟩ := hrel
      have x2 := X.out.cell 2; have x3 := X.out.cell 3
      cases q with
      | false =>
        obtain rfl : (1, []) = R := by rw [← HE.out]; exact (encA_no (fun h => HQ.out.no rfl h.2.2.2.2.1)).symm
        go_wp2
        refine wp_loop_rounds 1 ?_
        rw [rounds_succ]
        go_wp2
        go_ret2
        exact ⟨none, 0, 0, rfl, Nat.le_refl _, by omega, Rd.nil_, B.out⟩
      | true =>
        by_cases hkn : k < n
        · have hkn' : (k : Int) < n := by omega
          obtain ⟨b, o, r, rfl, hx, hcell⟩ := (HP.out.below B.out).at_ hkn
          have hrm := List.mem_of_getElem? hx
          have YES : Kept (MayP r → UpTo MayP P (k + 1) true) := ⟨fun h => ⟨fun _ => all_snoc hx (HQ.out.yes rfl) h, fun h => (by cases h)⟩⟩
          have NO : Kept (¬ MayP r → UpTo MayP P (k + 1) false) := ⟨fun h => ⟨fun h => (by cases h), fun _ ha => h (ha r hrm)⟩⟩
          obtain ⟨code, id⟩ := r
          have y0 := hcell 0 _ rfl; have y1 := hcell 1 _ rfl
          rw [Nat.add_zero] at y0
          dsimp only at y0 y1
          have c8 := Kept.mk (fun w => rbyte8_any code w)
          clear hcell hx hrm
          cases hb8 : b8B code with
          | false =>
            rw [hb8] at c8
            have HM := Kept.mk (NO.out (fun h => of_decide_eq_false hb8 h.1))
            clear YES NO
            go_wp2_with (go_at_call 50; (with_reducible refine (c8.out _).mono ?_); rintro e w' ⟨rfl, rfl⟩)
            go_roundw
            case rel => exact ⟨false, k + 1, by omega, by first | rfl | exact congrArg Value.bool (decide_eq_false (by omega)), by go_num, HM, X, B⟩
            case measure => simp [Go.RowKit.intOf]; omega
          | true =>
            rw [hb8] at c8
            by_cases hi0 : 0 ≤ id
            · by_cases hi1 : id ≤ 65535
              · skip
                have HM := Kept.mk (YES.out ⟨of_decide_eq_true hb8, hi0, hi1⟩)
                clear YES NO
                go_wp2_with (go_at_call 50; (with_reducible refine (c8.out _).mono ?_); rintro e w' ⟨rfl, rfl⟩)
                go_roundw
                case rel => exact ⟨true, k + 1, by omega, by first | rfl | exact congrArg Value.bool (decide_eq_false (by omega)), by go_num, HM, X, B⟩
                case measure => simp [Go.RowKit.intOf]; omega
              · skip
                have HM := Kept.mk (NO.out (fun h => hi1 h.2.2))
                clear YES NO
                go_wp2_with (go_at_call 50; (with_reducible refine (c8.out _).mono ?_); rintro e w' ⟨rfl, rfl⟩)
                go_roundw
                case rel => exact ⟨false, k + 1, by omega, by first | rfl | exact congrArg Value.bool (decide_eq_false (by omega)), by go_num, HM, X, B⟩
                case measure => simp [Go.RowKit.intOf]; omega
            · skip
              have HM := Kept.mk (NO.out (fun h => hi0 h.2.1))
              clear YES NO
              go_wp2_with (go_at_call 50; (with_reducible refine (c8.out _).mono ?_); rintro e w' ⟨rfl, rfl⟩)
              go_roundw
              case rel => exact ⟨false, k + 1, by omega, by first | rfl | exact congrArg Value.bool (decide_eq_false (by omega)), by go_num, HM, X, B⟩
              case measure => simp [Go.RowKit.intOf]; omega
        · have hkn' : ¬ (k : Int) < n := by omega
          obtain rfl : k = n := by omega
          have hL := LN.out
          have hall : ∀ r ∈ P, MayP r := by
            have := HQ.out.yes rfl
            rwa [← hL, List.take_length] at this
          have AP := Kept.mk hall
          clear hL hall HQ
          go_wp2
          clear x2 x3
          have HQ : Kept (UpTo MayV V 0 true) := ⟨by simp, by simp⟩
          go_loopw [4, 6] (fun ok i wr => ∃ (q : Bool) (j : Nat), j ≤ m ∧ ok = .bool q ∧ i = .int .i64 j ∧ Kept (UpTo MayV V j q) ∧ Kept (Blk wr N 39 #[.int .i64 clock, .int .i64 seen, .slice A k c, .slice D m e]) ∧ Kept (Below w.heap.size w wr)) (fun _ i _ => m - (Go.RowKit.intOf i).toNat)
          case atStart => exact ⟨true, 0, by omega, rfl, rfl, HQ, X, B⟩
          case round =>
            clear HQ X B
            obtain ⟨q, j, hj, rfl, rfl, HQ, X, B⟩ := hrel
            have x2 := X.out.cell 2; have x3 := X.out.cell 3
            cases q with
            | false =>
              obtain rfl : (1, []) = R := by rw [← HE.out]; exact (encA_no (fun h => HQ.out.no rfl h.2.2.2.2.2)).symm
              go_wp2
              go_ret2
              exact ⟨none, 0, 0, rfl, Nat.le_refl _, by omega, Rd.nil_, B.out⟩
            | true =>
              by_cases hjm : j < m
              · have hjm' : (j : Int) < m := by omega
                obtain ⟨b, o, r, rfl, hx, hcell⟩ := (HV.out.below B.out).at_ hjm
                have hrm := List.mem_of_getElem? hx
                have KM := rmayv_any r (HO.out r hrm)
                have HM : Kept (UpTo MayV V (j + 1) (decide (MayV r))) := ⟨fun h => all_snoc hx (HQ.out.yes rfl) (of_decide_eq_true h), fun h ha => of_decide_eq_false h (ha r hrm)⟩
                generalize decide (MayV r) = q2 at *
                obtain ⟨kind, src, dst, asset, amount, id, due, hash, sec⟩ := r
                have y0 := hcell 0 _ rfl; have y1 := hcell 1 _ rfl; have y2 := hcell 2 _ rfl; have y3 := hcell 3 _ rfl; have y4 := hcell 4 _ rfl; have y5 := hcell 5 _ rfl; have y6 := hcell 6 _ rfl; have y7 := hcell 7 _ rfl; have y8 := hcell 8 _ rfl
                rw [Nat.add_zero] at y0
                dsimp only at y0 y1 y2 y3 y4 y5 y6 y7 y8
                unfold vqv at KM
                dsimp only at KM
                have KM2 := Kept.mk KM
                clear hcell hx hrm KM
                go_wp2_with fail
                refine (KM2.out _).mono ?_
                rintro e w2 ⟨rfl, b2⟩
                replace X := Kept.mk (X.out.below b2 X.out.lt); replace B := Kept.mk (B.out.trans (b2.mono B.out.size))
                clear b2 KM2 x2 x3 y0 y1 y2 y3 y4 y5 y6 y7 y8
                go_wp2
                go_roundw
                case rel => exact ⟨q2, j + 1, by omega, rfl, by go_num, HM, X, B⟩
                case measure => simp [Go.RowKit.intOf]; omega
              · have hjm' : ¬ (j : Int) < m := by omega
                obtain rfl : j = m := by omega
                have hL := LM.out
                have hall : ∀ r ∈ V, MayV r := by
                  have := HQ.out.yes rfl
                  rwa [← hL, List.take_length] at this
                obtain rfl : (0, bytesA ⟨clock, seen, P, V⟩) = R := by rw [← HE.out]; exact (encA_yes ⟨hT, ⟨h0, h1⟩, by have := LN.out; dsimp only; omega, by dsimp only; omega, AP.out, hall⟩).symm
                have AV := Kept.mk hall
                clear hall hL HQ
                go_upto_region 13 with (fail)
                clear x2 x3
                obtain ⟨M, hM⟩ : ∃ M, wr.heap.size = M := ⟨_, rfl⟩
                have hMw : w.heap.size ≤ M := by rw [← hM]; exact B.out.size
                have b1 : Below M wr (wr.alloc (.cells #[.slice none 0 0, .int .i64 0] 62)) := (Below.refl _ _).alloc (by omega) _
                have E : Kept (En 62 (wr.alloc (.cells #[.slice none 0 0, .int .i64 0] 62)) [M] M (0, [])) := ⟨en_new (Blk.new_at wr _ _ M hM.symm) (Below.refl _ _)⟩
                have AF : Kept (∀ f ∈ [M], M ≤ f) := ⟨by simp⟩
                have XN : Kept (∀ w', Below M wr w' → Blk w' N 39 #[.int .i64 clock, .int .i64 seen, .slice A k c, .slice D j e]) := ⟨fun w' b => X.out.below b (by have := X.out.lt; omega)⟩
                have PN : Kept (∀ w', Below M wr w' → Rp w' A k P) := ⟨fun w' b => HP.out.below (B.out.trans (b.mono hMw))⟩
                have VN : Kept (∀ w', Below M wr w' → Rv w' D j V) := ⟨fun w' b => HV.out.below (B.out.trans (b.mono hMw))⟩
                have BN : Kept (∀ w', Below M wr w' → Below w.heap.size w w') := ⟨fun w' b => B.out.trans (b.mono hMw)⟩
                have B2 := Kept.mk b1
                (try rw [hM])
                clear X B b1 HP HV
                generalize wr.alloc (.cells #[.slice none 0 0, .int .i64 0] 62) = w2 at *
                have hMs : M ≤ wr.heap.size := by omega
                have x0 := (XN.out _ B2.out).cell 0
                have KC := rnum_any w2 [M] M clock 8 (0, []) E.out (by simp)
                rw [rn8 _ hT.amt] at KC
                go_wp2_with fail
                refine KC.mono ?_
                rintro x w3 ⟨rfl, F3, he, fp⟩
                have b := fp.below AF.out (by have := B2.out.size; omega)
                replace AF := Kept.mk (fp.least AF.out (by have := B2.out.size; omega))
                replace B2 := Kept.mk (B2.out.trans b)
                replace E := Kept.mk he
                clear he fp b KC x0
                have x1 := (XN.out _ B2.out).cell 1
                have KC := rnum_any w3 F3 M seen 2 (0, [] ++ be clock.toNat 8) E.out (by simp only [List.length_append, be_len, List.length_nil]; omega)
                rw [rn2 _ ⟨h0, h1⟩] at KC
                go_wp2_with fail
                refine KC.mono ?_
                rintro x w4 ⟨rfl, F4, he, fp⟩
                have b := fp.below AF.out (by have := B2.out.size; omega)
                replace AF := Kept.mk (fp.least AF.out (by have := B2.out.size; omega))
                replace B2 := Kept.mk (B2.out.trans b)
                replace E := Kept.mk he
                clear he fp b KC x1
                have x2 := (XN.out _ B2.out).cell 2
                have KC := rnum_any w4 F4 M (k : Int) 1 (0, ([] ++ be clock.toNat 8) ++ be seen.toNat 2) E.out (by simp only [List.length_append, be_len, List.length_nil]; omega)
                rw [rn1 _ ⟨by omega, by omega⟩] at KC
                go_wp2_with fail
                refine KC.mono ?_
                rintro x w5 ⟨rfl, F5, he, fp⟩
                have b := fp.below AF.out (by have := B2.out.size; omega)
                replace AF := Kept.mk (fp.least AF.out (by have := B2.out.size; omega))
                replace B2 := Kept.mk (B2.out.trans b)
                replace E : Kept (En 62 w5 F5 M (0, be clock.toNat 8 ++ (be seen.toNat 2 ++ (be k 1 ++ (P.take 0).flatMap putP)))) := ⟨by simpa [List.append_assoc] using he⟩
                clear he fp b KC x2
                go_wp2
                generalize hwr : wr = wz at *
                clear hwr
                go_loopw [8] (fun i wq => ∃ (q : Nat) (F : List Nat), q ≤ k ∧ i = .int .i64 q ∧ Kept (En 62 wq F M (0, be clock.toNat 8 ++ (be seen.toNat 2 ++ (be k 1 ++ (P.take q).flatMap putP)))) ∧ Kept (∀ f ∈ F, M ≤ f) ∧ Kept (Below M wz wq)) (fun i _ => k - (Go.RowKit.intOf i).toNat)
                case atStart => exact ⟨0, F5, by omega, rfl, E, AF, B2⟩
                case round =>
                  clear E AF B2
                  obtain ⟨q, F, hq, rfl, E, AF, B2⟩ := hrel
                  have x2 := (XN.out _ B2.out).cell 2
                  by_cases hqk : q < k
                  · have hqk' : (q : Int) < k := by omega
                    obtain ⟨b, o, r, rfl, hx, hcell⟩ := (PN.out _ B2.out).at_ hqk
                    have hmay := AP.out r (List.mem_of_getElem? hx)
                    have hs := flat_snoc (f := putP) hx
                    have hlen := flat_len (f := putP) (m := 3) (l := P.take q) (fun r _ => Nat.le_of_eq (putP_len r))
                    rw [List.length_take] at hlen
                    obtain ⟨code, id⟩ := r
                    obtain ⟨hc8, hi16⟩ := hmay
                    dsimp only at hc8 hi16
                    have HS : Kept (((be clock.toNat 8 ++ (be seen.toNat 2 ++ (be k 1 ++ (P.take q).flatMap putP))) ++ be code.toNat 1) ++ be id.toNat 2 = be clock.toNat 8 ++ (be seen.toNat 2 ++ (be k 1 ++ (P.take (q + 1)).flatMap putP))) := ⟨by rw [hs]; simp only [List.append_assoc, putP]⟩
                    have y0 := hcell 0 _ rfl
                    rw [Nat.add_zero] at y0
                    dsimp only at y0
                    have HX := Kept.mk hx
                    clear hcell hx hs
                    have KC := rnum_any wr F M code 1 (0, be clock.toNat 8 ++ (be seen.toNat 2 ++ (be k 1 ++ (P.take q).flatMap putP))) E.out (by simp only [List.length_append, be_len]; omega)
                    rw [rn1 _ hc8] at KC
                    go_wp2_with fail
                    refine KC.mono ?_
                    rintro x w6 ⟨rfl, F6, he, fp⟩
                    have b := fp.below AF.out (by have := B2.out.size; omega)
                    replace AF := Kept.mk (fp.least AF.out (by have := B2.out.size; omega))
                    replace B2 := Kept.mk (B2.out.trans b)
                    replace E := Kept.mk he
                    clear he fp b KC
                    clear y0 x2
                    have x2 := (XN.out _ B2.out).cell 2
                    obtain ⟨b', o', r', hA', hx', hcell'⟩ := (PN.out _ B2.out).at_ hqk
                    simp only [Option.some.injEq, Addr.mk.injEq, and_true] at hA'
                    obtain ⟨rfl, rfl⟩ := hA'
                    obtain rfl : r' = ⟨code, id⟩ := by rw [HX.out] at hx'; injection hx' with hx'; exact hx'.symm
                    have y1 := hcell' 1 _ rfl
                    dsimp only at y1
                    clear hcell' hx' 
                    have KC := rnum_any w6 F6 M id 2 (0, (be clock.toNat 8 ++ (be seen.toNat 2 ++ (be k 1 ++ (P.take q).flatMap putP))) ++ be code.toNat 1) E.out (by simp only [List.length_append, be_len]; omega)
                    rw [rn2 _ hi16] at KC
                    go_wp2_with fail
                    refine KC.mono ?_
                    rintro x w7 ⟨rfl, F7, he, fp⟩
                    have b := fp.below AF.out (by have := B2.out.size; omega)
                    replace AF := Kept.mk (fp.least AF.out (by have := B2.out.size; omega))
                    replace B2 := Kept.mk (B2.out.trans b)
                    replace E := Kept.mk he
                    clear he fp b KC
                    rw [HS.out] at E
                    clear y1 x2 HS hlen
                    go_wp2
                    go_roundw
                    case rel => exact ⟨q + 1, F7, by omega, by go_num, E, AF, B2⟩
                    case measure => simp [Go.RowKit.intOf]; omega
                  · have hqk' : ¬ (q : Int) < k := by omega
                    obtain rfl : q = k := by omega
                    have hL := LN.out
                    have hlen := flat_len (f := putP) (m := 3) (l := P) (fun r _ => Nat.le_of_eq (putP_len r))
                    have he0 := E.out
                    rw [← hL, List.take_length, hL] at he0
                    have E : Kept (En 62 wr F M (0, be clock.toNat 8 ++ (be seen.toNat 2 ++ (be q 1 ++ P.flatMap putP)))) := ⟨he0⟩
                    clear he0
                    have x3 := (XN.out _ B2.out).cell 3
                    have KC := rnum_any wr F M (j : Int) 2 (0, be clock.toNat 8 ++ (be seen.toNat 2 ++ (be q 1 ++ P.flatMap putP))) E.out (by simp only [List.length_append, be_len]; omega)
                    rw [rn2 _ ⟨by omega, by omega⟩] at KC
                    go_wp2_with fail
                    refine KC.mono ?_
                    rintro x w8 ⟨rfl, F8, he, fp⟩
                    have b := fp.below AF.out (by have := B2.out.size; omega)
                    replace AF := Kept.mk (fp.least AF.out (by have := B2.out.size; omega))
                    replace B2 := Kept.mk (B2.out.trans b)
                    replace E : Kept (En 62 w8 F8 M (0, be clock.toNat 8 ++ (be seen.toNat 2 ++ (be q 1 ++ (P.flatMap putP ++ (be j 2 ++ (V.take 0).flatMap putV)))))) := ⟨by simpa [List.append_assoc] using he⟩
                    clear he fp b KC x3
                    clear x2
                    go_wp2
                    go_loopw [9] (fun i wq => ∃ (p : Nat) (F : List Nat), p ≤ j ∧ i = .int .i64 p ∧ Kept (En 62 wq F M (0, be clock.toNat 8 ++ (be seen.toNat 2 ++ (be q 1 ++ (P.flatMap putP ++ (be j 2 ++ (V.take p).flatMap putV)))))) ∧ Kept (∀ f ∈ F, M ≤ f) ∧ Kept (Below M wz wq)) (fun i _ => j - (Go.RowKit.intOf i).toNat)
                    case atStart => exact ⟨0, F8, by omega, rfl, E, AF, B2⟩
                    case round =>
                      clear E AF B2
                      obtain ⟨p, F, hp, rfl, E, AF, B2⟩ := hrel
                      have x3 := (XN.out _ B2.out).cell 3
                      by_cases hpj : p < j
                      · have hpj' : (p : Int) < j := by omega
                        obtain ⟨b, o, r, rfl, hx, hcell⟩ := (VN.out _ B2.out).at_ hpj
                        have hrm := List.mem_of_getElem? hx
                        have KC := rputv_any E.out (AV.out r hrm) (HO.out r hrm) (by
                          have h2 := flat_len (f := putV) (l := V.take p) (fun r hr => putV_len (AV.out r (List.mem_of_mem_take hr)))
                          rw [List.length_take] at h2
                          have := LN.out
                          simp only [List.length_append, be_len]; omega)
                        have hs := flat_snoc (f := putV) hx
                        have HS : Kept ((be clock.toNat 8 ++ (be seen.toNat 2 ++ (be q 1 ++ (P.flatMap putP ++ (be j 2 ++ (V.take p).flatMap putV))))) ++ putV r = be clock.toNat 8 ++ (be seen.toNat 2 ++ (be q 1 ++ (P.flatMap putP ++ (be j 2 ++ (V.take (p + 1)).flatMap putV))))) := ⟨by rw [hs]; simp only [List.append_assoc]⟩
                        rw [HS.out] at KC
                        clear HS hs
                        obtain ⟨kind, src, dst, asset, amount, id, due, hash, sec⟩ := r
                        have y0 := hcell 0 _ rfl; have y1 := hcell 1 _ rfl; have y2 := hcell 2 _ rfl; have y3 := hcell 3 _ rfl; have y4 := hcell 4 _ rfl; have y5 := hcell 5 _ rfl; have y6 := hcell 6 _ rfl; have y7 := hcell 7 _ rfl; have y8 := hcell 8 _ rfl
                        rw [Nat.add_zero] at y0
                        dsimp only at y0 y1 y2 y3 y4 y5 y6 y7 y8
                        unfold vqv at KC
                        dsimp only at KC
                        have KC2 := Kept.mk KC
                        clear hcell hx hrm KC
                        go_wp2_with fail
                        refine KC2.out.mono ?_
                        rintro x w9 ⟨rfl, F9, he, fp⟩
                        have b := fp.below AF.out (by have := B2.out.size; omega)
                        replace AF := Kept.mk (fp.least AF.out (by have := B2.out.size; omega))
                        replace E := Kept.mk he
                        replace B2 := Kept.mk (B2.out.trans b)
                        clear he fp b KC2 x3 y0 y1 y2 y3 y4 y5 y6 y7 y8
                        go_wp2
                        go_roundw
                        case rel => exact ⟨p + 1, F9, by omega, by go_num, E, AF, B2⟩
                        case measure => simp [Go.RowKit.intOf]; omega
                      · have hpj' : ¬ (p : Int) < j := by omega
                        obtain rfl : p = j := by omega
                        have hL := LM.out
                        have he := E.out
                        rw [← hL, List.take_length] at he
                        have KC := rdone2_any _ _ M _ he (fun _ => by have := HB.out; unfold bytesA at this; rw [LN.out] at this; exact this)
                        unfold RDonePost2 at KC
                        have KC2 := Kept.mk KC
                        clear he hL KC
                        go_wp2_with fail
                        refine KC2.out.mono ?_
                        rintro x w6 ⟨A9, n9, c9, rfl, hc9, hm9, r9, b9⟩
                        simp only [if_true] at r9
                        have R9 : Kept (Rd w6 A9 n9 (bytesA ⟨clock, seen, P, V⟩)) := ⟨by unfold bytesA; rw [LN.out]; exact r9⟩
                        replace B2 := Kept.mk (B2.out.trans (b9.mono (by have := B2.out.size; omega)))
                        clear r9 b9 KC2 x3
                        go_wp2
                        go_ret2
                        exact ⟨A9, n9, c9, rfl, hc9, hm9, R9.out, BN.out _ B2.out⟩
  · obtain rfl : (1, []) = R := by
      rw [← HE.out]
      exact (encA_no (fun (h : OkA ⟨clock, seen, P, V⟩) => h0 ⟨decide_eq_true (show 0 ≤ clock ∧ clock ≤ 1099511627776 from h.1), h.2.1.1, h.2.1.2, by have := h.2.2.1; have := LN.out; dsimp only at *; omega, by have := h.2.2.2.1; have := LM.out; dsimp only at *; omega⟩)).symm
    cases ht : tickB clock with
    | false =>
      rw [ht] at cT
      go_enter Try.func20, Try.ntmps20
      go_upto_region 1 with (fail)
      generalize (w.alloc (.cells #[.int .i64 clock, .int .i64 seen, .slice A n c, .slice D m e] 39)) = w1 at *
      have x0 := X.out.cell 0; have x1 := X.out.cell 1; have x2 := X.out.cell 2; have x3 := X.out.cell 3
      go_wp2_with (go_at_call 49; (with_reducible refine (cT.out _).mono ?_); rintro e w' ⟨rfl, rfl⟩)
      refine wp_loop_rounds 1 ?_
      rw [rounds_succ]
      go_wp2
      refine wp_loop_rounds 1 ?_
      rw [rounds_succ]
      go_wp2
      go_ret2
      exact ⟨none, 0, 0, rfl, Nat.le_refl _, by omega, Rd.nil_, B.out⟩
    | true =>
      rw [ht] at cT
      by_cases h1 : 0 ≤ seen
      · by_cases h2 : seen ≤ 65535
        · by_cases h3 : n ≤ 64
          · have h3' : (n : Int) ≤ 64 := by omega
            have h4 : ¬ (m : Int) ≤ 400 := fun h => h0 ⟨ht, h1, h2, h3, by omega⟩
            go_enter Try.func20, Try.ntmps20
            go_upto_region 1 with (fail)
            generalize (w.alloc (.cells #[.int .i64 clock, .int .i64 seen, .slice A n c, .slice D m e] 39)) = w1 at *
            have x0 := X.out.cell 0; have x1 := X.out.cell 1; have x2 := X.out.cell 2; have x3 := X.out.cell 3
            go_wp2_with (go_at_call 49; (with_reducible refine (cT.out _).mono ?_); rintro e w' ⟨rfl, rfl⟩)
            refine wp_loop_rounds 1 ?_
            rw [rounds_succ]
            go_wp2
            refine wp_loop_rounds 1 ?_
            rw [rounds_succ]
            go_wp2
            go_ret2
            exact ⟨none, 0, 0, rfl, Nat.le_refl _, by omega, Rd.nil_, B.out⟩
          · have h3' : ¬ (n : Int) ≤ 64 := by omega
            go_enter Try.func20, Try.ntmps20
            go_upto_region 1 with (fail)
            generalize (w.alloc (.cells #[.int .i64 clock, .int .i64 seen, .slice A n c, .slice D m e] 39)) = w1 at *
            have x0 := X.out.cell 0; have x1 := X.out.cell 1; have x2 := X.out.cell 2; have x3 := X.out.cell 3
            go_wp2_with (go_at_call 49; (with_reducible refine (cT.out _).mono ?_); rintro e w' ⟨rfl, rfl⟩)
            refine wp_loop_rounds 1 ?_
            rw [rounds_succ]
            go_wp2
            refine wp_loop_rounds 1 ?_
            rw [rounds_succ]
            go_wp2
            go_ret2
            exact ⟨none, 0, 0, rfl, Nat.le_refl _, by omega, Rd.nil_, B.out⟩
        · skip
          go_enter Try.func20, Try.ntmps20
          go_upto_region 1 with (fail)
          generalize (w.alloc (.cells #[.int .i64 clock, .int .i64 seen, .slice A n c, .slice D m e] 39)) = w1 at *
          have x0 := X.out.cell 0; have x1 := X.out.cell 1; have x2 := X.out.cell 2; have x3 := X.out.cell 3
          go_wp2_with (go_at_call 49; (with_reducible refine (cT.out _).mono ?_); rintro e w' ⟨rfl, rfl⟩)
          refine wp_loop_rounds 1 ?_
          rw [rounds_succ]
          go_wp2
          refine wp_loop_rounds 1 ?_
          rw [rounds_succ]
          go_wp2
          go_ret2
          exact ⟨none, 0, 0, rfl, Nat.le_refl _, by omega, Rd.nil_, B.out⟩
      · skip
        go_enter Try.func20, Try.ntmps20
        go_upto_region 1 with (fail)
        generalize (w.alloc (.cells #[.int .i64 clock, .int .i64 seen, .slice A n c, .slice D m e] 39)) = w1 at *
        have x0 := X.out.cell 0; have x1 := X.out.cell 1; have x2 := X.out.cell 2; have x3 := X.out.cell 3
        go_wp2_with (go_at_call 49; (with_reducible refine (cT.out _).mono ?_); rintro e w' ⟨rfl, rfl⟩)
        refine wp_loop_rounds 1 ?_
        rw [rounds_succ]
        go_wp2
        refine wp_loop_rounds 1 ?_
        rw [rounds_succ]
        go_wp2
        go_ret2
        exact ⟨none, 0, 0, rfl, Nat.le_refl _, by omega, Rd.nil_, B.out⟩
end Go.Proofs.Ytcafffnkkjnpbaa.Req

namespace Go.Proofs.Ytcafffnkkjnpbaa.Req
open Go.RowKit Go.Proofs.Ytcafffnkkjnpbaa.Sha Go.Proofs.Ytcafffnkkjnpbaa.Wire Go.Proofs.Ytcafffnkkjnpbaa.Num

def zeroP : Value := .agg #[.int .i64 0, .int .i64 0]
def zeroV : Value := .agg #[.int .i64 0, .int .i64 0, .int .i64 0, .int .i64 0, .int .i64 0, .int .i64 0, .int .i64 0, .string ⟨#[]⟩, .string ⟨#[]⟩]
theorem info_rep : (Try.prog.info? 80).map (fun i => (i.zero, i.size, i.bytes)) = some (some zeroP, 2, 16) := by kernel_rfl
theorem info_event : (Try.prog.info? 76).map (fun i => (i.zero, i.size, i.bytes)) = some (some zeroV, 9, 88) := by kernel_rfl
theorem answer_size : (Try.prog.info? 39).map (·.size) = some 4 := by kernel_rfl
theorem own_ne {w : World} {base base' size size' : Nat} {e e' : TypeId} {v v' : Value} {n n' : Nat} {xs xs' : List Value} (h : w.ownsRow base e size v n xs) (h' : w.ownsRow base' e' size' v' n' xs') (ht : e ≠ e') : ∀ g ∈ v.ownBlock.toList, g ∉ v'.ownBlock.toList := by
  intro g hg hg'
  rcases h.2 with ⟨rfl, _⟩ | ⟨g1, c1, cur1, rfl, _, hh1, _⟩
  · simp [Value.ownBlock] at hg
  · rcases h'.2 with ⟨rfl, _⟩ | ⟨g2, c2, cur2, rfl, _, hh2, _⟩
    · simp [Value.ownBlock] at hg'
    · simp [Value.ownBlock] at hg hg'
      subst hg hg'
      rw [hh1] at hh2
      injection hh2 with hh2
      injection hh2 with _ hh2
      exact ht hh2
theorem getV_left (st : St) : (getV st).2.2.length ≤ st.2.length := by
  have hn := fun (t : St) (s : Int) => decNum_left t s
  have hw := fun (t : St) => rawD_len t 32
  unfold getV
  simp only
  have g1 : ∀ (p : Prop) [Decidable p] (t : St) (s : Int), (if p then decNum t s else (0, t)).2.2.length ≤ t.2.length := fun p _ t s => by
    split
    · exact hn t s
    · exact Nat.le_refl _
  have g2 : ∀ (p : Prop) [Decidable p] (t : St), (if p then rawD t 32 else ([], t)).2.2.length ≤ t.2.length := fun p _ t => by
    split
    · exact hw t
    · exact Nat.le_refl _
  exact Nat.le_trans (g2 _ _) (Nat.le_trans (g1 _ _ _) (Nat.le_trans (g2 _ _) (Nat.le_trans (g1 _ _ _) (Nat.le_trans (g1 _ _ _) (Nat.le_trans (g1 _ _ _) (Nat.le_trans (g1 _ _ _) (Nat.le_trans (g1 _ _ _) (hn st 1))))))))
theorem getP_left (st : St) : (getP st).2.2.length ≤ st.2.length := Nat.le_trans (decNum_left _ 2) (decNum_left st 1)
theorem decNum_size2 (st : St) (hb : Bytes st.2) : 0 ≤ (decNum st 2).1 ∧ (decNum st 2).1 ≤ 65535 := by
  unfold decNum
  split
  · split
    · split
      · rename_i h
        have h1 := val_take_lt st.2 hb 2 (by have := h.1; simpa using this)
        constructor
        · exact Int.natCast_nonneg _
        · have e : (Int.toNat 2) = 2 := rfl
          simp only [e]; omega
      · simp
    · simp
  · simp

--PLAINHI
set_option maxRecDepth 100000 in
set_option maxHeartbeats 8000000 in
theorem rdeca_any (A : Option Addr) (n c : Nat) (b : List Int) (w : World) (hr : Rd w A n b) (hc : n ≤ c) (hm : c ≤ 9223372036854775807) (hn : n < 2147483648) : Calls Try.prog 22 #[.slice A n c] w (DecAPost b w) := by
  obtain ⟨N, hN⟩ : ∃ N, w.heap.size = N := ⟨_, rfl⟩
  obtain ⟨G, hG, hGo⟩ := arg_block hr
  have HR := Kept.mk hr
  have hbl := hr.1
  have w1b : Below N w ((w.alloc (.cells #[.int .i64 0, .int .i64 0, .slice none 0 0, .slice none 0 0] 39)).alloc (.cells #[.slice A n c, .int .i64 0] 72)) := ((Below.refl _ _).alloc (by omega) _).alloc (by simp; omega) _
  have Y : Kept (Blk ((w.alloc (.cells #[.int .i64 0, .int .i64 0, .slice none 0 0, .slice none 0 0] 39)).alloc (.cells #[.slice A n c, .int .i64 0] 72)) N 39 #[.int .i64 0, .int .i64 0, .slice none 0 0, .slice none 0 0]) := ⟨(Blk.new_at w _ _ N hN.symm).alloc _⟩
  have D0 : Kept (De 72 ((w.alloc (.cells #[.int .i64 0, .int .i64 0, .slice none 0 0, .slice none 0 0] 39)).alloc (.cells #[.slice A n c, .int .i64 0] 72)) (N + 1) G (0, b)) := ⟨by
    refine ⟨fun k hk => Nat.lt_of_lt_of_le (hG k hk) w1b.size, A, c, ?_, ?_, ?_, hm, ?_⟩
    · dsimp only; rw [hbl]; exact Blk.new_at _ _ _ (N + 1) (by simp [hN])
    · dsimp only; rw [hbl]; exact hr.below (hN ▸ w1b)
    · dsimp only; omega
    · dsimp only; rw [hbl]; exact hGo⟩
  have hd : N + 1 ∉ G := fun hm => by have := hG _ hm; omega
  have GN : Kept (∀ k ∈ G, k < N) := ⟨fun k hk => hN ▸ hG k hk⟩
  have W := Kept.mk w1b
  have HBL := Kept.mk hbl
  clear hr hG hGo w1b hbl
  go_enter Try.func22, Try.ntmps22
  go_wp2_with fail
  generalize ((w.alloc (.cells #[.int .i64 0, .int .i64 0, .slice none 0 0, .slice none 0 0] 39)).alloc (.cells #[.slice A n c, .int .i64 0] 72)) = w1 at *
  have hL : (b : List Int).length ≤ b.length := Nat.le_refl _
  have KC := rdnum_any w1 (N + 1) G 8 (0, b) D0.out hd
  have hL2 := decNum_left (0, b) 8
  obtain ⟨clock, s1, e1⟩ : ∃ a s, decNum (0, b) 8 = (a, s) := ⟨_, _, rfl⟩
  rw [e1] at KC hL2
  have E1 := Kept.mk e1
  dsimp only at hL2
  replace hL := Nat.le_trans hL2 hL
  clear e1 hL2
  go_wp2_with fail
  refine KC.mono ?_
  rintro x w2 ⟨rfl, he, bb⟩
  replace D0 := Kept.mk he; replace W := Kept.mk (W.out.trans (bb.below (by have := W.out.size; omega) (by intro k hk; rw [List.mem_singleton] at hk; omega))); replace Y := Kept.mk (Y.out.bar bb (by simp))
  clear he bb KC
  have KC := rdnum_any w2 (N + 1) G 2 s1 D0.out hd
  have hL2 := decNum_left s1 2
  obtain ⟨seen, s2, e2⟩ : ∃ a s, decNum s1 2 = (a, s) := ⟨_, _, rfl⟩
  rw [e2] at KC hL2
  have E2 := Kept.mk e2
  dsimp only at hL2
  replace hL := Nat.le_trans hL2 hL
  clear e2 hL2
  go_wp2_with fail
  refine KC.mono ?_
  rintro x w3 ⟨rfl, he, bb⟩
  replace D0 := Kept.mk he; replace W := Kept.mk (W.out.trans (bb.below (by have := W.out.size; omega) (by intro k hk; rw [List.mem_singleton] at hk; omega))); replace Y := Kept.mk (Y.out.bar bb (by simp))
  clear he bb KC
  go_upto_region 3 with (fail)
  obtain ⟨M, hM⟩ : ∃ M, w3.heap.size = M := ⟨_, rfl⟩
  have hNM : N + 1 < M := by rw [← hM]; exact D0.out.lt
  (try rw [hM])
  have B1 : Below M w3 (w3.alloc (.cells #[.int .i64 clock, .int .i64 seen, .slice none 0 0, .slice none 0 0] 39)) := (Below.refl _ _).alloc (by omega) _
  have X : Kept (Blk (w3.alloc (.cells #[.int .i64 clock, .int .i64 seen, .slice none 0 0, .slice none 0 0] 39)) M 39 #[.int .i64 clock, .int .i64 seen, .slice none 0 0, .slice none 0 0]) := ⟨Blk.new_at w3 _ _ M hM.symm⟩
  replace D0 := Kept.mk (D0.out.below (hM ▸ B1)); replace Y := Kept.mk (Y.out.below B1 (by omega)); replace W := Kept.mk (W.out.trans (B1.mono (by omega)))
  generalize w3.alloc (.cells #[.int .i64 clock, .int .i64 seen, .slice none 0 0, .slice none 0 0] 39) = w4 at *
  clear B1 hM
  have KC := rdnum_any w4 (N + 1) G 1 s2 D0.out hd
  have hL2 := decNum_left s2 1
  have hm0 := decNum_size0 s2 D0.out.bytes
  obtain ⟨m, s3, e3⟩ : ∃ a s, decNum s2 1 = (a, s) := ⟨_, _, rfl⟩
  rw [e3] at KC hL2 hm0
  have E3 := Kept.mk e3
  dsimp only at hL2 hm0
  replace hL := Nat.le_trans hL2 hL
  clear e3 hL2
  go_wp2_with fail
  refine KC.mono ?_
  rintro x w5 ⟨rfl, he, bb⟩
  replace D0 := Kept.mk he; replace W := Kept.mk (W.out.trans (bb.below (by have := W.out.size; omega) (by intro k hk; rw [List.mem_singleton] at hk; omega))); replace Y := Kept.mk (Y.out.bar bb (by simp)); replace X := Kept.mk (X.out.bar bb (by simp; omega))
  clear he bb KC
  obtain ⟨m, rfl⟩ : ∃ q : Nat, m = q := ⟨m.toNat, by omega⟩
  have O : Kept (w5.ownsRow N 80 2 (.slice none 0 0) (many getP 0 s3).1.length ((many getP 0 s3).1.flatMap pvC)) := ⟨World.ownsRow_nil _ _ _ _⟩
  have LS : Kept (∀ k, (many getP k s3).2.2.length ≤ n) := ⟨fun k => by rw [← HBL.out]; exact Nat.le_trans (many_left_of getP_left k s3) hL⟩
  have D1 : Kept (De 72 w5 (N + 1) G (many getP 0 s3).2) := D0
  go_upto_block 0 with (fail)
  go_cut [7] from 21 to 45 (fun _ wx => ∃ v : Value, Kept (De 72 wx (N + 1) G (many getP m s3).2) ∧ Kept (Blk wx M 39 #[.int .i64 clock, .int .i64 seen, v, .slice none 0 0]) ∧ Kept (wx.ownsRow N 80 2 v (many getP m s3).1.length ((many getP m s3).1.flatMap pvC)) ∧ Kept (Blk wx N 39 #[.int .i64 0, .int .i64 0, .slice none 0 0, .slice none 0 0]) ∧ Kept (Below N w wx))
  case first =>
    go_wp2
    go_loopw [7] (fun i wr => ∃ (k : Nat) (v : Value), k ≤ m ∧ i = .int .i64 k ∧ Kept (De 72 wr (N + 1) G (many getP k s3).2) ∧ Kept (Blk wr M 39 #[.int .i64 clock, .int .i64 seen, v, .slice none 0 0]) ∧ Kept (wr.ownsRow N 80 2 v (many getP k s3).1.length ((many getP k s3).1.flatMap pvC)) ∧ Kept (Blk wr N 39 #[.int .i64 0, .int .i64 0, .slice none 0 0, .slice none 0 0]) ∧ Kept (Below N w wr)) (fun i _ => m - (Go.RowKit.intOf i).toNat)
    case atStart => exact ⟨0, _, by omega, rfl, D1, X, O, Y, W⟩
    case round =>
      clear D0 D1 X O Y W
      obtain ⟨k, v, hk, rfl, D0, X, O, Y, W⟩ := hrel
      have ll := many_len getP k s3
      have HSQ := Kept.mk (fun (h : (many getP k s3).2.1 = 0) => many_next getP h)
      have HST := Kept.mk (fun (h : (many getP k s3).2.1 ≠ 0) j => many_stop getP k h j)
      have LSk := LS.out k
      obtain ⟨L, err, ys, hK0⟩ : ∃ L err ys, many getP k s3 = (L, (err, ys)) := ⟨_, _, _, rfl⟩
      have HMK := Kept.mk hK0
      rw [hK0] at D0 O ll HSQ HST LSk
      dsimp only at D0 O ll HSQ HST LSk
      clear hK0
      obtain ⟨Ad, cd, d1⟩ : ∃ Ad cd, wr.cell? ⟨N + 1, 1, none⟩ = some (.int .i64 err) ∧ wr.cell? ⟨N + 1, 0, none⟩ = some (.slice Ad ys.length cd) := by
        obtain ⟨-, Ad, cd, hb, -⟩ := D0.out
        exact ⟨Ad, cd, hb.cell 1, hb.cell 0⟩
      replace d1 := d1.1
      by_cases hkm : k < m
      · have hkm' : (k : Int) < m := by omega
        by_cases herr : err = 0
        · subst herr
          have x1 := X.out.cell 2
          go_upto_region 7 with (fail)
          clear x1 d1
          have bd : Below wr.heap.size wr wr.drew := (Below.refl _ _).drew
          replace D0 := Kept.mk (D0.out.below bd); replace X := Kept.mk (X.out.below bd X.out.lt); replace Y := Kept.mk (Y.out.below bd Y.out.lt); replace O : Kept (wr.drew.ownsRow N 80 2 v L.length (L.flatMap pvC)) := ⟨own_keep O.out (barOf bd []) (by simp)⟩; replace W := Kept.mk (W.out.drew)
          clear bd
          refine wp_region_noPanic ?_
          refine wp_region_U 10 (S := fun w' : World => w'.cell? ⟨M, 2, none⟩ = some v) (by kernel_rfl) (X.out.cell 2) (fun hS0 => ?_)
          generalize wr.drew = w5 at *
          have KG := rdnum_any w5 (N + 1) G 1 (0, ys) D0.out hd
          have hs1 := decNum_left (0, ys) 1
          obtain ⟨code, st8, hg1⟩ : ∃ a s, decNum (0, ys) 1 = (a, s) := ⟨_, _, rfl⟩
          obtain ⟨id, st9, hg2⟩ : ∃ a s, decNum st8 2 = (a, s) := ⟨_, _, rfl⟩
          rw [hg1] at KG
          have KG2 := Kept.mk KG
          have HG2 := Kept.mk hg2
          have HN1 : Kept (many getP (k + 1) s3 = (L ++ [⟨code, id⟩], st9)) := ⟨by rw [HSQ.out rfl]; unfold getP; simp only [hg1, hg2]⟩
          clear hg1 hg2 KG HSQ HST hs1
          have gl : Kept (∀ g ∈ v.ownBlock.toList, N ≤ g ∧ g < w5.heap.size) := ⟨fun g hg => O.out.lt g (Option.mem_toList.1 hg)⟩
          have far1 : Kept (∀ g ∈ v.ownBlock.toList, g ≠ N + 1) := ⟨fun g hg e => by subst e; obtain ⟨-, Ad, cd, hb, -⟩ := D0.out; exact own_far O.out hb (by decide) (Option.mem_toList.1 hg)⟩
          have far2 : Kept (∀ g ∈ v.ownBlock.toList, g ≠ M) := ⟨fun g hg e => by subst e; exact own_far O.out X.out (by decide) (Option.mem_toList.1 hg)⟩
          have far3 : Kept (∀ g ∈ v.ownBlock.toList, g ≠ N) := ⟨fun g hg e => by subst e; exact own_far O.out Y.out (by decide) (Option.mem_toList.1 hg)⟩
          refine wpAnyU_take (i := 0) (oi := ?o132) (v := ?v132) ?hi132 (by kernel_rfl) (by kernel_rfl) (by kernel_rfl) (by kernel_rfl) ?hq132 (Or.inl ⟨?hw132, ?hy132⟩) (by assumption) ?r132
          case hi132 => (simp only [List.getElem?_toArray]; exact rfl)
          case hq132 => exact fun _ _ _ h => h
          case hw132 => rfl
          case hy132 => (intro w hSw; (try dsimp only at hSw); go_simp; try exact rfl)
          simp only [Act.put, List.setIfInBounds_toArray, List.set_cons_zero, List.set_cons_succ]
          refine wpAnyU_take (i := 1) (oi := ?o133) (v := ?v133) ?hi133 (by kernel_rfl) (by kernel_rfl) (by kernel_rfl) (by kernel_rfl) ?hq133 (Or.inl ⟨?hw133, ?hy133⟩) (by assumption) ?r133
          case hi133 => (simp only [List.getElem?_toArray]; exact rfl)
          case hq133 => exact fun _ _ _ h => h
          case hw133 => rfl
          case hy133 => (intro w hSw; (try dsimp only at hSw); go_simp; try exact rfl)
          simp only [Act.put, List.setIfInBounds_toArray, List.set_cons_zero, List.set_cons_succ]
          refine wpAnyU_take (i := 2) (oi := ?o134) (v := ?v134) ?hi134 (by kernel_rfl) (by kernel_rfl) (by kernel_rfl) (by kernel_rfl) ?hq134 (Or.inl ⟨?hw134, ?hy134⟩) (by assumption) ?r134
          case hi134 => (simp only [List.getElem?_toArray]; exact rfl)
          case hq134 => exact fun _ _ _ h => h
          case hw134 => rfl
          case hy134 => (intro w hSw; (try dsimp only at hSw); go_simp; try exact rfl)
          simp only [Act.put, List.setIfInBounds_toArray, List.set_cons_zero, List.set_cons_succ]
          refine wpAnyU_take (i := 4) (oi := ?o135) (v := ?v135) ?hi135 (by kernel_rfl) (by kernel_rfl) (by kernel_rfl) (by kernel_rfl) ?hq135 (Or.inl ⟨?hw135, ?hy135⟩) (by assumption) ?r135
          case hi135 => (simp only [List.getElem?_toArray]; exact rfl)
          case hq135 => exact fun _ _ _ h => h
          case hw135 => rfl
          case hy135 => (intro w hSw; (try dsimp only at hSw); go_simp; try exact rfl)
          simp only [Act.put, List.setIfInBounds_toArray, List.set_cons_zero, List.set_cons_succ]
          refine wpAnyU_ready (rs := [3]) (by kernel_rfl) (by simp) ?_
          refine AllReadyU.cons (o := ?o140) ?hi140 (fun K hK => ?_) AllReadyU.nil
          case hi140 => (simp only [List.getElem?_toArray]; exact rfl)
          go_simp
          go_at_call 40
          refine KG2.out.mono ?_
          rintro x w5b ⟨rfl, he, bb⟩
          have ws := W.out.size
          replace D0 := Kept.mk he; replace O : Kept (w5b.ownsRow N 80 2 v L.length (L.flatMap pvC)) := ⟨own_keep O.out bb (fun g hg hm => far1.out g hg (by simpa using hm))⟩; replace X := Kept.mk (X.out.bar bb (by simp; omega)); replace Y := Kept.mk (Y.out.bar bb (by simp)); replace W := Kept.mk (W.out.trans (bb.below (by omega) (by intro k hk; rw [List.mem_singleton] at hk; omega)))
          clear he bb KG2 ws
          have hS5 : w5b.cell? ⟨M, 2, none⟩ = some v := X.out.cell 2
          refine hK.out _ _ (fun _ => hS5) (fun _ => ?_)
          clear hK K hS0
          skip
          refine wpAnyU_ready (rs := [5]) (by kernel_rfl) (by simp) ?_
          refine AllReadyU.cons (o := ?o141) ?hi141 (fun K hK => ?_) AllReadyU.nil
          case hi141 => (simp only [List.getElem?_toArray]; exact rfl)
          go_simp
          have KG := rdnum_any w5b (N + 1) G 2 st8 D0.out hd
          rw [HG2.out] at KG
          go_at_call 40
          refine KG.mono ?_
          rintro x w6 ⟨rfl, he, bb⟩
          have ws := W.out.size
          replace D0 := Kept.mk he; replace O : Kept (w6.ownsRow N 80 2 v L.length (L.flatMap pvC)) := ⟨own_keep O.out bb (fun g hg hm => far1.out g hg (by simpa using hm))⟩; replace X := Kept.mk (X.out.bar bb (by simp; omega)); replace Y := Kept.mk (Y.out.bar bb (by simp)); replace W := Kept.mk (W.out.trans (bb.below (by omega) (by intro k hk; rw [List.mem_singleton] at hk; omega)))
          clear he bb KG ws
          have hS6 : w6.cell? ⟨M, 2, none⟩ = some v := X.out.cell 2
          refine hK.out _ _ (fun _ => hS6) (fun _ => ?_)
          clear hK K hS5
          refine wpAnyU_take (i := 6) (oi := ?o136) (v := ?v136) ?hi136 (by kernel_rfl) (by kernel_rfl) (by kernel_rfl) (by kernel_rfl) ?hq136 (Or.inl ⟨?hw136, ?hy136⟩) (by assumption) ?r136
          case hi136 => (simp only [List.getElem?_toArray]; exact rfl)
          case hq136 => exact fun _ _ _ h => h
          case hw136 => rfl
          case hy136 => (intro w hSw; (try dsimp only at hSw); go_simp; try exact rfl)
          simp only [Act.put, List.setIfInBounds_toArray, List.set_cons_zero, List.set_cons_succ]
          refine wpAnyU_ready (rs := [7]) (by kernel_rfl) (by simp) ?_
          refine AllReadyU.cons (o := ?o142) ?hi142 (fun K hK => ?_) AllReadyU.nil
          case hi142 => (simp only [List.getElem?_toArray]; exact rfl)
          go_simp
          have b5 : Below w6.heap.size w6 (w6.alloc (.cells #[.int .i64 code, .int .i64 id] 80)) := (Below.refl _ _).alloc (Nat.le_refl _) _
          have NW := Kept.mk (World.news_of_block (cs := #[.int .i64 code, .int .i64 id]) (t := 80) (fr := (0, 0)) (heap_alloc_new w6 _))
          have ws := W.out.size
          replace D0 := Kept.mk (D0.out.below b5); replace O : Kept ((w6.alloc (.cells #[.int .i64 code, .int .i64 id] 80)).ownsRow N 80 2 v L.length (L.flatMap pvC)) := ⟨own_keep O.out (barOf b5 []) (by simp)⟩; replace X := Kept.mk (X.out.below b5 X.out.lt); replace Y := Kept.mk (Y.out.below b5 Y.out.lt); replace W := Kept.mk (W.out.trans (b5.mono (by omega)))
          refine hK.out _ _ (fun _ => X.out.cell 2) (fun _ => ?_)
          clear hK K b5 hS6 ws
          try simp only [Act.put, List.setIfInBounds_toArray, List.set_cons_zero, List.set_cons_succ]
          generalize w6.alloc (.cells #[.int .i64 code, .int .i64 id] 80) = w7 at *
          generalize w6.heap.size = gB at *
          obtain ⟨iu, hi, hz0, hz1, hz2⟩ := info_parts info_rep
          have ws : N ≤ w7.heap.size := by have := W.out.size; omega
          refine wpAnyU_ready (rs := [8]) (by kernel_rfl) (by simp) ?_
          refine AllReadyU.cons (o := ?o149) ?hi149 (fun K hK => ?_) AllReadyU.nil
          case hi149 => (simp only [List.getElem?_toArray]; exact rfl)
          refine step_append_lies _ (by rfl) _ _ _ (by rfl) N 80 iu zeroP 2 16 Try.underlying36 hi hz0 hz1 hz2 rfl (by omega) v L.length (L.flatMap pvC) (by rfl) O.out
            ⟨gB, 0, none⟩ 1 1 (pvC ⟨code, id⟩) (by rfl) (by rfl) NW.out (pvC_one _) (by omega) (by unfold maxLen; omega) (by omega) ws w7.heap.size rfl ?_
          intro gg cg w8 hown hgrow hat hlt
          have gb := Bar.grownRow hgrow
          have X8 := Kept.mk (X.out.bar gb (fun hm => far2.out M hm rfl))
          have x6 : w8.cell? ⟨M, 2, none⟩ = some v := X8.out.cell 2
          have f6 := X8.out.frozen 2
          have bs : Bar [M] w8 (w8.setCell ⟨M, 2, none⟩ (.slice (some ⟨gg, 0, none⟩) (L.length + 1) cg)) := (Bar.refl _ _).setCell (by simp) _
          have D9 := Kept.mk ((D0.out.keep gb (fun hm => far1.out _ hm rfl) (fun k hk hm => by have := GN.out k hk; have := (gl.out k hm).1; omega)).keep bs (by simp; omega) (fun k hk hm => by rw [List.mem_singleton] at hm; have := GN.out k hk; omega))
          have Y9 := Kept.mk ((Y.out.bar gb (fun hm => far3.out N hm rfl)).bar bs (by simp; omega))
          have X9 : Kept (Blk (w8.setCell ⟨M, 2, none⟩ (.slice (some ⟨gg, 0, none⟩) (L.length + 1) cg)) M 39 #[.int .i64 clock, .int .i64 seen, (.slice (some ⟨gg, 0, none⟩) (L.length + 1) cg), .slice none 0 0]) := ⟨X8.out.set_ 2 _⟩
          have O9 := Kept.mk (own_keep hown bs (fun g hg hm => by rw [List.mem_singleton] at hm; subst hm; exact own_far hown X8.out (by decide) (Option.mem_toList.1 hg)))
          have W9 : Kept (Below N w (w8.setCell ⟨M, 2, none⟩ (.slice (some ⟨gg, 0, none⟩) (L.length + 1) cg))) := ⟨(W.out.grown hgrow ws (fun k hk => (gl.out k (by simp [hk])).1)).setCell (by show N ≤ M; omega) _⟩
          clear hown hgrow hat hlt gb bs NW hi hz0 hz1 hz2 D0 X Y O W X8
          refine hK.out _ _ (fun _ => x6) (fun _ => ?_)
          clear hK K
          try simp only [Act.put, List.setIfInBounds_toArray, List.set_cons_zero, List.set_cons_succ]
          refine wpAnyU_ready (rs := [9]) (by kernel_rfl) (by simp) ?_
          refine AllReadyU.cons (o := ?o143) ?hi143 (fun K hK => ?_) AllReadyU.nil
          case hi143 => (simp only [List.getElem?_toArray]; exact rfl)
          go_simp
          refine hK.out _ _ (fun _ => x6) (fun _ => ?_)
          clear hK K
          try simp only [Act.put, List.setIfInBounds_toArray, List.set_cons_zero, List.set_cons_succ]
          refine wpAnyU_ready (rs := [10]) (by kernel_rfl) (by simp) ?_
          refine AllReadyU.cons (o := ?o144) ?hi144 (fun K hK => ?_) AllReadyU.nil
          case hi144 => (simp only [List.getElem?_toArray]; exact rfl)
          go_simp
          refine hK.out _ _ (fun h => absurd rfl h) (fun _ => ?_)
          clear hK K
          try simp only [Act.put, List.setIfInBounds_toArray, List.set_cons_zero, List.set_cons_succ]
          refine wpAnyU_done (by kernel_rfl) ?_ _
          refine NoPanic.normal ?_
          clear x6 f6
          generalize (w8.setCell ⟨M, 2, none⟩ (.slice (some ⟨gg, 0, none⟩) (L.length + 1) cg)) = w9 at *
          have O10 : Kept (w9.ownsRow N 80 2 (.slice (some ⟨gg, 0, none⟩) (L.length + 1) cg) (many getP (k + 1) s3).1.length ((many getP (k + 1) s3).1.flatMap pvC)) := ⟨by
            rw [HN1.out]
            have e1 : (L ++ [(⟨code, id⟩ : PV)]).flatMap pvC = L.flatMap pvC ++ pvC ⟨code, id⟩ := by simp
            dsimp only
            rw [List.length_append, List.length_singleton, e1]
            exact O9.out⟩
          have D10 : Kept (De 72 w9 (N + 1) G (many getP (k + 1) s3).2) := ⟨by rw [HN1.out]; exact D9.out⟩
          clear O9 D9 HN1
          go_wp2
          go_roundw
          case rel => exact ⟨k + 1, _, by omega, by go_num, D10, X9, O10, Y9, W9⟩
          case measure => simp [Go.RowKit.intOf]; omega
        · have herr' : (err == 0) = false := beq_eq_false_iff_ne.2 herr
          have HALL : Kept (many getP m s3 = (L, (err, ys))) := ⟨by have := HST.out herr (m - k); rw [show k + (m - k) = m by omega] at this; exact this⟩
          go_wp2
          go_meet
          case rel => exact ⟨v, ⟨by rw [HALL.out]; exact D0.out⟩, X, ⟨by rw [HALL.out]; exact O.out⟩, Y, W⟩
      · have hkm' : ¬ (k : Int) < m := by omega
        obtain rfl : k = m := by omega
        have HALL := HMK
        go_wp2
        go_meet
        case rel => exact ⟨v, ⟨by rw [HALL.out]; exact D0.out⟩, X, ⟨by rw [HALL.out]; exact O.out⟩, Y, W⟩
  case rest =>
    clear D0 D1 X O Y W
    obtain ⟨vP, D0, X, OP, Y, W⟩ := hcut
    generalize wc = wp at *
    have lp := many_len getP m s3
    have hL4 := many_left_of getP_left m s3
    obtain ⟨LP, s4, e4⟩ : ∃ L s, many getP m s3 = (L, s) := ⟨_, _, rfl⟩
    rw [e4] at D0 OP lp hL4
    dsimp only at D0 OP lp hL4
    have E4 := Kept.mk e4
    replace hL := Nat.le_trans hL4 hL
    clear e4 hL4 LS
    have KC := rdnum_any wp (N + 1) G 2 s4 D0.out hd
    have hL2 := decNum_left s4 2
    have hm0 := decNum_size2 s4 D0.out.bytes
    have farP0 : Kept (∀ g ∈ vP.ownBlock.toList, g ≠ N + 1) := ⟨fun g hg e => by subst e; obtain ⟨-, Ad, cd, hb, -⟩ := D0.out; exact own_far OP.out hb (by decide) (Option.mem_toList.1 hg)⟩
    obtain ⟨m2, s5, e5⟩ : ∃ a s, decNum s4 2 = (a, s) := ⟨_, _, rfl⟩
    rw [e5] at KC hL2 hm0
    have E5 := Kept.mk e5
    dsimp only at hL2 hm0
    replace hL := Nat.le_trans hL2 hL
    clear e5 hL2
    go_wp2_with fail
    refine KC.mono ?_
    rintro x wq ⟨rfl, he, bb⟩
    replace D0 := Kept.mk he; replace W := Kept.mk (W.out.trans (bb.below (by have := W.out.size; omega) (by intro k hk; rw [List.mem_singleton] at hk; omega))); replace Y := Kept.mk (Y.out.bar bb (by simp)); replace X := Kept.mk (X.out.bar bb (by simp; omega))
    replace OP : Kept (wq.ownsRow N 80 2 vP LP.length (LP.flatMap pvC)) := ⟨own_keep OP.out bb (fun g hg hm => farP0.out g hg (by simpa using hm))⟩
    clear he bb KC
    obtain ⟨m2, rfl⟩ : ∃ q : Nat, m2 = q := ⟨m2.toNat, by omega⟩
    clear farP0
    have O : Kept (wq.ownsRow N 76 9 (.slice none 0 0) (many getV 0 s5).1.length ((many getV 0 s5).1.flatMap vvC)) := ⟨World.ownsRow_nil _ _ _ _⟩
    have OK : Kept (∀ r ∈ (many getV 0 s5).1, r.ok) := ⟨by intro r hr; simp [many] at hr⟩
    have LS : Kept (∀ k, (many getV k s5).2.2.length ≤ n) := ⟨fun k => by rw [← HBL.out]; exact Nat.le_trans (many_left_of getV_left k s5) hL⟩
    have D1 : Kept (De 72 wq (N + 1) G (many getV 0 s5).2) := D0
    go_upto_block 2 with (fail)
    go_cut [8] from 45 to 64 (fun _ wx => ∃ v : Value, Kept (De 72 wx (N + 1) G (many getV m2 s5).2) ∧ Kept (Blk wx M 39 #[.int .i64 clock, .int .i64 seen, vP, v]) ∧ Kept (wx.ownsRow N 76 9 v (many getV m2 s5).1.length ((many getV m2 s5).1.flatMap vvC)) ∧ Kept (∀ r ∈ (many getV m2 s5).1, r.ok) ∧ Kept (Blk wx N 39 #[.int .i64 0, .int .i64 0, .slice none 0 0, .slice none 0 0]) ∧ Kept (Below N w wx) ∧ Kept (wx.ownsRow N 80 2 vP LP.length (LP.flatMap pvC)))
    case first =>
      go_wp2
      go_loopw [8] (fun i wr => ∃ (k : Nat) (v : Value), k ≤ m2 ∧ i = .int .i64 k ∧ Kept (De 72 wr (N + 1) G (many getV k s5).2) ∧ Kept (Blk wr M 39 #[.int .i64 clock, .int .i64 seen, vP, v]) ∧ Kept (wr.ownsRow N 76 9 v (many getV k s5).1.length ((many getV k s5).1.flatMap vvC)) ∧ Kept (∀ r ∈ (many getV k s5).1, r.ok) ∧ Kept (Blk wr N 39 #[.int .i64 0, .int .i64 0, .slice none 0 0, .slice none 0 0]) ∧ Kept (Below N w wr) ∧ Kept (wr.ownsRow N 80 2 vP LP.length (LP.flatMap pvC))) (fun i _ => m2 - (Go.RowKit.intOf i).toNat)
      case atStart => exact ⟨0, _, by omega, rfl, D1, X, O, OK, Y, W, OP⟩
      case round =>
        clear D0 D1 X O OK Y W OP
        obtain ⟨k, v, hk, rfl, D0, X, O, OK, Y, W, OP⟩ := hrel
        have ll := many_len getV k s5
        have HSQ := Kept.mk (fun (h : (many getV k s5).2.1 = 0) => many_next getV h)
        have HST := Kept.mk (fun (h : (many getV k s5).2.1 ≠ 0) j => many_stop getV k h j)
        have LSk := LS.out k
        obtain ⟨L, err, ys, hK0⟩ : ∃ L err ys, many getV k s5 = (L, (err, ys)) := ⟨_, _, _, rfl⟩
        have HMK := Kept.mk hK0
        rw [hK0] at D0 O OK ll HSQ HST LSk
        dsimp only at D0 O OK ll HSQ HST LSk
        clear hK0
        obtain ⟨Ad, cd, d1⟩ : ∃ Ad cd, wr.cell? ⟨N + 1, 1, none⟩ = some (.int .i64 err) ∧ wr.cell? ⟨N + 1, 0, none⟩ = some (.slice Ad ys.length cd) := by
          obtain ⟨-, Ad, cd, hb, -⟩ := D0.out
          exact ⟨Ad, cd, hb.cell 1, hb.cell 0⟩
        replace d1 := d1.1
        by_cases hkm : k < m2
        · have hkm' : (k : Int) < m2 := by omega
          by_cases herr : err = 0
          · subst herr
            have x1 := X.out.cell 3
            go_upto_region 12 with (fail)
            clear x1 d1
            have bd : Below wr.heap.size wr wr.drew := (Below.refl _ _).drew
            replace D0 := Kept.mk (D0.out.below bd); replace X := Kept.mk (X.out.below bd X.out.lt); replace Y := Kept.mk (Y.out.below bd Y.out.lt); replace O : Kept (wr.drew.ownsRow N 76 9 v L.length (L.flatMap vvC)) := ⟨own_keep O.out (barOf bd []) (by simp)⟩; replace W := Kept.mk (W.out.drew)
            replace OP : Kept (wr.drew.ownsRow N 80 2 vP LP.length (LP.flatMap pvC)) := ⟨own_keep OP.out (barOf bd []) (by simp)⟩
            clear bd
            refine wp_region_noPanic ?_
            refine wp_region_U 7 (S := fun w' : World => w'.cell? ⟨M, 3, none⟩ = some v) (by kernel_rfl) (X.out.cell 3) (fun hS0 => ?_)
            generalize wr.drew = w5 at *
            have KG := rgetv_any D0.out hd (by dsimp only; omega)
            unfold getVPost at KG
            obtain ⟨⟨kind, src, dst, asset, amount, id, due, hash, sec⟩, st9, hg⟩ : ∃ r st9, getV (0, ys) = (r, st9) := ⟨_, _, rfl⟩
            rw [hg] at KG
            unfold vqv at KG
            dsimp only at KG
            have HN1 : Kept (many getV (k + 1) s5 = (L ++ [⟨kind, src, dst, asset, amount, id, due, hash, sec⟩], st9)) := ⟨by rw [HSQ.out rfl, hg]⟩
            have KG2 := Kept.mk KG
            clear hg KG HSQ HST
            have gl : Kept (∀ g ∈ v.ownBlock.toList, N ≤ g ∧ g < w5.heap.size) := ⟨fun g hg => O.out.lt g (Option.mem_toList.1 hg)⟩
            have far1 : Kept (∀ g ∈ v.ownBlock.toList, g ≠ N + 1) := ⟨fun g hg e => by subst e; obtain ⟨-, Ad, cd, hb, -⟩ := D0.out; exact own_far O.out hb (by decide) (Option.mem_toList.1 hg)⟩
            have far2 : Kept (∀ g ∈ v.ownBlock.toList, g ≠ M) := ⟨fun g hg e => by subst e; exact own_far O.out X.out (by decide) (Option.mem_toList.1 hg)⟩
            have far3 : Kept (∀ g ∈ v.ownBlock.toList, g ≠ N) := ⟨fun g hg e => by subst e; exact own_far O.out Y.out (by decide) (Option.mem_toList.1 hg)⟩
            have farP : Kept (∀ g ∈ vP.ownBlock.toList, g ≠ N + 1 ∧ g ≠ M ∧ g ∉ v.ownBlock.toList) := ⟨fun g hg => ⟨fun e => by subst e; obtain ⟨-, Ad, cd, hb, -⟩ := D0.out; exact own_far OP.out hb (by decide) (Option.mem_toList.1 hg), fun e => by subst e; exact own_far OP.out X.out (by decide) (Option.mem_toList.1 hg), own_ne OP.out O.out (by decide) g hg⟩⟩
            refine wpAnyU_take (i := 0) (oi := ?o137) (v := ?v137) ?hi137 (by kernel_rfl) (by kernel_rfl) (by kernel_rfl) (by kernel_rfl) ?hq137 (Or.inl ⟨?hw137, ?hy137⟩) (by assumption) ?r137
            case hi137 => (simp only [List.getElem?_toArray]; exact rfl)
            case hq137 => exact fun _ _ _ h => h
            case hw137 => rfl
            case hy137 => (intro w hSw; (try dsimp only at hSw); go_simp; try exact rfl)
            simp only [Act.put, List.setIfInBounds_toArray, List.set_cons_zero, List.set_cons_succ]
            refine wpAnyU_take (i := 1) (oi := ?o138) (v := ?v138) ?hi138 (by kernel_rfl) (by kernel_rfl) (by kernel_rfl) (by kernel_rfl) ?hq138 (Or.inl ⟨?hw138, ?hy138⟩) (by assumption) ?r138
            case hi138 => (simp only [List.getElem?_toArray]; exact rfl)
            case hq138 => exact fun _ _ _ h => h
            case hw138 => rfl
            case hy138 => (intro w hSw; (try dsimp only at hSw); go_simp; try exact rfl)
            simp only [Act.put, List.setIfInBounds_toArray, List.set_cons_zero, List.set_cons_succ]
            refine wpAnyU_take (i := 2) (oi := ?o139) (v := ?v139) ?hi139 (by kernel_rfl) (by kernel_rfl) (by kernel_rfl) (by kernel_rfl) ?hq139 (Or.inl ⟨?hw139, ?hy139⟩) (by assumption) ?r139
            case hi139 => (simp only [List.getElem?_toArray]; exact rfl)
            case hq139 => exact fun _ _ _ h => h
            case hw139 => rfl
            case hy139 => (intro w hSw; (try dsimp only at hSw); go_simp; try exact rfl)
            simp only [Act.put, List.setIfInBounds_toArray, List.set_cons_zero, List.set_cons_succ]
            refine wpAnyU_ready (rs := [3]) (by kernel_rfl) (by simp) ?_
            refine AllReadyU.cons (o := ?o145) ?hi145 (fun K hK => ?_) AllReadyU.nil
            case hi145 => (simp only [List.getElem?_toArray]; exact rfl)
            go_simp
            go_at_call 57
            refine KG2.out.mono ?_
            rintro x w6 ⟨rfl, rok, he, bb⟩
            have ROK := Kept.mk rok
            have ws := W.out.size
            replace D0 := Kept.mk he; replace O : Kept (w6.ownsRow N 76 9 v L.length (L.flatMap vvC)) := ⟨own_keep O.out bb (fun g hg hm => far1.out g hg (by simpa using hm))⟩; replace X := Kept.mk (X.out.bar bb (by simp; omega)); replace Y := Kept.mk (Y.out.bar bb (by simp)); replace W := Kept.mk (W.out.trans (bb.below (by omega) (by intro k hk; rw [List.mem_singleton] at hk; omega))); replace OP : Kept (w6.ownsRow N 80 2 vP LP.length (LP.flatMap pvC)) := ⟨own_keep OP.out bb (fun g hg hm => (farP.out g hg).1 (by simpa using hm))⟩
            clear rok he bb KG2 ws
            have hS6 : w6.cell? ⟨M, 3, none⟩ = some v := X.out.cell 3
            refine hK.out _ _ (fun _ => hS6) (fun _ => ?_)
            clear hK K hS0
            try simp only [Act.put, List.setIfInBounds_toArray, List.set_cons_zero, List.set_cons_succ]
            refine wpAnyU_ready (rs := [4]) (by kernel_rfl) (by simp) ?_
            refine AllReadyU.cons (o := ?o146) ?hi146 (fun K hK => ?_) AllReadyU.nil
            case hi146 => (simp only [List.getElem?_toArray]; exact rfl)
            go_simp
            have b5 : Below w6.heap.size w6 (w6.alloc (.cells #[.int .i64 kind, .int .i64 src, .int .i64 dst, .int .i64 asset, .int .i64 amount, .int .i64 id, .int .i64 due, .string (strOfNums hash), .string (strOfNums sec)] 76)) := (Below.refl _ _).alloc (Nat.le_refl _) _
            have NW := Kept.mk (World.news_of_block (cs := #[.int .i64 kind, .int .i64 src, .int .i64 dst, .int .i64 asset, .int .i64 amount, .int .i64 id, .int .i64 due, .string (strOfNums hash), .string (strOfNums sec)]) (t := 76) (fr := (0, 0)) (heap_alloc_new w6 _))
            have ws := W.out.size
            replace D0 := Kept.mk (D0.out.below b5); replace O : Kept ((w6.alloc (.cells #[.int .i64 kind, .int .i64 src, .int .i64 dst, .int .i64 asset, .int .i64 amount, .int .i64 id, .int .i64 due, .string (strOfNums hash), .string (strOfNums sec)] 76)).ownsRow N 76 9 v L.length (L.flatMap vvC)) := ⟨own_keep O.out (barOf b5 []) (by simp)⟩; replace X := Kept.mk (X.out.below b5 X.out.lt); replace Y := Kept.mk (Y.out.below b5 Y.out.lt); replace W := Kept.mk (W.out.trans (b5.mono (by omega)))
            replace OP : Kept ((w6.alloc (.cells #[.int .i64 kind, .int .i64 src, .int .i64 dst, .int .i64 asset, .int .i64 amount, .int .i64 id, .int .i64 due, .string (strOfNums hash), .string (strOfNums sec)] 76)).ownsRow N 80 2 vP LP.length (LP.flatMap pvC)) := ⟨own_keep OP.out (barOf b5 []) (by simp)⟩
            refine hK.out _ _ (fun _ => X.out.cell 3) (fun _ => ?_)
            clear hK K b5 hS6 ws
            try simp only [Act.put, List.setIfInBounds_toArray, List.set_cons_zero, List.set_cons_succ]
            generalize w6.alloc (.cells #[.int .i64 kind, .int .i64 src, .int .i64 dst, .int .i64 asset, .int .i64 amount, .int .i64 id, .int .i64 due, .string (strOfNums hash), .string (strOfNums sec)] 76) = w7 at *
            generalize w6.heap.size = gB at *
            obtain ⟨iu, hi, hz0, hz1, hz2⟩ := info_parts info_event
            have ws : N ≤ w7.heap.size := by have := W.out.size; omega
            refine wpAnyU_ready (rs := [5]) (by kernel_rfl) (by simp) ?_
            refine AllReadyU.cons (o := ?o150) ?hi150 (fun K hK => ?_) AllReadyU.nil
            case hi150 => (simp only [List.getElem?_toArray]; exact rfl)
            refine step_append_lies _ (by rfl) _ _ _ (by rfl) N 76 iu zeroV 9 88 Try.underlying37 hi hz0 hz1 hz2 rfl (by omega) v L.length (L.flatMap vvC) (by rfl) O.out
              ⟨gB, 0, none⟩ 1 1 (vvC ⟨kind, src, dst, asset, amount, id, due, hash, sec⟩) (by rfl) (by rfl) NW.out (vvC_one _) (by omega) (by unfold maxLen; omega) (by omega) ws w7.heap.size rfl ?_
            intro gg cg w8 hown hgrow hat hlt
            have gb := Bar.grownRow hgrow
            have X8 := Kept.mk (X.out.bar gb (fun hm => far2.out M hm rfl))
            have x6 : w8.cell? ⟨M, 3, none⟩ = some v := X8.out.cell 3
            have f6 := X8.out.frozen 3
            have bs : Bar [M] w8 (w8.setCell ⟨M, 3, none⟩ (.slice (some ⟨gg, 0, none⟩) (L.length + 1) cg)) := (Bar.refl _ _).setCell (by simp) _
            have D9 := Kept.mk ((D0.out.keep gb (fun hm => far1.out _ hm rfl) (fun k hk hm => by have := GN.out k hk; have := (gl.out k hm).1; omega)).keep bs (by simp; omega) (fun k hk hm => by rw [List.mem_singleton] at hm; have := GN.out k hk; omega))
            have Y9 := Kept.mk ((Y.out.bar gb (fun hm => far3.out N hm rfl)).bar bs (by simp; omega))
            have X9 : Kept (Blk (w8.setCell ⟨M, 3, none⟩ (.slice (some ⟨gg, 0, none⟩) (L.length + 1) cg)) M 39 #[.int .i64 clock, .int .i64 seen, vP, (.slice (some ⟨gg, 0, none⟩) (L.length + 1) cg)]) := ⟨X8.out.set_ 3 _⟩
            have O9 := Kept.mk (own_keep hown bs (fun g hg hm => by rw [List.mem_singleton] at hm; subst hm; exact own_far hown X8.out (by decide) (Option.mem_toList.1 hg)))
            have W9 : Kept (Below N w (w8.setCell ⟨M, 3, none⟩ (.slice (some ⟨gg, 0, none⟩) (L.length + 1) cg))) := ⟨(W.out.grown hgrow ws (fun k hk => (gl.out k (by simp [hk])).1)).setCell (by show N ≤ M; omega) _⟩
            have OP9 : Kept ((w8.setCell ⟨M, 3, none⟩ (.slice (some ⟨gg, 0, none⟩) (L.length + 1) cg)).ownsRow N 80 2 vP LP.length (LP.flatMap pvC)) := ⟨own_keep (own_keep OP.out gb (fun g hg => (farP.out g hg).2.2)) bs (fun g hg hm => (farP.out g hg).2.1 (by simpa using hm))⟩
            clear hown hgrow hat hlt gb bs NW hi hz0 hz1 hz2 D0 X Y O W X8 OP
            refine hK.out _ _ (fun _ => x6) (fun _ => ?_)
            clear hK K
            try simp only [Act.put, List.setIfInBounds_toArray, List.set_cons_zero, List.set_cons_succ]
            refine wpAnyU_ready (rs := [6]) (by kernel_rfl) (by simp) ?_
            refine AllReadyU.cons (o := ?o147) ?hi147 (fun K hK => ?_) AllReadyU.nil
            case hi147 => (simp only [List.getElem?_toArray]; exact rfl)
            go_simp
            refine hK.out _ _ (fun _ => x6) (fun _ => ?_)
            clear hK K
            try simp only [Act.put, List.setIfInBounds_toArray, List.set_cons_zero, List.set_cons_succ]
            refine wpAnyU_ready (rs := [7]) (by kernel_rfl) (by simp) ?_
            refine AllReadyU.cons (o := ?o148) ?hi148 (fun K hK => ?_) AllReadyU.nil
            case hi148 => (simp only [List.getElem?_toArray]; exact rfl)
            go_simp
            refine hK.out _ _ (fun h => absurd rfl h) (fun _ => ?_)
            clear hK K
            try simp only [Act.put, List.setIfInBounds_toArray, List.set_cons_zero, List.set_cons_succ]
            refine wpAnyU_done (by kernel_rfl) ?_ _
            refine NoPanic.normal ?_
            clear x6 f6
            generalize (w8.setCell ⟨M, 3, none⟩ (.slice (some ⟨gg, 0, none⟩) (L.length + 1) cg)) = w9 at *
            have OK9 : Kept (∀ r ∈ (many getV (k + 1) s5).1, r.ok) := ⟨by
              rw [HN1.out]
              intro r hr
              rcases List.mem_append.1 hr with h1 | h1
              · exact OK.out r h1
              · rw [List.mem_singleton] at h1; subst h1; exact ROK.out⟩
            have O10 : Kept (w9.ownsRow N 76 9 (.slice (some ⟨gg, 0, none⟩) (L.length + 1) cg) (many getV (k + 1) s5).1.length ((many getV (k + 1) s5).1.flatMap vvC)) := ⟨by
              rw [HN1.out]
              have e1 : (L ++ [(⟨kind, src, dst, asset, amount, id, due, hash, sec⟩ : VV)]).flatMap vvC = L.flatMap vvC ++ vvC ⟨kind, src, dst, asset, amount, id, due, hash, sec⟩ := by simp
              dsimp only
              rw [List.length_append, List.length_singleton, e1]
              exact O9.out⟩
            have D10 : Kept (De 72 w9 (N + 1) G (many getV (k + 1) s5).2) := ⟨by rw [HN1.out]; exact D9.out⟩
            clear O9 D9 OK HN1
            go_wp2
            go_roundw
            case rel => exact ⟨k + 1, _, by omega, by go_num, D10, X9, O10, OK9, Y9, W9, OP9⟩
            case measure => simp [Go.RowKit.intOf]; omega
          · have herr' : (err == 0) = false := beq_eq_false_iff_ne.2 herr
            have HALL : Kept (many getV m2 s5 = (L, (err, ys))) := ⟨by have := HST.out herr (m2 - k); rw [show k + (m2 - k) = m2 by omega] at this; exact this⟩
            go_wp2
            go_meet
            case rel => exact ⟨v, ⟨by rw [HALL.out]; exact D0.out⟩, X, ⟨by rw [HALL.out]; exact O.out⟩, ⟨by rw [HALL.out]; exact OK.out⟩, Y, W, OP⟩
        · have hkm' : ¬ (k : Int) < m2 := by omega
          obtain rfl : k = m2 := by omega
          have HALL := HMK
          go_wp2
          go_meet
          case rel => exact ⟨v, ⟨by rw [HALL.out]; exact D0.out⟩, X, ⟨by rw [HALL.out]; exact O.out⟩, ⟨by rw [HALL.out]; exact OK.out⟩, Y, W, OP⟩
    case rest =>
      clear D0 D1 X O OK Y W OP
      obtain ⟨vV, D0, X, OV, OK, Y, W, OP⟩ := hcut
      generalize wc = wv at *
      have lv := many_len getV m2 s5
      obtain ⟨LV, ⟨err, ys⟩, e6⟩ : ∃ L s, many getV m2 s5 = (L, s) := ⟨_, _, rfl⟩
      rw [e6] at D0 OV OK lv
      dsimp only at D0 OV OK lv
      have HRD : Kept (rdA b = (⟨clock, seen, LP, LV⟩, (err, ys))) := ⟨by unfold rdA; simp only [E1.out, E2.out, E3.out, E4.out, E5.out, e6, Int.toNat_natCast]⟩
      clear e6
      have HDR := DecA.read b
      rw [HRD.out] at HDR
      dsimp only at HDR
      have ANP := fun A2 c2 (hv : vP = .slice A2 LP.length c2) o (ho : A2 = some ⟨N, o, none⟩) => (show False by subst hv; subst ho; exact own_far OP.out Y.out (by decide) rfl)
      have ANV := fun A2 c2 (hv : vV = .slice A2 LV.length c2) o (ho : A2 = some ⟨N, o, none⟩) => (show False by subst hv; subst ho; exact own_far OV.out Y.out (by decide) rfl)
      obtain ⟨A2, c2, rfl, hl2, hc2, rr⟩ := Rc.own (C := pvC) (s := 2) (fun _ => rfl) OP.out rfl
      obtain ⟨A3, c3, rfl, hl3, hc3, rv⟩ := Rc.own (C := vvC) (s := 9) (fun _ => rfl) OV.out rfl
      have AN2 : Kept (∀ o, A2 ≠ some ⟨N, o, none⟩) := ⟨fun o ho => ANP A2 c2 rfl o ho⟩
      have AN3 : Kept (∀ o, A3 ≠ some ⟨N, o, none⟩) := ⟨fun o ho => ANV A3 c3 rfl o ho⟩
      have RR := Kept.mk rr; have RV := Kept.mk rv
      have x0 := X.out.cell 0; have x1 := X.out.cell 1; have x2 := X.out.cell 2; have x3 := X.out.cell 3
      have KE := renca_any clock seen A2 LP.length c2 LP A3 LV.length c3 LV wv rr rv OK.out (by omega) (by omega)
      obtain ⟨R, hR⟩ : ∃ R, encA ⟨clock, seen, LP, LV⟩ = R := ⟨_, rfl⟩
      rw [hR] at KE HDR
      have HDK := Kept.mk HDR
      have KE2 := Kept.mk KE
      unfold EncPost at KE2
      clear rr rv KE hR HDR OP OV HRD ANP ANV
      go_wp2_with fail
      refine KE2.out.mono ?_
      rintro x w5 ⟨A9, n9, c9, rfl, -, -, r9, b9⟩
      obtain ⟨R1, R2⟩ := R
      dsimp only at r9 HDK
      replace X := Kept.mk (X.out.below b9 X.out.lt); replace Y := Kept.mk (Y.out.below b9 Y.out.lt); replace D0 := Kept.mk (D0.out.below b9); replace RR := Kept.mk (RR.out.below b9); replace RV := Kept.mk (RV.out.below b9); replace W := Kept.mk (W.out.trans (b9.mono (by have := W.out.size; omega)))
      have KD := Kept.mk (rdend_any w5 (N + 1) G (err, ys) D0.out)
      have KB := Kept.mk (bytes_any A9 A n9 n c9 c R2 b w5 r9 (HR.out.below (hN ▸ W.out)))
      have EB : Kept (sameB R2 b = true ↔ R2 = b) := ⟨by simp [sameB]⟩
      clear r9 b9 KE2 x0 x1 x2 x3 D0
      have x0 := X.out.cell 0; have x1 := X.out.cell 1; have x2 := X.out.cell 2; have x3 := X.out.cell 3
      have y0 := Y.out.cell 0; have y1 := Y.out.cell 1; have y2 := Y.out.cell 2; have y3 := Y.out.cell 3; have z0 := Y.out.frozen 0; have z1 := Y.out.frozen 1; have z2 := Y.out.frozen 2; have z3 := Y.out.frozen 3
      obtain ⟨z, hz⟩ : ∃ z, endOf (err, ys) = z := ⟨_, rfl⟩
      rw [hz] at KD HDK
      clear hz
      generalize sameB R2 b = q at *
      by_cases hz : z = 0
      · subst hz
        by_cases hR1 : R1 = 0
        · subst hR1
          cases q with
          | true =>
            obtain rfl : R2 = b := EB.out.1 rfl
            have HF := HDK.out
            rw [if_pos ⟨rfl, rfl⟩, if_pos ⟨rfl, rfl⟩] at HF
            replace HF := Kept.mk HF
            have P2 : Kept (Blk ((((w5.setCell ⟨N, 0, none⟩ (.int .i64 clock)).setCell ⟨N, 1, none⟩ (.int .i64 seen)).setCell ⟨N, 2, none⟩ (.slice A2 LP.length c2)).setCell ⟨N, 3, none⟩ (.slice A3 LV.length c3)) N 39 #[.int .i64 clock, .int .i64 seen, .slice A2 LP.length c2, .slice A3 LV.length c3]) := ⟨((((Y.out.set_ 0 (.int .i64 clock)).set_ 1 (.int .i64 seen)).set_ 2 (.slice A2 LP.length c2)).set_ 3 (.slice A3 LV.length c3))⟩
            have PB : Kept (Bar [N] w5 ((((w5.setCell ⟨N, 0, none⟩ (.int .i64 clock)).setCell ⟨N, 1, none⟩ (.int .i64 seen)).setCell ⟨N, 2, none⟩ (.slice A2 LP.length c2)).setCell ⟨N, 3, none⟩ (.slice A3 LV.length c3))) := ⟨(((((Bar.refl [N] w5).setCell (p := ⟨N, 0, none⟩) (by simp) (.int .i64 clock)).setCell (p := ⟨N, 1, none⟩) (by simp) (.int .i64 seen)).setCell (p := ⟨N, 2, none⟩) (by simp) (.slice A2 LP.length c2)).setCell (p := ⟨N, 3, none⟩) (by simp) (.slice A3 LV.length c3))⟩
            clear X Y
            go_wp2_with (first | (go_at_call 42; (with_reducible refine KD.out.mono ?_); rintro e w' ⟨rfl, rfl⟩) | (go_at_call 15; (with_reducible refine KB.out.mono ?_); rintro e w' ⟨rfl, rfl⟩))
            (try simp only [Exit.inBlock, Exit.then])
            refine bodyPost_ret (results_row_tmp rfl _ _ N 39 #[.int .i64 clock, .int .i64 seen, .slice A2 LP.length c2, .slice A3 LV.length c3] (0, 0) _ rfl P2.out Try.underlying39 rfl answer_size) rfl ?_
            exact ⟨0, clock, seen, A2, LP.length, c2, LP, A3, LV.length, c3, LV, rfl, hl2, hc2, hl3, hc3, RR.out.bar PB.out (fun x hx => .inr (fun o ho => by rw [List.mem_singleton] at hx; subst hx; exact AN2.out o ho)), RV.out.bar PB.out (fun x hx => .inr (fun o ho => by rw [List.mem_singleton] at hx; subst hx; exact AN3.out o ho)), OK.out, HF.out, by rw [hN]; exact W.out.trans (PB.out.below (by have := W.out.size; omega) (by intro k hk; rw [List.mem_singleton] at hk; omega))⟩
          | false =>
            have HF := HDK.out
            have hne : ¬ ((0 : Int) = 0 ∧ ((0 : Int), R2) = (0, b)) := fun h => by have := EB.out.2 (by injection h.2); cases this
            rw [if_neg hne, if_neg hne] at HF
            replace HF := Kept.mk HF
            clear hne
            have P2 : Kept (Blk ((((w5.setCell ⟨N, 0, none⟩ (.int .i64 0)).setCell ⟨N, 1, none⟩ (.int .i64 0)).setCell ⟨N, 2, none⟩ (.slice none 0 0)).setCell ⟨N, 3, none⟩ (.slice none 0 0)) N 39 #[.int .i64 0, .int .i64 0, .slice none 0 0, .slice none 0 0]) := ⟨((((Y.out.set_ 0 (.int .i64 0)).set_ 1 (.int .i64 0)).set_ 2 (.slice none 0 0)).set_ 3 (.slice none 0 0))⟩
            have PB : Kept (Bar [N] w5 ((((w5.setCell ⟨N, 0, none⟩ (.int .i64 0)).setCell ⟨N, 1, none⟩ (.int .i64 0)).setCell ⟨N, 2, none⟩ (.slice none 0 0)).setCell ⟨N, 3, none⟩ (.slice none 0 0))) := ⟨(((((Bar.refl [N] w5).setCell (p := ⟨N, 0, none⟩) (by simp) (.int .i64 0)).setCell (p := ⟨N, 1, none⟩) (by simp) (.int .i64 0)).setCell (p := ⟨N, 2, none⟩) (by simp) (.slice none 0 0)).setCell (p := ⟨N, 3, none⟩) (by simp) (.slice none 0 0))⟩
            clear X Y
            go_wp2_with (first | (go_at_call 42; (with_reducible refine KD.out.mono ?_); rintro e w' ⟨rfl, rfl⟩) | (go_at_call 15; (with_reducible refine KB.out.mono ?_); rintro e w' ⟨rfl, rfl⟩))
            (try simp only [Exit.inBlock, Exit.then])
            refine bodyPost_ret (results_row_tmp rfl _ _ N 39 #[.int .i64 0, .int .i64 0, .slice none 0 0, .slice none 0 0] (0, 0) _ rfl P2.out Try.underlying39 rfl answer_size) rfl ?_
            exact ⟨2, 0, 0, none, 0, 0, [], none, 0, 0, [], rfl, Nat.le_refl _, by omega, Nat.le_refl _, by omega, Rc.nil, Rc.nil, by simp, HF.out, by rw [hN]; exact W.out.trans (PB.out.below (by have := W.out.size; omega) (by intro k hk; rw [List.mem_singleton] at hk; omega))⟩
        · have hR2 : (R1 != 0) = true := by simpa using hR1
          have HF := HDK.out
          have hne : ¬ ((0 : Int) = 0 ∧ (R1, R2) = (0, b)) := fun h => hR1 (by injection h.2)
          rw [if_neg hne, if_neg hne] at HF
          replace HF := Kept.mk HF
          clear hne
          have P2 : Kept (Blk ((((w5.setCell ⟨N, 0, none⟩ (.int .i64 0)).setCell ⟨N, 1, none⟩ (.int .i64 0)).setCell ⟨N, 2, none⟩ (.slice none 0 0)).setCell ⟨N, 3, none⟩ (.slice none 0 0)) N 39 #[.int .i64 0, .int .i64 0, .slice none 0 0, .slice none 0 0]) := ⟨((((Y.out.set_ 0 (.int .i64 0)).set_ 1 (.int .i64 0)).set_ 2 (.slice none 0 0)).set_ 3 (.slice none 0 0))⟩
          have PB : Kept (Bar [N] w5 ((((w5.setCell ⟨N, 0, none⟩ (.int .i64 0)).setCell ⟨N, 1, none⟩ (.int .i64 0)).setCell ⟨N, 2, none⟩ (.slice none 0 0)).setCell ⟨N, 3, none⟩ (.slice none 0 0))) := ⟨(((((Bar.refl [N] w5).setCell (p := ⟨N, 0, none⟩) (by simp) (.int .i64 0)).setCell (p := ⟨N, 1, none⟩) (by simp) (.int .i64 0)).setCell (p := ⟨N, 2, none⟩) (by simp) (.slice none 0 0)).setCell (p := ⟨N, 3, none⟩) (by simp) (.slice none 0 0))⟩
          clear X Y
          go_wp2_with (first | (go_at_call 42; (with_reducible refine KD.out.mono ?_); rintro e w' ⟨rfl, rfl⟩) | (go_at_call 15; (with_reducible refine KB.out.mono ?_); rintro e w' ⟨rfl, rfl⟩))
          (try simp only [Exit.inBlock, Exit.then])
          refine bodyPost_ret (results_row_tmp rfl _ _ N 39 #[.int .i64 0, .int .i64 0, .slice none 0 0, .slice none 0 0] (0, 0) _ rfl P2.out Try.underlying39 rfl answer_size) rfl ?_
          exact ⟨2, 0, 0, none, 0, 0, [], none, 0, 0, [], rfl, Nat.le_refl _, by omega, Nat.le_refl _, by omega, Rc.nil, Rc.nil, by simp, HF.out, by rw [hN]; exact W.out.trans (PB.out.below (by have := W.out.size; omega) (by intro k hk; rw [List.mem_singleton] at hk; omega))⟩
      · have hz2 : (z != 0) = true := by simpa using hz
        have HF := HDK.out
        have hne : ¬ (z = 0 ∧ (R1, R2) = (0, b)) := fun h => hz h.1
        rw [if_neg hne, if_neg hne] at HF
        replace HF := Kept.mk HF
        clear hne
        have P2 : Kept (Blk ((((w5.setCell ⟨N, 0, none⟩ (.int .i64 0)).setCell ⟨N, 1, none⟩ (.int .i64 0)).setCell ⟨N, 2, none⟩ (.slice none 0 0)).setCell ⟨N, 3, none⟩ (.slice none 0 0)) N 39 #[.int .i64 0, .int .i64 0, .slice none 0 0, .slice none 0 0]) := ⟨((((Y.out.set_ 0 (.int .i64 0)).set_ 1 (.int .i64 0)).set_ 2 (.slice none 0 0)).set_ 3 (.slice none 0 0))⟩
        have PB : Kept (Bar [N] w5 ((((w5.setCell ⟨N, 0, none⟩ (.int .i64 0)).setCell ⟨N, 1, none⟩ (.int .i64 0)).setCell ⟨N, 2, none⟩ (.slice none 0 0)).setCell ⟨N, 3, none⟩ (.slice none 0 0))) := ⟨(((((Bar.refl [N] w5).setCell (p := ⟨N, 0, none⟩) (by simp) (.int .i64 0)).setCell (p := ⟨N, 1, none⟩) (by simp) (.int .i64 0)).setCell (p := ⟨N, 2, none⟩) (by simp) (.slice none 0 0)).setCell (p := ⟨N, 3, none⟩) (by simp) (.slice none 0 0))⟩
        clear X Y
        go_wp2_with (first | (go_at_call 42; (with_reducible refine KD.out.mono ?_); rintro e w' ⟨rfl, rfl⟩) | (go_at_call 15; (with_reducible refine KB.out.mono ?_); rintro e w' ⟨rfl, rfl⟩))
        (try simp only [Exit.inBlock, Exit.then])
        refine bodyPost_ret (results_row_tmp rfl _ _ N 39 #[.int .i64 0, .int .i64 0, .slice none 0 0, .slice none 0 0] (0, 0) _ rfl P2.out Try.underlying39 rfl answer_size) rfl ?_
        exact ⟨2, 0, 0, none, 0, 0, [], none, 0, 0, [], rfl, Nat.le_refl _, by omega, Nat.le_refl _, by omega, Rc.nil, Rc.nil, by simp, HF.out, by rw [hN]; exact W.out.trans (PB.out.below (by have := W.out.size; omega) (by intro k hk; rw [List.mem_singleton] at hk; omega))⟩
end Go.Proofs.Ytcafffnkkjnpbaa.Req
