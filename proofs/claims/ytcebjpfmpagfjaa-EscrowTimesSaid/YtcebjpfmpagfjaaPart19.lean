/-
  Parts laid together: EscrowTimes2.
-/
import Derived.Test.YtcebjpfmpagfjaaPart18

namespace Go.Proofs.Ytcebjpfmpagfjaa.Escrow
open Go.RowKit Go.Proofs.Ytcebjpfmpagfjaa.Sha Go.Proofs.Ytcebjpfmpagfjaa.Purse Go.Proofs.Ytcebjpfmpagfjaa.Num

--PLAINHI
section
variable {Ck : World → List Nat → Nat → Nat → BS → Prop}
set_option maxRecDepth 100000 in
set_option maxHeartbeats 8000000 in
theorem times_walk (api : EscrowApi Ck) (d t s : Int) (w : World) (hs : 0 ≤ s ∧ s ≤ 255) : Calls Try.prog 4 #[.int .i64 d, .int .i64 t, .int .u8 s] w (Holds w) := by
  obtain ⟨S, hS⟩ : ∃ S, secretOf s = S := ⟨_, rfl⟩
  obtain ⟨H, hH⟩ : ∃ H, sha S = H := ⟨_, rfl⟩
  have BS := Kept.mk (secretOf_bytes hs)
  have LS := Kept.mk (secretOf_len s)
  have TS := Kept.mk (fun w => secret_any w s hs)
  have TX : Kept (∀ w, Calls Try.prog 13 #[.agg (opC ⟨0, 0, 0, 0, 0, 0, 0, 0, [], true, s⟩)] w (StrPost w (sha (secretOf s)))) := ⟨fun w => text_any w ⟨0, 0, 0, 0, 0, 0, 0, 0, [], true, s⟩ ⟨hs, by intro x hx; cases hx⟩⟩
  rw [hS] at BS LS TS TX
  rw [hH] at TX
  have BH : Kept (Bytes H) := ⟨by rw [← hH]; exact sha_bytes S⟩
  have LH : Kept (H.length = 32) := ⟨by rw [← hH]; exact sha_len S⟩
  have HH := Kept.mk hH
  clear hS hH hs
  go_enter Try.func4, Try.ntmps4
  go_wp2_with fail
  refine (first_any api w).mono ?_
  rintro e w1 ⟨rfl, b1⟩
  have B := Kept.mk b1
  clear b1
  by_cases r1 : d < 1
  · go_wp2_with fail
    refine (first_any api w1).mono ?_
    rintro e w3 ⟨rfl, b3⟩
    replace B := step_below B b3
    go_wp2
    go_ret
    exact ⟨rfl, B.out⟩
  · by_cases r2 : 200 < d
    · go_wp2_with fail
      refine (first_any api w1).mono ?_
      rintro e w3 ⟨rfl, b3⟩
      replace B := step_below B b3
      go_wp2
      go_ret
      exact ⟨rfl, B.out⟩
    · by_cases r3 : t < 0
      · go_wp2_with fail
        refine (first_any api w1).mono ?_
        rintro e w3 ⟨rfl, b3⟩
        replace B := step_below B b3
        go_wp2
        go_ret
        exact ⟨rfl, B.out⟩
      · by_cases r4 : 400 < t
        · go_wp2_with fail
          refine (first_any api w1).mono ?_
          rintro e w3 ⟨rfl, b3⟩
          replace B := step_below B b3
          go_wp2
          go_ret
          exact ⟨rfl, B.out⟩
        · have r1' : 1 ≤ d := by omega
          have r2' : d ≤ 200 := by omega
          have r3' : 0 ≤ t := by omega
          have r4' : t ≤ 400 := by omega
          go_wp2_with fail
          refine (TX.out _).mono ?_
          rintro e w2 ⟨rfl, b3⟩
          replace B := step_below B b3
          clear b3
          have Ma := Kept.mk (made_any api _ 2 2 _ _ (two_rows w2 5 0))
          have BT := Kept.mk (twoW_below w2 5 0)
          replace B := step_below B BT.out
          clear BT TX
          go_wp2_with fail
          refine Ma.out.mono ?_
          rintro e w3 (⟨hn, -, -⟩ | ⟨-, xa, qa, Fa, rfl, hc, fp⟩)
          · exact absurd (two_ok (by decide)) hn
          obtain ⟨B, La⟩ := step_fp B fp (none_least _)
          have Ca : Kept (Ck w3 Fa xa qa ⟨P0, []⟩) := ⟨hc⟩
          clear hc fp Ma
          have Mb := Kept.mk (made_any api _ 2 2 _ _ (two_rows w3 5 0))
          have BT := twoW_below w3 5 0
          replace B := step_below B BT
          replace Ca := api.below Ca BT
          clear BT
          go_wp2_with fail
          refine Mb.out.mono ?_
          rintro e w4 (⟨hn, -, -⟩ | ⟨-, xb, qb, Fb, rfl, hc, fp⟩)
          · exact absurd (two_ok (by decide)) hn
          have Jb : Kept (Disj Fb Fa) := ⟨Disj.new (n := (twoW w3 5 0).heap.size) (fp.least (by simp) (Nat.le_refl _)) (api.lts Ca.out)⟩
          have Ja := Kept.mk Jb.out.symm
          obtain ⟨B, Lb⟩ := step_fp B fp (none_least _)
          have Cb : Kept (Ck w4 Fb xb qb ⟨P0, []⟩) := ⟨hc⟩
          replace Ca := Kept.mk (api.keep Ca.out fp.1 (fun _ _ => by simp))
          clear hc fp Mb Jb
          go_wp2_with fail
          have K := api.lock 0 1 0 5 H d 0 Ca.out BH.out (by simp)
          rw [times_lock LH.out r1' r2'] at K
          refine K.mono ?_
          rintro e w5 ⟨rfl, Fa, hc, fp⟩
          obtain ⟨B, La⟩ := step_fp B fp La
          have J := Kept.mk (Ja.out.step fp (api.lts Cb.out))
          replace Cb := Kept.mk (api.keep Cb.out fp.1 Ja.out.symm)
          replace Ca : Kept (Ck w5 Fa xa qa (bL H d)) := ⟨hc⟩
          have Ja := J
          clear hc fp K J
          have Jb := Kept.mk Ja.out.symm
          clear Ja
          go_wp2_with fail
          have K := api.lock 0 1 0 5 H d 0 Cb.out BH.out (by simp)
          rw [times_lock LH.out r1' r2'] at K
          refine K.mono ?_
          rintro e w6 ⟨rfl, Fb, hc, fp⟩
          obtain ⟨B, Lb⟩ := step_fp B fp Lb
          have J := Kept.mk (Jb.out.step fp (api.lts Ca.out))
          replace Ca := Kept.mk (api.keep Ca.out fp.1 Jb.out.symm)
          replace Cb : Kept (Ck w6 Fb xb qb (bL H d)) := ⟨hc⟩
          have Jb := J
          clear hc fp K J
          have Ja := Kept.mk Jb.out.symm
          clear Jb
          have BB : Kept (∀ k, k < (bL H d).l.length → Bytes (atE (bL H d).l k).hash) := ⟨fun k hk => by
            obtain rfl : k = 0 := Nat.lt_one_iff.1 hk
            exact BH.out⟩
          by_cases he : t < d
          · have HE := Kept.mk he
            go_wp2_with fail
            refine (TS.out _).mono ?_
            rintro e w7 ⟨rfl, b3⟩
            replace B := step_below B b3
            replace Ca := api.below Ca b3
            replace Cb := api.below Cb b3
            clear b3
            go_wp2_with fail
            have K := api.claim 1 0 S t Ca.out BS.out BB.out
            rw [times_claim LS.out HH.out r3' r4' HE.out] at K
            refine K.mono ?_
            rintro e w8 ⟨rfl, Fa, hc, fp⟩
            obtain ⟨B, La⟩ := step_fp B fp La
            have J := Kept.mk (Ja.out.step fp (api.lts Cb.out))
            replace Cb := Kept.mk (api.keep Cb.out fp.1 Ja.out.symm)
            replace Ca : Kept (Ck w8 Fa xa qa (bC H S d)) := ⟨hc⟩
            have Ja := J
            clear hc fp K J
            have Jb := Kept.mk Ja.out.symm
            clear Ja
            go_wp2_with fail
            have K := api.refund 0 0 t Cb.out
            rw [times_early HE.out] at K
            refine K.mono ?_
            rintro e w9 ⟨rfl, Fb, hc, fp⟩
            obtain ⟨B, Lb⟩ := step_fp B fp Lb
            have J := Kept.mk (Jb.out.step fp (api.lts Ca.out))
            replace Ca := Kept.mk (api.keep Ca.out fp.1 Jb.out.symm)
            replace Cb : Kept (Ck w9 Fb xb qb (bL H d)) := ⟨hc⟩
            have Jb := J
            clear hc fp K J
            go_wp2_with fail
            have K := api.get 0 Ca.out
            rw [show getB (bC H S d) 0 = (⟨0, 1, 0, 5, d, 1, H, S⟩, true) from rfl] at K
            refine K.mono ?_
            rintro e w10 ⟨hx, b3⟩
            replace hx : e = .returned (.tuple #[.agg #[.int .i64 0, .int .i64 1, .int .i64 0, .int .i64 5, .int .i64 d, .int .i64 1, .string (strOfNums H), .string (strOfNums S)], .bool true]) := hx
            subst hx
            replace B := step_below B b3
            replace Ca := api.below Ca b3
            replace Cb := api.below Cb b3
            have XA := Kept.mk (api.lts Ca.out)
            clear b3 K
            have b3 : Below w10.heap.size w10 (w10.alloc (.cells #[.int .i64 0, .int .i64 1, .int .i64 0, .int .i64 5, .int .i64 d, .int .i64 1, .string (strOfNums H), .string (strOfNums S)] 34)) := (Below.refl _ _).alloc (Nat.le_refl _) _
            replace B := step_below B b3
            replace Ca := api.below Ca b3
            replace Cb := api.below Cb b3
            have NX : Kept (Blk (w10.alloc (.cells #[.int .i64 0, .int .i64 1, .int .i64 0, .int .i64 5, .int .i64 d, .int .i64 1, .string (strOfNums H), .string (strOfNums S)] 34)) w10.heap.size 34 #[.int .i64 0, .int .i64 1, .int .i64 0, .int .i64 5, .int .i64 d, .int .i64 1, .string (strOfNums H), .string (strOfNums S)]) := ⟨Blk.new _ _ _⟩
            clear b3
            go_wp2_with fail
            have K := api.get 0 Cb.out
            rw [show getB (bL H d) 0 = (⟨0, 1, 0, 5, d, 0, H, []⟩, true) from rfl] at K
            refine K.mono ?_
            rintro e w11 ⟨hx, b3⟩
            replace hx : e = .returned (.tuple #[.agg #[.int .i64 0, .int .i64 1, .int .i64 0, .int .i64 5, .int .i64 d, .int .i64 0, .string (strOfNums H), .string (strOfNums [])], .bool true]) := hx
            subst hx
            replace B := step_below B b3
            replace Ca := api.below Ca b3
            replace Cb := api.below Cb b3
            replace NX := Kept.mk (NX.out.below b3 NX.out.lt)
            have YA := Kept.mk (api.lts Ca.out)
            clear b3 K
            have b3 : Below w11.heap.size w11 (w11.alloc (.cells #[.int .i64 0, .int .i64 1, .int .i64 0, .int .i64 5, .int .i64 d, .int .i64 0, .string (strOfNums H), .string (strOfNums [])] 34)) := (Below.refl _ _).alloc (Nat.le_refl _) _
            replace B := step_below B b3
            replace Ca := api.below Ca b3
            replace Cb := api.below Cb b3
            replace NX := Kept.mk (NX.out.below b3 NX.out.lt)
            have NY : Kept (Blk (w11.alloc (.cells #[.int .i64 0, .int .i64 1, .int .i64 0, .int .i64 5, .int .i64 d, .int .i64 0, .string (strOfNums H), .string (strOfNums [])] 34)) w11.heap.size 34 #[.int .i64 0, .int .i64 1, .int .i64 0, .int .i64 5, .int .i64 d, .int .i64 0, .string (strOfNums H), .string (strOfNums [])]) := ⟨Blk.new _ _ _⟩
            clear b3
            go_wp2_with fail
            generalize hW : (w11.alloc (.cells #[.int .i64 0, .int .i64 1, .int .i64 0, .int .i64 5, .int .i64 d, .int .i64 0, .string (strOfNums H), .string (strOfNums [])] 34)) = wz at *
            have b3 : Below wz.heap.size wz wz.drew := (Below.refl _ _).drew
            replace B := step_below B b3
            replace Ca := api.below Ca b3
            replace NX := Kept.mk (NX.out.below b3 NX.out.lt)
            replace NY := Kept.mk (NY.out.below b3 NY.out.lt)
            clear b3 Cb hW
            have HELD0 : (fun w' : World => w'.cell? ⟨w10.heap.size, 5, none⟩ = some (.int .i64 1) ∧ w'.cell? ⟨w10.heap.size, 7, none⟩ = some (.string (strOfNums S)) ∧ w'.cell? ⟨w11.heap.size, 5, none⟩ = some (.int .i64 0)) wz.drew := ⟨NX.out.cell 5, NX.out.cell 7, NY.out.cell 5⟩
            refine wp_region_noPanic ?_
            refine wp_region_held_drew (S := fun w' : World => w'.cell? ⟨w10.heap.size, 5, none⟩ = some (.int .i64 1) ∧ w'.cell? ⟨w10.heap.size, 7, none⟩ = some (.string (strOfNums S)) ∧ w'.cell? ⟨w11.heap.size, 5, none⟩ = some (.int .i64 0)) (by kernel_rfl) HELD0 (fun hHeld => ?_)
            clear HELD0
            refine wpAnyH_ready (rs := [0]) (by kernel_rfl) (by simp) ?_
            refine AllReadyH.cons (o := ?o134) ?hi134 (fun K hK => ?_) AllReadyH.nil
            case hi134 => (simp only [List.getElem?_toArray]; exact rfl)
            go_simp
            go_at_call 6
            refine (first_any api _).mono ?_
            rintro e w12 ⟨rfl, b3⟩
            replace B := step_below B b3
            replace Ca := api.below Ca b3
            replace NX := Kept.mk (NX.out.below b3 NX.out.lt)
            replace NY := Kept.mk (NY.out.below b3 NY.out.lt)
            refine hK.out _ _ ⟨NX.out.cell 5, NX.out.cell 7, NY.out.cell 5⟩ (fun hHeld => ?_)
            clear hK K
            try simp only [Act.put, List.setIfInBounds_toArray, List.set_cons_zero, List.set_cons_succ]
            refine wpAnyH_take (i := 1) (oi := ?o1) (v := ?v1) ?hi1 (by kernel_rfl) (by kernel_rfl) (by kernel_rfl) ?hq1 (Or.inl ⟨?hw1, ?hy1⟩) (by assumption) ?r1
            case hi1 => (simp only [List.getElem?_toArray]; exact rfl)
            case hq1 => exact fun _ _ _ h => h
            case hw1 => rfl
            case hy1 => (intro w hSw; (try dsimp only at hSw); go_simp; try exact rfl)
            simp only [Act.put, List.setIfInBounds_toArray, List.set_cons_zero, List.set_cons_succ]
            refine wpAnyH_take (i := 2) (oi := ?o2) (v := ?v2) ?hi2 (by kernel_rfl) (by kernel_rfl) (by kernel_rfl) ?hq2 (Or.inl ⟨?hw2, ?hy2⟩) (by assumption) ?r2
            case hi2 => (simp only [List.getElem?_toArray]; exact rfl)
            case hq2 => exact fun _ _ _ h => h
            case hw2 => rfl
            case hy2 => (intro w hSw; (try dsimp only at hSw); go_simp; try exact rfl)
            simp only [Act.put, List.setIfInBounds_toArray, List.set_cons_zero, List.set_cons_succ]
            refine wpAnyH_take (i := 3) (oi := ?o3) (v := ?v3) ?hi3 (by kernel_rfl) (by kernel_rfl) (by kernel_rfl) ?hq3 (Or.inl ⟨?hw3, ?hy3⟩) (by assumption) ?r3
            case hi3 => (simp only [List.getElem?_toArray]; exact rfl)
            case hq3 => exact fun _ _ _ h => h
            case hw3 => rfl
            case hy3 => (intro w hSw; (try dsimp only at hSw); go_simp; try exact rfl)
            simp only [Act.put, List.setIfInBounds_toArray, List.set_cons_zero, List.set_cons_succ]
            refine wpAnyH_take (i := 4) (oi := ?o4) (v := ?v4) ?hi4 (by kernel_rfl) (by kernel_rfl) (by kernel_rfl) ?hq4 (Or.inl ⟨?hw4, ?hy4⟩) (by assumption) ?r4
            case hi4 => (simp only [List.getElem?_toArray]; exact rfl)
            case hq4 => exact fun _ _ _ h => h
            case hw4 => rfl
            case hy4 => (intro w hSw; (try dsimp only at hSw); go_simp; try exact rfl)
            simp only [Act.put, List.setIfInBounds_toArray, List.set_cons_zero, List.set_cons_succ]
            refine wpAnyH_take (i := 5) (oi := ?o5) (v := ?v5) ?hi5 (by kernel_rfl) (by kernel_rfl) (by kernel_rfl) ?hq5 (Or.inl ⟨?hw5, ?hy5⟩) (by assumption) ?r5
            case hi5 => (simp only [List.getElem?_toArray]; exact rfl)
            case hq5 => exact fun _ _ _ h => h
            case hw5 => rfl
            case hy5 => (intro w hSw; (try dsimp only at hSw); go_simp; try exact rfl)
            simp only [Act.put, List.setIfInBounds_toArray, List.set_cons_zero, List.set_cons_succ]
            refine wpAnyH_take (i := 6) (oi := ?o6) (v := ?v6) ?hi6 (by kernel_rfl) (by kernel_rfl) (by kernel_rfl) ?hq6 (Or.inl ⟨?hw6, ?hy6⟩) (by assumption) ?r6
            case hi6 => (simp only [List.getElem?_toArray]; exact rfl)
            case hq6 => exact fun _ _ _ h => h
            case hw6 => rfl
            case hy6 => (intro w hSw; (try dsimp only at hSw); go_simp; try exact rfl)
            simp only [Act.put, List.setIfInBounds_toArray, List.set_cons_zero, List.set_cons_succ]
            refine wpAnyH_take (i := 7) (oi := ?o7) (v := ?v7) ?hi7 (by kernel_rfl) (by kernel_rfl) (by kernel_rfl) ?hq7 (Or.inl ⟨?hw7, ?hy7⟩) (by assumption) ?r7
            case hi7 => (simp only [List.getElem?_toArray]; exact rfl)
            case hq7 => exact fun _ _ _ h => h
            case hw7 => rfl
            case hy7 => (intro w hSw; (try dsimp only at hSw); go_simp; try exact rfl)
            simp only [Act.put, List.setIfInBounds_toArray, List.set_cons_zero, List.set_cons_succ]
            refine wpAnyH_take (i := 8) (oi := ?o8) (v := ?v8) ?hi8 (by kernel_rfl) (by kernel_rfl) (by kernel_rfl) ?hq8 (Or.inl ⟨?hw8, ?hy8⟩) (by assumption) ?r8
            case hi8 => (simp only [List.getElem?_toArray]; exact rfl)
            case hq8 => exact fun _ _ _ h => h
            case hw8 => rfl
            case hy8 => (intro w hSw; (try dsimp only at hSw); go_simp; try exact rfl)
            simp only [Act.put, List.setIfInBounds_toArray, List.set_cons_zero, List.set_cons_succ]
            refine wpAnyH_take (i := 9) (oi := ?o9) (v := ?v9) ?hi9 (by kernel_rfl) (by kernel_rfl) (by kernel_rfl) ?hq9 (Or.inl ⟨?hw9, ?hy9⟩) (by assumption) ?r9
            case hi9 => (simp only [List.getElem?_toArray]; exact rfl)
            case hq9 => exact fun _ _ _ h => h
            case hw9 => rfl
            case hy9 => (intro w hSw; (try dsimp only at hSw); go_simp; try exact rfl)
            simp only [Act.put, List.setIfInBounds_toArray, List.set_cons_zero, List.set_cons_succ]
            refine wpAnyH_take (i := 10) (oi := ?o10) (v := ?v10) ?hi10 (by kernel_rfl) (by kernel_rfl) (by kernel_rfl) ?hq10 (Or.inl ⟨?hw10, ?hy10⟩) (by assumption) ?r10
            case hi10 => (simp only [List.getElem?_toArray]; exact rfl)
            case hq10 => exact fun _ _ _ h => h
            case hw10 => rfl
            case hy10 => (intro w hSw; (try dsimp only at hSw); go_simp; try exact rfl)
            simp only [Act.put, List.setIfInBounds_toArray, List.set_cons_zero, List.set_cons_succ]
            refine wpAnyH_take (i := 11) (oi := ?o11) (v := ?v11) ?hi11 (by kernel_rfl) (by kernel_rfl) (by kernel_rfl) ?hq11 (Or.inl ⟨?hw11, ?hy11⟩) (by assumption) ?r11
            case hi11 => (simp only [List.getElem?_toArray]; exact rfl)
            case hq11 => exact fun _ _ _ h => h
            case hw11 => rfl
            case hy11 => (intro w hSw; (try dsimp only at hSw); go_simp; try exact rfl)
            simp only [Act.put, List.setIfInBounds_toArray, List.set_cons_zero, List.set_cons_succ]
            refine wpAnyH_take (i := 12) (oi := ?o12) (v := ?v12) ?hi12 (by kernel_rfl) (by kernel_rfl) (by kernel_rfl) ?hq12 (Or.inl ⟨?hw12, ?hy12⟩) (by assumption) ?r12
            case hi12 => (simp only [List.getElem?_toArray]; exact rfl)
            case hq12 => exact fun _ _ _ h => h
            case hw12 => rfl
            case hy12 => (intro w hSw; (try dsimp only at hSw); go_simp; try exact rfl)
            simp only [Act.put, List.setIfInBounds_toArray, List.set_cons_zero, List.set_cons_succ]
            refine wpAnyH_take (i := 13) (oi := ?o13) (v := ?v13) ?hi13 (by kernel_rfl) (by kernel_rfl) (by kernel_rfl) ?hq13 (Or.inl ⟨?hw13, ?hy13⟩) (by assumption) ?r13
            case hi13 => (simp only [List.getElem?_toArray]; exact rfl)
            case hq13 => exact fun _ _ _ h => h
            case hw13 => rfl
            case hy13 => (intro w hSw; (try dsimp only at hSw); go_simp; try exact rfl)
            simp only [Act.put, List.setIfInBounds_toArray, List.set_cons_zero, List.set_cons_succ]
            refine wpAnyH_take (i := 14) (oi := ?o14) (v := ?v14) ?hi14 (by kernel_rfl) (by kernel_rfl) (by kernel_rfl) ?hq14 (Or.inl ⟨?hw14, ?hy14⟩) (by assumption) ?r14
            case hi14 => (simp only [List.getElem?_toArray]; exact rfl)
            case hq14 => exact fun _ _ _ h => h
            case hw14 => rfl
            case hy14 => (intro w hSw; (try dsimp only at hSw); go_simp; try exact rfl)
            simp only [Act.put, List.setIfInBounds_toArray, List.set_cons_zero, List.set_cons_succ]
            refine wpAnyH_take (i := 15) (oi := ?o15) (v := ?v15) ?hi15 (by kernel_rfl) (by kernel_rfl) (by kernel_rfl) ?hq15 (Or.inl ⟨?hw15, ?hy15⟩) (by assumption) ?r15
            case hi15 => (simp only [List.getElem?_toArray]; exact rfl)
            case hq15 => exact fun _ _ _ h => h
            case hw15 => rfl
            case hy15 => (intro w hSw; (try dsimp only at hSw); go_simp; try exact rfl)
            simp only [Act.put, List.setIfInBounds_toArray, List.set_cons_zero, List.set_cons_succ]
            refine wpAnyH_take (i := 16) (oi := ?o16) (v := ?v16) ?hi16 (by kernel_rfl) (by kernel_rfl) (by kernel_rfl) ?hq16 (Or.inl ⟨?hw16, ?hy16⟩) (by assumption) ?r16
            case hi16 => (simp only [List.getElem?_toArray]; exact rfl)
            case hq16 => exact fun _ _ _ h => h
            case hw16 => rfl
            case hy16 => (intro w hSw; (try dsimp only at hSw); go_simp; try exact rfl)
            simp only [Act.put, List.setIfInBounds_toArray, List.set_cons_zero, List.set_cons_succ]
            refine wpAnyH_take (i := 17) (oi := ?o17) (v := undef) ?hi17 (by kernel_rfl) (by kernel_rfl) (by kernel_rfl) ?hq17 (Or.inr ⟨?hw17, rfl⟩) (by assumption) ?r17
            case hi17 => (simp only [List.getElem?_toArray]; exact rfl)
            case hq17 => exact fun _ _ _ h => h
            case hw17 => rfl
            simp only [Act.put, List.setIfInBounds_toArray, List.set_cons_zero, List.set_cons_succ]
            refine wpAnyH_take (i := 18) (oi := ?o18) (v := undef) ?hi18 (by kernel_rfl) (by kernel_rfl) (by kernel_rfl) ?hq18 (Or.inr ⟨?hw18, rfl⟩) (by assumption) ?r18
            case hi18 => (simp only [List.getElem?_toArray]; exact rfl)
            case hq18 => exact fun _ _ _ h => h
            case hw18 => rfl
            simp only [Act.put, List.setIfInBounds_toArray, List.set_cons_zero, List.set_cons_succ]
            refine wpAnyH_take (i := 19) (oi := ?o19) (v := ?v19) ?hi19 (by kernel_rfl) (by kernel_rfl) (by kernel_rfl) ?hq19 (Or.inl ⟨?hw19, ?hy19⟩) (by assumption) ?r19
            case hi19 => (simp only [List.getElem?_toArray]; exact rfl)
            case hq19 => exact fun _ _ _ h => h
            case hw19 => rfl
            case hy19 => (intro w hSw; (try dsimp only at hSw); go_simp; try exact rfl)
            simp only [Act.put, List.setIfInBounds_toArray, List.set_cons_zero, List.set_cons_succ]
            refine wpAnyH_take (i := 20) (oi := ?o20) (v := ?v20) ?hi20 (by kernel_rfl) (by kernel_rfl) (by kernel_rfl) ?hq20 (Or.inl ⟨?hw20, ?hy20⟩) (by assumption) ?r20
            case hi20 => (simp only [List.getElem?_toArray]; exact rfl)
            case hq20 => exact fun _ _ _ h => h
            case hw20 => rfl
            case hy20 => (intro w hSw; (try dsimp only at hSw); go_simp; try exact rfl)
            simp only [Act.put, List.setIfInBounds_toArray, List.set_cons_zero, List.set_cons_succ]
            refine wpAnyH_take (i := 21) (oi := ?o21) (v := ?v21) ?hi21 (by kernel_rfl) (by kernel_rfl) (by kernel_rfl) ?hq21 (Or.inl ⟨?hw21, ?hy21⟩) (by assumption) ?r21
            case hi21 => (simp only [List.getElem?_toArray]; exact rfl)
            case hq21 => exact fun _ _ _ h => h
            case hw21 => rfl
            case hy21 => (intro w hSw; (try dsimp only at hSw); go_simp; try exact rfl)
            simp only [Act.put, List.setIfInBounds_toArray, List.set_cons_zero, List.set_cons_succ]
            refine wpAnyH_take (i := 22) (oi := ?o22) (v := ?v22) ?hi22 (by kernel_rfl) (by kernel_rfl) (by kernel_rfl) ?hq22 (Or.inl ⟨?hw22, ?hy22⟩) (by assumption) ?r22
            case hi22 => (simp only [List.getElem?_toArray]; exact rfl)
            case hq22 => exact fun _ _ _ h => h
            case hw22 => rfl
            case hy22 => (intro w hSw; (try dsimp only at hSw); go_simp; try exact rfl)
            simp only [Act.put, List.setIfInBounds_toArray, List.set_cons_zero, List.set_cons_succ]
            refine wpAnyH_take (i := 23) (oi := ?o23) (v := ?v23) ?hi23 (by kernel_rfl) (by kernel_rfl) (by kernel_rfl) ?hq23 (Or.inl ⟨?hw23, ?hy23⟩) (by assumption) ?r23
            case hi23 => (simp only [List.getElem?_toArray]; exact rfl)
            case hq23 => exact fun _ _ _ h => h
            case hw23 => rfl
            case hy23 => (intro w hSw; (try dsimp only at hSw); go_simp; try exact rfl)
            simp only [Act.put, List.setIfInBounds_toArray, List.set_cons_zero, List.set_cons_succ]
            refine wpAnyH_take (i := 24) (oi := ?o24) (v := ?v24) ?hi24 (by kernel_rfl) (by kernel_rfl) (by kernel_rfl) ?hq24 (Or.inl ⟨?hw24, ?hy24⟩) (by assumption) ?r24
            case hi24 => (simp only [List.getElem?_toArray]; exact rfl)
            case hq24 => exact fun _ _ _ h => h
            case hw24 => rfl
            case hy24 => (intro w hSw; (try dsimp only at hSw); go_simp; try exact rfl)
            simp only [Act.put, List.setIfInBounds_toArray, List.set_cons_zero, List.set_cons_succ]
            refine wpAnyH_take (i := 25) (oi := ?o25) (v := ?v25) ?hi25 (by kernel_rfl) (by kernel_rfl) (by kernel_rfl) ?hq25 (Or.inl ⟨?hw25, ?hy25⟩) (by assumption) ?r25
            case hi25 => (simp only [List.getElem?_toArray]; exact rfl)
            case hq25 => exact fun _ _ _ h => h
            case hw25 => rfl
            case hy25 => (intro w hSw; (try dsimp only at hSw); go_simp; try exact rfl)
            simp only [Act.put, List.setIfInBounds_toArray, List.set_cons_zero, List.set_cons_succ]
            refine wpAnyH_take (i := 26) (oi := ?o26) (v := ?v26) ?hi26 (by kernel_rfl) (by kernel_rfl) (by kernel_rfl) ?hq26 (Or.inl ⟨?hw26, ?hy26⟩) (by assumption) ?r26
            case hi26 => (simp only [List.getElem?_toArray]; exact rfl)
            case hq26 => exact fun _ _ _ h => h
            case hw26 => rfl
            case hy26 => (intro w hSw; (try dsimp only at hSw); go_simp; try exact rfl)
            simp only [Act.put, List.setIfInBounds_toArray, List.set_cons_zero, List.set_cons_succ]
            refine wpAnyH_take (i := 27) (oi := ?o27) (v := ?v27) ?hi27 (by kernel_rfl) (by kernel_rfl) (by kernel_rfl) ?hq27 (Or.inl ⟨?hw27, ?hy27⟩) (by assumption) ?r27
            case hi27 => (simp only [List.getElem?_toArray]; exact rfl)
            case hq27 => exact fun _ _ _ h => h
            case hw27 => rfl
            case hy27 => (intro w hSw; (try dsimp only at hSw); go_simp; try exact rfl)
            simp only [Act.put, List.setIfInBounds_toArray, List.set_cons_zero, List.set_cons_succ]
            refine wpAnyH_take (i := 28) (oi := ?o28) (v := ?v28) ?hi28 (by kernel_rfl) (by kernel_rfl) (by kernel_rfl) ?hq28 (Or.inl ⟨?hw28, ?hy28⟩) (by assumption) ?r28
            case hi28 => (simp only [List.getElem?_toArray]; exact rfl)
            case hq28 => exact fun _ _ _ h => h
            case hw28 => rfl
            case hy28 => (intro w hSw; (try dsimp only at hSw); go_simp; try exact rfl)
            simp only [Act.put, List.setIfInBounds_toArray, List.set_cons_zero, List.set_cons_succ]
            refine wpAnyH_take (i := 29) (oi := ?o29) (v := ?v29) ?hi29 (by kernel_rfl) (by kernel_rfl) (by kernel_rfl) ?hq29 (Or.inl ⟨?hw29, ?hy29⟩) (by assumption) ?r29
            case hi29 => (simp only [List.getElem?_toArray]; exact rfl)
            case hq29 => exact fun _ _ _ h => h
            case hw29 => rfl
            case hy29 => (intro w hSw; (try dsimp only at hSw); go_simp; try exact rfl)
            simp only [Act.put, List.setIfInBounds_toArray, List.set_cons_zero, List.set_cons_succ]
            refine wpAnyH_take (i := 30) (oi := ?o30) (v := ?v30) ?hi30 (by kernel_rfl) (by kernel_rfl) (by kernel_rfl) ?hq30 (Or.inl ⟨?hw30, ?hy30⟩) (by assumption) ?r30
            case hi30 => (simp only [List.getElem?_toArray]; exact rfl)
            case hq30 => exact fun _ _ _ h => h
            case hw30 => rfl
            case hy30 => (intro w hSw; (try dsimp only at hSw); go_simp; try exact rfl)
            simp only [Act.put, List.setIfInBounds_toArray, List.set_cons_zero, List.set_cons_succ]
            refine wpAnyH_take (i := 31) (oi := ?o31) (v := ?v31) ?hi31 (by kernel_rfl) (by kernel_rfl) (by kernel_rfl) ?hq31 (Or.inl ⟨?hw31, ?hy31⟩) (by assumption) ?r31
            case hi31 => (simp only [List.getElem?_toArray]; exact rfl)
            case hq31 => exact fun _ _ _ h => h
            case hw31 => rfl
            case hy31 => (intro w hSw; (try dsimp only at hSw); go_simp; try exact rfl)
            simp only [Act.put, List.setIfInBounds_toArray, List.set_cons_zero, List.set_cons_succ]
            refine wpAnyH_take (i := 32) (oi := ?o32) (v := ?v32) ?hi32 (by kernel_rfl) (by kernel_rfl) (by kernel_rfl) ?hq32 (Or.inl ⟨?hw32, ?hy32⟩) (by assumption) ?r32
            case hi32 => (simp only [List.getElem?_toArray]; exact rfl)
            case hq32 => exact fun _ _ _ h => h
            case hw32 => rfl
            case hy32 => (intro w hSw; (try dsimp only at hSw); go_simp; try exact rfl)
            simp only [Act.put, List.setIfInBounds_toArray, List.set_cons_zero, List.set_cons_succ]
            refine wpAnyH_take (i := 33) (oi := ?o33) (v := ?v33) ?hi33 (by kernel_rfl) (by kernel_rfl) (by kernel_rfl) ?hq33 (Or.inl ⟨?hw33, ?hy33⟩) (by assumption) ?r33
            case hi33 => (simp only [List.getElem?_toArray]; exact rfl)
            case hq33 => exact fun _ _ _ h => h
            case hw33 => rfl
            case hy33 => (intro w hSw; (try dsimp only at hSw); go_simp; try exact rfl)
            simp only [Act.put, List.setIfInBounds_toArray, List.set_cons_zero, List.set_cons_succ]
            refine wpAnyH_take (i := 34) (oi := ?o34) (v := ?v34) ?hi34 (by kernel_rfl) (by kernel_rfl) (by kernel_rfl) ?hq34 (Or.inl ⟨?hw34, ?hy34⟩) (by assumption) ?r34
            case hi34 => (simp only [List.getElem?_toArray]; exact rfl)
            case hq34 => exact fun _ _ _ h => h
            case hw34 => rfl
            case hy34 => (intro w hSw; (try dsimp only at hSw); go_simp; try exact rfl)
            simp only [Act.put, List.setIfInBounds_toArray, List.set_cons_zero, List.set_cons_succ]
            refine wpAnyH_take (i := 35) (oi := ?o35) (v := ?v35) ?hi35 (by kernel_rfl) (by kernel_rfl) (by kernel_rfl) ?hq35 (Or.inl ⟨?hw35, ?hy35⟩) (by assumption) ?r35
            case hi35 => (simp only [List.getElem?_toArray]; exact rfl)
            case hq35 => exact fun _ _ _ h => h
            case hw35 => rfl
            case hy35 => (intro w hSw; (try dsimp only at hSw); go_simp; try exact rfl)
            simp only [Act.put, List.setIfInBounds_toArray, List.set_cons_zero, List.set_cons_succ]
            refine wpAnyH_take (i := 36) (oi := ?o36) (v := ?v36) ?hi36 (by kernel_rfl) (by kernel_rfl) (by kernel_rfl) ?hq36 (Or.inl ⟨?hw36, ?hy36⟩) (by assumption) ?r36
            case hi36 => (simp only [List.getElem?_toArray]; exact rfl)
            case hq36 => exact fun _ _ _ h => h
            case hw36 => rfl
            case hy36 => (intro w hSw; (try dsimp only at hSw); go_simp; try exact rfl)
            simp only [Act.put, List.setIfInBounds_toArray, List.set_cons_zero, List.set_cons_succ]
            refine wpAnyH_take (i := 37) (oi := ?o37) (v := ?v37) ?hi37 (by kernel_rfl) (by kernel_rfl) (by kernel_rfl) ?hq37 (Or.inl ⟨?hw37, ?hy37⟩) (by assumption) ?r37
            case hi37 => (simp only [List.getElem?_toArray]; exact rfl)
            case hq37 => exact fun _ _ _ h => h
            case hw37 => rfl
            case hy37 => (intro w hSw; (try dsimp only at hSw); go_simp; try exact rfl)
            simp only [Act.put, List.setIfInBounds_toArray, List.set_cons_zero, List.set_cons_succ]
            refine wpAnyH_take (i := 38) (oi := ?o38) (v := ?v38) ?hi38 (by kernel_rfl) (by kernel_rfl) (by kernel_rfl) ?hq38 (Or.inl ⟨?hw38, ?hy38⟩) (by assumption) ?r38
            case hi38 => (simp only [List.getElem?_toArray]; exact rfl)
            case hq38 => exact fun _ _ _ h => h
            case hw38 => rfl
            case hy38 => (intro w hSw; (try dsimp only at hSw); go_simp; try exact rfl)
            simp only [Act.put, List.setIfInBounds_toArray, List.set_cons_zero, List.set_cons_succ]
            refine wpAnyH_take (i := 39) (oi := ?o39) (v := ?v39) ?hi39 (by kernel_rfl) (by kernel_rfl) (by kernel_rfl) ?hq39 (Or.inl ⟨?hw39, ?hy39⟩) (by assumption) ?r39
            case hi39 => (simp only [List.getElem?_toArray]; exact rfl)
            case hq39 => exact fun _ _ _ h => h
            case hw39 => rfl
            case hy39 => (intro w hSw; (try dsimp only at hSw); go_simp; try exact rfl)
            simp only [Act.put, List.setIfInBounds_toArray, List.set_cons_zero, List.set_cons_succ]
            refine wpAnyH_take (i := 40) (oi := ?o40) (v := ?v40) ?hi40 (by kernel_rfl) (by kernel_rfl) (by kernel_rfl) ?hq40 (Or.inl ⟨?hw40, ?hy40⟩) (by assumption) ?r40
            case hi40 => (simp only [List.getElem?_toArray]; exact rfl)
            case hq40 => exact fun _ _ _ h => h
            case hw40 => rfl
            case hy40 => (intro w hSw; (try dsimp only at hSw); go_simp; try exact rfl)
            simp only [Act.put, List.setIfInBounds_toArray, List.set_cons_zero, List.set_cons_succ]
            refine wpAnyH_take (i := 41) (oi := ?o41) (v := ?v41) ?hi41 (by kernel_rfl) (by kernel_rfl) (by kernel_rfl) ?hq41 (Or.inl ⟨?hw41, ?hy41⟩) (by assumption) ?r41
            case hi41 => (simp only [List.getElem?_toArray]; exact rfl)
            case hq41 => exact fun _ _ _ h => h
            case hw41 => rfl
            case hy41 => (intro w hSw; (try dsimp only at hSw); go_simp; try exact rfl)
            simp only [Act.put, List.setIfInBounds_toArray, List.set_cons_zero, List.set_cons_succ]
            refine wpAnyH_take (i := 42) (oi := ?o42) (v := ?v42) ?hi42 (by kernel_rfl) (by kernel_rfl) (by kernel_rfl) ?hq42 (Or.inl ⟨?hw42, ?hy42⟩) (by assumption) ?r42
            case hi42 => (simp only [List.getElem?_toArray]; exact rfl)
            case hq42 => exact fun _ _ _ h => h
            case hw42 => rfl
            case hy42 => (intro w hSw; (try dsimp only at hSw); go_simp; try exact rfl)
            simp only [Act.put, List.setIfInBounds_toArray, List.set_cons_zero, List.set_cons_succ]
            refine wpAnyH_take (i := 43) (oi := ?o43) (v := ?v43) ?hi43 (by kernel_rfl) (by kernel_rfl) (by kernel_rfl) ?hq43 (Or.inl ⟨?hw43, ?hy43⟩) (by assumption) ?r43
            case hi43 => (simp only [List.getElem?_toArray]; exact rfl)
            case hq43 => exact fun _ _ _ h => h
            case hw43 => rfl
            case hy43 => (intro w hSw; (try dsimp only at hSw); go_simp; try exact rfl)
            simp only [Act.put, List.setIfInBounds_toArray, List.set_cons_zero, List.set_cons_succ]
            refine wpAnyH_take (i := 44) (oi := ?o44) (v := ?v44) ?hi44 (by kernel_rfl) (by kernel_rfl) (by kernel_rfl) ?hq44 (Or.inl ⟨?hw44, ?hy44⟩) (by assumption) ?r44
            case hi44 => (simp only [List.getElem?_toArray]; exact rfl)
            case hq44 => exact fun _ _ _ h => h
            case hw44 => rfl
            case hy44 => (intro w hSw; (try dsimp only at hSw); go_simp; try exact rfl)
            simp only [Act.put, List.setIfInBounds_toArray, List.set_cons_zero, List.set_cons_succ]
            refine wpAnyH_take (i := 45) (oi := ?o45) (v := ?v45) ?hi45 (by kernel_rfl) (by kernel_rfl) (by kernel_rfl) ?hq45 (Or.inl ⟨?hw45, ?hy45⟩) (by assumption) ?r45
            case hi45 => (simp only [List.getElem?_toArray]; exact rfl)
            case hq45 => exact fun _ _ _ h => h
            case hw45 => rfl
            case hy45 => (intro w hSw; (try dsimp only at hSw); go_simp; try exact rfl)
            simp only [Act.put, List.setIfInBounds_toArray, List.set_cons_zero, List.set_cons_succ]
            refine wpAnyH_take (i := 46) (oi := ?o46) (v := ?v46) ?hi46 (by kernel_rfl) (by kernel_rfl) (by kernel_rfl) ?hq46 (Or.inl ⟨?hw46, ?hy46⟩) (by assumption) ?r46
            case hi46 => (simp only [List.getElem?_toArray]; exact rfl)
            case hq46 => exact fun _ _ _ h => h
            case hw46 => rfl
            case hy46 => (intro w hSw; (try dsimp only at hSw); go_simp; try exact rfl)
            simp only [Act.put, List.setIfInBounds_toArray, List.set_cons_zero, List.set_cons_succ]
            refine wpAnyH_take (i := 47) (oi := ?o47) (v := ?v47) ?hi47 (by kernel_rfl) (by kernel_rfl) (by kernel_rfl) ?hq47 (Or.inl ⟨?hw47, ?hy47⟩) (by assumption) ?r47
            case hi47 => (simp only [List.getElem?_toArray]; exact rfl)
            case hq47 => exact fun _ _ _ h => h
            case hw47 => rfl
            case hy47 => (intro w hSw; (try dsimp only at hSw); go_simp; try exact rfl)
            simp only [Act.put, List.setIfInBounds_toArray, List.set_cons_zero, List.set_cons_succ]
            refine wpAnyH_take (i := 48) (oi := ?o48) (v := ?v48) ?hi48 (by kernel_rfl) (by kernel_rfl) (by kernel_rfl) ?hq48 (Or.inl ⟨?hw48, ?hy48⟩) (by assumption) ?r48
            case hi48 => (simp only [List.getElem?_toArray]; exact rfl)
            case hq48 => exact fun _ _ _ h => h
            case hw48 => rfl
            case hy48 => (intro w hSw; (try dsimp only at hSw); go_simp; try exact rfl)
            simp only [Act.put, List.setIfInBounds_toArray, List.set_cons_zero, List.set_cons_succ]
            refine wpAnyH_take (i := 49) (oi := ?o49) (v := ?v49) ?hi49 (by kernel_rfl) (by kernel_rfl) (by kernel_rfl) ?hq49 (Or.inl ⟨?hw49, ?hy49⟩) (by assumption) ?r49
            case hi49 => (simp only [List.getElem?_toArray]; exact rfl)
            case hq49 => exact fun _ _ _ h => h
            case hw49 => rfl
            case hy49 => (intro w hSw; (try dsimp only at hSw); go_simp; try exact rfl)
            simp only [Act.put, List.setIfInBounds_toArray, List.set_cons_zero, List.set_cons_succ]
            refine wpAnyH_take (i := 50) (oi := ?o50) (v := ?v50) ?hi50 (by kernel_rfl) (by kernel_rfl) (by kernel_rfl) ?hq50 (Or.inl ⟨?hw50, ?hy50⟩) (by assumption) ?r50
            case hi50 => (simp only [List.getElem?_toArray]; exact rfl)
            case hq50 => exact fun _ _ _ h => h
            case hw50 => rfl
            case hy50 => (intro w hSw; (try dsimp only at hSw); go_simp; try exact rfl)
            simp only [Act.put, List.setIfInBounds_toArray, List.set_cons_zero, List.set_cons_succ]
            refine wpAnyH_ready (rs := [51]) (by kernel_rfl) (by simp) ?_
            refine AllReadyH.cons (o := ?o135) ?hi135 (fun K hK => ?_) AllReadyH.nil
            case hi135 => (simp only [List.getElem?_toArray]; exact rfl)
            go_simp
            go_at_call 18
            refine (TS.out _).mono ?_
            rintro e w13 ⟨rfl, b3⟩
            replace B := step_below B b3
            replace Ca := api.below Ca b3
            replace NX := Kept.mk (NX.out.below b3 NX.out.lt)
            replace NY := Kept.mk (NY.out.below b3 NY.out.lt)
            refine hK.out _ _ ⟨NX.out.cell 5, NX.out.cell 7, NY.out.cell 5⟩ (fun hHeld => ?_)
            clear hK K
            try simp only [Act.put, List.setIfInBounds_toArray, List.set_cons_zero, List.set_cons_succ]
            refine wpAnyH_take (i := 52) (oi := ?o51) (v := ?v51) ?hi51 (by kernel_rfl) (by kernel_rfl) (by kernel_rfl) ?hq51 (Or.inl ⟨?hw51, ?hy51⟩) (by assumption) ?r51
            case hi51 => (simp only [List.getElem?_toArray]; exact rfl)
            case hq51 => exact fun _ _ _ h => h
            case hw51 => rfl
            case hy51 => (intro w hSw; (try dsimp only at hSw); go_simp; try exact rfl)
            simp only [Act.put, List.setIfInBounds_toArray, List.set_cons_zero, List.set_cons_succ]
            refine wpAnyH_take (i := 53) (oi := ?o52) (v := ?v52) ?hi52 (by kernel_rfl) (by kernel_rfl) (by kernel_rfl) ?hq52 (Or.inl ⟨?hw52, ?hy52⟩) (by assumption) ?r52
            case hi52 => (simp only [List.getElem?_toArray]; exact rfl)
            case hq52 => exact fun _ _ _ h => h
            case hw52 => rfl
            case hy52 => (intro w hSw; (try dsimp only at hSw); go_simp; try exact rfl)
            simp only [Act.put, List.setIfInBounds_toArray, List.set_cons_zero, List.set_cons_succ]
            refine wpAnyH_take (i := 54) (oi := ?o53) (v := ?v53) ?hi53 (by kernel_rfl) (by kernel_rfl) (by kernel_rfl) ?hq53 (Or.inl ⟨?hw53, ?hy53⟩) (by assumption) ?r53
            case hi53 => (simp only [List.getElem?_toArray]; exact rfl)
            case hq53 => exact fun _ _ _ h => h
            case hw53 => rfl
            case hy53 => (intro w hSw; (try dsimp only at hSw); go_simp; try exact rfl)
            simp only [Act.put, List.setIfInBounds_toArray, List.set_cons_zero, List.set_cons_succ]
            refine wpAnyH_take (i := 55) (oi := ?o54) (v := ?v54) ?hi54 (by kernel_rfl) (by kernel_rfl) (by kernel_rfl) ?hq54 (Or.inl ⟨?hw54, ?hy54⟩) (by assumption) ?r54
            case hi54 => (simp only [List.getElem?_toArray]; exact rfl)
            case hq54 => exact fun _ _ _ h => h
            case hw54 => rfl
            case hy54 => (intro w hSw; (try dsimp only at hSw); go_simp; try exact rfl)
            simp only [Act.put, List.setIfInBounds_toArray, List.set_cons_zero, List.set_cons_succ]
            refine wpAnyH_take (i := 56) (oi := ?o55) (v := ?v55) ?hi55 (by kernel_rfl) (by kernel_rfl) (by kernel_rfl) ?hq55 (Or.inl ⟨?hw55, ?hy55⟩) (by assumption) ?r55
            case hi55 => (simp only [List.getElem?_toArray]; exact rfl)
            case hq55 => exact fun _ _ _ h => h
            case hw55 => rfl
            case hy55 => (intro w hSw; (try dsimp only at hSw); go_simp; try exact rfl)
            simp only [Act.put, List.setIfInBounds_toArray, List.set_cons_zero, List.set_cons_succ]
            refine wpAnyH_take (i := 58) (oi := ?o56) (v := ?v56) ?hi56 (by kernel_rfl) (by kernel_rfl) (by kernel_rfl) ?hq56 (Or.inl ⟨?hw56, ?hy56⟩) (by assumption) ?r56
            case hi56 => (simp only [List.getElem?_toArray]; exact rfl)
            case hq56 => exact fun _ _ _ h => h
            case hw56 => rfl
            case hy56 => (intro w hSw; (try dsimp only at hSw); go_simp; try exact rfl)
            simp only [Act.put, List.setIfInBounds_toArray, List.set_cons_zero, List.set_cons_succ]
            refine wpAnyH_take (i := 59) (oi := ?o57) (v := ?v57) ?hi57 (by kernel_rfl) (by kernel_rfl) (by kernel_rfl) ?hq57 (Or.inl ⟨?hw57, ?hy57⟩) (by assumption) ?r57
            case hi57 => (simp only [List.getElem?_toArray]; exact rfl)
            case hq57 => exact fun _ _ _ h => h
            case hw57 => rfl
            case hy57 => (intro w hSw; (try dsimp only at hSw); go_simp; try exact rfl)
            simp only [Act.put, List.setIfInBounds_toArray, List.set_cons_zero, List.set_cons_succ]
            have OP := api.open_ Ca.out
            rw [show openB (bC H S d) = 0 from rfl] at OP
            refine wpAnyH_ready (rs := [57]) (by kernel_rfl) (by simp) ?_
            refine AllReadyH.cons (o := ?o136) ?hi136 (fun K hK => ?_) AllReadyH.nil
            case hi136 => (simp only [List.getElem?_toArray]; exact rfl)
            go_simp
            go_at_call 19
            refine (OP).mono ?_
            rintro e w14 ⟨rfl, b3⟩
            clear OP
            replace B := step_below B b3
            replace Ca := api.below Ca b3
            replace NX := Kept.mk (NX.out.below b3 NX.out.lt)
            replace NY := Kept.mk (NY.out.below b3 NY.out.lt)
            refine hK.out _ _ ⟨NX.out.cell 5, NX.out.cell 7, NY.out.cell 5⟩ (fun hHeld => ?_)
            clear hK K
            try simp only [Act.put, List.setIfInBounds_toArray, List.set_cons_zero, List.set_cons_succ]
            have BI := fun w => b2i_any false w
            rw [show b2i false = 0 from rfl] at BI
            refine wpAnyH_ready (rs := [60]) (by kernel_rfl) (by simp) ?_
            refine AllReadyH.cons (o := ?o137) ?hi137 (fun K hK => ?_) AllReadyH.nil
            case hi137 => (simp only [List.getElem?_toArray]; exact rfl)
            go_simp
            go_at_call 20
            refine (BI _).mono ?_
            rintro e w15 ⟨rfl, rfl⟩
            refine hK.out _ _ ⟨NX.out.cell 5, NX.out.cell 7, NY.out.cell 5⟩ (fun hHeld => ?_)
            clear hK K
            try simp only [Act.put, List.setIfInBounds_toArray, List.set_cons_zero, List.set_cons_succ]
            refine wpAnyH_take (i := 61) (oi := ?o58) (v := ?v58) ?hi58 (by kernel_rfl) (by kernel_rfl) (by kernel_rfl) ?hq58 (Or.inl ⟨?hw58, ?hy58⟩) (by assumption) ?r58
            case hi58 => (simp only [List.getElem?_toArray]; exact rfl)
            case hq58 => exact fun _ _ _ h => h
            case hw58 => rfl
            case hy58 => (intro w hSw; (try dsimp only at hSw); go_simp; try exact rfl)
            simp only [Act.put, List.setIfInBounds_toArray, List.set_cons_zero, List.set_cons_succ]
            refine wpAnyH_take (i := 62) (oi := ?o59) (v := ?v59) ?hi59 (by kernel_rfl) (by kernel_rfl) (by kernel_rfl) ?hq59 (Or.inl ⟨?hw59, ?hy59⟩) (by assumption) ?r59
            case hi59 => (simp only [List.getElem?_toArray]; exact rfl)
            case hq59 => exact fun _ _ _ h => h
            case hw59 => rfl
            case hy59 => (intro w hSw; (try dsimp only at hSw); go_simp; try exact rfl)
            simp only [Act.put, List.setIfInBounds_toArray, List.set_cons_zero, List.set_cons_succ]
            refine wpAnyH_take (i := 63) (oi := ?o60) (v := ?v60) ?hi60 (by kernel_rfl) (by kernel_rfl) (by kernel_rfl) ?hq60 (Or.inl ⟨?hw60, ?hy60⟩) (by assumption) ?r60
            case hi60 => (simp only [List.getElem?_toArray]; exact rfl)
            case hq60 => exact fun _ _ _ h => h
            case hw60 => rfl
            case hy60 => (intro w hSw; (try dsimp only at hSw); go_simp; try exact rfl)
            simp only [Act.put, List.setIfInBounds_toArray, List.set_cons_zero, List.set_cons_succ]
            refine wpAnyH_take (i := 64) (oi := ?o61) (v := ?v61) ?hi61 (by kernel_rfl) (by kernel_rfl) (by kernel_rfl) ?hq61 (Or.inl ⟨?hw61, ?hy61⟩) (by assumption) ?r61
            case hi61 => (simp only [List.getElem?_toArray]; exact rfl)
            case hq61 => exact fun _ _ _ h => h
            case hw61 => rfl
            case hy61 => (intro w hSw; (try dsimp only at hSw); go_simp; try exact rfl)
            simp only [Act.put, List.setIfInBounds_toArray, List.set_cons_zero, List.set_cons_succ]
            refine wpAnyH_take (i := 65) (oi := ?o62) (v := ?v62) ?hi62 (by kernel_rfl) (by kernel_rfl) (by kernel_rfl) ?hq62 (Or.inl ⟨?hw62, ?hy62⟩) (by assumption) ?r62
            case hi62 => (simp only [List.getElem?_toArray]; exact rfl)
            case hq62 => exact fun _ _ _ h => h
            case hw62 => rfl
            case hy62 => (intro w hSw; (try dsimp only at hSw); go_simp; try exact rfl)
            simp only [Act.put, List.setIfInBounds_toArray, List.set_cons_zero, List.set_cons_succ]
            refine wpAnyH_take (i := 67) (oi := ?o63) (v := ?v63) ?hi63 (by kernel_rfl) (by kernel_rfl) (by kernel_rfl) ?hq63 (Or.inl ⟨?hw63, ?hy63⟩) (by assumption) ?r63
            case hi63 => (simp only [List.getElem?_toArray]; exact rfl)
            case hq63 => exact fun _ _ _ h => h
            case hw63 => rfl
            case hy63 => (intro w hSw; (try dsimp only at hSw); go_simp; try exact rfl)
            simp only [Act.put, List.setIfInBounds_toArray, List.set_cons_zero, List.set_cons_succ]
            refine wpAnyH_ready (rs := [66]) (by kernel_rfl) (by simp) ?_
            refine AllReadyH.cons (o := ?o138) ?hi138 (fun K hK => ?_) AllReadyH.nil
            case hi138 => (simp only [List.getElem?_toArray]; exact rfl)
            go_simp
            go_at_call 18
            refine (TS.out _).mono ?_
            rintro e w16 ⟨rfl, b3⟩
            replace B := step_below B b3
            replace Ca := api.below Ca b3
            replace NX := Kept.mk (NX.out.below b3 NX.out.lt)
            replace NY := Kept.mk (NY.out.below b3 NY.out.lt)
            refine hK.out _ _ ⟨NX.out.cell 5, NX.out.cell 7, NY.out.cell 5⟩ (fun hHeld => ?_)
            clear hK K
            try simp only [Act.put, List.setIfInBounds_toArray, List.set_cons_zero, List.set_cons_succ]
            have CL := api.claim 0 0 S t Ca.out BS.out (fun k hk => by
              obtain rfl : k = 0 := Nat.lt_one_iff.1 hk
              exact BH.out)
            rw [times_partyC (c := bC H S d) (Nat.zero_lt_one) rfl] at CL
            refine wpAnyH_ready (rs := [68]) (by kernel_rfl) (by simp) ?_
            refine AllReadyH.cons (o := ?o139) ?hi139 (fun K hK => ?_) AllReadyH.nil
            case hi139 => (simp only [List.getElem?_toArray]; exact rfl)
            go_simp
            go_at_call 14
            refine CL.mono ?_
            rintro e w17 ⟨rfl, Fz, hc, fp⟩
            obtain ⟨B, L⟩ := step_fp B fp La
            replace NX := Kept.mk (NX.out.bar fp.1 (fun hm => Nat.lt_irrefl _ (XA.out _ hm)))
            replace NY := Kept.mk (NY.out.bar fp.1 (fun hm => Nat.lt_irrefl _ (YA.out _ hm)))
            refine hK.out _ _ ⟨NX.out.cell 5, NX.out.cell 7, NY.out.cell 5⟩ (fun hHeld => ?_)
            clear hK K hc fp CL
            refine wpAnyH_take (i := 69) (oi := ?o64) (v := ?v64) ?hi64 (by kernel_rfl) (by kernel_rfl) (by kernel_rfl) ?hq64 (Or.inl ⟨?hw64, ?hy64⟩) (by assumption) ?r64
            case hi64 => (simp only [List.getElem?_toArray]; exact rfl)
            case hq64 => exact fun _ _ _ h => h
            case hw64 => rfl
            case hy64 => (intro w hSw; (try dsimp only at hSw); go_simp; try exact rfl)
            simp only [Act.put, List.setIfInBounds_toArray, List.set_cons_zero, List.set_cons_succ]
            refine wpAnyH_take (i := 70) (oi := ?o65) (v := ?v65) ?hi65 (by kernel_rfl) (by kernel_rfl) (by kernel_rfl) ?hq65 (Or.inl ⟨?hw65, ?hy65⟩) (by assumption) ?r65
            case hi65 => (simp only [List.getElem?_toArray]; exact rfl)
            case hq65 => exact fun _ _ _ h => h
            case hw65 => rfl
            case hy65 => (intro w hSw; (try dsimp only at hSw); go_simp; try exact rfl)
            simp only [Act.put, List.setIfInBounds_toArray, List.set_cons_zero, List.set_cons_succ]
            refine wpAnyH_take (i := 71) (oi := ?o66) (v := ?v66) ?hi66 (by kernel_rfl) (by kernel_rfl) (by kernel_rfl) ?hq66 (Or.inl ⟨?hw66, ?hy66⟩) (by assumption) ?r66
            case hi66 => (simp only [List.getElem?_toArray]; exact rfl)
            case hq66 => exact fun _ _ _ h => h
            case hw66 => rfl
            case hy66 => (intro w hSw; (try dsimp only at hSw); go_simp; try exact rfl)
            simp only [Act.put, List.setIfInBounds_toArray, List.set_cons_zero, List.set_cons_succ]
            refine wpAnyH_done (by kernel_rfl) ?_ _
            refine NoPanic.normal ?_
            go_wp2
            go_ret
            exact ⟨rfl, B.out⟩
          · have HE := Kept.mk he
            go_wp2_with fail
            refine (TS.out _).mono ?_
            rintro e w7 ⟨rfl, b3⟩
            replace B := step_below B b3
            replace Ca := api.below Ca b3
            replace Cb := api.below Cb b3
            clear b3
            go_wp2_with fail
            have K := api.claim 1 0 S t Ca.out BS.out BB.out
            rw [times_late (Int.not_lt.2 HE.out)] at K
            refine K.mono ?_
            rintro e w8 ⟨rfl, Fa, hc, fp⟩
            obtain ⟨B, La⟩ := step_fp B fp La
            have J := Kept.mk (Ja.out.step fp (api.lts Cb.out))
            replace Cb := Kept.mk (api.keep Cb.out fp.1 Ja.out.symm)
            replace Ca : Kept (Ck w8 Fa xa qa (bL H d)) := ⟨hc⟩
            have Ja := J
            clear hc fp K J
            have Jb := Kept.mk Ja.out.symm
            clear Ja
            go_wp2_with fail
            have K := api.refund 0 0 t Cb.out
            rw [times_refund r3' r4' (Int.not_lt.2 HE.out)] at K
            refine K.mono ?_
            rintro e w9 ⟨rfl, Fb, hc, fp⟩
            obtain ⟨B, Lb⟩ := step_fp B fp Lb
            have J := Kept.mk (Jb.out.step fp (api.lts Ca.out))
            replace Ca := Kept.mk (api.keep Ca.out fp.1 Jb.out.symm)
            replace Cb : Kept (Ck w9 Fb xb qb (bR H d)) := ⟨hc⟩
            have Jb := J
            clear hc fp K J
            go_wp2_with fail
            have K := api.get 0 Ca.out
            rw [show getB (bL H d) 0 = (⟨0, 1, 0, 5, d, 0, H, []⟩, true) from rfl] at K
            refine K.mono ?_
            rintro e w10 ⟨hx, b3⟩
            replace hx : e = .returned (.tuple #[.agg #[.int .i64 0, .int .i64 1, .int .i64 0, .int .i64 5, .int .i64 d, .int .i64 0, .string (strOfNums H), .string (strOfNums [])], .bool true]) := hx
            subst hx
            replace B := step_below B b3
            replace Ca := api.below Ca b3
            replace Cb := api.below Cb b3
            have XA := Kept.mk (api.lts Ca.out)
            clear b3 K
            have b3 : Below w10.heap.size w10 (w10.alloc (.cells #[.int .i64 0, .int .i64 1, .int .i64 0, .int .i64 5, .int .i64 d, .int .i64 0, .string (strOfNums H), .string (strOfNums [])] 34)) := (Below.refl _ _).alloc (Nat.le_refl _) _
            replace B := step_below B b3
            replace Ca := api.below Ca b3
            replace Cb := api.below Cb b3
            have NX : Kept (Blk (w10.alloc (.cells #[.int .i64 0, .int .i64 1, .int .i64 0, .int .i64 5, .int .i64 d, .int .i64 0, .string (strOfNums H), .string (strOfNums [])] 34)) w10.heap.size 34 #[.int .i64 0, .int .i64 1, .int .i64 0, .int .i64 5, .int .i64 d, .int .i64 0, .string (strOfNums H), .string (strOfNums [])]) := ⟨Blk.new _ _ _⟩
            clear b3
            go_wp2_with fail
            have K := api.get 0 Cb.out
            rw [show getB (bR H d) 0 = (⟨0, 1, 0, 5, d, 2, H, []⟩, true) from rfl] at K
            refine K.mono ?_
            rintro e w11 ⟨hx, b3⟩
            replace hx : e = .returned (.tuple #[.agg #[.int .i64 0, .int .i64 1, .int .i64 0, .int .i64 5, .int .i64 d, .int .i64 2, .string (strOfNums H), .string (strOfNums [])], .bool true]) := hx
            subst hx
            replace B := step_below B b3
            replace Ca := api.below Ca b3
            replace Cb := api.below Cb b3
            replace NX := Kept.mk (NX.out.below b3 NX.out.lt)
            have YA := Kept.mk (api.lts Ca.out)
            clear b3 K
            have b3 : Below w11.heap.size w11 (w11.alloc (.cells #[.int .i64 0, .int .i64 1, .int .i64 0, .int .i64 5, .int .i64 d, .int .i64 2, .string (strOfNums H), .string (strOfNums [])] 34)) := (Below.refl _ _).alloc (Nat.le_refl _) _
            replace B := step_below B b3
            replace Ca := api.below Ca b3
            replace Cb := api.below Cb b3
            replace NX := Kept.mk (NX.out.below b3 NX.out.lt)
            have NY : Kept (Blk (w11.alloc (.cells #[.int .i64 0, .int .i64 1, .int .i64 0, .int .i64 5, .int .i64 d, .int .i64 2, .string (strOfNums H), .string (strOfNums [])] 34)) w11.heap.size 34 #[.int .i64 0, .int .i64 1, .int .i64 0, .int .i64 5, .int .i64 d, .int .i64 2, .string (strOfNums H), .string (strOfNums [])]) := ⟨Blk.new _ _ _⟩
            clear b3
            go_wp2_with fail
            rw [show decide (t < d) = false from decide_eq_false (Int.not_lt.2 HE.out)]
            generalize hW : (w11.alloc (.cells #[.int .i64 0, .int .i64 1, .int .i64 0, .int .i64 5, .int .i64 d, .int .i64 2, .string (strOfNums H), .string (strOfNums [])] 34)) = wz at *
            have b3 : Below wz.heap.size wz wz.drew := (Below.refl _ _).drew
            replace B := step_below B b3
            replace Ca := api.below Ca b3
            replace NX := Kept.mk (NX.out.below b3 NX.out.lt)
            replace NY := Kept.mk (NY.out.below b3 NY.out.lt)
            clear b3 Cb hW
            have HELD0 : (fun w' : World => w'.cell? ⟨w10.heap.size, 5, none⟩ = some (.int .i64 0) ∧ w'.cell? ⟨w10.heap.size, 7, none⟩ = some (.string (strOfNums [])) ∧ w'.cell? ⟨w11.heap.size, 5, none⟩ = some (.int .i64 2)) wz.drew := ⟨NX.out.cell 5, NX.out.cell 7, NY.out.cell 5⟩
            refine wp_region_noPanic ?_
            refine wp_region_held_drew (S := fun w' : World => w'.cell? ⟨w10.heap.size, 5, none⟩ = some (.int .i64 0) ∧ w'.cell? ⟨w10.heap.size, 7, none⟩ = some (.string (strOfNums [])) ∧ w'.cell? ⟨w11.heap.size, 5, none⟩ = some (.int .i64 2)) (by kernel_rfl) HELD0 (fun hHeld => ?_)
            clear HELD0
            refine wpAnyH_ready (rs := [0]) (by kernel_rfl) (by simp) ?_
            refine AllReadyH.cons (o := ?o140) ?hi140 (fun K hK => ?_) AllReadyH.nil
            case hi140 => (simp only [List.getElem?_toArray]; exact rfl)
            go_simp
            go_at_call 6
            refine (first_any api _).mono ?_
            rintro e w12 ⟨rfl, b3⟩
            replace B := step_below B b3
            replace Ca := api.below Ca b3
            replace NX := Kept.mk (NX.out.below b3 NX.out.lt)
            replace NY := Kept.mk (NY.out.below b3 NY.out.lt)
            refine hK.out _ _ ⟨NX.out.cell 5, NX.out.cell 7, NY.out.cell 5⟩ (fun hHeld => ?_)
            clear hK K
            try simp only [Act.put, List.setIfInBounds_toArray, List.set_cons_zero, List.set_cons_succ]
            refine wpAnyH_take (i := 1) (oi := ?o67) (v := ?v67) ?hi67 (by kernel_rfl) (by kernel_rfl) (by kernel_rfl) ?hq67 (Or.inl ⟨?hw67, ?hy67⟩) (by assumption) ?r67
            case hi67 => (simp only [List.getElem?_toArray]; exact rfl)
            case hq67 => exact fun _ _ _ h => h
            case hw67 => rfl
            case hy67 => (intro w hSw; (try dsimp only at hSw); go_simp; try exact rfl)
            simp only [Act.put, List.setIfInBounds_toArray, List.set_cons_zero, List.set_cons_succ]
            refine wpAnyH_take (i := 2) (oi := ?o68) (v := ?v68) ?hi68 (by kernel_rfl) (by kernel_rfl) (by kernel_rfl) ?hq68 (Or.inl ⟨?hw68, ?hy68⟩) (by assumption) ?r68
            case hi68 => (simp only [List.getElem?_toArray]; exact rfl)
            case hq68 => exact fun _ _ _ h => h
            case hw68 => rfl
            case hy68 => (intro w hSw; (try dsimp only at hSw); go_simp; try exact rfl)
            simp only [Act.put, List.setIfInBounds_toArray, List.set_cons_zero, List.set_cons_succ]
            refine wpAnyH_take (i := 3) (oi := ?o69) (v := ?v69) ?hi69 (by kernel_rfl) (by kernel_rfl) (by kernel_rfl) ?hq69 (Or.inl ⟨?hw69, ?hy69⟩) (by assumption) ?r69
            case hi69 => (simp only [List.getElem?_toArray]; exact rfl)
            case hq69 => exact fun _ _ _ h => h
            case hw69 => rfl
            case hy69 => (intro w hSw; (try dsimp only at hSw); go_simp; try exact rfl)
            simp only [Act.put, List.setIfInBounds_toArray, List.set_cons_zero, List.set_cons_succ]
            refine wpAnyH_take (i := 4) (oi := ?o70) (v := ?v70) ?hi70 (by kernel_rfl) (by kernel_rfl) (by kernel_rfl) ?hq70 (Or.inl ⟨?hw70, ?hy70⟩) (by assumption) ?r70
            case hi70 => (simp only [List.getElem?_toArray]; exact rfl)
            case hq70 => exact fun _ _ _ h => h
            case hw70 => rfl
            case hy70 => (intro w hSw; (try dsimp only at hSw); go_simp; try exact rfl)
            simp only [Act.put, List.setIfInBounds_toArray, List.set_cons_zero, List.set_cons_succ]
            refine wpAnyH_take (i := 5) (oi := ?o71) (v := ?v71) ?hi71 (by kernel_rfl) (by kernel_rfl) (by kernel_rfl) ?hq71 (Or.inl ⟨?hw71, ?hy71⟩) (by assumption) ?r71
            case hi71 => (simp only [List.getElem?_toArray]; exact rfl)
            case hq71 => exact fun _ _ _ h => h
            case hw71 => rfl
            case hy71 => (intro w hSw; (try dsimp only at hSw); go_simp; try exact rfl)
            simp only [Act.put, List.setIfInBounds_toArray, List.set_cons_zero, List.set_cons_succ]
            refine wpAnyH_take (i := 6) (oi := ?o72) (v := ?v72) ?hi72 (by kernel_rfl) (by kernel_rfl) (by kernel_rfl) ?hq72 (Or.inl ⟨?hw72, ?hy72⟩) (by assumption) ?r72
            case hi72 => (simp only [List.getElem?_toArray]; exact rfl)
            case hq72 => exact fun _ _ _ h => h
            case hw72 => rfl
            case hy72 => (intro w hSw; (try dsimp only at hSw); go_simp; try exact rfl)
            simp only [Act.put, List.setIfInBounds_toArray, List.set_cons_zero, List.set_cons_succ]
            refine wpAnyH_take (i := 7) (oi := ?o73) (v := ?v73) ?hi73 (by kernel_rfl) (by kernel_rfl) (by kernel_rfl) ?hq73 (Or.inl ⟨?hw73, ?hy73⟩) (by assumption) ?r73
            case hi73 => (simp only [List.getElem?_toArray]; exact rfl)
            case hq73 => exact fun _ _ _ h => h
            case hw73 => rfl
            case hy73 => (intro w hSw; (try dsimp only at hSw); go_simp; try exact rfl)
            simp only [Act.put, List.setIfInBounds_toArray, List.set_cons_zero, List.set_cons_succ]
            refine wpAnyH_take (i := 8) (oi := ?o74) (v := ?v74) ?hi74 (by kernel_rfl) (by kernel_rfl) (by kernel_rfl) ?hq74 (Or.inl ⟨?hw74, ?hy74⟩) (by assumption) ?r74
            case hi74 => (simp only [List.getElem?_toArray]; exact rfl)
            case hq74 => exact fun _ _ _ h => h
            case hw74 => rfl
            case hy74 => (intro w hSw; (try dsimp only at hSw); go_simp; try exact rfl)
            simp only [Act.put, List.setIfInBounds_toArray, List.set_cons_zero, List.set_cons_succ]
            refine wpAnyH_take (i := 9) (oi := ?o75) (v := ?v75) ?hi75 (by kernel_rfl) (by kernel_rfl) (by kernel_rfl) ?hq75 (Or.inl ⟨?hw75, ?hy75⟩) (by assumption) ?r75
            case hi75 => (simp only [List.getElem?_toArray]; exact rfl)
            case hq75 => exact fun _ _ _ h => h
            case hw75 => rfl
            case hy75 => (intro w hSw; (try dsimp only at hSw); go_simp; try exact rfl)
            simp only [Act.put, List.setIfInBounds_toArray, List.set_cons_zero, List.set_cons_succ]
            refine wpAnyH_take (i := 10) (oi := ?o76) (v := ?v76) ?hi76 (by kernel_rfl) (by kernel_rfl) (by kernel_rfl) ?hq76 (Or.inl ⟨?hw76, ?hy76⟩) (by assumption) ?r76
            case hi76 => (simp only [List.getElem?_toArray]; exact rfl)
            case hq76 => exact fun _ _ _ h => h
            case hw76 => rfl
            case hy76 => (intro w hSw; (try dsimp only at hSw); go_simp; try exact rfl)
            simp only [Act.put, List.setIfInBounds_toArray, List.set_cons_zero, List.set_cons_succ]
            refine wpAnyH_take (i := 11) (oi := ?o77) (v := ?v77) ?hi77 (by kernel_rfl) (by kernel_rfl) (by kernel_rfl) ?hq77 (Or.inl ⟨?hw77, ?hy77⟩) (by assumption) ?r77
            case hi77 => (simp only [List.getElem?_toArray]; exact rfl)
            case hq77 => exact fun _ _ _ h => h
            case hw77 => rfl
            case hy77 => (intro w hSw; (try dsimp only at hSw); go_simp; try exact rfl)
            simp only [Act.put, List.setIfInBounds_toArray, List.set_cons_zero, List.set_cons_succ]
            refine wpAnyH_take (i := 12) (oi := ?o78) (v := ?v78) ?hi78 (by kernel_rfl) (by kernel_rfl) (by kernel_rfl) ?hq78 (Or.inl ⟨?hw78, ?hy78⟩) (by assumption) ?r78
            case hi78 => (simp only [List.getElem?_toArray]; exact rfl)
            case hq78 => exact fun _ _ _ h => h
            case hw78 => rfl
            case hy78 => (intro w hSw; (try dsimp only at hSw); go_simp; try exact rfl)
            simp only [Act.put, List.setIfInBounds_toArray, List.set_cons_zero, List.set_cons_succ]
            refine wpAnyH_take (i := 13) (oi := ?o79) (v := ?v79) ?hi79 (by kernel_rfl) (by kernel_rfl) (by kernel_rfl) ?hq79 (Or.inl ⟨?hw79, ?hy79⟩) (by assumption) ?r79
            case hi79 => (simp only [List.getElem?_toArray]; exact rfl)
            case hq79 => exact fun _ _ _ h => h
            case hw79 => rfl
            case hy79 => (intro w hSw; (try dsimp only at hSw); go_simp; try exact rfl)
            simp only [Act.put, List.setIfInBounds_toArray, List.set_cons_zero, List.set_cons_succ]
            refine wpAnyH_take (i := 14) (oi := ?o80) (v := ?v80) ?hi80 (by kernel_rfl) (by kernel_rfl) (by kernel_rfl) ?hq80 (Or.inl ⟨?hw80, ?hy80⟩) (by assumption) ?r80
            case hi80 => (simp only [List.getElem?_toArray]; exact rfl)
            case hq80 => exact fun _ _ _ h => h
            case hw80 => rfl
            case hy80 => (intro w hSw; (try dsimp only at hSw); go_simp; try exact rfl)
            simp only [Act.put, List.setIfInBounds_toArray, List.set_cons_zero, List.set_cons_succ]
            refine wpAnyH_take (i := 15) (oi := ?o81) (v := ?v81) ?hi81 (by kernel_rfl) (by kernel_rfl) (by kernel_rfl) ?hq81 (Or.inl ⟨?hw81, ?hy81⟩) (by assumption) ?r81
            case hi81 => (simp only [List.getElem?_toArray]; exact rfl)
            case hq81 => exact fun _ _ _ h => h
            case hw81 => rfl
            case hy81 => (intro w hSw; (try dsimp only at hSw); go_simp; try exact rfl)
            simp only [Act.put, List.setIfInBounds_toArray, List.set_cons_zero, List.set_cons_succ]
            refine wpAnyH_take (i := 16) (oi := ?o82) (v := ?v82) ?hi82 (by kernel_rfl) (by kernel_rfl) (by kernel_rfl) ?hq82 (Or.inl ⟨?hw82, ?hy82⟩) (by assumption) ?r82
            case hi82 => (simp only [List.getElem?_toArray]; exact rfl)
            case hq82 => exact fun _ _ _ h => h
            case hw82 => rfl
            case hy82 => (intro w hSw; (try dsimp only at hSw); go_simp; try exact rfl)
            simp only [Act.put, List.setIfInBounds_toArray, List.set_cons_zero, List.set_cons_succ]
            refine wpAnyH_take (i := 17) (oi := ?o83) (v := ?v83) ?hi83 (by kernel_rfl) (by kernel_rfl) (by kernel_rfl) ?hq83 (Or.inl ⟨?hw83, ?hy83⟩) (by assumption) ?r83
            case hi83 => (simp only [List.getElem?_toArray]; exact rfl)
            case hq83 => exact fun _ _ _ h => h
            case hw83 => rfl
            case hy83 => (intro w hSw; (try dsimp only at hSw); go_simp; try exact rfl)
            simp only [Act.put, List.setIfInBounds_toArray, List.set_cons_zero, List.set_cons_succ]
            refine wpAnyH_take (i := 18) (oi := ?o84) (v := ?v84) ?hi84 (by kernel_rfl) (by kernel_rfl) (by kernel_rfl) ?hq84 (Or.inl ⟨?hw84, ?hy84⟩) (by assumption) ?r84
            case hi84 => (simp only [List.getElem?_toArray]; exact rfl)
            case hq84 => exact fun _ _ _ h => h
            case hw84 => rfl
            case hy84 => (intro w hSw; (try dsimp only at hSw); go_simp; try exact rfl)
            simp only [Act.put, List.setIfInBounds_toArray, List.set_cons_zero, List.set_cons_succ]
            refine wpAnyH_take (i := 19) (oi := ?o85) (v := ?v85) ?hi85 (by kernel_rfl) (by kernel_rfl) (by kernel_rfl) ?hq85 (Or.inl ⟨?hw85, ?hy85⟩) (by assumption) ?r85
            case hi85 => (simp only [List.getElem?_toArray]; exact rfl)
            case hq85 => exact fun _ _ _ h => h
            case hw85 => rfl
            case hy85 => (intro w hSw; (try dsimp only at hSw); go_simp; try exact rfl)
            simp only [Act.put, List.setIfInBounds_toArray, List.set_cons_zero, List.set_cons_succ]
            refine wpAnyH_take (i := 20) (oi := ?o86) (v := ?v86) ?hi86 (by kernel_rfl) (by kernel_rfl) (by kernel_rfl) ?hq86 (Or.inl ⟨?hw86, ?hy86⟩) (by assumption) ?r86
            case hi86 => (simp only [List.getElem?_toArray]; exact rfl)
            case hq86 => exact fun _ _ _ h => h
            case hw86 => rfl
            case hy86 => (intro w hSw; (try dsimp only at hSw); go_simp; try exact rfl)
            simp only [Act.put, List.setIfInBounds_toArray, List.set_cons_zero, List.set_cons_succ]
            refine wpAnyH_take (i := 21) (oi := ?o87) (v := ?v87) ?hi87 (by kernel_rfl) (by kernel_rfl) (by kernel_rfl) ?hq87 (Or.inl ⟨?hw87, ?hy87⟩) (by assumption) ?r87
            case hi87 => (simp only [List.getElem?_toArray]; exact rfl)
            case hq87 => exact fun _ _ _ h => h
            case hw87 => rfl
            case hy87 => (intro w hSw; (try dsimp only at hSw); go_simp; try exact rfl)
            simp only [Act.put, List.setIfInBounds_toArray, List.set_cons_zero, List.set_cons_succ]
            refine wpAnyH_take (i := 22) (oi := ?o88) (v := ?v88) ?hi88 (by kernel_rfl) (by kernel_rfl) (by kernel_rfl) ?hq88 (Or.inl ⟨?hw88, ?hy88⟩) (by assumption) ?r88
            case hi88 => (simp only [List.getElem?_toArray]; exact rfl)
            case hq88 => exact fun _ _ _ h => h
            case hw88 => rfl
            case hy88 => (intro w hSw; (try dsimp only at hSw); go_simp; try exact rfl)
            simp only [Act.put, List.setIfInBounds_toArray, List.set_cons_zero, List.set_cons_succ]
            refine wpAnyH_take (i := 23) (oi := ?o89) (v := ?v89) ?hi89 (by kernel_rfl) (by kernel_rfl) (by kernel_rfl) ?hq89 (Or.inl ⟨?hw89, ?hy89⟩) (by assumption) ?r89
            case hi89 => (simp only [List.getElem?_toArray]; exact rfl)
            case hq89 => exact fun _ _ _ h => h
            case hw89 => rfl
            case hy89 => (intro w hSw; (try dsimp only at hSw); go_simp; try exact rfl)
            simp only [Act.put, List.setIfInBounds_toArray, List.set_cons_zero, List.set_cons_succ]
            refine wpAnyH_take (i := 24) (oi := ?o90) (v := ?v90) ?hi90 (by kernel_rfl) (by kernel_rfl) (by kernel_rfl) ?hq90 (Or.inl ⟨?hw90, ?hy90⟩) (by assumption) ?r90
            case hi90 => (simp only [List.getElem?_toArray]; exact rfl)
            case hq90 => exact fun _ _ _ h => h
            case hw90 => rfl
            case hy90 => (intro w hSw; (try dsimp only at hSw); go_simp; try exact rfl)
            simp only [Act.put, List.setIfInBounds_toArray, List.set_cons_zero, List.set_cons_succ]
            refine wpAnyH_take (i := 25) (oi := ?o91) (v := undef) ?hi91 (by kernel_rfl) (by kernel_rfl) (by kernel_rfl) ?hq91 (Or.inr ⟨?hw91, rfl⟩) (by assumption) ?r91
            case hi91 => (simp only [List.getElem?_toArray]; exact rfl)
            case hq91 => exact fun _ _ _ h => h
            case hw91 => rfl
            simp only [Act.put, List.setIfInBounds_toArray, List.set_cons_zero, List.set_cons_succ]
            refine wpAnyH_take (i := 26) (oi := ?o92) (v := undef) ?hi92 (by kernel_rfl) (by kernel_rfl) (by kernel_rfl) ?hq92 (Or.inr ⟨?hw92, rfl⟩) (by assumption) ?r92
            case hi92 => (simp only [List.getElem?_toArray]; exact rfl)
            case hq92 => exact fun _ _ _ h => h
            case hw92 => rfl
            simp only [Act.put, List.setIfInBounds_toArray, List.set_cons_zero, List.set_cons_succ]
            refine wpAnyH_take (i := 27) (oi := ?o93) (v := ?v93) ?hi93 (by kernel_rfl) (by kernel_rfl) (by kernel_rfl) ?hq93 (Or.inl ⟨?hw93, ?hy93⟩) (by assumption) ?r93
            case hi93 => (simp only [List.getElem?_toArray]; exact rfl)
            case hq93 => exact fun _ _ _ h => h
            case hw93 => rfl
            case hy93 => (intro w hSw; (try dsimp only at hSw); go_simp; try exact rfl)
            simp only [Act.put, List.setIfInBounds_toArray, List.set_cons_zero, List.set_cons_succ]
            refine wpAnyH_take (i := 28) (oi := ?o94) (v := ?v94) ?hi94 (by kernel_rfl) (by kernel_rfl) (by kernel_rfl) ?hq94 (Or.inl ⟨?hw94, ?hy94⟩) (by assumption) ?r94
            case hi94 => (simp only [List.getElem?_toArray]; exact rfl)
            case hq94 => exact fun _ _ _ h => h
            case hw94 => rfl
            case hy94 => (intro w hSw; (try dsimp only at hSw); go_simp; try exact rfl)
            simp only [Act.put, List.setIfInBounds_toArray, List.set_cons_zero, List.set_cons_succ]
            refine wpAnyH_take (i := 29) (oi := ?o95) (v := ?v95) ?hi95 (by kernel_rfl) (by kernel_rfl) (by kernel_rfl) ?hq95 (Or.inl ⟨?hw95, ?hy95⟩) (by assumption) ?r95
            case hi95 => (simp only [List.getElem?_toArray]; exact rfl)
            case hq95 => exact fun _ _ _ h => h
            case hw95 => rfl
            case hy95 => (intro w hSw; (try dsimp only at hSw); go_simp; try exact rfl)
            simp only [Act.put, List.setIfInBounds_toArray, List.set_cons_zero, List.set_cons_succ]
            refine wpAnyH_take (i := 30) (oi := ?o96) (v := ?v96) ?hi96 (by kernel_rfl) (by kernel_rfl) (by kernel_rfl) ?hq96 (Or.inl ⟨?hw96, ?hy96⟩) (by assumption) ?r96
            case hi96 => (simp only [List.getElem?_toArray]; exact rfl)
            case hq96 => exact fun _ _ _ h => h
            case hw96 => rfl
            case hy96 => (intro w hSw; (try dsimp only at hSw); go_simp; try exact rfl)
            simp only [Act.put, List.setIfInBounds_toArray, List.set_cons_zero, List.set_cons_succ]
            refine wpAnyH_take (i := 31) (oi := ?o97) (v := ?v97) ?hi97 (by kernel_rfl) (by kernel_rfl) (by kernel_rfl) ?hq97 (Or.inl ⟨?hw97, ?hy97⟩) (by assumption) ?r97
            case hi97 => (simp only [List.getElem?_toArray]; exact rfl)
            case hq97 => exact fun _ _ _ h => h
            case hw97 => rfl
            case hy97 => (intro w hSw; (try dsimp only at hSw); go_simp; try exact rfl)
            simp only [Act.put, List.setIfInBounds_toArray, List.set_cons_zero, List.set_cons_succ]
            refine wpAnyH_take (i := 32) (oi := ?o98) (v := ?v98) ?hi98 (by kernel_rfl) (by kernel_rfl) (by kernel_rfl) ?hq98 (Or.inl ⟨?hw98, ?hy98⟩) (by assumption) ?r98
            case hi98 => (simp only [List.getElem?_toArray]; exact rfl)
            case hq98 => exact fun _ _ _ h => h
            case hw98 => rfl
            case hy98 => (intro w hSw; (try dsimp only at hSw); go_simp; try exact rfl)
            simp only [Act.put, List.setIfInBounds_toArray, List.set_cons_zero, List.set_cons_succ]
            refine wpAnyH_take (i := 33) (oi := ?o99) (v := ?v99) ?hi99 (by kernel_rfl) (by kernel_rfl) (by kernel_rfl) ?hq99 (Or.inl ⟨?hw99, ?hy99⟩) (by assumption) ?r99
            case hi99 => (simp only [List.getElem?_toArray]; exact rfl)
            case hq99 => exact fun _ _ _ h => h
            case hw99 => rfl
            case hy99 => (intro w hSw; (try dsimp only at hSw); go_simp; try exact rfl)
            simp only [Act.put, List.setIfInBounds_toArray, List.set_cons_zero, List.set_cons_succ]
            refine wpAnyH_take (i := 34) (oi := ?o100) (v := ?v100) ?hi100 (by kernel_rfl) (by kernel_rfl) (by kernel_rfl) ?hq100 (Or.inl ⟨?hw100, ?hy100⟩) (by assumption) ?r100
            case hi100 => (simp only [List.getElem?_toArray]; exact rfl)
            case hq100 => exact fun _ _ _ h => h
            case hw100 => rfl
            case hy100 => (intro w hSw; (try dsimp only at hSw); go_simp; try exact rfl)
            simp only [Act.put, List.setIfInBounds_toArray, List.set_cons_zero, List.set_cons_succ]
            refine wpAnyH_take (i := 35) (oi := ?o101) (v := ?v101) ?hi101 (by kernel_rfl) (by kernel_rfl) (by kernel_rfl) ?hq101 (Or.inl ⟨?hw101, ?hy101⟩) (by assumption) ?r101
            case hi101 => (simp only [List.getElem?_toArray]; exact rfl)
            case hq101 => exact fun _ _ _ h => h
            case hw101 => rfl
            case hy101 => (intro w hSw; (try dsimp only at hSw); go_simp; try exact rfl)
            simp only [Act.put, List.setIfInBounds_toArray, List.set_cons_zero, List.set_cons_succ]
            refine wpAnyH_take (i := 36) (oi := ?o102) (v := ?v102) ?hi102 (by kernel_rfl) (by kernel_rfl) (by kernel_rfl) ?hq102 (Or.inl ⟨?hw102, ?hy102⟩) (by assumption) ?r102
            case hi102 => (simp only [List.getElem?_toArray]; exact rfl)
            case hq102 => exact fun _ _ _ h => h
            case hw102 => rfl
            case hy102 => (intro w hSw; (try dsimp only at hSw); go_simp; try exact rfl)
            simp only [Act.put, List.setIfInBounds_toArray, List.set_cons_zero, List.set_cons_succ]
            refine wpAnyH_take (i := 37) (oi := ?o103) (v := ?v103) ?hi103 (by kernel_rfl) (by kernel_rfl) (by kernel_rfl) ?hq103 (Or.inl ⟨?hw103, ?hy103⟩) (by assumption) ?r103
            case hi103 => (simp only [List.getElem?_toArray]; exact rfl)
            case hq103 => exact fun _ _ _ h => h
            case hw103 => rfl
            case hy103 => (intro w hSw; (try dsimp only at hSw); go_simp; try exact rfl)
            simp only [Act.put, List.setIfInBounds_toArray, List.set_cons_zero, List.set_cons_succ]
            refine wpAnyH_take (i := 38) (oi := ?o104) (v := ?v104) ?hi104 (by kernel_rfl) (by kernel_rfl) (by kernel_rfl) ?hq104 (Or.inl ⟨?hw104, ?hy104⟩) (by assumption) ?r104
            case hi104 => (simp only [List.getElem?_toArray]; exact rfl)
            case hq104 => exact fun _ _ _ h => h
            case hw104 => rfl
            case hy104 => (intro w hSw; (try dsimp only at hSw); go_simp; try exact rfl)
            simp only [Act.put, List.setIfInBounds_toArray, List.set_cons_zero, List.set_cons_succ]
            refine wpAnyH_take (i := 39) (oi := ?o105) (v := ?v105) ?hi105 (by kernel_rfl) (by kernel_rfl) (by kernel_rfl) ?hq105 (Or.inl ⟨?hw105, ?hy105⟩) (by assumption) ?r105
            case hi105 => (simp only [List.getElem?_toArray]; exact rfl)
            case hq105 => exact fun _ _ _ h => h
            case hw105 => rfl
            case hy105 => (intro w hSw; (try dsimp only at hSw); go_simp; try exact rfl)
            simp only [Act.put, List.setIfInBounds_toArray, List.set_cons_zero, List.set_cons_succ]
            refine wpAnyH_take (i := 40) (oi := ?o106) (v := ?v106) ?hi106 (by kernel_rfl) (by kernel_rfl) (by kernel_rfl) ?hq106 (Or.inl ⟨?hw106, ?hy106⟩) (by assumption) ?r106
            case hi106 => (simp only [List.getElem?_toArray]; exact rfl)
            case hq106 => exact fun _ _ _ h => h
            case hw106 => rfl
            case hy106 => (intro w hSw; (try dsimp only at hSw); go_simp; try exact rfl)
            simp only [Act.put, List.setIfInBounds_toArray, List.set_cons_zero, List.set_cons_succ]
            refine wpAnyH_take (i := 41) (oi := ?o107) (v := ?v107) ?hi107 (by kernel_rfl) (by kernel_rfl) (by kernel_rfl) ?hq107 (Or.inl ⟨?hw107, ?hy107⟩) (by assumption) ?r107
            case hi107 => (simp only [List.getElem?_toArray]; exact rfl)
            case hq107 => exact fun _ _ _ h => h
            case hw107 => rfl
            case hy107 => (intro w hSw; (try dsimp only at hSw); go_simp; try exact rfl)
            simp only [Act.put, List.setIfInBounds_toArray, List.set_cons_zero, List.set_cons_succ]
            refine wpAnyH_take (i := 42) (oi := ?o108) (v := ?v108) ?hi108 (by kernel_rfl) (by kernel_rfl) (by kernel_rfl) ?hq108 (Or.inl ⟨?hw108, ?hy108⟩) (by assumption) ?r108
            case hi108 => (simp only [List.getElem?_toArray]; exact rfl)
            case hq108 => exact fun _ _ _ h => h
            case hw108 => rfl
            case hy108 => (intro w hSw; (try dsimp only at hSw); go_simp; try exact rfl)
            simp only [Act.put, List.setIfInBounds_toArray, List.set_cons_zero, List.set_cons_succ]
            refine wpAnyH_take (i := 43) (oi := ?o109) (v := ?v109) ?hi109 (by kernel_rfl) (by kernel_rfl) (by kernel_rfl) ?hq109 (Or.inl ⟨?hw109, ?hy109⟩) (by assumption) ?r109
            case hi109 => (simp only [List.getElem?_toArray]; exact rfl)
            case hq109 => exact fun _ _ _ h => h
            case hw109 => rfl
            case hy109 => (intro w hSw; (try dsimp only at hSw); go_simp; try exact rfl)
            simp only [Act.put, List.setIfInBounds_toArray, List.set_cons_zero, List.set_cons_succ]
            refine wpAnyH_take (i := 44) (oi := ?o110) (v := ?v110) ?hi110 (by kernel_rfl) (by kernel_rfl) (by kernel_rfl) ?hq110 (Or.inl ⟨?hw110, ?hy110⟩) (by assumption) ?r110
            case hi110 => (simp only [List.getElem?_toArray]; exact rfl)
            case hq110 => exact fun _ _ _ h => h
            case hw110 => rfl
            case hy110 => (intro w hSw; (try dsimp only at hSw); go_simp; try exact rfl)
            simp only [Act.put, List.setIfInBounds_toArray, List.set_cons_zero, List.set_cons_succ]
            refine wpAnyH_take (i := 45) (oi := ?o111) (v := ?v111) ?hi111 (by kernel_rfl) (by kernel_rfl) (by kernel_rfl) ?hq111 (Or.inl ⟨?hw111, ?hy111⟩) (by assumption) ?r111
            case hi111 => (simp only [List.getElem?_toArray]; exact rfl)
            case hq111 => exact fun _ _ _ h => h
            case hw111 => rfl
            case hy111 => (intro w hSw; (try dsimp only at hSw); go_simp; try exact rfl)
            simp only [Act.put, List.setIfInBounds_toArray, List.set_cons_zero, List.set_cons_succ]
            refine wpAnyH_take (i := 46) (oi := ?o112) (v := ?v112) ?hi112 (by kernel_rfl) (by kernel_rfl) (by kernel_rfl) ?hq112 (Or.inl ⟨?hw112, ?hy112⟩) (by assumption) ?r112
            case hi112 => (simp only [List.getElem?_toArray]; exact rfl)
            case hq112 => exact fun _ _ _ h => h
            case hw112 => rfl
            case hy112 => (intro w hSw; (try dsimp only at hSw); go_simp; try exact rfl)
            simp only [Act.put, List.setIfInBounds_toArray, List.set_cons_zero, List.set_cons_succ]
            refine wpAnyH_take (i := 47) (oi := ?o113) (v := ?v113) ?hi113 (by kernel_rfl) (by kernel_rfl) (by kernel_rfl) ?hq113 (Or.inl ⟨?hw113, ?hy113⟩) (by assumption) ?r113
            case hi113 => (simp only [List.getElem?_toArray]; exact rfl)
            case hq113 => exact fun _ _ _ h => h
            case hw113 => rfl
            case hy113 => (intro w hSw; (try dsimp only at hSw); go_simp; try exact rfl)
            simp only [Act.put, List.setIfInBounds_toArray, List.set_cons_zero, List.set_cons_succ]
            refine wpAnyH_take (i := 48) (oi := ?o114) (v := undef) ?hi114 (by kernel_rfl) (by kernel_rfl) (by kernel_rfl) ?hq114 (Or.inr ⟨?hw114, rfl⟩) (by assumption) ?r114
            case hi114 => (simp only [List.getElem?_toArray]; exact rfl)
            case hq114 => exact fun _ _ _ h => h
            case hw114 => rfl
            simp only [Act.put, List.setIfInBounds_toArray, List.set_cons_zero, List.set_cons_succ]
            refine wpAnyH_take (i := 49) (oi := ?o115) (v := undef) ?hi115 (by kernel_rfl) (by kernel_rfl) (by kernel_rfl) ?hq115 (Or.inr ⟨?hw115, rfl⟩) (by assumption) ?r115
            case hi115 => (simp only [List.getElem?_toArray]; exact rfl)
            case hq115 => exact fun _ _ _ h => h
            case hw115 => rfl
            simp only [Act.put, List.setIfInBounds_toArray, List.set_cons_zero, List.set_cons_succ]
            refine wpAnyH_take (i := 50) (oi := ?o116) (v := undef) ?hi116 (by kernel_rfl) (by kernel_rfl) (by kernel_rfl) ?hq116 (Or.inr ⟨?hw116, rfl⟩) (by assumption) ?r116
            case hi116 => (simp only [List.getElem?_toArray]; exact rfl)
            case hq116 => exact fun _ _ _ h => h
            case hw116 => rfl
            simp only [Act.put, List.setIfInBounds_toArray, List.set_cons_zero, List.set_cons_succ]
            refine wpAnyH_take (i := 51) (oi := ?o117) (v := undef) ?hi117 (by kernel_rfl) (by kernel_rfl) (by kernel_rfl) ?hq117 (Or.inr ⟨?hw117, rfl⟩) (by assumption) ?r117
            case hi117 => (simp only [List.getElem?_toArray]; exact rfl)
            case hq117 => exact fun _ _ _ h => h
            case hw117 => rfl
            simp only [Act.put, List.setIfInBounds_toArray, List.set_cons_zero, List.set_cons_succ]
            refine wpAnyH_take (i := 52) (oi := ?o118) (v := undef) ?hi118 (by kernel_rfl) (by kernel_rfl) (by kernel_rfl) ?hq118 (Or.inr ⟨?hw118, rfl⟩) (by assumption) ?r118
            case hi118 => (simp only [List.getElem?_toArray]; exact rfl)
            case hq118 => exact fun _ _ _ h => h
            case hw118 => rfl
            simp only [Act.put, List.setIfInBounds_toArray, List.set_cons_zero, List.set_cons_succ]
            refine wpAnyH_take (i := 53) (oi := ?o119) (v := ?v119) ?hi119 (by kernel_rfl) (by kernel_rfl) (by kernel_rfl) ?hq119 (Or.inl ⟨?hw119, ?hy119⟩) (by assumption) ?r119
            case hi119 => (simp only [List.getElem?_toArray]; exact rfl)
            case hq119 => exact fun _ _ _ h => h
            case hw119 => rfl
            case hy119 => (intro w hSw; (try dsimp only at hSw); go_simp; try exact rfl)
            simp only [Act.put, List.setIfInBounds_toArray, List.set_cons_zero, List.set_cons_succ]
            refine wpAnyH_take (i := 54) (oi := ?o120) (v := ?v120) ?hi120 (by kernel_rfl) (by kernel_rfl) (by kernel_rfl) ?hq120 (Or.inl ⟨?hw120, ?hy120⟩) (by assumption) ?r120
            case hi120 => (simp only [List.getElem?_toArray]; exact rfl)
            case hq120 => exact fun _ _ _ h => h
            case hw120 => rfl
            case hy120 => (intro w hSw; (try dsimp only at hSw); go_simp; try exact rfl)
            simp only [Act.put, List.setIfInBounds_toArray, List.set_cons_zero, List.set_cons_succ]
            refine wpAnyH_take (i := 55) (oi := ?o121) (v := ?v121) ?hi121 (by kernel_rfl) (by kernel_rfl) (by kernel_rfl) ?hq121 (Or.inl ⟨?hw121, ?hy121⟩) (by assumption) ?r121
            case hi121 => (simp only [List.getElem?_toArray]; exact rfl)
            case hq121 => exact fun _ _ _ h => h
            case hw121 => rfl
            case hy121 => (intro w hSw; (try dsimp only at hSw); go_simp; try exact rfl)
            simp only [Act.put, List.setIfInBounds_toArray, List.set_cons_zero, List.set_cons_succ]
            refine wpAnyH_take (i := 56) (oi := ?o122) (v := ?v122) ?hi122 (by kernel_rfl) (by kernel_rfl) (by kernel_rfl) ?hq122 (Or.inl ⟨?hw122, ?hy122⟩) (by assumption) ?r122
            case hi122 => (simp only [List.getElem?_toArray]; exact rfl)
            case hq122 => exact fun _ _ _ h => h
            case hw122 => rfl
            case hy122 => (intro w hSw; (try dsimp only at hSw); go_simp; try exact rfl)
            simp only [Act.put, List.setIfInBounds_toArray, List.set_cons_zero, List.set_cons_succ]
            refine wpAnyH_take (i := 58) (oi := ?o123) (v := ?v123) ?hi123 (by kernel_rfl) (by kernel_rfl) (by kernel_rfl) ?hq123 (Or.inl ⟨?hw123, ?hy123⟩) (by assumption) ?r123
            case hi123 => (simp only [List.getElem?_toArray]; exact rfl)
            case hq123 => exact fun _ _ _ h => h
            case hw123 => rfl
            case hy123 => (intro w hSw; (try dsimp only at hSw); go_simp; try exact rfl)
            simp only [Act.put, List.setIfInBounds_toArray, List.set_cons_zero, List.set_cons_succ]
            refine wpAnyH_take (i := 59) (oi := ?o124) (v := ?v124) ?hi124 (by kernel_rfl) (by kernel_rfl) (by kernel_rfl) ?hq124 (Or.inl ⟨?hw124, ?hy124⟩) (by assumption) ?r124
            case hi124 => (simp only [List.getElem?_toArray]; exact rfl)
            case hq124 => exact fun _ _ _ h => h
            case hw124 => rfl
            case hy124 => (intro w hSw; (try dsimp only at hSw); go_simp; try exact rfl)
            simp only [Act.put, List.setIfInBounds_toArray, List.set_cons_zero, List.set_cons_succ]
            have OP := api.open_ Ca.out
            rw [show openB (bL H d) = 1 from rfl] at OP
            refine wpAnyH_ready (rs := [57]) (by kernel_rfl) (by simp) ?_
            refine AllReadyH.cons (o := ?o141) ?hi141 (fun K hK => ?_) AllReadyH.nil
            case hi141 => (simp only [List.getElem?_toArray]; exact rfl)
            go_simp
            go_at_call 19
            refine (OP).mono ?_
            rintro e w14 ⟨rfl, b3⟩
            clear OP
            replace B := step_below B b3
            replace Ca := api.below Ca b3
            replace NX := Kept.mk (NX.out.below b3 NX.out.lt)
            replace NY := Kept.mk (NY.out.below b3 NY.out.lt)
            refine hK.out _ _ ⟨NX.out.cell 5, NX.out.cell 7, NY.out.cell 5⟩ (fun hHeld => ?_)
            clear hK K
            try simp only [Act.put, List.setIfInBounds_toArray, List.set_cons_zero, List.set_cons_succ]
            have BI := fun w => b2i_any true w
            rw [show b2i true = 1 from rfl] at BI
            refine wpAnyH_ready (rs := [60]) (by kernel_rfl) (by simp) ?_
            refine AllReadyH.cons (o := ?o142) ?hi142 (fun K hK => ?_) AllReadyH.nil
            case hi142 => (simp only [List.getElem?_toArray]; exact rfl)
            go_simp
            go_at_call 20
            refine (BI _).mono ?_
            rintro e w15 ⟨rfl, rfl⟩
            refine hK.out _ _ ⟨NX.out.cell 5, NX.out.cell 7, NY.out.cell 5⟩ (fun hHeld => ?_)
            clear hK K
            try simp only [Act.put, List.setIfInBounds_toArray, List.set_cons_zero, List.set_cons_succ]
            refine wpAnyH_take (i := 61) (oi := ?o125) (v := ?v125) ?hi125 (by kernel_rfl) (by kernel_rfl) (by kernel_rfl) ?hq125 (Or.inl ⟨?hw125, ?hy125⟩) (by assumption) ?r125
            case hi125 => (simp only [List.getElem?_toArray]; exact rfl)
            case hq125 => exact fun _ _ _ h => h
            case hw125 => rfl
            case hy125 => (intro w hSw; (try dsimp only at hSw); go_simp; try exact rfl)
            simp only [Act.put, List.setIfInBounds_toArray, List.set_cons_zero, List.set_cons_succ]
            refine wpAnyH_take (i := 62) (oi := ?o126) (v := ?v126) ?hi126 (by kernel_rfl) (by kernel_rfl) (by kernel_rfl) ?hq126 (Or.inl ⟨?hw126, ?hy126⟩) (by assumption) ?r126
            case hi126 => (simp only [List.getElem?_toArray]; exact rfl)
            case hq126 => exact fun _ _ _ h => h
            case hw126 => rfl
            case hy126 => (intro w hSw; (try dsimp only at hSw); go_simp; try exact rfl)
            simp only [Act.put, List.setIfInBounds_toArray, List.set_cons_zero, List.set_cons_succ]
            refine wpAnyH_take (i := 63) (oi := ?o127) (v := ?v127) ?hi127 (by kernel_rfl) (by kernel_rfl) (by kernel_rfl) ?hq127 (Or.inl ⟨?hw127, ?hy127⟩) (by assumption) ?r127
            case hi127 => (simp only [List.getElem?_toArray]; exact rfl)
            case hq127 => exact fun _ _ _ h => h
            case hw127 => rfl
            case hy127 => (intro w hSw; (try dsimp only at hSw); go_simp; try exact rfl)
            simp only [Act.put, List.setIfInBounds_toArray, List.set_cons_zero, List.set_cons_succ]
            refine wpAnyH_take (i := 64) (oi := ?o128) (v := ?v128) ?hi128 (by kernel_rfl) (by kernel_rfl) (by kernel_rfl) ?hq128 (Or.inl ⟨?hw128, ?hy128⟩) (by assumption) ?r128
            case hi128 => (simp only [List.getElem?_toArray]; exact rfl)
            case hq128 => exact fun _ _ _ h => h
            case hw128 => rfl
            case hy128 => (intro w hSw; (try dsimp only at hSw); go_simp; try exact rfl)
            simp only [Act.put, List.setIfInBounds_toArray, List.set_cons_zero, List.set_cons_succ]
            refine wpAnyH_take (i := 65) (oi := ?o129) (v := ?v129) ?hi129 (by kernel_rfl) (by kernel_rfl) (by kernel_rfl) ?hq129 (Or.inl ⟨?hw129, ?hy129⟩) (by assumption) ?r129
            case hi129 => (simp only [List.getElem?_toArray]; exact rfl)
            case hq129 => exact fun _ _ _ h => h
            case hw129 => rfl
            case hy129 => (intro w hSw; (try dsimp only at hSw); go_simp; try exact rfl)
            simp only [Act.put, List.setIfInBounds_toArray, List.set_cons_zero, List.set_cons_succ]
            refine wpAnyH_take (i := 67) (oi := ?o130) (v := ?v130) ?hi130 (by kernel_rfl) (by kernel_rfl) (by kernel_rfl) ?hq130 (Or.inl ⟨?hw130, ?hy130⟩) (by assumption) ?r130
            case hi130 => (simp only [List.getElem?_toArray]; exact rfl)
            case hq130 => exact fun _ _ _ h => h
            case hw130 => rfl
            case hy130 => (intro w hSw; (try dsimp only at hSw); go_simp; try exact rfl)
            simp only [Act.put, List.setIfInBounds_toArray, List.set_cons_zero, List.set_cons_succ]
            refine wpAnyH_ready (rs := [66]) (by kernel_rfl) (by simp) ?_
            refine AllReadyH.cons (o := ?o143) ?hi143 (fun K hK => ?_) AllReadyH.nil
            case hi143 => (simp only [List.getElem?_toArray]; exact rfl)
            go_simp
            go_at_call 18
            refine (TS.out _).mono ?_
            rintro e w16 ⟨rfl, b3⟩
            replace B := step_below B b3
            replace Ca := api.below Ca b3
            replace NX := Kept.mk (NX.out.below b3 NX.out.lt)
            replace NY := Kept.mk (NY.out.below b3 NY.out.lt)
            refine hK.out _ _ ⟨NX.out.cell 5, NX.out.cell 7, NY.out.cell 5⟩ (fun hHeld => ?_)
            clear hK K
            try simp only [Act.put, List.setIfInBounds_toArray, List.set_cons_zero, List.set_cons_succ]
            have CL := api.claim 0 0 S t Ca.out BS.out (fun k hk => by
              obtain rfl : k = 0 := Nat.lt_one_iff.1 hk
              exact BH.out)
            rw [times_partyC (c := bL H d) (Nat.zero_lt_one) rfl] at CL
            refine wpAnyH_ready (rs := [68]) (by kernel_rfl) (by simp) ?_
            refine AllReadyH.cons (o := ?o144) ?hi144 (fun K hK => ?_) AllReadyH.nil
            case hi144 => (simp only [List.getElem?_toArray]; exact rfl)
            go_simp
            go_at_call 14
            refine CL.mono ?_
            rintro e w17 ⟨rfl, Fz, hc, fp⟩
            obtain ⟨B, L⟩ := step_fp B fp La
            replace NX := Kept.mk (NX.out.bar fp.1 (fun hm => Nat.lt_irrefl _ (XA.out _ hm)))
            replace NY := Kept.mk (NY.out.bar fp.1 (fun hm => Nat.lt_irrefl _ (YA.out _ hm)))
            refine hK.out _ _ ⟨NX.out.cell 5, NX.out.cell 7, NY.out.cell 5⟩ (fun hHeld => ?_)
            clear hK K hc fp CL
            refine wpAnyH_take (i := 69) (oi := ?o131) (v := ?v131) ?hi131 (by kernel_rfl) (by kernel_rfl) (by kernel_rfl) ?hq131 (Or.inl ⟨?hw131, ?hy131⟩) (by assumption) ?r131
            case hi131 => (simp only [List.getElem?_toArray]; exact rfl)
            case hq131 => exact fun _ _ _ h => h
            case hw131 => rfl
            case hy131 => (intro w hSw; (try dsimp only at hSw); go_simp; try exact rfl)
            simp only [Act.put, List.setIfInBounds_toArray, List.set_cons_zero, List.set_cons_succ]
            refine wpAnyH_take (i := 70) (oi := ?o132) (v := ?v132) ?hi132 (by kernel_rfl) (by kernel_rfl) (by kernel_rfl) ?hq132 (Or.inl ⟨?hw132, ?hy132⟩) (by assumption) ?r132
            case hi132 => (simp only [List.getElem?_toArray]; exact rfl)
            case hq132 => exact fun _ _ _ h => h
            case hw132 => rfl
            case hy132 => (intro w hSw; (try dsimp only at hSw); go_simp; try exact rfl)
            simp only [Act.put, List.setIfInBounds_toArray, List.set_cons_zero, List.set_cons_succ]
            refine wpAnyH_take (i := 71) (oi := ?o133) (v := ?v133) ?hi133 (by kernel_rfl) (by kernel_rfl) (by kernel_rfl) ?hq133 (Or.inl ⟨?hw133, ?hy133⟩) (by assumption) ?r133
            case hi133 => (simp only [List.getElem?_toArray]; exact rfl)
            case hq133 => exact fun _ _ _ h => h
            case hw133 => rfl
            case hy133 => (intro w hSw; (try dsimp only at hSw); go_simp; try exact rfl)
            simp only [Act.put, List.setIfInBounds_toArray, List.set_cons_zero, List.set_cons_succ]
            refine wpAnyH_done (by kernel_rfl) ?_ _
            refine NoPanic.normal ?_
            go_wp2
            go_ret
            exact ⟨rfl, B.out⟩
end
end Go.Proofs.Ytcebjpfmpagfjaa.Escrow
