/-
  The law WireBack, walked.
-/
import Derived.Test.YtfjkbggbaoiiiaaWireDone
import Derived.Test.YtfjkbggbaoiiiaaWireUse
import Derived.Test.YtfjkbggbaoiiiaaWireOps
namespace Go.Proofs.Ytfjkbggbaoiiiaa.Wire
open Go.RowKit Go.Proofs.Ytfjkbggbaoiiiaa.Sha

def BackPost (w : World) (e : Ending) (w' : World) : Prop := e = .returned (.bool true) ∧ Below w.heap.size w w'

set_option maxRecDepth 100000 in
set_option maxHeartbeats 2000000 in
theorem wback_walk (A : Option Addr) (n c : Nat) (X : Nat → OpV) (w : World) (hr : Ops w A n X) : Calls Try.prog 5 #[.slice A n c] w (BackPost w) := by
  have HR := Kept.mk hr
  have HB := Kept.mk hr.bytes
  clear hr
  go_enter Try.func5, Try.ntmps5
  go_wp2_with fail
  refine (wfirst_any w).mono ?_
  rintro x w1 ⟨rfl, b1⟩
  have B1 := Kept.mk b1
  clear b1
  go_wp2_with fail
  refine (newenc_any w1).mono ?_
  rintro x w2 ⟨rfl, en1, fp1⟩
  obtain ⟨E, hE⟩ : ∃ E, w1.heap.size = E := ⟨_, rfl⟩
  have hBE : w.heap.size ≤ E := by rw [← hE]; exact B1.out.size
  have B2 := Kept.mk (B1.out.trans (fp1.below (B := w.heap.size) (by simp) B1.out.size))
  rw [hE] at en1 ⊢
  have EN := Kept.mk en1
  clear B1 en1 fp1 hE
  go_wp2_with fail
  refine (ofew_any A n c X w2 (HR.out.below B2.out)).mono ?_
  rintro x w3 ⟨t, rfl, ht, rfl⟩
  cases t with
  | false =>
    go_wp2_with fail
    refine (wfirst_any w2).mono ?_
    rintro x w9 ⟨rfl, b9⟩
    have B9 := Kept.mk (B2.out.trans (b9.mono B2.out.size))
    clear b9
    go_wp2
    go_ret
    exact ⟨rfl, B9.out⟩
  | true =>
    have hn : n ≤ 200 := ht rfl
    clear ht
    go_wp2
    go_loopw [4] (fun i wr => ∃ (k : Nat) (F : List Nat), k ≤ n ∧ i = .int .i64 k ∧ Kept (En 57 wr F E (encAll X k)) ∧ Kept (∀ j ∈ F, w.heap.size ≤ j) ∧ Kept (Below w.heap.size w wr)) (fun i _ => n - (intOf i).toNat)
    case atStart => exact ⟨0, [E], by omega, rfl, EN, ⟨by simpa using hBE⟩, B2⟩
    case round =>
      clear EN B2
      obtain ⟨k, F, hk, rfl, EN, HF, BW⟩ := hrel
      have hlen := encAll_len X k
      by_cases hkn : k < n
      · have hkn' : (k : Int) < n := by omega
        obtain ⟨b, o, rfl, hc⟩ := (HR.out.below BW.out).resolve_left (by omega)
        have HX := Kept.mk (show encAll X (k + 1) = encOp (encAll X k) (X k) from rfl)
        obtain ⟨g0, g1, g2, a, l, c2, g3, g4, g5, g6⟩ := hc k hkn
        have hbB := HR.out.block (by omega)
        by_cases hkd : (X k).kind = 0
        · have HE := Kept.mk (show encOp (encAll X k) (X k) = encNum (encAll X k) (X k).n (X k).size by unfold encOp; rw [if_pos hkd])
          rw [hkd] at g0
          clear hc g3 g6
          generalize (X k).n = zn at *
          generalize (X k).size = zs at *
          go_wp2
          refine wp_region_still_tail 11 (by kernel_rfl) (by kernel_rfl) ?_
          simp only [List.take_succ_cons, List.take_zero, List.drop_succ_cons, List.drop_zero]
          repeat still_step
          refine wpStill_nil ?_
          change wpList _ _ _ _ _ wr.drew
          go_wp2_with fail
          refine (num_any wr.drew F E zn zs _ (show En 57 wr.drew F E (encAll X k) from EN.out) (by omega)).mono ?_
          rw [← HE.out, ← HX.out]
          rintro x w5 ⟨rfl, F5, en5, fp5⟩
          have EN5 := Kept.mk en5
          have HF5 := Kept.mk (fp5.least HF.out BW.out.drew.size)
          have B5 := Kept.mk (BW.out.drew.trans (fp5.below (B := w.heap.size) HF.out BW.out.drew.size))
          clear en5 fp5 EN BW
          go_wp2
          go_roundw
          case rel => exact ⟨k + 1, F5, by omega, by go_num, EN5, HF5, B5⟩
          case measure => simp [intOf]; omega
        · have HE := Kept.mk (show encOp (encAll X k) (X k) = encTxt (encAll X k) (X k).b by unfold encOp; rw [if_neg hkd])
          have G6 := Kept.mk g6
          have hO : Off a l F := HR.out.off hkn BW.out g3 HF.out
          clear hc g1 g2 g6
          generalize (X k).kind = zk at *
          generalize (X k).b = zb at *
          have hz : (zk == 0) = false := by simpa using hkd
          go_wp2_with fail
          refine (txt_any wr F E a l c2 zb _ EN.out G6.out hO (by omega)).mono ?_
          rw [← HE.out, ← HX.out]
          rintro x w5 ⟨rfl, F5, en5, fp5⟩
          have EN5 := Kept.mk en5
          have HF5 := Kept.mk (fp5.least HF.out BW.out.size)
          have B5 := Kept.mk (BW.out.trans (fp5.below (B := w.heap.size) HF.out BW.out.size))
          clear en5 fp5 EN BW
          go_wp2
          go_roundw
          case rel => exact ⟨k + 1, F5, by omega, by go_num, EN5, HF5, B5⟩
          case measure => simp [intOf]; omega
      · have hkn' : ¬ (k : Int) < n := by omega
        obtain rfl : k = n := by omega
        have hby := Kept.mk (encAll_bytes X k (fun j hj => HB.out j hj))
        go_wp2_with fail
        refine (done_any wr F E (encAll X k) EN.out hby.out (by omega)).mono ?_
        rintro x w6 ⟨v, rfl, own, b6⟩
        obtain ⟨A6, c6, rfl, -, -, r6⟩ := own_rd own hby.out
        have R6 := Kept.mk r6
        have B6 := Kept.mk (BW.out.trans (b6.mono BW.out.size))
        clear own r6 b6 BW EN
        by_cases h0 : (encAll X k).1 = 0
        · obtain ⟨hall, hok⟩ := encAll_ok X k h0
          have HOK := Kept.mk hok
          rw [hall] at R6 hby hlen ⊢
          clear h0 hok
          go_wp2_with fail
          refine (newdec_any A6 _ c6 (items X 0 k) w6 R6.out (by omega)).mono ?_
          rintro x w7 ⟨d, G, rfl, de, hd1, hd2, hd3, b7⟩
          have DE := Kept.mk de
          have B7 := Kept.mk (B6.out.trans (b7.mono B6.out.size))
          have hdB : w.heap.size ≤ d := Nat.le_trans B6.out.size hd1
          clear de b7 B6 R6 hd2 HF
          go_wp2
          go_loopw [8] (fun i wr => ∃ j : Nat, j ≤ k ∧ i = .int .i64 j ∧ Kept (De 62 wr d G (0, items X j (k - j))) ∧ Kept (Below w.heap.size w wr)) (fun i _ => k - (intOf i).toNat)
          case atStart => exact ⟨0, by omega, rfl, DE, B7⟩
          case round =>
            clear DE B7
            obtain ⟨j, hj, rfl, DE, BX⟩ := hrel
            by_cases hjk : j < k
            · have hjk' : (j : Int) < k := by omega
              have hn0 : ¬ k = 0 := by omega
              obtain ⟨b, o, rfl, hc⟩ := (HR.out.below BX.out).resolve_left hn0
              obtain ⟨g0, g1, g2, a, l, c2, g3, g4, g5, g6⟩ := hc j hjk
              have hbB := HR.out.block (by omega)
              have hbd : b ∉ [d] := by simp; omega
              have hil : (items X j (k - j)).length < 2147483648 := by
                have := items_len X j (k - j) (fun i hi => HOK.out i (by omega))
                omega
              by_cases hkd : (X j).kind = 0
              · have hdec := items_num X j k hjk hkd (HOK.out j hjk)
                rw [hkd] at g0
                generalize (X j).n = zn at *
                generalize (X j).size = zs at *
                have cn := Kept.mk fun w' (D : De 62 w' d G (0, items X j (k - j))) => dnum_is D hd3 hdec
                clear hc g6 hdec
                go_wp2_with fail
                have HELD0 : (fun w' : World => w'.cell? ⟨b, o + j * 4, none⟩ = some (.int .i64 0) ∧ w'.cell? ⟨b, o + j * 4 + 1, none⟩ = some (.int .i64 zn) ∧ w'.cell? ⟨b, o + j * 4 + 2, none⟩ = some (.int .i64 zs)) wr.drew := ⟨g0, g1, g2⟩
                refine wp_region_noPanic ?_
                refine wp_region_held_drew (S := fun w' : World => w'.cell? ⟨b, o + j * 4, none⟩ = some (.int .i64 0) ∧ w'.cell? ⟨b, o + j * 4 + 1, none⟩ = some (.int .i64 zn) ∧ w'.cell? ⟨b, o + j * 4 + 2, none⟩ = some (.int .i64 zs)) (by kernel_rfl) HELD0 (fun hHeld => ?_)
                refine wpAnyH_take (i := 0) (oi := ?o1) (v := ?v1) ?hi1 (by kernel_rfl) (by kernel_rfl) (by kernel_rfl) ?hq1 (Or.inl ⟨?hw1, ?hy1⟩) (by assumption) ?r1
                case hi1 => (simp only [List.getElem?_toArray, List.getElem?_cons_zero]; exact rfl)
                case hq1 => exact fun _ _ _ h => h
                case hw1 => rfl
                case hy1 => (intro w hSw; (try dsimp only at hSw); go_simp; try exact rfl)
                simp only [Act.put, List.setIfInBounds_toArray, List.set_cons_zero, List.set_cons_succ]
                refine wpAnyH_take (i := 1) (oi := ?o2) (v := ?v2) ?hi2 (by kernel_rfl) (by kernel_rfl) (by kernel_rfl) ?hq2 (Or.inl ⟨?hw2, ?hy2⟩) (by assumption) ?r2
                case hi2 => (simp only [List.getElem?_toArray, List.getElem?_cons_succ, List.getElem?_cons_zero]; exact rfl)
                case hq2 => exact fun _ _ _ h => h
                case hw2 => rfl
                case hy2 => (intro w hSw; (try dsimp only at hSw); go_simp; try exact rfl)
                simp only [Act.put, List.setIfInBounds_toArray, List.set_cons_zero, List.set_cons_succ]
                refine wpAnyH_take (i := 2) (oi := ?o3) (v := ?v3) ?hi3 (by kernel_rfl) (by kernel_rfl) (by kernel_rfl) ?hq3 (Or.inl ⟨?hw3, ?hy3⟩) (by assumption) ?r3
                case hi3 => (simp only [List.getElem?_toArray, List.getElem?_cons_succ, List.getElem?_cons_zero]; exact rfl)
                case hq3 => exact fun _ _ _ h => h
                case hw3 => rfl
                case hy3 => (intro w hSw; (try dsimp only at hSw); go_simp; try exact rfl)
                simp only [Act.put, List.setIfInBounds_toArray, List.set_cons_zero, List.set_cons_succ]
                refine wpAnyH_take (i := 3) (oi := ?o4) (v := ?v4) ?hi4 (by kernel_rfl) (by kernel_rfl) (by kernel_rfl) ?hq4 (Or.inl ⟨?hw4, ?hy4⟩) (by assumption) ?r4
                case hi4 => (simp only [List.getElem?_toArray, List.getElem?_cons_succ, List.getElem?_cons_zero]; exact rfl)
                case hq4 => exact fun _ _ _ h => h
                case hw4 => rfl
                case hy4 => (intro w hSw; (try dsimp only at hSw); go_simp; try exact rfl)
                simp only [Act.put, List.setIfInBounds_toArray, List.set_cons_zero, List.set_cons_succ]
                refine wpAnyH_take (i := 4) (oi := ?o5) (v := ?v5) ?hi5 (by kernel_rfl) (by kernel_rfl) (by kernel_rfl) ?hq5 (Or.inl ⟨?hw5, ?hy5⟩) (by assumption) ?r5
                case hi5 => (simp only [List.getElem?_toArray, List.getElem?_cons_succ, List.getElem?_cons_zero]; exact rfl)
                case hq5 => exact fun _ _ _ h => h
                case hw5 => rfl
                case hy5 => (intro w hSw; (try dsimp only at hSw); go_simp; try exact rfl)
                simp only [Act.put, List.setIfInBounds_toArray, List.set_cons_zero, List.set_cons_succ]
                refine wpAnyH_take (i := 5) (oi := ?o6) (v := ?v6) ?hi6 (by kernel_rfl) (by kernel_rfl) (by kernel_rfl) ?hq6 (Or.inl ⟨?hw6, ?hy6⟩) (by assumption) ?r6
                case hi6 => (simp only [List.getElem?_toArray, List.getElem?_cons_succ, List.getElem?_cons_zero]; exact rfl)
                case hq6 => exact fun _ _ _ h => h
                case hw6 => rfl
                case hy6 => (intro w hSw; (try dsimp only at hSw); go_simp; try exact rfl)
                simp only [Act.put, List.setIfInBounds_toArray, List.set_cons_zero, List.set_cons_succ]
                refine wpAnyH_take (i := 6) (oi := ?o7) (v := ?v7) ?hi7 (by kernel_rfl) (by kernel_rfl) (by kernel_rfl) ?hq7 (Or.inl ⟨?hw7, ?hy7⟩) (by assumption) ?r7
                case hi7 => (simp only [List.getElem?_toArray, List.getElem?_cons_succ, List.getElem?_cons_zero]; exact rfl)
                case hq7 => exact fun _ _ _ h => h
                case hw7 => rfl
                case hy7 => (intro w hSw; (try dsimp only at hSw); go_simp; try exact rfl)
                simp only [Act.put, List.setIfInBounds_toArray, List.set_cons_zero, List.set_cons_succ]
                refine wpAnyH_take (i := 7) (oi := ?o8) (v := ?v8) ?hi8 (by kernel_rfl) (by kernel_rfl) (by kernel_rfl) ?hq8 (Or.inl ⟨?hw8, ?hy8⟩) (by assumption) ?r8
                case hi8 => (simp only [List.getElem?_toArray, List.getElem?_cons_succ, List.getElem?_cons_zero]; exact rfl)
                case hq8 => exact fun _ _ _ h => h
                case hw8 => rfl
                case hy8 => (intro w hSw; (try dsimp only at hSw); go_simp; try exact rfl)
                simp only [Act.put, List.setIfInBounds_toArray, List.set_cons_zero, List.set_cons_succ]
                refine wpAnyH_take (i := 8) (oi := ?o9) (v := ?v9) ?hi9 (by kernel_rfl) (by kernel_rfl) (by kernel_rfl) ?hq9 (Or.inl ⟨?hw9, ?hy9⟩) (by assumption) ?r9
                case hi9 => (simp only [List.getElem?_toArray, List.getElem?_cons_succ, List.getElem?_cons_zero]; exact rfl)
                case hq9 => exact fun _ _ _ h => h
                case hw9 => rfl
                case hy9 => (intro w hSw; (try dsimp only at hSw); go_simp; try exact rfl)
                simp only [Act.put, List.setIfInBounds_toArray, List.set_cons_zero, List.set_cons_succ]
                refine wpAnyH_take (i := 9) (oi := ?o10) (v := ?v10) ?hi10 (by kernel_rfl) (by kernel_rfl) (by kernel_rfl) ?hq10 (Or.inl ⟨?hw10, ?hy10⟩) (by assumption) ?r10
                case hi10 => (simp only [List.getElem?_toArray, List.getElem?_cons_succ, List.getElem?_cons_zero]; exact rfl)
                case hq10 => exact fun _ _ _ h => h
                case hw10 => rfl
                case hy10 => (intro w hSw; (try dsimp only at hSw); go_simp; try exact rfl)
                simp only [Act.put, List.setIfInBounds_toArray, List.set_cons_zero, List.set_cons_succ]
                refine wpAnyH_take (i := 10) (oi := ?o11) (v := ?v11) ?hi11 (by kernel_rfl) (by kernel_rfl) (by kernel_rfl) ?hq11 (Or.inl ⟨?hw11, ?hy11⟩) (by assumption) ?r11
                case hi11 => (simp only [List.getElem?_toArray, List.getElem?_cons_succ, List.getElem?_cons_zero]; exact rfl)
                case hq11 => exact fun _ _ _ h => h
                case hw11 => rfl
                case hy11 => (intro w hSw; (try dsimp only at hSw); go_simp; try exact rfl)
                simp only [Act.put, List.setIfInBounds_toArray, List.set_cons_zero, List.set_cons_succ]
                refine wpAnyH_take (i := 11) (oi := ?o12) (v := ?v12) ?hi12 (by kernel_rfl) (by kernel_rfl) (by kernel_rfl) ?hq12 (Or.inl ⟨?hw12, ?hy12⟩) (by assumption) ?r12
                case hi12 => (simp only [List.getElem?_toArray, List.getElem?_cons_succ, List.getElem?_cons_zero]; exact rfl)
                case hq12 => exact fun _ _ _ h => h
                case hw12 => rfl
                case hy12 => (intro w hSw; (try dsimp only at hSw); go_simp; try exact rfl)
                simp only [Act.put, List.setIfInBounds_toArray, List.set_cons_zero, List.set_cons_succ]
                refine wpAnyH_take (i := 12) (oi := ?o13) (v := ?v13) ?hi13 (by kernel_rfl) (by kernel_rfl) (by kernel_rfl) ?hq13 (Or.inl ⟨?hw13, ?hy13⟩) (by assumption) ?r13
                case hi13 => (simp only [List.getElem?_toArray, List.getElem?_cons_succ, List.getElem?_cons_zero]; exact rfl)
                case hq13 => exact fun _ _ _ h => h
                case hw13 => rfl
                case hy13 => (intro w hSw; (try dsimp only at hSw); go_simp; try exact rfl)
                simp only [Act.put, List.setIfInBounds_toArray, List.set_cons_zero, List.set_cons_succ]
                refine wpAnyH_take (i := 14) (oi := ?o14) (v := ?v14) ?hi14 (by kernel_rfl) (by kernel_rfl) (by kernel_rfl) ?hq14 (Or.inl ⟨?hw14, ?hy14⟩) (by assumption) ?r14
                case hi14 => (simp only [List.getElem?_toArray, List.getElem?_cons_succ, List.getElem?_cons_zero]; exact rfl)
                case hq14 => exact fun _ _ _ h => h
                case hw14 => rfl
                case hy14 => (intro w hSw; (try dsimp only at hSw); go_simp; try exact rfl)
                simp only [Act.put, List.setIfInBounds_toArray, List.set_cons_zero, List.set_cons_succ]
                refine wpAnyH_take (i := 15) (oi := ?o15) (v := ?v15) ?hi15 (by kernel_rfl) (by kernel_rfl) (by kernel_rfl) ?hq15 (Or.inl ⟨?hw15, ?hy15⟩) (by assumption) ?r15
                case hi15 => (simp only [List.getElem?_toArray, List.getElem?_cons_succ, List.getElem?_cons_zero]; exact rfl)
                case hq15 => exact fun _ _ _ h => h
                case hw15 => rfl
                case hy15 => (intro w hSw; (try dsimp only at hSw); go_simp; try exact rfl)
                simp only [Act.put, List.setIfInBounds_toArray, List.set_cons_zero, List.set_cons_succ]
                refine wpAnyH_take (i := 16) (oi := ?o16) (v := ?v16) ?hi16 (by kernel_rfl) (by kernel_rfl) (by kernel_rfl) ?hq16 (Or.inl ⟨?hw16, ?hy16⟩) (by assumption) ?r16
                case hi16 => (simp only [List.getElem?_toArray, List.getElem?_cons_succ, List.getElem?_cons_zero]; exact rfl)
                case hq16 => exact fun _ _ _ h => h
                case hw16 => rfl
                case hy16 => (intro w hSw; (try dsimp only at hSw); go_simp; try exact rfl)
                simp only [Act.put, List.setIfInBounds_toArray, List.set_cons_zero, List.set_cons_succ]
                refine wpAnyH_take (i := 17) (oi := ?o17) (v := ?v17) ?hi17 (by kernel_rfl) (by kernel_rfl) (by kernel_rfl) ?hq17 (Or.inl ⟨?hw17, ?hy17⟩) (by assumption) ?r17
                case hi17 => (simp only [List.getElem?_toArray, List.getElem?_cons_succ, List.getElem?_cons_zero]; exact rfl)
                case hq17 => exact fun _ _ _ h => h
                case hw17 => rfl
                case hy17 => (intro w hSw; (try dsimp only at hSw); go_simp; try exact rfl)
                simp only [Act.put, List.setIfInBounds_toArray, List.set_cons_zero, List.set_cons_succ]
                refine wpAnyH_take (i := 18) (oi := ?o18) (v := ?v18) ?hi18 (by kernel_rfl) (by kernel_rfl) (by kernel_rfl) ?hq18 (Or.inl ⟨?hw18, ?hy18⟩) (by assumption) ?r18
                case hi18 => (simp only [List.getElem?_toArray, List.getElem?_cons_succ, List.getElem?_cons_zero]; exact rfl)
                case hq18 => exact fun _ _ _ h => h
                case hw18 => rfl
                case hy18 => (intro w hSw; (try dsimp only at hSw); go_simp; try exact rfl)
                simp only [Act.put, List.setIfInBounds_toArray, List.set_cons_zero, List.set_cons_succ]
                refine wpAnyH_ready (rs := [13]) (by kernel_rfl) (by simp) ?_
                refine AllReadyH.cons (o := ?o78) ?hi78 (fun K hK => ?_) AllReadyH.nil
                case hi78 => (simp only [List.getElem?_toArray, List.getElem?_cons_succ, List.getElem?_cons_zero]; exact rfl)
                go_simp
                go_at_call 20
                refine (cn.out wr.drew DE.out).mono ?_
                rintro x w8 ⟨rfl, de, bd⟩
                have b8 := BX.out.drew.trans (bd.below (B := w.heap.size) BX.out.drew.size (by simpa using hdB))
                refine hK.out _ _ ⟨cell_bar g0 bd.drewL hbd, cell_bar g1 bd.drewL hbd, cell_bar g2 bd.drewL hbd⟩ (fun hHeld2 => ?_)
                clear hK K hHeld HELD0
                try simp only [Act.put, List.setIfInBounds_toArray, List.set_cons_zero, List.set_cons_succ]
                refine wpAnyH_take (i := 19) (oi := ?o19) (v := ?v19) ?hi19 (by kernel_rfl) (by kernel_rfl) (by kernel_rfl) ?hq19 (Or.inl ⟨?hw19, ?hy19⟩) (by assumption) ?r19
                case hi19 => (simp only [List.getElem?_toArray, List.getElem?_cons_succ, List.getElem?_cons_zero]; exact rfl)
                case hq19 => exact fun _ _ _ h => h
                case hw19 => rfl
                case hy19 => (intro w hSw; (try dsimp only at hSw); go_simp; try exact rfl)
                simp only [Act.put, List.setIfInBounds_toArray, List.set_cons_zero, List.set_cons_succ]
                refine wpAnyH_take (i := 20) (oi := ?o20) (v := ?v20) ?hi20 (by kernel_rfl) (by kernel_rfl) (by kernel_rfl) ?hq20 (Or.inl ⟨?hw20, ?hy20⟩) (by assumption) ?r20
                case hi20 => (simp only [List.getElem?_toArray, List.getElem?_cons_succ, List.getElem?_cons_zero]; exact rfl)
                case hq20 => exact fun _ _ _ h => h
                case hw20 => rfl
                case hy20 => (intro w hSw; (try dsimp only at hSw); go_simp; try exact rfl)
                simp only [Act.put, List.setIfInBounds_toArray, List.set_cons_zero, List.set_cons_succ]
                refine wpAnyH_take (i := 21) (oi := ?o21) (v := ?v21) ?hi21 (by kernel_rfl) (by kernel_rfl) (by kernel_rfl) ?hq21 (Or.inl ⟨?hw21, ?hy21⟩) (by assumption) ?r21
                case hi21 => (simp only [List.getElem?_toArray, List.getElem?_cons_succ, List.getElem?_cons_zero]; exact rfl)
                case hq21 => exact fun _ _ _ h => h
                case hw21 => rfl
                case hy21 => (intro w hSw; (try dsimp only at hSw); go_simp; try exact rfl)
                simp only [Act.put, List.setIfInBounds_toArray, List.set_cons_zero, List.set_cons_succ]
                refine wpAnyH_take (i := 22) (oi := ?o22) (v := ?v22) ?hi22 (by kernel_rfl) (by kernel_rfl) (by kernel_rfl) ?hq22 (Or.inl ⟨?hw22, ?hy22⟩) (by assumption) ?r22
                case hi22 => (simp only [List.getElem?_toArray, List.getElem?_cons_succ, List.getElem?_cons_zero]; exact rfl)
                case hq22 => exact fun _ _ _ h => h
                case hw22 => rfl
                case hy22 => (intro w hSw; (try dsimp only at hSw); go_simp; try exact rfl)
                simp only [Act.put, List.setIfInBounds_toArray, List.set_cons_zero, List.set_cons_succ]
                refine wpAnyH_take (i := 23) (oi := ?o23) (v := ?v23) ?hi23 (by kernel_rfl) (by kernel_rfl) (by kernel_rfl) ?hq23 (Or.inl ⟨?hw23, ?hy23⟩) (by assumption) ?r23
                case hi23 => (simp only [List.getElem?_toArray, List.getElem?_cons_succ, List.getElem?_cons_zero]; exact rfl)
                case hq23 => exact fun _ _ _ h => h
                case hw23 => rfl
                case hy23 => (intro w hSw; (try dsimp only at hSw); go_simp; try exact rfl)
                simp only [Act.put, List.setIfInBounds_toArray, List.set_cons_zero, List.set_cons_succ]
                refine wpAnyH_take (i := 24) (oi := ?o24) (v := ?v24) ?hi24 (by kernel_rfl) (by kernel_rfl) (by kernel_rfl) ?hq24 (Or.inl ⟨?hw24, ?hy24⟩) (by assumption) ?r24
                case hi24 => (simp only [List.getElem?_toArray, List.getElem?_cons_succ, List.getElem?_cons_zero]; exact rfl)
                case hq24 => exact fun _ _ _ h => h
                case hw24 => rfl
                case hy24 => (intro w hSw; (try dsimp only at hSw); go_simp; try exact rfl)
                simp only [Act.put, List.setIfInBounds_toArray, List.set_cons_zero, List.set_cons_succ]
                refine wpAnyH_take (i := 25) (oi := ?o25) (v := ?v25) ?hi25 (by kernel_rfl) (by kernel_rfl) (by kernel_rfl) ?hq25 (Or.inl ⟨?hw25, ?hy25⟩) (by assumption) ?r25
                case hi25 => (simp only [List.getElem?_toArray, List.getElem?_cons_succ, List.getElem?_cons_zero]; exact rfl)
                case hq25 => exact fun _ _ _ h => h
                case hw25 => rfl
                case hy25 => (intro w hSw; (try dsimp only at hSw); go_simp; try exact rfl)
                simp only [Act.put, List.setIfInBounds_toArray, List.set_cons_zero, List.set_cons_succ]
                refine wpAnyH_take (i := 26) (oi := ?o26) (v := ?v26) ?hi26 (by kernel_rfl) (by kernel_rfl) (by kernel_rfl) ?hq26 (Or.inl ⟨?hw26, ?hy26⟩) (by assumption) ?r26
                case hi26 => (simp only [List.getElem?_toArray, List.getElem?_cons_succ, List.getElem?_cons_zero]; exact rfl)
                case hq26 => exact fun _ _ _ h => h
                case hw26 => rfl
                case hy26 => (intro w hSw; (try dsimp only at hSw); go_simp; try exact rfl)
                simp only [Act.put, List.setIfInBounds_toArray, List.set_cons_zero, List.set_cons_succ]
                refine wpAnyH_take (i := 27) (oi := ?o27) (v := ?v27) ?hi27 (by kernel_rfl) (by kernel_rfl) (by kernel_rfl) ?hq27 (Or.inl ⟨?hw27, ?hy27⟩) (by assumption) ?r27
                case hi27 => (simp only [List.getElem?_toArray, List.getElem?_cons_succ, List.getElem?_cons_zero]; exact rfl)
                case hq27 => exact fun _ _ _ h => h
                case hw27 => rfl
                case hy27 => (intro w hSw; (try dsimp only at hSw); go_simp; try exact rfl)
                simp only [Act.put, List.setIfInBounds_toArray, List.set_cons_zero, List.set_cons_succ]
                refine wpAnyH_take (i := 28) (oi := ?o28) (v := ?v28) ?hi28 (by kernel_rfl) (by kernel_rfl) (by kernel_rfl) ?hq28 (Or.inl ⟨?hw28, ?hy28⟩) (by assumption) ?r28
                case hi28 => (simp only [List.getElem?_toArray, List.getElem?_cons_succ, List.getElem?_cons_zero]; exact rfl)
                case hq28 => exact fun _ _ _ h => h
                case hw28 => rfl
                case hy28 => (intro w hSw; (try dsimp only at hSw); go_simp; try exact rfl)
                simp only [Act.put, List.setIfInBounds_toArray, List.set_cons_zero, List.set_cons_succ]
                refine wpAnyH_take (i := 29) (oi := ?o29) (v := undef) ?hi29 (by kernel_rfl) (by kernel_rfl) (by kernel_rfl) ?hq29 (Or.inr ⟨?hw29, rfl⟩) (by assumption) ?r29
                case hi29 => (simp only [List.getElem?_toArray, List.getElem?_cons_succ, List.getElem?_cons_zero]; exact rfl)
                case hq29 => exact fun _ _ _ h => h
                case hw29 => rfl
                simp only [Act.put, List.setIfInBounds_toArray, List.set_cons_zero, List.set_cons_succ]
                refine wpAnyH_take (i := 30) (oi := ?o30) (v := undef) ?hi30 (by kernel_rfl) (by kernel_rfl) (by kernel_rfl) ?hq30 (Or.inr ⟨?hw30, rfl⟩) (by assumption) ?r30
                case hi30 => (simp only [List.getElem?_toArray, List.getElem?_cons_succ, List.getElem?_cons_zero]; exact rfl)
                case hq30 => exact fun _ _ _ h => h
                case hw30 => rfl
                simp only [Act.put, List.setIfInBounds_toArray, List.set_cons_zero, List.set_cons_succ]
                refine wpAnyH_take (i := 31) (oi := ?o31) (v := undef) ?hi31 (by kernel_rfl) (by kernel_rfl) (by kernel_rfl) ?hq31 (Or.inr ⟨?hw31, rfl⟩) (by assumption) ?r31
                case hi31 => (simp only [List.getElem?_toArray, List.getElem?_cons_succ, List.getElem?_cons_zero]; exact rfl)
                case hq31 => exact fun _ _ _ h => h
                case hw31 => rfl
                simp only [Act.put, List.setIfInBounds_toArray, List.set_cons_zero, List.set_cons_succ]
                refine wpAnyH_take (i := 32) (oi := ?o32) (v := undef) ?hi32 (by kernel_rfl) (by kernel_rfl) (by kernel_rfl) ?hq32 (Or.inr ⟨?hw32, rfl⟩) (by assumption) ?r32
                case hi32 => (simp only [List.getElem?_toArray, List.getElem?_cons_succ, List.getElem?_cons_zero]; exact rfl)
                case hq32 => exact fun _ _ _ h => h
                case hw32 => rfl
                simp only [Act.put, List.setIfInBounds_toArray, List.set_cons_zero, List.set_cons_succ]
                refine wpAnyH_take (i := 33) (oi := ?o33) (v := undef) ?hi33 (by kernel_rfl) (by kernel_rfl) (by kernel_rfl) ?hq33 (Or.inr ⟨?hw33, rfl⟩) (by assumption) ?r33
                case hi33 => (simp only [List.getElem?_toArray, List.getElem?_cons_succ, List.getElem?_cons_zero]; exact rfl)
                case hq33 => exact fun _ _ _ h => h
                case hw33 => rfl
                simp only [Act.put, List.setIfInBounds_toArray, List.set_cons_zero, List.set_cons_succ]
                refine wpAnyH_take (i := 34) (oi := ?o34) (v := undef) ?hi34 (by kernel_rfl) (by kernel_rfl) (by kernel_rfl) ?hq34 (Or.inr ⟨?hw34, rfl⟩) (by assumption) ?r34
                case hi34 => (simp only [List.getElem?_toArray, List.getElem?_cons_succ, List.getElem?_cons_zero]; exact rfl)
                case hq34 => exact fun _ _ _ h => h
                case hw34 => rfl
                simp only [Act.put, List.setIfInBounds_toArray, List.set_cons_zero, List.set_cons_succ]
                refine wpAnyH_take (i := 35) (oi := ?o35) (v := undef) ?hi35 (by kernel_rfl) (by kernel_rfl) (by kernel_rfl) ?hq35 (Or.inr ⟨?hw35, rfl⟩) (by assumption) ?r35
                case hi35 => (simp only [List.getElem?_toArray, List.getElem?_cons_succ, List.getElem?_cons_zero]; exact rfl)
                case hq35 => exact fun _ _ _ h => h
                case hw35 => rfl
                simp only [Act.put, List.setIfInBounds_toArray, List.set_cons_zero, List.set_cons_succ]
                refine wpAnyH_take (i := 36) (oi := ?o36) (v := undef) ?hi36 (by kernel_rfl) (by kernel_rfl) (by kernel_rfl) ?hq36 (Or.inr ⟨?hw36, rfl⟩) (by assumption) ?r36
                case hi36 => (simp only [List.getElem?_toArray, List.getElem?_cons_succ, List.getElem?_cons_zero]; exact rfl)
                case hq36 => exact fun _ _ _ h => h
                case hw36 => rfl
                simp only [Act.put, List.setIfInBounds_toArray, List.set_cons_zero, List.set_cons_succ]
                refine wpAnyH_take (i := 37) (oi := ?o37) (v := undef) ?hi37 (by kernel_rfl) (by kernel_rfl) (by kernel_rfl) ?hq37 (Or.inr ⟨?hw37, rfl⟩) (by assumption) ?r37
                case hi37 => (simp only [List.getElem?_toArray, List.getElem?_cons_succ, List.getElem?_cons_zero]; exact rfl)
                case hq37 => exact fun _ _ _ h => h
                case hw37 => rfl
                simp only [Act.put, List.setIfInBounds_toArray, List.set_cons_zero, List.set_cons_succ]
                refine wpAnyH_take (i := 38) (oi := ?o38) (v := ?v38) ?hi38 (by kernel_rfl) (by kernel_rfl) (by kernel_rfl) ?hq38 (Or.inl ⟨?hw38, ?hy38⟩) (by assumption) ?r38
                case hi38 => (simp only [List.getElem?_toArray, List.getElem?_cons_succ, List.getElem?_cons_zero]; exact rfl)
                case hq38 => exact fun _ _ _ h => h
                case hw38 => rfl
                case hy38 => (intro w hSw; (try dsimp only at hSw); go_simp; try exact rfl)
                simp only [Act.put, List.setIfInBounds_toArray, List.set_cons_zero, List.set_cons_succ]
                refine wpAnyH_take (i := 39) (oi := ?o39) (v := ?v39) ?hi39 (by kernel_rfl) (by kernel_rfl) (by kernel_rfl) ?hq39 (Or.inl ⟨?hw39, ?hy39⟩) (by assumption) ?r39
                case hi39 => (simp only [List.getElem?_toArray, List.getElem?_cons_succ, List.getElem?_cons_zero]; exact rfl)
                case hq39 => exact fun _ _ _ h => h
                case hw39 => rfl
                case hy39 => (intro w hSw; (try dsimp only at hSw); go_simp; try exact rfl)
                simp only [Act.put, List.setIfInBounds_toArray, List.set_cons_zero, List.set_cons_succ]
                refine wpAnyH_done (by kernel_rfl) ?_ _
                refine NoPanic.normal ?_
                have D8 := Kept.mk de; have B8 := Kept.mk b8
                clear de bd b8 hHeld2
                go_wp2
                go_roundw
                case rel => exact ⟨j + 1, by omega, by go_num, D8, B8⟩
                case measure => simp [intOf]; omega
              · have hdec := items_txt X j k hjk hkd (HOK.out j hjk)
                have hby2 := HB.out j hjk
                have hO : Off a l [d] := HR.out.off hjk BX.out g3 (by simpa using hdB)
                generalize (X j).kind = zk at *
                generalize (X j).b = zb at *
                have ct := Kept.mk fun w' (D : De 62 w' d G (0, items X j (k - j))) => dtxt_is D hd3 hil hdec
                have G6 := Kept.mk g6
                have HO := Kept.mk hO
                have HY := Kept.mk hby2
                have hz : (zk == 0) = false := by simpa using hkd
                have hz2 : (zk != 0) = true := by simpa using hkd
                clear hc g1 g2 g6 hdec hO hby2
                go_wp2_with fail
                have HELD0 : (fun w' : World => w'.cell? ⟨b, o + j * 4, none⟩ = some (.int .i64 zk) ∧ w'.cell? ⟨b, o + j * 4 + 3, none⟩ = some (.slice a l c2)) wr.drew := ⟨g0, g3⟩
                refine wp_region_noPanic ?_
                refine wp_region_held_drew (S := fun w' : World => w'.cell? ⟨b, o + j * 4, none⟩ = some (.int .i64 zk) ∧ w'.cell? ⟨b, o + j * 4 + 3, none⟩ = some (.slice a l c2)) (by kernel_rfl) HELD0 (fun hHeld => ?_)
                refine wpAnyH_take (i := 0) (oi := ?o40) (v := ?v40) ?hi40 (by kernel_rfl) (by kernel_rfl) (by kernel_rfl) ?hq40 (Or.inl ⟨?hw40, ?hy40⟩) (by assumption) ?r40
                case hi40 => (simp only [List.getElem?_toArray, List.getElem?_cons_zero]; exact rfl)
                case hq40 => exact fun _ _ _ h => h
                case hw40 => rfl
                case hy40 => (intro w hSw; (try dsimp only at hSw); go_simp; try exact rfl)
                simp only [Act.put, List.setIfInBounds_toArray, List.set_cons_zero, List.set_cons_succ]
                refine wpAnyH_take (i := 1) (oi := ?o41) (v := ?v41) ?hi41 (by kernel_rfl) (by kernel_rfl) (by kernel_rfl) ?hq41 (Or.inl ⟨?hw41, ?hy41⟩) (by assumption) ?r41
                case hi41 => (simp only [List.getElem?_toArray, List.getElem?_cons_succ, List.getElem?_cons_zero]; exact rfl)
                case hq41 => exact fun _ _ _ h => h
                case hw41 => rfl
                case hy41 => (intro w hSw; (try dsimp only at hSw); go_simp; try exact rfl)
                simp only [Act.put, List.setIfInBounds_toArray, List.set_cons_zero, List.set_cons_succ]
                refine wpAnyH_take (i := 2) (oi := ?o42) (v := ?v42) ?hi42 (by kernel_rfl) (by kernel_rfl) (by kernel_rfl) ?hq42 (Or.inl ⟨?hw42, ?hy42⟩) (by assumption) ?r42
                case hi42 => (simp only [List.getElem?_toArray, List.getElem?_cons_succ, List.getElem?_cons_zero]; exact rfl)
                case hq42 => exact fun _ _ _ h => h
                case hw42 => rfl
                case hy42 => (intro w hSw; (try dsimp only at hSw); go_simp; try exact rfl)
                simp only [Act.put, List.setIfInBounds_toArray, List.set_cons_zero, List.set_cons_succ]
                refine wpAnyH_take (i := 3) (oi := ?o43) (v := ?v43) ?hi43 (by kernel_rfl) (by kernel_rfl) (by kernel_rfl) ?hq43 (Or.inl ⟨?hw43, ?hy43⟩) (by assumption) ?r43
                case hi43 => (simp only [List.getElem?_toArray, List.getElem?_cons_succ, List.getElem?_cons_zero]; exact rfl)
                case hq43 => exact fun _ _ _ h => h
                case hw43 => rfl
                case hy43 => (intro w hSw; (try dsimp only at hSw); go_simp; try exact rfl)
                simp only [Act.put, List.setIfInBounds_toArray, List.set_cons_zero, List.set_cons_succ]
                refine wpAnyH_take (i := 4) (oi := ?o44) (v := ?v44) ?hi44 (by kernel_rfl) (by kernel_rfl) (by kernel_rfl) ?hq44 (Or.inl ⟨?hw44, ?hy44⟩) (by assumption) ?r44
                case hi44 => (simp only [List.getElem?_toArray, List.getElem?_cons_succ, List.getElem?_cons_zero]; exact rfl)
                case hq44 => exact fun _ _ _ h => h
                case hw44 => rfl
                case hy44 => (intro w hSw; (try dsimp only at hSw); go_simp; try exact rfl)
                simp only [Act.put, List.setIfInBounds_toArray, List.set_cons_zero, List.set_cons_succ]
                refine wpAnyH_take (i := 5) (oi := ?o45) (v := ?v45) ?hi45 (by kernel_rfl) (by kernel_rfl) (by kernel_rfl) ?hq45 (Or.inl ⟨?hw45, ?hy45⟩) (by assumption) ?r45
                case hi45 => (simp only [List.getElem?_toArray, List.getElem?_cons_succ, List.getElem?_cons_zero]; exact rfl)
                case hq45 => exact fun _ _ _ h => h
                case hw45 => rfl
                case hy45 => (intro w hSw; (try dsimp only at hSw); go_simp; try exact rfl)
                simp only [Act.put, List.setIfInBounds_toArray, List.set_cons_zero, List.set_cons_succ]
                refine wpAnyH_take (i := 6) (oi := ?o46) (v := ?v46) ?hi46 (by kernel_rfl) (by kernel_rfl) (by kernel_rfl) ?hq46 (Or.inl ⟨?hw46, ?hy46⟩) (by assumption) ?r46
                case hi46 => (simp only [List.getElem?_toArray, List.getElem?_cons_succ, List.getElem?_cons_zero]; exact rfl)
                case hq46 => exact fun _ _ _ h => h
                case hw46 => rfl
                case hy46 => (intro w hSw; (try dsimp only at hSw); go_simp; try exact rfl)
                simp only [Act.put, List.setIfInBounds_toArray, List.set_cons_zero, List.set_cons_succ]
                refine wpAnyH_take (i := 7) (oi := ?o47) (v := undef) ?hi47 (by kernel_rfl) (by kernel_rfl) (by kernel_rfl) ?hq47 (Or.inr ⟨?hw47, rfl⟩) (by assumption) ?r47
                case hi47 => (simp only [List.getElem?_toArray, List.getElem?_cons_succ, List.getElem?_cons_zero]; exact rfl)
                case hq47 => exact fun _ _ _ h => h
                case hw47 => rfl
                simp only [Act.put, List.setIfInBounds_toArray, List.set_cons_zero, List.set_cons_succ]
                refine wpAnyH_take (i := 8) (oi := ?o48) (v := undef) ?hi48 (by kernel_rfl) (by kernel_rfl) (by kernel_rfl) ?hq48 (Or.inr ⟨?hw48, rfl⟩) (by assumption) ?r48
                case hi48 => (simp only [List.getElem?_toArray, List.getElem?_cons_succ, List.getElem?_cons_zero]; exact rfl)
                case hq48 => exact fun _ _ _ h => h
                case hw48 => rfl
                simp only [Act.put, List.setIfInBounds_toArray, List.set_cons_zero, List.set_cons_succ]
                refine wpAnyH_take (i := 9) (oi := ?o49) (v := undef) ?hi49 (by kernel_rfl) (by kernel_rfl) (by kernel_rfl) ?hq49 (Or.inr ⟨?hw49, rfl⟩) (by assumption) ?r49
                case hi49 => (simp only [List.getElem?_toArray, List.getElem?_cons_succ, List.getElem?_cons_zero]; exact rfl)
                case hq49 => exact fun _ _ _ h => h
                case hw49 => rfl
                simp only [Act.put, List.setIfInBounds_toArray, List.set_cons_zero, List.set_cons_succ]
                refine wpAnyH_take (i := 10) (oi := ?o50) (v := undef) ?hi50 (by kernel_rfl) (by kernel_rfl) (by kernel_rfl) ?hq50 (Or.inr ⟨?hw50, rfl⟩) (by assumption) ?r50
                case hi50 => (simp only [List.getElem?_toArray, List.getElem?_cons_succ, List.getElem?_cons_zero]; exact rfl)
                case hq50 => exact fun _ _ _ h => h
                case hw50 => rfl
                simp only [Act.put, List.setIfInBounds_toArray, List.set_cons_zero, List.set_cons_succ]
                refine wpAnyH_take (i := 11) (oi := ?o51) (v := undef) ?hi51 (by kernel_rfl) (by kernel_rfl) (by kernel_rfl) ?hq51 (Or.inr ⟨?hw51, rfl⟩) (by assumption) ?r51
                case hi51 => (simp only [List.getElem?_toArray, List.getElem?_cons_succ, List.getElem?_cons_zero]; exact rfl)
                case hq51 => exact fun _ _ _ h => h
                case hw51 => rfl
                simp only [Act.put, List.setIfInBounds_toArray, List.set_cons_zero, List.set_cons_succ]
                refine wpAnyH_take (i := 12) (oi := ?o52) (v := undef) ?hi52 (by kernel_rfl) (by kernel_rfl) (by kernel_rfl) ?hq52 (Or.inr ⟨?hw52, rfl⟩) (by assumption) ?r52
                case hi52 => (simp only [List.getElem?_toArray, List.getElem?_cons_succ, List.getElem?_cons_zero]; exact rfl)
                case hq52 => exact fun _ _ _ h => h
                case hw52 => rfl
                simp only [Act.put, List.setIfInBounds_toArray, List.set_cons_zero, List.set_cons_succ]
                refine wpAnyH_take (i := 13) (oi := ?o53) (v := undef) ?hi53 (by kernel_rfl) (by kernel_rfl) (by kernel_rfl) ?hq53 (Or.inr ⟨?hw53, rfl⟩) (by assumption) ?r53
                case hi53 => (simp only [List.getElem?_toArray, List.getElem?_cons_succ, List.getElem?_cons_zero]; exact rfl)
                case hq53 => exact fun _ _ _ h => h
                case hw53 => rfl
                simp only [Act.put, List.setIfInBounds_toArray, List.set_cons_zero, List.set_cons_succ]
                refine wpAnyH_take (i := 14) (oi := ?o54) (v := undef) ?hi54 (by kernel_rfl) (by kernel_rfl) (by kernel_rfl) ?hq54 (Or.inr ⟨?hw54, rfl⟩) (by assumption) ?r54
                case hi54 => (simp only [List.getElem?_toArray, List.getElem?_cons_succ, List.getElem?_cons_zero]; exact rfl)
                case hq54 => exact fun _ _ _ h => h
                case hw54 => rfl
                simp only [Act.put, List.setIfInBounds_toArray, List.set_cons_zero, List.set_cons_succ]
                refine wpAnyH_take (i := 15) (oi := ?o55) (v := undef) ?hi55 (by kernel_rfl) (by kernel_rfl) (by kernel_rfl) ?hq55 (Or.inr ⟨?hw55, rfl⟩) (by assumption) ?r55
                case hi55 => (simp only [List.getElem?_toArray, List.getElem?_cons_succ, List.getElem?_cons_zero]; exact rfl)
                case hq55 => exact fun _ _ _ h => h
                case hw55 => rfl
                simp only [Act.put, List.setIfInBounds_toArray, List.set_cons_zero, List.set_cons_succ]
                refine wpAnyH_take (i := 16) (oi := ?o56) (v := undef) ?hi56 (by kernel_rfl) (by kernel_rfl) (by kernel_rfl) ?hq56 (Or.inr ⟨?hw56, rfl⟩) (by assumption) ?r56
                case hi56 => (simp only [List.getElem?_toArray, List.getElem?_cons_succ, List.getElem?_cons_zero]; exact rfl)
                case hq56 => exact fun _ _ _ h => h
                case hw56 => rfl
                simp only [Act.put, List.setIfInBounds_toArray, List.set_cons_zero, List.set_cons_succ]
                refine wpAnyH_take (i := 17) (oi := ?o57) (v := undef) ?hi57 (by kernel_rfl) (by kernel_rfl) (by kernel_rfl) ?hq57 (Or.inr ⟨?hw57, rfl⟩) (by assumption) ?r57
                case hi57 => (simp only [List.getElem?_toArray, List.getElem?_cons_succ, List.getElem?_cons_zero]; exact rfl)
                case hq57 => exact fun _ _ _ h => h
                case hw57 => rfl
                simp only [Act.put, List.setIfInBounds_toArray, List.set_cons_zero, List.set_cons_succ]
                refine wpAnyH_take (i := 18) (oi := ?o58) (v := undef) ?hi58 (by kernel_rfl) (by kernel_rfl) (by kernel_rfl) ?hq58 (Or.inr ⟨?hw58, rfl⟩) (by assumption) ?r58
                case hi58 => (simp only [List.getElem?_toArray, List.getElem?_cons_succ, List.getElem?_cons_zero]; exact rfl)
                case hq58 => exact fun _ _ _ h => h
                case hw58 => rfl
                simp only [Act.put, List.setIfInBounds_toArray, List.set_cons_zero, List.set_cons_succ]
                refine wpAnyH_take (i := 19) (oi := ?o59) (v := undef) ?hi59 (by kernel_rfl) (by kernel_rfl) (by kernel_rfl) ?hq59 (Or.inr ⟨?hw59, rfl⟩) (by assumption) ?r59
                case hi59 => (simp only [List.getElem?_toArray, List.getElem?_cons_succ, List.getElem?_cons_zero]; exact rfl)
                case hq59 => exact fun _ _ _ h => h
                case hw59 => rfl
                simp only [Act.put, List.setIfInBounds_toArray, List.set_cons_zero, List.set_cons_succ]
                refine wpAnyH_take (i := 20) (oi := ?o60) (v := ?v60) ?hi60 (by kernel_rfl) (by kernel_rfl) (by kernel_rfl) ?hq60 (Or.inl ⟨?hw60, ?hy60⟩) (by assumption) ?r60
                case hi60 => (simp only [List.getElem?_toArray, List.getElem?_cons_succ, List.getElem?_cons_zero]; exact rfl)
                case hq60 => exact fun _ _ _ h => h
                case hw60 => rfl
                case hy60 => (intro w hSw; (try dsimp only at hSw); go_simp; try exact rfl)
                simp only [Act.put, List.setIfInBounds_toArray, List.set_cons_zero, List.set_cons_succ]
                refine wpAnyH_take (i := 21) (oi := ?o61) (v := ?v61) ?hi61 (by kernel_rfl) (by kernel_rfl) (by kernel_rfl) ?hq61 (Or.inl ⟨?hw61, ?hy61⟩) (by assumption) ?r61
                case hi61 => (simp only [List.getElem?_toArray, List.getElem?_cons_succ, List.getElem?_cons_zero]; exact rfl)
                case hq61 => exact fun _ _ _ h => h
                case hw61 => rfl
                case hy61 => (intro w hSw; (try dsimp only at hSw); go_simp; try exact rfl)
                simp only [Act.put, List.setIfInBounds_toArray, List.set_cons_zero, List.set_cons_succ]
                refine wpAnyH_take (i := 22) (oi := ?o62) (v := ?v62) ?hi62 (by kernel_rfl) (by kernel_rfl) (by kernel_rfl) ?hq62 (Or.inl ⟨?hw62, ?hy62⟩) (by assumption) ?r62
                case hi62 => (simp only [List.getElem?_toArray, List.getElem?_cons_succ, List.getElem?_cons_zero]; exact rfl)
                case hq62 => exact fun _ _ _ h => h
                case hw62 => rfl
                case hy62 => (intro w hSw; (try dsimp only at hSw); go_simp; try exact rfl)
                simp only [Act.put, List.setIfInBounds_toArray, List.set_cons_zero, List.set_cons_succ]
                refine wpAnyH_take (i := 23) (oi := ?o63) (v := ?v63) ?hi63 (by kernel_rfl) (by kernel_rfl) (by kernel_rfl) ?hq63 (Or.inl ⟨?hw63, ?hy63⟩) (by assumption) ?r63
                case hi63 => (simp only [List.getElem?_toArray, List.getElem?_cons_succ, List.getElem?_cons_zero]; exact rfl)
                case hq63 => exact fun _ _ _ h => h
                case hw63 => rfl
                case hy63 => (intro w hSw; (try dsimp only at hSw); go_simp; try exact rfl)
                simp only [Act.put, List.setIfInBounds_toArray, List.set_cons_zero, List.set_cons_succ]
                refine wpAnyH_take (i := 24) (oi := ?o64) (v := ?v64) ?hi64 (by kernel_rfl) (by kernel_rfl) (by kernel_rfl) ?hq64 (Or.inl ⟨?hw64, ?hy64⟩) (by assumption) ?r64
                case hi64 => (simp only [List.getElem?_toArray, List.getElem?_cons_succ, List.getElem?_cons_zero]; exact rfl)
                case hq64 => exact fun _ _ _ h => h
                case hw64 => rfl
                case hy64 => (intro w hSw; (try dsimp only at hSw); go_simp; try exact rfl)
                simp only [Act.put, List.setIfInBounds_toArray, List.set_cons_zero, List.set_cons_succ]
                refine wpAnyH_take (i := 25) (oi := ?o65) (v := ?v65) ?hi65 (by kernel_rfl) (by kernel_rfl) (by kernel_rfl) ?hq65 (Or.inl ⟨?hw65, ?hy65⟩) (by assumption) ?r65
                case hi65 => (simp only [List.getElem?_toArray, List.getElem?_cons_succ, List.getElem?_cons_zero]; exact rfl)
                case hq65 => exact fun _ _ _ h => h
                case hw65 => rfl
                case hy65 => (intro w hSw; (try dsimp only at hSw); go_simp; try exact rfl)
                simp only [Act.put, List.setIfInBounds_toArray, List.set_cons_zero, List.set_cons_succ]
                refine wpAnyH_take (i := 26) (oi := ?o66) (v := ?v66) ?hi66 (by kernel_rfl) (by kernel_rfl) (by kernel_rfl) ?hq66 (Or.inl ⟨?hw66, ?hy66⟩) (by assumption) ?r66
                case hi66 => (simp only [List.getElem?_toArray, List.getElem?_cons_succ, List.getElem?_cons_zero]; exact rfl)
                case hq66 => exact fun _ _ _ h => h
                case hw66 => rfl
                case hy66 => (intro w hSw; (try dsimp only at hSw); go_simp; try exact rfl)
                simp only [Act.put, List.setIfInBounds_toArray, List.set_cons_zero, List.set_cons_succ]
                refine wpAnyH_take (i := 27) (oi := ?o67) (v := ?v67) ?hi67 (by kernel_rfl) (by kernel_rfl) (by kernel_rfl) ?hq67 (Or.inl ⟨?hw67, ?hy67⟩) (by assumption) ?r67
                case hi67 => (simp only [List.getElem?_toArray, List.getElem?_cons_succ, List.getElem?_cons_zero]; exact rfl)
                case hq67 => exact fun _ _ _ h => h
                case hw67 => rfl
                case hy67 => (intro w hSw; (try dsimp only at hSw); go_simp; try exact rfl)
                simp only [Act.put, List.setIfInBounds_toArray, List.set_cons_zero, List.set_cons_succ]
                refine wpAnyH_take (i := 28) (oi := ?o68) (v := ?v68) ?hi68 (by kernel_rfl) (by kernel_rfl) (by kernel_rfl) ?hq68 (Or.inl ⟨?hw68, ?hy68⟩) (by assumption) ?r68
                case hi68 => (simp only [List.getElem?_toArray, List.getElem?_cons_succ, List.getElem?_cons_zero]; exact rfl)
                case hq68 => exact fun _ _ _ h => h
                case hw68 => rfl
                case hy68 => (intro w hSw; (try dsimp only at hSw); go_simp; try exact rfl)
                simp only [Act.put, List.setIfInBounds_toArray, List.set_cons_zero, List.set_cons_succ]
                refine wpAnyH_take (i := 29) (oi := ?o69) (v := ?v69) ?hi69 (by kernel_rfl) (by kernel_rfl) (by kernel_rfl) ?hq69 (Or.inl ⟨?hw69, ?hy69⟩) (by assumption) ?r69
                case hi69 => (simp only [List.getElem?_toArray, List.getElem?_cons_succ, List.getElem?_cons_zero]; exact rfl)
                case hq69 => exact fun _ _ _ h => h
                case hw69 => rfl
                case hy69 => (intro w hSw; (try dsimp only at hSw); go_simp; try exact rfl)
                simp only [Act.put, List.setIfInBounds_toArray, List.set_cons_zero, List.set_cons_succ]
                refine wpAnyH_take (i := 31) (oi := ?o70) (v := ?v70) ?hi70 (by kernel_rfl) (by kernel_rfl) (by kernel_rfl) ?hq70 (Or.inl ⟨?hw70, ?hy70⟩) (by assumption) ?r70
                case hi70 => (simp only [List.getElem?_toArray, List.getElem?_cons_succ, List.getElem?_cons_zero]; exact rfl)
                case hq70 => exact fun _ _ _ h => h
                case hw70 => rfl
                case hy70 => (intro w hSw; (try dsimp only at hSw); go_simp; try exact rfl)
                simp only [Act.put, List.setIfInBounds_toArray, List.set_cons_zero, List.set_cons_succ]
                refine wpAnyH_take (i := 32) (oi := ?o71) (v := ?v71) ?hi71 (by kernel_rfl) (by kernel_rfl) (by kernel_rfl) ?hq71 (Or.inl ⟨?hw71, ?hy71⟩) (by assumption) ?r71
                case hi71 => (simp only [List.getElem?_toArray, List.getElem?_cons_succ, List.getElem?_cons_zero]; exact rfl)
                case hq71 => exact fun _ _ _ h => h
                case hw71 => rfl
                case hy71 => (intro w hSw; (try dsimp only at hSw); go_simp; try exact rfl)
                simp only [Act.put, List.setIfInBounds_toArray, List.set_cons_zero, List.set_cons_succ]
                refine wpAnyH_take (i := 33) (oi := ?o72) (v := ?v72) ?hi72 (by kernel_rfl) (by kernel_rfl) (by kernel_rfl) ?hq72 (Or.inl ⟨?hw72, ?hy72⟩) (by assumption) ?r72
                case hi72 => (simp only [List.getElem?_toArray, List.getElem?_cons_succ, List.getElem?_cons_zero]; exact rfl)
                case hq72 => exact fun _ _ _ h => h
                case hw72 => rfl
                case hy72 => (intro w hSw; (try dsimp only at hSw); go_simp; try exact rfl)
                simp only [Act.put, List.setIfInBounds_toArray, List.set_cons_zero, List.set_cons_succ]
                refine wpAnyH_take (i := 34) (oi := ?o73) (v := ?v73) ?hi73 (by kernel_rfl) (by kernel_rfl) (by kernel_rfl) ?hq73 (Or.inl ⟨?hw73, ?hy73⟩) (by assumption) ?r73
                case hi73 => (simp only [List.getElem?_toArray, List.getElem?_cons_succ, List.getElem?_cons_zero]; exact rfl)
                case hq73 => exact fun _ _ _ h => h
                case hw73 => rfl
                case hy73 => (intro w hSw; (try dsimp only at hSw); go_simp; try exact rfl)
                simp only [Act.put, List.setIfInBounds_toArray, List.set_cons_zero, List.set_cons_succ]
                refine wpAnyH_take (i := 35) (oi := ?o74) (v := ?v74) ?hi74 (by kernel_rfl) (by kernel_rfl) (by kernel_rfl) ?hq74 (Or.inl ⟨?hw74, ?hy74⟩) (by assumption) ?r74
                case hi74 => (simp only [List.getElem?_toArray, List.getElem?_cons_succ, List.getElem?_cons_zero]; exact rfl)
                case hq74 => exact fun _ _ _ h => h
                case hw74 => rfl
                case hy74 => (intro w hSw; (try dsimp only at hSw); go_simp; try exact rfl)
                simp only [Act.put, List.setIfInBounds_toArray, List.set_cons_zero, List.set_cons_succ]
                refine wpAnyH_ready (rs := [30]) (by kernel_rfl) (by simp) ?_
                refine AllReadyH.cons (o := ?o79) ?hi79 (fun K hK => ?_) AllReadyH.nil
                case hi79 => (simp only [List.getElem?_toArray, List.getElem?_cons_succ, List.getElem?_cons_zero]; exact rfl)
                go_simp
                go_at_call 22
                refine (ct.out wr.drew DE.out).mono ?_
                rintro x w8 ⟨v, rfl, own, de, bd⟩
                have b8 := BX.out.drew.trans (bd.below (B := w.heap.size) BX.out.drew.size (by simpa using hdB))
                obtain ⟨A8, c8, rfl, -, -, r8⟩ := own_rd own HY.out
                have hlz : zb.length = l := G6.out.1
                refine hK.out _ _ ⟨cell_bar g0 bd.drewL hbd, cell_bar g3 bd.drewL hbd⟩ (fun hHeld2 => ?_)
                clear hK K hHeld HELD0
                try simp only [Act.put, List.setIfInBounds_toArray, List.set_cons_zero, List.set_cons_succ]
                refine wpAnyH_ready (rs := [36]) (by kernel_rfl) (by simp) ?_
                refine AllReadyH.cons (o := ?o80) ?hi80 (fun K hK => ?_) AllReadyH.nil
                case hi80 => (simp only [List.getElem?_toArray, List.getElem?_cons_succ, List.getElem?_cons_zero]; exact rfl)
                go_simp
                go_at_call 18
                refine (bytes_same A8 a l l c8 c2 zb w8 (hlz ▸ r8) (G6.out.far bd.drewL HO.out)).mono ?_
                rintro x w9 ⟨rfl, rfl⟩
                refine hK.out _ _ hHeld2 (fun hHeld3 => ?_)
                clear hK K hHeld2
                try simp only [Act.put, List.setIfInBounds_toArray, List.set_cons_zero, List.set_cons_succ]
                refine wpAnyH_take (i := 37) (oi := ?o75) (v := ?v75) ?hi75 (by kernel_rfl) (by kernel_rfl) (by kernel_rfl) ?hq75 (Or.inl ⟨?hw75, ?hy75⟩) (by assumption) ?r75
                case hi75 => (simp only [List.getElem?_toArray, List.getElem?_cons_succ, List.getElem?_cons_zero]; exact rfl)
                case hq75 => exact fun _ _ _ h => h
                case hw75 => rfl
                case hy75 => (intro w hSw; (try dsimp only at hSw); go_simp; try exact rfl)
                simp only [Act.put, List.setIfInBounds_toArray, List.set_cons_zero, List.set_cons_succ]
                refine wpAnyH_take (i := 38) (oi := ?o76) (v := ?v76) ?hi76 (by kernel_rfl) (by kernel_rfl) (by kernel_rfl) ?hq76 (Or.inl ⟨?hw76, ?hy76⟩) (by assumption) ?r76
                case hi76 => (simp only [List.getElem?_toArray, List.getElem?_cons_succ, List.getElem?_cons_zero]; exact rfl)
                case hq76 => exact fun _ _ _ h => h
                case hw76 => rfl
                case hy76 => (intro w hSw; (try dsimp only at hSw); go_simp; try exact rfl)
                simp only [Act.put, List.setIfInBounds_toArray, List.set_cons_zero, List.set_cons_succ]
                refine wpAnyH_take (i := 39) (oi := ?o77) (v := ?v77) ?hi77 (by kernel_rfl) (by kernel_rfl) (by kernel_rfl) ?hq77 (Or.inl ⟨?hw77, ?hy77⟩) (by assumption) ?r77
                case hi77 => (simp only [List.getElem?_toArray, List.getElem?_cons_succ, List.getElem?_cons_zero]; exact rfl)
                case hq77 => exact fun _ _ _ h => h
                case hw77 => rfl
                case hy77 => (intro w hSw; (try dsimp only at hSw); go_simp; try exact rfl)
                simp only [Act.put, List.setIfInBounds_toArray, List.set_cons_zero, List.set_cons_succ]
                refine wpAnyH_done (by kernel_rfl) ?_ _
                refine NoPanic.normal ?_
                have D8 := Kept.mk de; have B8 := Kept.mk b8
                clear de bd b8 hHeld3 own r8
                go_wp2
                go_roundw
                case rel => exact ⟨j + 1, by omega, by go_num, D8, B8⟩
                case measure => simp [intOf]; omega
            · have hjk' : ¬ (j : Int) < k := by omega
              obtain rfl : j = k := by omega
              rw [Nat.sub_self, show items X j 0 = [] from rfl] at DE
              go_wp2_with fail
              refine (wfirst_any _).mono ?_
              rintro x w10 ⟨rfl, b10⟩
              replace DE := Kept.mk (DE.out.below b10)
              have B10 := Kept.mk (BX.out.trans (b10.mono BX.out.size))
              clear b10 BX
              go_wp2_with fail
              refine (end_any w10 d G (0, []) DE.out).mono ?_
              rintro x w11 ⟨rfl, rfl⟩
              rw [show endOf (0, []) = 0 from rfl]
              go_wp2_with fail
              refine (left_any w10 d G (0, []) DE.out).mono ?_
              rintro x w11 ⟨rfl, rfl⟩
              go_wp2
              go_ret
              exact ⟨rfl, B10.out⟩
        · have hnil := encAll_none X k h0
          have h0' : ((encAll X k).1 != 0) = true := by simpa using h0
          rw [hnil]
          generalize (encAll X k).1 = ee at *
          go_wp2_with fail
          refine (wfirst_any w6).mono ?_
          rintro x w9 ⟨rfl, b9⟩
          have B9 := Kept.mk (B6.out.trans (b9.mono B6.out.size))
          clear b9
          go_wp2
          go_ret
          exact ⟨rfl, B9.out⟩
end Go.Proofs.Ytfjkbggbaoiiiaa.Wire
