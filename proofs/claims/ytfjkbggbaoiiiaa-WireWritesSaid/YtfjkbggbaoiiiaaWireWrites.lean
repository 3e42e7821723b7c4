/-
  The law WireWrites, walked.
-/
import Derived.Test.YtfjkbggbaoiiiaaWireDone
import Derived.Test.YtfjkbggbaoiiiaaWireREnc3
import Derived.StillTailTactics
namespace Go.Proofs.Ytfjkbggbaoiiiaa.Wire
open Go.RowKit Go.Proofs.Ytfjkbggbaoiiiaa.Sha

def WritesPost (w : World) (e : Ending) (w' : World) : Prop := e = .returned (.bool true) ∧ Below w.heap.size w w'

set_option maxRecDepth 100000 in
set_option maxHeartbeats 2000000 in
theorem wwrites_walk (A : Option Addr) (n c : Nat) (X : Nat → OpV) (w : World) (hr : Ops w A n X) : Calls Try.prog 3 #[.slice A n c] w (WritesPost w) := by
  have HR := Kept.mk hr
  have HB := Kept.mk hr.bytes
  clear hr
  go_enter Try.func3, Try.ntmps3
  go_wp2_with fail
  refine (wfirst_any w).mono ?_
  rintro x w1 ⟨rfl, b1⟩
  have B1 := Kept.mk b1
  clear b1
  go_wp2_with fail
  refine (newenc_any w1).mono ?_
  rintro x w2 ⟨rfl, en1, fp1⟩
  obtain ⟨E, hE⟩ : ∃ E, w1.heap.size = E := ⟨_, rfl⟩
  have hBE : w.heap.size ≤ E := by rw [← hE]; exact B1.out.size
  have B2 := Kept.mk (B1.out.trans (fp1.below (B := w.heap.size) (by simp) B1.out.size))
  rw [hE] at en1 ⊢
  have EN := Kept.mk en1
  have hlt := en1.lt E (by simp)
  clear B1 en1 fp1 hE
  obtain ⟨R, hR⟩ : ∃ R, w2.heap.size = R := ⟨_, rfl⟩
  have hBR : w.heap.size ≤ R := by rw [← hR]; exact B2.out.size
  have RN : Kept (En 30 (w2.alloc (.cells #[.slice none 0 0, .int .i64 0] 30)) [R] R (0, [])) := ⟨⟨_, Blk.new_at _ _ _ R hR.symm, World.ownsRow_nil _ _ _ _, rfl⟩⟩
  replace EN := Kept.mk (EN.out.below ((Below.refl _ w2).alloc (Nat.le_refl _) (.cells #[.slice none 0 0, .int .i64 0] 30)))
  replace B2 := Kept.mk (B2.out.alloc B2.out.size (.cells #[.slice none 0 0, .int .i64 0] 30))
  have D2 : Kept (Disj [E] [R]) := ⟨fun k hk => by simp at hk ⊢; omega⟩
  go_wp2_with fail
  generalize w2.alloc (.cells #[.slice none 0 0, .int .i64 0] 30) = w3 at *
  clear hR hlt
  refine (ofew_any A n c X w3 (HR.out.below B2.out)).mono ?_
  rintro x w4 ⟨t, rfl, ht, rfl⟩
  cases t with
  | false =>
    go_wp2_with fail
    refine (wfirst_any w3).mono ?_
    rintro x w9 ⟨rfl, b9⟩
    have B9 := Kept.mk (B2.out.trans (b9.mono B2.out.size))
    clear b9
    go_wp2
    go_ret
    exact ⟨rfl, B9.out⟩
  | true =>
    have hn : n ≤ 200 := ht rfl
    clear ht
    go_wp2
    go_loopw [5] (fun i wr => ∃ (k : Nat) (F G : List Nat), k ≤ n ∧ i = .int .i64 k ∧ Kept (En 57 wr F E (encAll X k)) ∧ Kept (En 30 wr G R (rencAll X k)) ∧ Kept (Disj F G) ∧ Kept (∀ j ∈ F, w.heap.size ≤ j) ∧ Kept (∀ j ∈ G, w.heap.size ≤ j) ∧ Kept (Below w.heap.size w wr)) (fun i _ => n - (intOf i).toNat)
    case atStart => exact ⟨0, [E], [R], by omega, rfl, EN, RN, D2, ⟨by simpa using hBE⟩, ⟨by simpa using hBR⟩, B2⟩
    case round =>
      clear EN RN D2 B2
      obtain ⟨k, F, G, hk, rfl, EN, RN, DD, HF, HG, BW⟩ := hrel
      have hlen := encAll_len X k
      have hlen2 := (renc_is X k).2.2
      by_cases hkn : k < n
      · have hkn' : (k : Int) < n := by omega
        obtain ⟨b, o, rfl, hc⟩ := (HR.out.below BW.out).resolve_left (by omega)
        have HX := Kept.mk (show encAll X (k + 1) = encOp (encAll X k) (X k) from rfl)
        have HX2 := Kept.mk (show rencAll X (k + 1) = rencOp (rencAll X k) (X k) from rfl)
        obtain ⟨g0, g1, g2, a, l, c2, g3, g4, g5, g6⟩ := hc k hkn
        have hbB := HR.out.block (by omega)
        by_cases hkd : (X k).kind = 0
        · have HE := Kept.mk (show encOp (encAll X k) (X k) = encNum (encAll X k) (X k).n (X k).size by unfold encOp; rw [if_pos hkd])
          have HE2 := Kept.mk (show rencOp (rencAll X k) (X k) = rencNum (rencAll X k) (X k).n (X k).size by unfold rencOp; rw [if_pos hkd])
          rw [hkd] at g0
          clear hc g3 g6
          generalize (X k).n = zn at *
          generalize (X k).size = zs at *
          go_wp2
          refine wp_region_still_tail 11 (by kernel_rfl) (by kernel_rfl) ?_
          simp only [List.take_succ_cons, List.take_zero, List.drop_succ_cons, List.drop_zero]
          repeat still_step
          refine wpStill_nil ?_
          change wpList _ _ _ _ _ wr.drew
          go_wp2_with fail
          refine (num_any wr.drew F E zn zs _ (show En 57 wr.drew F E (encAll X k) from EN.out) (by omega)).mono ?_
          rw [← HE.out, ← HX.out]
          rintro x w5 ⟨rfl, F5, en5, fp5⟩
          have h0' : w5.cell? ⟨b, o + k * 4, none⟩ = some (.int .i64 0) := cell_bar g0 fp5.1.drewL (fun h => by have := HF.out _ h; omega)
          have h1' : w5.cell? ⟨b, o + k * 4 + 1, none⟩ = some (.int .i64 zn) := cell_bar g1 fp5.1.drewL (fun h => by have := HF.out _ h; omega)
          have h2' : w5.cell? ⟨b, o + k * 4 + 2, none⟩ = some (.int .i64 zs) := cell_bar g2 fp5.1.drewL (fun h => by have := HF.out _ h; omega)
          have EN5 := Kept.mk en5
          have HF5 := Kept.mk (fp5.least HF.out BW.out.drew.size)
          have RN5 := Kept.mk (show En 30 w5 G R (rencAll X k) from (show En 30 wr.drew G R (rencAll X k) from RN.out).keep fp5.1 DD.out.symm)
          have D5 := Kept.mk (DD.out.step fp5 RN.out.lt)
          have B5 := Kept.mk (BW.out.drew.trans (fp5.below (B := w.heap.size) HF.out BW.out.drew.size))
          clear en5 fp5 EN RN DD BW g0 g1 g2
          go_wp2
          refine wp_region_still_tail 11 (by kernel_rfl) (by kernel_rfl) ?_
          simp only [List.take_succ_cons, List.take_zero, List.drop_succ_cons, List.drop_zero]
          repeat still_step
          refine wpStill_nil ?_
          change wpList _ _ _ _ _ w5.drew
          go_wp2_with fail
          refine (rnum_any w5.drew G R zn zs _ (show En 30 w5.drew G R (rencAll X k) from RN5.out) (by omega)).mono ?_
          rw [← HE2.out, ← HX2.out]
          rintro x w6 ⟨rfl, G6, rn6, fp6⟩
          have RN6 := Kept.mk rn6
          have HG6 := Kept.mk (fp6.least HG.out B5.out.drew.size)
          have EN6 := Kept.mk (show En 57 w6 F5 E (encAll X (k + 1)) from (show En 57 w5.drew F5 E (encAll X (k + 1)) from EN5.out).keep fp6.1 D5.out)
          have D6 := Kept.mk ((D5.out.symm).step fp6 EN5.out.lt).symm
          have B6 := Kept.mk (B5.out.drew.trans (fp6.below (B := w.heap.size) HG.out B5.out.drew.size))
          clear rn6 fp6 EN5 RN5 D5 B5 h0' h1' h2'
          go_wp2
          go_roundw
          case rel => exact ⟨k + 1, F5, G6, by omega, by go_num, EN6, RN6, D6, HF5, HG6, B6⟩
          case measure => simp [intOf]; omega
        · have HE := Kept.mk (show encOp (encAll X k) (X k) = encTxt (encAll X k) (X k).b by unfold encOp; rw [if_neg hkd])
          have HE2 := Kept.mk (show rencOp (rencAll X k) (X k) = rencTxt (rencAll X k) (X k).b by unfold rencOp; rw [if_neg hkd])
          have G6 := Kept.mk g6
          have hO := Kept.mk (HR.out.off hkn BW.out g3 HF.out)
          have hO2 := Kept.mk (HR.out.off hkn BW.out g3 HG.out)
          clear hc g1 g2 g6
          generalize (X k).kind = zk at *
          generalize (X k).b = zb at *
          have hz : (zk == 0) = false := by simpa using hkd
          go_wp2_with fail
          refine (txt_any wr F E a l c2 zb _ EN.out G6.out hO.out (by omega)).mono ?_
          rw [← HE.out, ← HX.out]
          rintro x w5 ⟨rfl, F5, en5, fp5⟩
          have h0' : w5.cell? ⟨b, o + k * 4, none⟩ = some (.int .i64 zk) := cell_bar g0 fp5.1 (fun h => by have := HF.out _ h; omega)
          have h3' : w5.cell? ⟨b, o + k * 4 + 3, none⟩ = some (.slice a l c2) := cell_bar g3 fp5.1 (fun h => by have := HF.out _ h; omega)
          have EN5 := Kept.mk en5
          have HF5 := Kept.mk (fp5.least HF.out BW.out.size)
          have G65 := Kept.mk (G6.out.far fp5.1 hO.out)
          have RN5 := Kept.mk (RN.out.keep fp5.1 DD.out.symm)
          have D5 := Kept.mk (DD.out.step fp5 RN.out.lt)
          have B5 := Kept.mk (BW.out.trans (fp5.below (B := w.heap.size) HF.out BW.out.size))
          clear en5 fp5 EN RN DD BW g0 g3 G6
          go_wp2_with fail
          refine (rtxt_any w5 G R a l c2 zb _ RN5.out G65.out hO2.out (by omega)).mono ?_
          rw [← HE2.out, ← HX2.out]
          rintro x w6 ⟨rfl, G6, rn6, fp6⟩
          have RN6 := Kept.mk rn6
          have HG6 := Kept.mk (fp6.least HG.out B5.out.size)
          have EN6 := Kept.mk (EN5.out.keep fp6.1 D5.out)
          have D6 := Kept.mk ((D5.out.symm).step fp6 EN5.out.lt).symm
          have B6 := Kept.mk (B5.out.trans (fp6.below (B := w.heap.size) HG.out B5.out.size))
          clear rn6 fp6 EN5 RN5 D5 B5 h0' h3' G65
          go_wp2
          go_roundw
          case rel => exact ⟨k + 1, F5, G6, by omega, by go_num, EN6, RN6, D6, HF5, HG6, B6⟩
          case measure => simp [intOf]; omega
      · have hkn' : ¬ (k : Int) < n := by omega
        obtain rfl : k = n := by omega
        have hby := Kept.mk (encAll_bytes X k (fun j hj => HB.out j hj))
        obtain ⟨q1, q2, -⟩ := renc_is X k
        have hif := Kept.mk (show (if (rencAll X k).1 = 0 then (rencAll X k).2 else []) = (encAll X k).2 by
          rw [q1]
          by_cases h0 : (encAll X k).1 = 0
          · rw [if_pos h0, q2 h0]
          · rw [if_neg h0, encAll_none X k h0])
        have Q1 := Kept.mk q1
        have Q2 := Kept.mk (show (rencAll X k).1 = 0 → Bytes (rencAll X k).2 from fun h => by rw [q2 (q1 ▸ h)]; exact hby.out)
        clear q1 q2
        go_wp2_with fail
        refine (done_any wr F E (encAll X k) EN.out hby.out (by omega)).mono ?_
        rintro x w6 ⟨v, rfl, own, b6⟩
        obtain ⟨A6, c6, rfl, -, -, r6⟩ := own_rd own hby.out
        have R6 := Kept.mk r6
        have RN6 := Kept.mk (RN.out.below b6)
        have B6 := Kept.mk (BW.out.trans (b6.mono BW.out.size))
        clear own r6 b6 BW EN RN
        go_wp2_with fail
        refine (rdone_any w6 G R (rencAll X k) RN6.out Q2.out).mono ?_
        rintro x w7 ⟨A7, n7, c7, rfl, r7, b7⟩
        rw [hif.out] at r7
        rw [Q1.out]
        have R7 := Kept.mk r7
        replace R6 := Kept.mk (R6.out.below b7)
        have B7 := Kept.mk (B6.out.trans (b7.mono B6.out.size))
        clear r7 b7 B6 RN6 Q1 Q2 hif
        generalize (encAll X k).1 = ee at *
        go_wp2_with fail
        refine (wfirst_any w7).mono ?_
        rintro x w8 ⟨rfl, b8⟩
        replace R6 := Kept.mk (R6.out.below b8)
        replace R7 := Kept.mk (R7.out.below b8)
        have B8 := Kept.mk (B7.out.trans (b8.mono B7.out.size))
        clear b8 B7
        go_wp2_with fail
        refine (bytes_same A6 A7 _ n7 c6 c7 (encAll X k).2 w8 R6.out R7.out).mono ?_
        rintro x w9 ⟨rfl, rfl⟩
        go_wp2
        go_ret
        exact ⟨rfl, B8.out⟩
end Go.Proofs.Ytfjkbggbaoiiiaa.Wire
