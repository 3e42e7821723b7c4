/-
  Parts laid together: ReqCDecA.
-/
import Derived.Test.YtchcgoabogcabaaGreatPart33
import Derived.Test.YtchcgoabogcabaaGreatPart12
import Derived.Test.YtchcgoabogcabaaGreatPart11

namespace Go.Proofs.YtchcgoabogcabaaGreat.Req
open Go.RowKit Go.Proofs.YtchcgoabogcabaaGreat.Sha Go.Proofs.YtchcgoabogcabaaGreat.Wire Go.Proofs.YtchcgoabogcabaaGreat.Num

theorem canswer_size : (Tryz.prog.info? 59).map (·.size) = some 4 := by kernel_rfl
set_option maxRecDepth 100000 in
set_option maxHeartbeats 3000000 in
theorem cdeca_any {A : Option Addr} {n c : Nat} {b : List Int} {w : World} (hr : Rd w A n b) (hn : n ≤ 100000) : Calls Tryz.prog 85 #[.slice A n c] w (DecAPost b w) := by
  have hby := hr.2.1
  have DY : Kept (DecAC b → DecA b 0 ⟨(decNum (0, b) 8).1, (decNum (decNum (0, b) 8).2 2).1, (dA2 b).1, (dA4 b).1⟩) := ⟨decA_yes hby⟩
  have DN : Kept (¬ DecAC b → DecA b 2 ⟨0, 0, [], []⟩) := ⟨decA_no hby⟩
  have b0 := decNum_bytes (0, b) 8 hby
  have b1 : Bytes (dA0 b).2 := decNum_bytes _ 2 b0
  have b2 : Bytes (dA1 b).2.2 := decNum_bytes _ 1 b1
  have b3 : Bytes (dA2 b).2.2 := (rep_way.iter _ _ b2).1
  have b4 : Bytes (dA3 b).2.2 := decNum_bytes _ 2 b3
  have OK : Kept (∀ r ∈ (dA4 b).1, r.ok) := ⟨(iter_all ev_rest cEv_ok _ _ b4).2⟩
  have DI : Kept (DecAC b ↔ Tck (decNum (0, b) 8).1 ∧ (dA1 b).1 ≤ 64 ∧ ((dA3 b).1 ≤ 400 ∧ ∀ r ∈ (dA4 b).1, HoldV r) ∧ endOf (dA4 b).2 = 0) := ⟨⟨fun h => ⟨h.1, h.2.1, ⟨h.2.2.1, h.2.2.2.1⟩, h.2.2.2.2⟩, fun h => ⟨h.1, h.2.1, h.2.2.1.1, h.2.2.1.2, h.2.2.2⟩⟩⟩
  clear b0 b1 b2 b3 b4 hby
  generalize DecAC b = Q at *
  have E2 : Kept (dA2 b = iter cRep (decNum (decNum (decNum (0, b) 8).2 2).2 1).1.toNat (decNum (decNum (decNum (0, b) 8).2 2).2 1).2) := ⟨rfl⟩
  have E1 : Kept (dA1 b = decNum (decNum (decNum (0, b) 8).2 2).2 1) := ⟨rfl⟩
  have E4 : Kept (dA4 b = iter cEv (decNum (dA2 b).2 2).1.toNat (decNum (dA2 b).2 2).2) := ⟨rfl⟩
  have E3 : Kept (dA3 b = decNum (dA2 b).2 2) := ⟨rfl⟩
  generalize dA1 b = a1 at *
  generalize dA2 b = a2 at *
  generalize dA3 b = a3 at *
  generalize dA4 b = a4 at *
  obtain ⟨N, hN⟩ : ∃ N, w.heap.size = N := ⟨_, rfl⟩
  have HN := Kept.mk hN
  have B0 : Below N w (w.alloc (.cells #[.int .i64 0, .int .i64 0, .slice none 0 0, .slice none 0 0] 59)) := (Below.refl _ _).alloc (by omega) _
  have Y : Kept (Blk (w.alloc (.cells #[.int .i64 0, .int .i64 0, .slice none 0 0, .slice none 0 0] 59)) N 59 #[.int .i64 0, .int .i64 0, .slice none 0 0, .slice none 0 0]) := ⟨Blk.new_at w _ _ N hN.symm⟩
  have KN := newdec_any A n c b (w.alloc (.cells #[.int .i64 0, .int .i64 0, .slice none 0 0, .slice none 0 0] 59)) (hr.below (hN ▸ B0)) (by omega)
  have B := Kept.mk B0
  clear B0 hr
  go_enter Tryz.func85, Tryz.ntmps85
  go_upto_region 1 with (fail)
  generalize w.alloc (.cells #[.int .i64 0, .int .i64 0, .slice none 0 0, .slice none 0 0] 59) = w0 at *
  have KK := Kept.mk KN
  clear KN
  go_wp2_with fail
  refine KK.out.mono ?_
  rintro x w1 ⟨d, G, rfl, he, hd1, -, hd, b1⟩
  have hNw := Y.out.lt
  have hNd : N ∉ [d] := by simp; omega
  have HND := Kept.mk hNd
  have DNX : Kept (N ≤ d) := ⟨by omega⟩
  replace Y := Kept.mk (Y.out.below b1 hNw)
  replace B := Kept.mk (B.out.trans (b1.mono (by omega)))
  have KC := dnum_any w1 d G 8 (0, b) he hd
  obtain ⟨s8, hs8⟩ : ∃ s, decNum (0, b) 8 = s := ⟨_, rfl⟩
  rw [hs8] at KC DY DI E1 E2
  have KD := Kept.mk KC
  clear he b1 hNd KK KC hd1 hNw hs8
  go_wp2_with fail
  refine KD.out.mono ?_
  rintro x w2 ⟨rfl, he, b2⟩
  replace Y := Kept.mk (Y.out.bar b2 HND.out)
  replace B := Kept.mk (B.out.trans (b2.below (by have := B.out.size; have := HN.out; omega) (by simpa using DNX.out)))
  have KC := dnum_any w2 d G 2 s8.2 he hd
  obtain ⟨s2, hs2⟩ : ∃ s, decNum s8.2 2 = s := ⟨_, rfl⟩
  rw [hs2] at KC DY E1 E2
  have KD2 := Kept.mk KC
  clear he b2 KC KD hs2
  go_wp2_with fail
  refine KD2.out.mono ?_
  rintro x w3 ⟨rfl, he, b3⟩
  replace Y := Kept.mk (Y.out.bar b3 HND.out)
  replace B := Kept.mk (B.out.trans (b3.below (by have := B.out.size; have := HN.out; omega) (by simpa using DNX.out)))
  have KT := Kept.mk (fun w => tick_any s8.1 w)
  rw [ctick_iff] at KT
  have KP := getallp_any he hd
  rw [← E1.out] at KP
  have E2' := E2.out
  rw [← E1.out] at E2'
  rw [← E2'] at KP
  have KA := Kept.mk KP
  unfold GetPost at KA
  have DLT : Kept (d < w3.heap.size) := ⟨he.lt⟩
  clear b3 KD2 he KP E2' E2 E1
  by_cases hc : Tck s8.1
  · rw [decide_eq_true hc] at KT
    go_wp2_with (go_at_call 69; refine (KT.out _).mono ?_; rintro x w' ⟨rfl, rfl⟩)
    refine KA.out.mono ?_
    rintro x w4 ⟨q, A4, m4, c4, rfl, hm4, hc4, hq, b4, hnew, hres⟩
    have hdw : N < w3.heap.size := Y.out.lt
    have AN : Kept (∀ o, A4 ≠ some ⟨N, o, none⟩) := ⟨fun o ho => by have := hnew N o ho; omega⟩
    replace Y := Kept.mk (Y.out.bar b4 HND.out)
    replace B := Kept.mk (B.out.trans (b4.below (by have := B.out.size; have := HN.out; omega) (by simpa using DNX.out)))
    cases q with
    | false =>
      have DB := Kept.mk (DN.out (fun h => by have := hq.2 (DI.out.1 h).2.1; cases this))
      clear hq hres hm4 hc4 hnew b4 KA hdw
      have P2 : Kept (Blk ((((w4.setCell ⟨N, 0, none⟩ (.int .i64 0)).setCell ⟨N, 1, none⟩ (.int .i64 0)).setCell ⟨N, 2, none⟩ (.slice none 0 0)).setCell ⟨N, 3, none⟩ (.slice none 0 0)) N 59 #[.int .i64 0, .int .i64 0, .slice none 0 0, .slice none 0 0]) := ⟨(Blk.set_ (Blk.set_ (Blk.set_ (Blk.set_ Y.out 0 (.int .i64 0)) 1 (.int .i64 0)) 2 (.slice none 0 0)) 3 (.slice none 0 0))⟩
      have PB : Kept (Bar [N] w4 ((((w4.setCell ⟨N, 0, none⟩ (.int .i64 0)).setCell ⟨N, 1, none⟩ (.int .i64 0)).setCell ⟨N, 2, none⟩ (.slice none 0 0)).setCell ⟨N, 3, none⟩ (.slice none 0 0))) := ⟨(Bar.setCell (Bar.setCell (Bar.setCell (Bar.setCell (Bar.refl [N] w4) (p := ⟨N, 0, none⟩) (.inl (by simp)) (.int .i64 0)) (p := ⟨N, 1, none⟩) (.inl (by simp)) (.int .i64 0)) (p := ⟨N, 2, none⟩) (.inl (by simp)) (.slice none 0 0)) (p := ⟨N, 3, none⟩) (.inl (by simp)) (.slice none 0 0))⟩
      have BE : Kept (Below w.heap.size w ((((w4.setCell ⟨N, 0, none⟩ (.int .i64 0)).setCell ⟨N, 1, none⟩ (.int .i64 0)).setCell ⟨N, 2, none⟩ (.slice none 0 0)).setCell ⟨N, 3, none⟩ (.slice none 0 0))) := ⟨by rw [HN.out]; exact B.out.trans (PB.out.below (by have := B.out.size; have := HN.out; omega) (by simp))⟩
      have y0 : w4.cell? ⟨N, 0, none⟩ = some (.int .i64 0) := Y.out.cell 0; have y1 : w4.cell? ⟨N, 1, none⟩ = some (.int .i64 0) := Y.out.cell 1; have y2 : w4.cell? ⟨N, 2, none⟩ = some (.slice none 0 0) := Y.out.cell 2; have y3 : w4.cell? ⟨N, 3, none⟩ = some (.slice none 0 0) := Y.out.cell 3
      have z0 := Y.out.frozen 0; have z1 := Y.out.frozen 1; have z2 := Y.out.frozen 2; have z3 := Y.out.frozen 3
      go_wp2
      (try simp only [Exit.inBlock, Exit.then])
      refine bodyPost_ret (results_row_tmp rfl _ _ N 59 #[.int .i64 0, .int .i64 0, .slice none 0 0, .slice none 0 0] (0, 0) _ rfl P2.out Tryz.underlying59 rfl canswer_size) rfl ?_
      exact ⟨2, 0, 0, none, 0, 0, [], none, 0, 0, [], rfl, Nat.le_refl _, by omega, Nat.le_refl _, by omega, Rc.nil, Rc.nil, by simp, DB.out, BE.out⟩
    | true =>
      obtain ⟨rc, hde⟩ := hres rfl
      have HP := Kept.mk (hq.1 rfl)
      have HDD := hde.lt
      have AD : Kept (∀ o, A4 ≠ some ⟨d, o, none⟩) := ⟨fun o ho => by have h1 := hnew d o ho; have h2 := DLT.out; omega⟩
      have RC := Kept.mk rc
      have HM4 := Kept.mk hm4; have HC4 := Kept.mk hc4
      have KP := getallv_any hde hd
      rw [← E3.out] at KP
      have E4' := E4.out
      rw [← E3.out] at E4'
      rw [← E4'] at KP
      have KB := Kept.mk KP
      unfold GetPost at KB
      clear rc hde hq hres hm4 hc4 hnew b4 KA hdw KP E4' E4 E3 HDD
      go_wp2_with fail
      refine KB.out.mono ?_
      rintro x w5 ⟨q, A5, m5, c5, rfl, hm5, hc5, hq, b5, hnew, hres⟩
      have AN5 : Kept (∀ o, A5 ≠ some ⟨N, o, none⟩) := ⟨fun o ho => by have := hnew N o ho; have := Y.out.lt; omega⟩
      replace Y := Kept.mk (Y.out.bar b5 HND.out)
      replace B := Kept.mk (B.out.trans (b5.below (by have := B.out.size; have := HN.out; omega) (by simpa using DNX.out)))
      replace RC := Kept.mk (RC.out.bar b5 (fun x hx => .inr (fun o ho => by rw [List.mem_singleton] at hx; subst hx; exact AD.out o ho)))
      cases q with
      | false =>
        have DB := Kept.mk (DN.out (fun h => by have := hq.2 (DI.out.1 h).2.2.1; cases this))
        clear hq hres hm5 hc5 hnew b5 KB
        have P2 : Kept (Blk ((((w5.setCell ⟨N, 0, none⟩ (.int .i64 0)).setCell ⟨N, 1, none⟩ (.int .i64 0)).setCell ⟨N, 2, none⟩ (.slice none 0 0)).setCell ⟨N, 3, none⟩ (.slice none 0 0)) N 59 #[.int .i64 0, .int .i64 0, .slice none 0 0, .slice none 0 0]) := ⟨(Blk.set_ (Blk.set_ (Blk.set_ (Blk.set_ Y.out 0 (.int .i64 0)) 1 (.int .i64 0)) 2 (.slice none 0 0)) 3 (.slice none 0 0))⟩
        have PB : Kept (Bar [N] w5 ((((w5.setCell ⟨N, 0, none⟩ (.int .i64 0)).setCell ⟨N, 1, none⟩ (.int .i64 0)).setCell ⟨N, 2, none⟩ (.slice none 0 0)).setCell ⟨N, 3, none⟩ (.slice none 0 0))) := ⟨(Bar.setCell (Bar.setCell (Bar.setCell (Bar.setCell (Bar.refl [N] w5) (p := ⟨N, 0, none⟩) (.inl (by simp)) (.int .i64 0)) (p := ⟨N, 1, none⟩) (.inl (by simp)) (.int .i64 0)) (p := ⟨N, 2, none⟩) (.inl (by simp)) (.slice none 0 0)) (p := ⟨N, 3, none⟩) (.inl (by simp)) (.slice none 0 0))⟩
        have BE : Kept (Below w.heap.size w ((((w5.setCell ⟨N, 0, none⟩ (.int .i64 0)).setCell ⟨N, 1, none⟩ (.int .i64 0)).setCell ⟨N, 2, none⟩ (.slice none 0 0)).setCell ⟨N, 3, none⟩ (.slice none 0 0))) := ⟨by rw [HN.out]; exact B.out.trans (PB.out.below (by have := B.out.size; have := HN.out; omega) (by simp))⟩
        have y0 : w5.cell? ⟨N, 0, none⟩ = some (.int .i64 0) := Y.out.cell 0; have y1 : w5.cell? ⟨N, 1, none⟩ = some (.int .i64 0) := Y.out.cell 1; have y2 : w5.cell? ⟨N, 2, none⟩ = some (.slice none 0 0) := Y.out.cell 2; have y3 : w5.cell? ⟨N, 3, none⟩ = some (.slice none 0 0) := Y.out.cell 3
        have z0 := Y.out.frozen 0; have z1 := Y.out.frozen 1; have z2 := Y.out.frozen 2; have z3 := Y.out.frozen 3
        go_wp2
        (try simp only [Exit.inBlock, Exit.then])
        refine bodyPost_ret (results_row_tmp rfl _ _ N 59 #[.int .i64 0, .int .i64 0, .slice none 0 0, .slice none 0 0] (0, 0) _ rfl P2.out Tryz.underlying59 rfl canswer_size) rfl ?_
        exact ⟨2, 0, 0, none, 0, 0, [], none, 0, 0, [], rfl, Nat.le_refl _, by omega, Nat.le_refl _, by omega, Rc.nil, Rc.nil, by simp, DB.out, BE.out⟩
      | true =>
        obtain ⟨rc, hde⟩ := hres rfl
        have hp := hq.1 rfl
        have KE := Kept.mk (end_any w5 d G a4.2 hde)
        have RC5 := Kept.mk rc
        have HM5 := Kept.mk hm5; have HC5 := Kept.mk hc5
        obtain ⟨e0, he0⟩ : ∃ e0, endOf a4.2 = e0 := ⟨_, rfl⟩
        rw [he0] at KE DI
        by_cases h0 : e0 = 0
        · subst h0
          have DB := Kept.mk (DY.out (DI.out.2 ⟨hc, HP.out, hp, rfl⟩))
          clear rc hde hp hq hres hm5 hc5 he0 hnew b5 KB
          have P2 : Kept (Blk ((((w5.setCell ⟨N, 0, none⟩ (.int .i64 s8.1)).setCell ⟨N, 1, none⟩ (.int .i64 s2.1)).setCell ⟨N, 2, none⟩ (.slice A4 m4 c4)).setCell ⟨N, 3, none⟩ (.slice A5 m5 c5)) N 59 #[.int .i64 s8.1, .int .i64 s2.1, .slice A4 m4 c4, .slice A5 m5 c5]) := ⟨(Blk.set_ (Blk.set_ (Blk.set_ (Blk.set_ Y.out 0 (.int .i64 s8.1)) 1 (.int .i64 s2.1)) 2 (.slice A4 m4 c4)) 3 (.slice A5 m5 c5))⟩
          have PB : Kept (Bar [N] w5 ((((w5.setCell ⟨N, 0, none⟩ (.int .i64 s8.1)).setCell ⟨N, 1, none⟩ (.int .i64 s2.1)).setCell ⟨N, 2, none⟩ (.slice A4 m4 c4)).setCell ⟨N, 3, none⟩ (.slice A5 m5 c5))) := ⟨(Bar.setCell (Bar.setCell (Bar.setCell (Bar.setCell (Bar.refl [N] w5) (p := ⟨N, 0, none⟩) (.inl (by simp)) (.int .i64 s8.1)) (p := ⟨N, 1, none⟩) (.inl (by simp)) (.int .i64 s2.1)) (p := ⟨N, 2, none⟩) (.inl (by simp)) (.slice A4 m4 c4)) (p := ⟨N, 3, none⟩) (.inl (by simp)) (.slice A5 m5 c5))⟩
          have BE : Kept (Below w.heap.size w ((((w5.setCell ⟨N, 0, none⟩ (.int .i64 s8.1)).setCell ⟨N, 1, none⟩ (.int .i64 s2.1)).setCell ⟨N, 2, none⟩ (.slice A4 m4 c4)).setCell ⟨N, 3, none⟩ (.slice A5 m5 c5))) := ⟨by rw [HN.out]; exact B.out.trans (PB.out.below (by have := B.out.size; have := HN.out; omega) (by simp))⟩
          have y0 : w5.cell? ⟨N, 0, none⟩ = some (.int .i64 0) := Y.out.cell 0; have y1 : w5.cell? ⟨N, 1, none⟩ = some (.int .i64 0) := Y.out.cell 1; have y2 : w5.cell? ⟨N, 2, none⟩ = some (.slice none 0 0) := Y.out.cell 2; have y3 : w5.cell? ⟨N, 3, none⟩ = some (.slice none 0 0) := Y.out.cell 3
          have z0 := Y.out.frozen 0; have z1 := Y.out.frozen 1; have z2 := Y.out.frozen 2; have z3 := Y.out.frozen 3
          go_wp2_with (go_at_call 112; refine KE.out.mono ?_; rintro x w' ⟨rfl, rfl⟩)
          (try simp only [Exit.inBlock, Exit.then])
          refine bodyPost_ret (results_row_tmp rfl _ _ N 59 #[.int .i64 s8.1, .int .i64 s2.1, .slice A4 m4 c4, .slice A5 m5 c5] (0, 0) _ rfl P2.out Tryz.underlying59 rfl canswer_size) rfl ?_
          exact ⟨0, s8.1, s2.1, A4, m4, c4, a2.1, A5, m5, c5, a4.1, rfl, HM4.out, HC4.out, HM5.out, HC5.out, RC.out.bar PB.out (fun x hx => .inr (fun o ho => by rw [List.mem_singleton] at hx; subst hx; exact AN.out o ho)), RC5.out.bar PB.out (fun x hx => .inr (fun o ho => by rw [List.mem_singleton] at hx; subst hx; exact AN5.out o ho)), OK.out, DB.out, BE.out⟩
        · have h1 : (e0 != 0) = true := by simpa using h0
          have DB := Kept.mk (DN.out (fun h => h0 (DI.out.1 h).2.2.2))
          clear rc hde hp hq hres hm5 hc5 he0 hnew b5 KB
          have P2 : Kept (Blk ((((w5.setCell ⟨N, 0, none⟩ (.int .i64 0)).setCell ⟨N, 1, none⟩ (.int .i64 0)).setCell ⟨N, 2, none⟩ (.slice none 0 0)).setCell ⟨N, 3, none⟩ (.slice none 0 0)) N 59 #[.int .i64 0, .int .i64 0, .slice none 0 0, .slice none 0 0]) := ⟨(Blk.set_ (Blk.set_ (Blk.set_ (Blk.set_ Y.out 0 (.int .i64 0)) 1 (.int .i64 0)) 2 (.slice none 0 0)) 3 (.slice none 0 0))⟩
          have PB : Kept (Bar [N] w5 ((((w5.setCell ⟨N, 0, none⟩ (.int .i64 0)).setCell ⟨N, 1, none⟩ (.int .i64 0)).setCell ⟨N, 2, none⟩ (.slice none 0 0)).setCell ⟨N, 3, none⟩ (.slice none 0 0))) := ⟨(Bar.setCell (Bar.setCell (Bar.setCell (Bar.setCell (Bar.refl [N] w5) (p := ⟨N, 0, none⟩) (.inl (by simp)) (.int .i64 0)) (p := ⟨N, 1, none⟩) (.inl (by simp)) (.int .i64 0)) (p := ⟨N, 2, none⟩) (.inl (by simp)) (.slice none 0 0)) (p := ⟨N, 3, none⟩) (.inl (by simp)) (.slice none 0 0))⟩
          have BE : Kept (Below w.heap.size w ((((w5.setCell ⟨N, 0, none⟩ (.int .i64 0)).setCell ⟨N, 1, none⟩ (.int .i64 0)).setCell ⟨N, 2, none⟩ (.slice none 0 0)).setCell ⟨N, 3, none⟩ (.slice none 0 0))) := ⟨by rw [HN.out]; exact B.out.trans (PB.out.below (by have := B.out.size; have := HN.out; omega) (by simp))⟩
          have y0 : w5.cell? ⟨N, 0, none⟩ = some (.int .i64 0) := Y.out.cell 0; have y1 : w5.cell? ⟨N, 1, none⟩ = some (.int .i64 0) := Y.out.cell 1; have y2 : w5.cell? ⟨N, 2, none⟩ = some (.slice none 0 0) := Y.out.cell 2; have y3 : w5.cell? ⟨N, 3, none⟩ = some (.slice none 0 0) := Y.out.cell 3
          have z0 := Y.out.frozen 0; have z1 := Y.out.frozen 1; have z2 := Y.out.frozen 2; have z3 := Y.out.frozen 3
          go_wp2_with (go_at_call 112; refine KE.out.mono ?_; rintro x w' ⟨rfl, rfl⟩)
          (try simp only [Exit.inBlock, Exit.then])
          refine bodyPost_ret (results_row_tmp rfl _ _ N 59 #[.int .i64 0, .int .i64 0, .slice none 0 0, .slice none 0 0] (0, 0) _ rfl P2.out Tryz.underlying59 rfl canswer_size) rfl ?_
          exact ⟨2, 0, 0, none, 0, 0, [], none, 0, 0, [], rfl, Nat.le_refl _, by omega, Nat.le_refl _, by omega, Rc.nil, Rc.nil, by simp, DB.out, BE.out⟩
  · rw [decide_eq_false hc] at KT
    have DB := Kept.mk (DN.out (fun h => hc (DI.out.1 h).1))
    clear KA
    have P2 : Kept (Blk ((((w3.setCell ⟨N, 0, none⟩ (.int .i64 0)).setCell ⟨N, 1, none⟩ (.int .i64 0)).setCell ⟨N, 2, none⟩ (.slice none 0 0)).setCell ⟨N, 3, none⟩ (.slice none 0 0)) N 59 #[.int .i64 0, .int .i64 0, .slice none 0 0, .slice none 0 0]) := ⟨(Blk.set_ (Blk.set_ (Blk.set_ (Blk.set_ Y.out 0 (.int .i64 0)) 1 (.int .i64 0)) 2 (.slice none 0 0)) 3 (.slice none 0 0))⟩
    have PB : Kept (Bar [N] w3 ((((w3.setCell ⟨N, 0, none⟩ (.int .i64 0)).setCell ⟨N, 1, none⟩ (.int .i64 0)).setCell ⟨N, 2, none⟩ (.slice none 0 0)).setCell ⟨N, 3, none⟩ (.slice none 0 0))) := ⟨(Bar.setCell (Bar.setCell (Bar.setCell (Bar.setCell (Bar.refl [N] w3) (p := ⟨N, 0, none⟩) (.inl (by simp)) (.int .i64 0)) (p := ⟨N, 1, none⟩) (.inl (by simp)) (.int .i64 0)) (p := ⟨N, 2, none⟩) (.inl (by simp)) (.slice none 0 0)) (p := ⟨N, 3, none⟩) (.inl (by simp)) (.slice none 0 0))⟩
    have BE : Kept (Below w.heap.size w ((((w3.setCell ⟨N, 0, none⟩ (.int .i64 0)).setCell ⟨N, 1, none⟩ (.int .i64 0)).setCell ⟨N, 2, none⟩ (.slice none 0 0)).setCell ⟨N, 3, none⟩ (.slice none 0 0))) := ⟨by rw [HN.out]; exact B.out.trans (PB.out.below (by have := B.out.size; have := HN.out; omega) (by simp))⟩
    have y0 : w3.cell? ⟨N, 0, none⟩ = some (.int .i64 0) := Y.out.cell 0; have y1 : w3.cell? ⟨N, 1, none⟩ = some (.int .i64 0) := Y.out.cell 1; have y2 : w3.cell? ⟨N, 2, none⟩ = some (.slice none 0 0) := Y.out.cell 2; have y3 : w3.cell? ⟨N, 3, none⟩ = some (.slice none 0 0) := Y.out.cell 3
    have z0 := Y.out.frozen 0; have z1 := Y.out.frozen 1; have z2 := Y.out.frozen 2; have z3 := Y.out.frozen 3
    go_wp2_with (go_at_call 69; refine (KT.out _).mono ?_; rintro x w' ⟨rfl, rfl⟩)
    (try simp only [Exit.inBlock, Exit.then])
    refine bodyPost_ret (results_row_tmp rfl _ _ N 59 #[.int .i64 0, .int .i64 0, .slice none 0 0, .slice none 0 0] (0, 0) _ rfl P2.out Tryz.underlying59 rfl canswer_size) rfl ?_
    exact ⟨2, 0, 0, none, 0, 0, [], none, 0, 0, [], rfl, Nat.le_refl _, by omega, Nat.le_refl _, by omega, Rc.nil, Rc.nil, by simp, DB.out, BE.out⟩
end Go.Proofs.YtchcgoabogcabaaGreat.Req
