/-
  The document's desk: Put.
-/
import Derived.Test.YthhjmbbfibgjpaaTakesW
import Derived.Test.YthhjmbbfibgjpaaTradeRQ
import Derived.Test.YthhjmbbfibgjpaaLastsVia
import Derived.Test.YthhjmbbfibgjpaaTakesW
import Derived.Deep.AppendLies
import Derived.StillTailTactics
namespace Go.Proofs.Ythhjmbbfibgjpaa.Trade
open Go.RowKit Go.Proofs.Ythhjmbbfibgjpaa.Sha

section
variable {N x : Nat} {F : List Nat} {w : World} {p c a : Int} {C : List CV}
set_option maxRecDepth 100000 in
set_option maxHeartbeats 8000000 in
theorem rput_any (who : Int) (t : TV) (h : Rk F N w x p c a C) (hC : Okc C) : Calls Try.prog 13 #[.pointer (some ⟨x, 0, none⟩), .int .i64 who, tvV t] w (RPutP F N x p c a (putE p c a C who t) (putC p c a C who t) w) := by
  have hfew := hC.few
  obtain ⟨er, her⟩ : ∃ z, putE p c a C who t = z := ⟨_, rfl⟩
  obtain ⟨C2, hC2⟩ : ∃ z, putC p c a C who t = z := ⟨_, rfl⟩
  rw [her, hC2]
  unfold putC at hC2
  rw [her] at hC2
  unfold putE at her
  have KE : Kept (er ≠ 0 → ∀ w', Below w.heap.size w w' → Rk F N w' x p c a C2 ∧ Fp F F w w') := ⟨fun hz w' bb => by rw [if_neg hz] at hC2; subst hC2; exact ⟨h.below bb, barOf bb _, fun _ h => .inl h⟩⟩
  have KL : Kept (er = 0 → C2 = C ++ [⟨who, t⟩]) := ⟨fun h => by rw [if_pos h] at hC2; exact hC2.symm⟩
  obtain ⟨w1, hw1⟩ : ∃ z, w.alloc (.cells (tvC t).toArray 33) = z := ⟨_, rfl⟩
  obtain ⟨M, hM⟩ : ∃ z, w.heap.size = z := ⟨_, rfl⟩
  have b1 : Below w.heap.size w w1 := hw1 ▸ (Below.refl _ _).alloc (Nat.le_refl _) _
  have Y : Kept (Blk w1 M 33 (tvC t).toArray) := ⟨hw1 ▸ Blk.new_at w _ _ _ hM.symm⟩
  have HMF : Kept (∀ k ∈ F, k ≠ M) := ⟨fun k hk => by have := (h.lt k hk).2; omega⟩
  have h1 := h.below b1
  obtain ⟨u, v, X, hF⟩ := h1
  obtain ⟨Av, cv, rfl, hcv1, hcv2, RV⟩ := X.rc
  obtain ⟨Au, cu, rfl⟩ := own_shape X.who
  have MF : Kept (M ∉ (Value.slice Av C.length cv).ownBlock.toList) := ⟨fun hm => HMF.out M (by rw [hF]; simp only [List.mem_cons, List.mem_append]; exact .inr (.inr hm)) rfl⟩
  have CM := rmay_any t p c a w1.drew
  have FB : Kept (Below w.heap.size w w1) := ⟨b1⟩
  have HF := Kept.mk hF
  have XU : Kept (∀ w2, Below w1.heap.size w1 w2 → Rv N w2 x p c a (.slice Au C.length cu) (.slice Av C.length cv) C) := ⟨fun w2 bb => X.below bb⟩
  have RCU : Kept (∀ w2, Below w1.heap.size w1 w2 → Rc tvC 7 w2 Av C.length (tr C)) := ⟨fun w2 bb => RV.below bb⟩
  obtain ⟨t1, t2, t3, t4, t5, t6, t7⟩ := t
  unfold tvV at CM ⊢
  unfold tvC at hw1 Y
  dsimp only at hw1 Y CM ⊢
  have m0 : w1.cell? ⟨M, 0, none⟩ = some (.int .i64 t1) := Y.out.cell 0
  have m1 : w1.cell? ⟨M, 1, none⟩ = some (.int .i64 t2) := Y.out.cell 1
  have m2 : w1.cell? ⟨M, 2, none⟩ = some (.int .i64 t3) := Y.out.cell 2
  have m3 : w1.cell? ⟨M, 3, none⟩ = some (.int .i64 t4) := Y.out.cell 3
  have m4 : w1.cell? ⟨M, 4, none⟩ = some (.int .i64 t5) := Y.out.cell 4
  have m5 : w1.cell? ⟨M, 5, none⟩ = some (.int .i64 t6) := Y.out.cell 5
  have m6 : w1.cell? ⟨M, 6, none⟩ = some (.int .i64 t7) := Y.out.cell 6
  have c0 : w1.cell? ⟨x, 0, none⟩ = some (.int .i64 p) := X.blk.cell 0
  have c1 : w1.cell? ⟨x, 1, none⟩ = some (.int .i64 c) := X.blk.cell 1
  have c2 : w1.cell? ⟨x, 2, none⟩ = some (.int .i64 a) := X.blk.cell 2
  clear b1 X hF h hC hC2 RV HMF
  generalize mayE ⟨t1, t2, t3, t4, t5, t6, t7⟩ p c a = me at *
  replace CM := Kept.mk CM
  by_cases hme : me = 0
  · subst hme
    rw [if_pos rfl] at her
    have SB := sideB_cases who ⟨t1, t2, t3, t4, t5, t6, t7⟩
    go_enter Try.func13, Try.ntmps13
    go_upto_region 1 with (fail)
    refine wp_region_still_tail 13 (by kernel_rfl) (by kernel_rfl) ?_
    simp only [List.take_succ_cons, List.take_zero, List.drop_succ_cons, List.drop_zero]
    repeat still_step
    refine wpStill_nil ?_
    change wpList _ _ _ _ _ w1.drew
    go_wp2_with fail
    refine CM.out.mono ?_
    rintro e w2 ⟨rfl, b2⟩
    replace b2 : Below w1.heap.size w1 w2 := ⟨b2.os, b2.tape, b2.output, b2.size, b2.block⟩
    have B2 := Kept.mk b2
    have Y2 := Kept.mk (Y.out.below b2 Y.out.lt)
    clear b2 CM m0 m1 m2 m3 m4 m5 m6 c0 c1 c2
    have m0 : w2.cell? ⟨M, 0, none⟩ = some (.int .i64 t1) := Y2.out.cell 0
    have m1 : w2.cell? ⟨M, 1, none⟩ = some (.int .i64 t2) := Y2.out.cell 1
    have m2 : w2.cell? ⟨M, 2, none⟩ = some (.int .i64 t3) := Y2.out.cell 2
    rcases SB with ⟨q1, q2, hs⟩ | ⟨q1, hs⟩ | ⟨q1, q2, hs⟩
    · rw [hs, if_neg (by decide)] at her
      subst her
      have PE := Kept.mk (KE.out (by decide) w2 (FB.out.trans (B2.out.mono FB.out.size)))
      clear KE KL
      go_wp2
      go_ret
      exact ⟨F, rfl, PE.out⟩
    · rw [hs, if_pos rfl] at her
      obtain ⟨hwu, cwu, rwho⟩ := own_ri (XU.out w2 B2.out).who
      have WH := Kept.mk rwho
      have RC := Kept.mk (RCU.out w2 B2.out)
      have XW2 := Kept.mk (XU.out w2 B2.out)
      replace Y2 := Kept.mk Y2.out
      clear rwho cwu
      go_wp2
      go_loopw [8] (fun i wr => ∃ k : Nat, k ≤ C.length ∧ i = .int .i64 k ∧ Kept (hasC (C.take k) who t1 = false) ∧ Kept (Below w2.heap.size w2 wr)) (fun i _ => C.length - (Go.RowKit.intOf i).toNat)
      case atStart => exact ⟨0, by omega, rfl, ⟨by simp [hasC]⟩, ⟨Below.refl _ _⟩⟩
      case round =>
        clear m0 m1 m2
        obtain ⟨k, hk, rfl, HN, B3⟩ := hrel
        have BW := Kept.mk (B2.out.trans (B3.out.mono B2.out.size))
        have XW := Kept.mk (XW2.out.below B3.out)
        have YW := Kept.mk (Y2.out.below B3.out Y2.out.lt)
        have x3 : wr.cell? ⟨x, 3, none⟩ = some (.slice Au C.length cu) := XW.out.blk.cell 3
        have x4 : wr.cell? ⟨x, 4, none⟩ = some (.slice Av C.length cv) := XW.out.blk.cell 4
        have m0 : wr.cell? ⟨M, 0, none⟩ = some (.int .i64 t1) := YW.out.cell 0
        by_cases hkn : k < C.length
        · have hkn' : (k : Int) < C.length := by omega
          obtain ⟨g, o, u, rfl, hu, hc⟩ := (RC.out.below B3.out).at_ hkn
          obtain ⟨gw, ow, rfl, hcw⟩ := (WH.out.below B3.out).2.resolve_left (by omega)
          obtain ⟨z, hz⟩ : ∃ z, C[k]? = some z := ⟨_, List.getElem?_eq_getElem hkn⟩
          have hzu : u = z.t := by
            have : (tr C)[k]? = some z.t := by unfold tr; rw [List.getElem?_map, hz]; rfl
            rw [this] at hu
            injection hu with hu
            exact hu.symm
          subst hzu
          have c0 : wr.cell? ⟨g, o + k * 7, none⟩ = some (.int .i64 z.t.id) := hc 0 _ rfl
          have w0 : wr.cell? ⟨gw, ow + k, none⟩ = some (.int .i64 z.who) := by
            have := hcw k hkn
            rw [this]
            congr 2
            have e2 : (C.map CV.who)[k]? = some z.who := by rw [List.getElem?_map, hz]; rfl
            rw [at_eq (by rw [List.length_map]; exact hkn)] at e2
            injection e2
          have HT := Kept.mk (has_take (who := who) (id := t1) hz)
          rw [HN.out, Bool.false_or] at HT
          have HY : Kept (z.who = who → z.t.id = t1 → hasC C who t1 = true) := ⟨has_yes hz⟩
          clear hc hcw hz hu
          generalize z.who = zw at *
          generalize z.t.id = zi at *
          clear z
          by_cases q3 : zw = who
          · by_cases q4 : zi = t1
            · have h3 : (zw == who) = true := by simpa using q3
              have h4 : (zi == t1) = true := by simpa using q4
              rw [if_pos (HY.out q3 q4)] at her
              subst her
              have PE := Kept.mk (KE.out (by decide) (wr.drewN 0) (FB.out.trans (BW.out.mono FB.out.size)))
              have PB := Kept.mk (FB.out.trans (BW.out.mono FB.out.size))
              clear q3 q4 HY HT HN PE
              go_upto_region 9 with (fail)
              go_quiet (fail)
              go_wp2
              go_ret
              exact ⟨F, rfl, KE.out (by decide) _ (below_drewN PB.out _)⟩
            · have h3 : (zw == who) = true := by simpa using q3
              have h4 : (zi == t1) = false := by simpa using q4
              have HN2 : Kept (hasC (C.take (k + 1)) who t1 = false) := ⟨by rw [HT.out]; simp [q4]⟩
              clear q3 q4 HY HT HN
              go_upto_region 9 with (fail)
              go_quiet (fail)
              go_wp2
              go_roundw
              case rel => exact ⟨k + 1, by omega, by go_num, HN2, ⟨below_drewN B3.out _⟩⟩
              case measure => simp only [Go.RowKit.intOf]; omega
          · have h3 : (zw == who) = false := by simpa using q3
            have HN2 : Kept (hasC (C.take (k + 1)) who t1 = false) := ⟨by rw [HT.out]; simp [q3]⟩
            clear q3 HY HT HN
            go_upto_region 9 with (fail)
            go_quiet (fail)
            go_wp2
            go_roundw
            case rel => exact ⟨k + 1, by omega, by go_num, HN2, ⟨below_drewN B3.out _⟩⟩
            case measure => simp only [Go.RowKit.intOf]; omega
        · have hkn' : ¬ (k : Int) < C.length := by omega
          obtain rfl : k = C.length := by omega
          have hh : ¬ hasC C who t1 = true := by have := HN.out; rw [List.take_length] at this; rw [this]; decide
          rw [if_neg hh] at her
          clear hh HN
          by_cases hl : C.length = 400
          · rw [if_pos hl] at her
            subst her
            have hl' : (400 : Int) ≤ C.length := by omega
            have PE := Kept.mk (KE.out (by decide) wr (FB.out.trans (BW.out.mono FB.out.size)))
            clear KE KL hl
            go_wp2
            go_ret
            exact ⟨F, rfl, PE.out⟩
          · rw [if_neg hl] at her
            subst her
            have hl' : ¬ (400 : Int) ≤ C.length := by omega
            clear KE
            go_upto_region 13 with (fail)
            have CS : ∀ {z : World} {uu vv : Value} {k : List Int} {l : List TV}, QS N w z x M p c a ⟨t1, t2, t3, t4, t5, t6, t7⟩ (.slice Au C.length cu) (.slice Av C.length cv) uu vv k l → (fun z : World => z.cell? ⟨x, 3, none⟩ = some (.slice Au C.length cu) ∧ z.cell? ⟨x, 4, none⟩ = some (.slice Av C.length cv) ∧ z.cell? ⟨M, 0, none⟩ = some (.int .i64 t1) ∧ z.cell? ⟨M, 1, none⟩ = some (.int .i64 t2) ∧ z.cell? ⟨M, 2, none⟩ = some (.int .i64 t3) ∧ z.cell? ⟨M, 3, none⟩ = some (.int .i64 t4) ∧ z.cell? ⟨M, 4, none⟩ = some (.int .i64 t5) ∧ z.cell? ⟨M, 5, none⟩ = some (.int .i64 t6) ∧ z.cell? ⟨M, 6, none⟩ = some (.int .i64 t7)) z := fun q => ⟨q.blk.cell 3, q.blk.cell 4, q.box.cell 0, q.box.cell 1, q.box.cell 2, q.box.cell 3, q.box.cell 4, q.box.cell 5, q.box.cell 6⟩
            refine wp_region_noPanic ?_
            have Q : Kept (QS N w wr.drew x M p c a ⟨t1, t2, t3, t4, t5, t6, t7⟩ (.slice Au C.length cu) (.slice Av C.length cv) (.slice Au C.length cu) (.slice Av C.length cv) (C.map CV.who) (tr C)) :=
              ⟨⟨XW.out.blk.drew, by rw [List.length_map]; exact XW.out.who.drew, by rw [tr_len]; exact XW.out.row.drew, YW.out.drew, MF.out, barOf (FB.out.trans (BW.out.mono FB.out.size)).drew _, fun _ h => .inl h, fun _ h => .inl h, XW.out.least⟩⟩
            refine wp_region_W [18, 21] (S := fun z : World => z.cell? ⟨x, 3, none⟩ = some (.slice Au C.length cu) ∧ z.cell? ⟨x, 4, none⟩ = some (.slice Av C.length cv) ∧ z.cell? ⟨M, 0, none⟩ = some (.int .i64 t1) ∧ z.cell? ⟨M, 1, none⟩ = some (.int .i64 t2) ∧ z.cell? ⟨M, 2, none⟩ = some (.int .i64 t3) ∧ z.cell? ⟨M, 3, none⟩ = some (.int .i64 t4) ∧ z.cell? ⟨M, 4, none⟩ = some (.int .i64 t5) ∧ z.cell? ⟨M, 5, none⟩ = some (.int .i64 t6) ∧ z.cell? ⟨M, 6, none⟩ = some (.int .i64 t7)) (by kernel_rfl) (CS Q.out) (fun hS0 => ?_)
            generalize wr.drew = wd at *
            refine frW 0 (fun _ => by assumption) ?_
            simp only [Act.put, List.setIfInBounds_toArray, List.set_cons_zero, List.set_cons_succ]
            refine frW 1 (fun _ => by assumption) ?_
            simp only [Act.put, List.setIfInBounds_toArray, List.set_cons_zero, List.set_cons_succ]
            refine frW 2 (fun _ => by assumption) ?_
            simp only [Act.put, List.setIfInBounds_toArray, List.set_cons_zero, List.set_cons_succ]
            refine frW 3 (fun _ => by assumption) ?_
            simp only [Act.put, List.setIfInBounds_toArray, List.set_cons_zero, List.set_cons_succ]
            refine frW 4 (fun _ => by assumption) ?_
            simp only [Act.put, List.setIfInBounds_toArray, List.set_cons_zero, List.set_cons_succ]
            refine tkW 5 (by assumption) ?_
            simp only [Act.put, List.setIfInBounds_toArray, List.set_cons_zero, List.set_cons_succ]
            refine frW 6 (fun _ => by assumption) ?_
            simp only [Act.put, List.setIfInBounds_toArray, List.set_cons_zero, List.set_cons_succ]
            refine frW 9 (fun _ => by assumption) ?_
            simp only [Act.put, List.setIfInBounds_toArray, List.set_cons_zero, List.set_cons_succ]
            refine frW 10 (fun _ => by assumption) ?_
            simp only [Act.put, List.setIfInBounds_toArray, List.set_cons_zero, List.set_cons_succ]
            refine frW 11 (fun _ => by assumption) ?_
            simp only [Act.put, List.setIfInBounds_toArray, List.set_cons_zero, List.set_cons_succ]
            refine tkW 12 (by assumption) ?_
            simp only [Act.put, List.setIfInBounds_toArray, List.set_cons_zero, List.set_cons_succ]
            refine tkV 13 [14, 15] (by assumption) ?_
            simp only [Act.put, List.setIfInBounds_toArray, List.set_cons_zero, List.set_cons_succ]
            refine ldW2 7 14 (fun K hK => ?_) (fun K hK => ?_)
            · go_simp
              have bb : Below wd.heap.size wd (wd.alloc (.cells #[.int .i64 who] 3)) := (Below.refl _ _).alloc (Nat.le_refl _) _
              have R7 := Kept.mk (Blk.new wd 3 #[.int .i64 who])
              replace Q := Kept.mk (Q.out.below bb)
              have hS1 := CS Q.out
              refine hK.out _ _ (fun _ => hS1) (fun _ => ?_)
              clear hS0
              have hS0 := hS1
              clear hS1
              clear hK K
              try simp only [Act.put, List.setIfInBounds_toArray, List.set_cons_zero, List.set_cons_succ]
              clear bb
              generalize wd.alloc (.cells #[.int .i64 who] 3) = w4 at *
              generalize wd.heap.size = gB at *
              refine ldW2 8 14 (fun K hK => ?_) (fun K hK => ?_)
              · have hNs : N ≤ w4.heap.size := Nat.le_trans Q.out.low (Nat.le_of_lt Q.out.blk.lt)
                have ow := Q.out.who
                rw [List.length_map] at ow
                refine step_append_ri rfl (.tmp 78) (.tmp 80) 38 (by rfl) N 3 Try.underlying38 info_int (.slice Au C.length cu) _ _ (by rfl) ow (some ⟨gB, 0, none⟩) 1 1 _ (by rfl) (Ri.blk (xs := [who]) R7.out rfl) (by omega) hNs ?_
                intro v8 w5 o8 g8 b8 a8
                obtain ⟨A8, c8, rfl⟩ := own_shape o8.out
                replace Q := Kept.mk (Q.out.appU (q := who) g8 (by rw [List.length_map]; exact o8.out) a8)
                have hS1 := CS Q.out
                refine hK.out _ _ (fun _ => hS1) (fun _ => ?_)
                clear hS0
                have hS0 := hS1
                clear hS1
                clear hK K
                try simp only [Act.put, List.setIfInBounds_toArray, List.set_cons_zero, List.set_cons_succ]
                clear o8 g8 b8 a8 ow hNs R7
                refine ldW 14 (fun K hK => ?_)
                go_simp
                have bb : Below w5.heap.size w5 (w5.alloc (.cells #[.int .i64 t1, .int .i64 t2, .int .i64 t3, .int .i64 t4, .int .i64 t5, .int .i64 t6, .int .i64 t7] 33)) := (Below.refl _ _).alloc (Nat.le_refl _) _
                have R14 := Kept.mk (Blk.new w5 33 #[.int .i64 t1, .int .i64 t2, .int .i64 t3, .int .i64 t4, .int .i64 t5, .int .i64 t6, .int .i64 t7])
                replace Q := Kept.mk (Q.out.below bb)
                have hS1 := CS Q.out
                refine hK.out _ _ (fun _ => hS1) (fun _ => ?_)
                clear hS0
                have hS0 := hS1
                clear hS1
                clear hK K
                try simp only [Act.put, List.setIfInBounds_toArray, List.set_cons_zero, List.set_cons_succ]
                clear bb
                generalize w5.alloc (.cells #[.int .i64 t1, .int .i64 t2, .int .i64 t3, .int .i64 t4, .int .i64 t5, .int .i64 t6, .int .i64 t7] 33) = w6 at *
                generalize w5.heap.size = gC at *
                refine ldW 15 (fun K hK => ?_)
                have hNs : N ≤ w6.heap.size := Nat.le_trans Q.out.low (Nat.le_of_lt Q.out.blk.lt)
                have ow := Q.out.row
                rw [tr_len] at ow
                have NW := World.news_of_block (cs := #[.int .i64 t1, .int .i64 t2, .int .i64 t3, .int .i64 t4, .int .i64 t5, .int .i64 t6, .int .i64 t7]) (t := 33) (fr := (0, 0)) R14.out
                obtain ⟨iu, hi, hz0, hz1, hz2⟩ := info_parts info_tv
                refine step_append_lies _ (by rfl) _ _ _ (by rfl) N 33 iu (tvV zeroT) 7 56 Try.underlying39 hi hz0 hz1 hz2 rfl (by omega) (.slice Av C.length cv) C.length ((tr C).flatMap tvC) (by rfl) ow
                  ⟨gC, 0, none⟩ 1 1 (tvC ⟨t1, t2, t3, t4, t5, t6, t7⟩) (by rfl) (by rfl) NW (tvC_one _) (by omega) (by unfold maxLen; omega) (by omega) hNs w6.heap.size rfl ?_
                intro gg cg w7 hown hgrow hat hlt
                replace Q := Kept.mk (Q.out.appV (t' := ⟨t1, t2, t3, t4, t5, t6, t7⟩) (vv' := .slice (some ⟨gg, 0, none⟩) (C.length + 1) cg) hgrow (by rw [tr_len]; exact hown) (hat.imp (fun h => h.symm) (fun h => by rw [h]; rfl)))
                have hS1 := CS Q.out
                refine hK.out _ _ (fun _ => hS1) (fun _ => ?_)
                clear hS0
                have hS0 := hS1
                clear hS1
                clear hK K
                try simp only [Act.put, List.setIfInBounds_toArray, List.set_cons_zero, List.set_cons_succ]
                clear hown hgrow hat hlt ow hNs NW hi hz0 hz1 hz2 R14
                have f3 := Q.out.blk.frozen 3; have f4 := Q.out.blk.frozen 4
                have x3 : w7.cell? ⟨x, 3, none⟩ = some (.slice Au C.length cu) := Q.out.blk.cell 3
                have x4 : w7.cell? ⟨x, 4, none⟩ = some (.slice Av C.length cv) := Q.out.blk.cell 4
                refine ldW 16 (fun K hK => ?_)
                go_simp
                refine hK.out _ _ (fun _ => hS0) (fun _ => ?_)
                clear hK K
                try simp only [Act.put, List.setIfInBounds_toArray, List.set_cons_zero, List.set_cons_succ]
                refine ldW 17 (fun K hK => ?_)
                go_simp
                refine hK.out _ _ (fun _ => hS0) (fun _ => ?_)
                clear hK K
                try simp only [Act.put, List.setIfInBounds_toArray, List.set_cons_zero, List.set_cons_succ]
                refine ldW 18 (fun K hK => ?_)
                go_simp
                refine hK.out _ _ (late_come (by kernel_rfl)) (fun _ => ?_)
                clear hK K
                try simp only [Act.put]
                refine ldW 19 (fun K hK => ?_)
                go_simp
                refine hK.out _ _ (late_come (by kernel_rfl)) (fun _ => ?_)
                clear hK K
                try simp only [Act.put, List.setIfInBounds_toArray, List.set_cons_zero, List.set_cons_succ]
                refine ldW 20 (fun K hK => ?_)
                go_simp
                refine hK.out _ _ (late_come (by kernel_rfl)) (fun _ => ?_)
                clear hK K
                try simp only [Act.put, List.setIfInBounds_toArray, List.set_cons_zero, List.set_cons_succ]
                refine ldW 21 (fun K hK => ?_)
                go_simp
                refine hK.out _ _ (late_come (by kernel_rfl)) (fun _ => ?_)
                clear hK K
                try simp only [Act.put]
                refine wpAnyW_done (by kernel_rfl) ?_ _
                refine NoPanic.normal ?_
                have FI := Kept.mk (Q.out.fin (C := C2) (by rw [KL.out (by simp)]; simp) (by rw [KL.out (by simp)]; simp [tr]))
                clear Q f3 f4 x3 x4 hS0
                go_wp2
                go_ret
                exact ⟨_, rfl, FI.out.1, HF.out ▸ FI.out.2⟩
              · go_simp
                have bb : Below w4.heap.size w4 (w4.alloc (.cells #[.int .i64 t1, .int .i64 t2, .int .i64 t3, .int .i64 t4, .int .i64 t5, .int .i64 t6, .int .i64 t7] 33)) := (Below.refl _ _).alloc (Nat.le_refl _) _
                have R14 := Kept.mk (Blk.new w4 33 #[.int .i64 t1, .int .i64 t2, .int .i64 t3, .int .i64 t4, .int .i64 t5, .int .i64 t6, .int .i64 t7])
                replace Q := Kept.mk (Q.out.below bb)
                replace R7 := Kept.mk (R7.out.below bb R7.out.lt)
                have hS1 := CS Q.out
                refine hK.out _ _ (fun _ => hS1) (fun _ => ?_)
                clear hS0
                have hS0 := hS1
                clear hS1
                clear hK K
                try simp only [Act.put, List.setIfInBounds_toArray, List.set_cons_zero, List.set_cons_succ]
                clear bb
                generalize w4.alloc (.cells #[.int .i64 t1, .int .i64 t2, .int .i64 t3, .int .i64 t4, .int .i64 t5, .int .i64 t6, .int .i64 t7] 33) = w5 at *
                generalize w4.heap.size = gC at *
                refine ldW 8 (fun K hK => ?_)
                have hNs : N ≤ w5.heap.size := Nat.le_trans Q.out.low (Nat.le_of_lt Q.out.blk.lt)
                have ow := Q.out.who
                rw [List.length_map] at ow
                refine step_append_ri rfl (.tmp 78) (.tmp 80) 38 (by rfl) N 3 Try.underlying38 info_int (.slice Au C.length cu) _ _ (by rfl) ow (some ⟨gB, 0, none⟩) 1 1 _ (by rfl) (Ri.blk (xs := [who]) R7.out rfl) (by omega) hNs ?_
                intro v8 w6 o8 g8 b8 a8
                obtain ⟨A8, c8, rfl⟩ := own_shape o8.out
                replace R14 := Kept.mk (R14.out.grown g8 (fun he => own_far Q.out.who R14.out (by decide) he.symm))
                replace Q := Kept.mk (Q.out.appU (q := who) g8 (by rw [List.length_map]; exact o8.out) a8)
                have hS1 := CS Q.out
                refine hK.out _ _ (fun _ => hS1) (fun _ => ?_)
                clear hS0
                have hS0 := hS1
                clear hS1
                clear hK K
                try simp only [Act.put, List.setIfInBounds_toArray, List.set_cons_zero, List.set_cons_succ]
                clear o8 g8 b8 a8 ow hNs R7
                refine ldW 15 (fun K hK => ?_)
                have hNs : N ≤ w6.heap.size := Nat.le_trans Q.out.low (Nat.le_of_lt Q.out.blk.lt)
                have ow := Q.out.row
                rw [tr_len] at ow
                have NW := World.news_of_block (cs := #[.int .i64 t1, .int .i64 t2, .int .i64 t3, .int .i64 t4, .int .i64 t5, .int .i64 t6, .int .i64 t7]) (t := 33) (fr := (0, 0)) R14.out
                obtain ⟨iu, hi, hz0, hz1, hz2⟩ := info_parts info_tv
                refine step_append_lies _ (by rfl) _ _ _ (by rfl) N 33 iu (tvV zeroT) 7 56 Try.underlying39 hi hz0 hz1 hz2 rfl (by omega) (.slice Av C.length cv) C.length ((tr C).flatMap tvC) (by rfl) ow
                  ⟨gC, 0, none⟩ 1 1 (tvC ⟨t1, t2, t3, t4, t5, t6, t7⟩) (by rfl) (by rfl) NW (tvC_one _) (by omega) (by unfold maxLen; omega) (by omega) hNs w6.heap.size rfl ?_
                intro gg cg w7 hown hgrow hat hlt
                replace Q := Kept.mk (Q.out.appV (t' := ⟨t1, t2, t3, t4, t5, t6, t7⟩) (vv' := .slice (some ⟨gg, 0, none⟩) (C.length + 1) cg) hgrow (by rw [tr_len]; exact hown) (hat.imp (fun h => h.symm) (fun h => by rw [h]; rfl)))
                have hS1 := CS Q.out
                refine hK.out _ _ (fun _ => hS1) (fun _ => ?_)
                clear hS0
                have hS0 := hS1
                clear hS1
                clear hK K
                try simp only [Act.put, List.setIfInBounds_toArray, List.set_cons_zero, List.set_cons_succ]
                clear hown hgrow hat hlt ow hNs NW hi hz0 hz1 hz2 R14
                have f3 := Q.out.blk.frozen 3; have f4 := Q.out.blk.frozen 4
                have x3 : w7.cell? ⟨x, 3, none⟩ = some (.slice Au C.length cu) := Q.out.blk.cell 3
                have x4 : w7.cell? ⟨x, 4, none⟩ = some (.slice Av C.length cv) := Q.out.blk.cell 4
                refine ldW 16 (fun K hK => ?_)
                go_simp
                refine hK.out _ _ (fun _ => hS0) (fun _ => ?_)
                clear hK K
                try simp only [Act.put, List.setIfInBounds_toArray, List.set_cons_zero, List.set_cons_succ]
                refine ldW 17 (fun K hK => ?_)
                go_simp
                refine hK.out _ _ (fun _ => hS0) (fun _ => ?_)
                clear hK K
                try simp only [Act.put, List.setIfInBounds_toArray, List.set_cons_zero, List.set_cons_succ]
                refine ldW 18 (fun K hK => ?_)
                go_simp
                refine hK.out _ _ (late_come (by kernel_rfl)) (fun _ => ?_)
                clear hK K
                try simp only [Act.put]
                refine ldW 19 (fun K hK => ?_)
                go_simp
                refine hK.out _ _ (late_come (by kernel_rfl)) (fun _ => ?_)
                clear hK K
                try simp only [Act.put, List.setIfInBounds_toArray, List.set_cons_zero, List.set_cons_succ]
                refine ldW 20 (fun K hK => ?_)
                go_simp
                refine hK.out _ _ (late_come (by kernel_rfl)) (fun _ => ?_)
                clear hK K
                try simp only [Act.put, List.setIfInBounds_toArray, List.set_cons_zero, List.set_cons_succ]
                refine ldW 21 (fun K hK => ?_)
                go_simp
                refine hK.out _ _ (late_come (by kernel_rfl)) (fun _ => ?_)
                clear hK K
                try simp only [Act.put]
                refine wpAnyW_done (by kernel_rfl) ?_ _
                refine NoPanic.normal ?_
                have FI := Kept.mk (Q.out.fin (C := C2) (by rw [KL.out (by simp)]; simp) (by rw [KL.out (by simp)]; simp [tr]))
                clear Q f3 f4 x3 x4 hS0
                go_wp2
                go_ret
                exact ⟨_, rfl, FI.out.1, HF.out ▸ FI.out.2⟩
            · go_simp
              have bb : Below wd.heap.size wd (wd.alloc (.cells #[.int .i64 t1, .int .i64 t2, .int .i64 t3, .int .i64 t4, .int .i64 t5, .int .i64 t6, .int .i64 t7] 33)) := (Below.refl _ _).alloc (Nat.le_refl _) _
              have R14 := Kept.mk (Blk.new wd 33 #[.int .i64 t1, .int .i64 t2, .int .i64 t3, .int .i64 t4, .int .i64 t5, .int .i64 t6, .int .i64 t7])
              replace Q := Kept.mk (Q.out.below bb)
              have hS1 := CS Q.out
              refine hK.out _ _ (fun _ => hS1) (fun _ => ?_)
              clear hS0
              have hS0 := hS1
              clear hS1
              clear hK K
              try simp only [Act.put, List.setIfInBounds_toArray, List.set_cons_zero, List.set_cons_succ]
              clear bb
              generalize wd.alloc (.cells #[.int .i64 t1, .int .i64 t2, .int .i64 t3, .int .i64 t4, .int .i64 t5, .int .i64 t6, .int .i64 t7] 33) = w4 at *
              generalize wd.heap.size = gC at *
              refine ldW 7 (fun K hK => ?_)
              go_simp
              have bb : Below w4.heap.size w4 (w4.alloc (.cells #[.int .i64 who] 3)) := (Below.refl _ _).alloc (Nat.le_refl _) _
              have R7 := Kept.mk (Blk.new w4 3 #[.int .i64 who])
              replace Q := Kept.mk (Q.out.below bb)
              replace R14 := Kept.mk (R14.out.below bb R14.out.lt)
              have hS1 := CS Q.out
              refine hK.out _ _ (fun _ => hS1) (fun _ => ?_)
              clear hS0
              have hS0 := hS1
              clear hS1
              clear hK K
              try simp only [Act.put, List.setIfInBounds_toArray, List.set_cons_zero, List.set_cons_succ]
              clear bb
              generalize w4.alloc (.cells #[.int .i64 who] 3) = w5 at *
              generalize w4.heap.size = gB at *
              refine ldW 8 (fun K hK => ?_)
              have hNs : N ≤ w5.heap.size := Nat.le_trans Q.out.low (Nat.le_of_lt Q.out.blk.lt)
              have ow := Q.out.who
              rw [List.length_map] at ow
              refine step_append_ri rfl (.tmp 78) (.tmp 80) 38 (by rfl) N 3 Try.underlying38 info_int (.slice Au C.length cu) _ _ (by rfl) ow (some ⟨gB, 0, none⟩) 1 1 _ (by rfl) (Ri.blk (xs := [who]) R7.out rfl) (by omega) hNs ?_
              intro v8 w6 o8 g8 b8 a8
              obtain ⟨A8, c8, rfl⟩ := own_shape o8.out
              replace R14 := Kept.mk (R14.out.grown g8 (fun he => own_far Q.out.who R14.out (by decide) he.symm))
              replace Q := Kept.mk (Q.out.appU (q := who) g8 (by rw [List.length_map]; exact o8.out) a8)
              have hS1 := CS Q.out
              refine hK.out _ _ (fun _ => hS1) (fun _ => ?_)
              clear hS0
              have hS0 := hS1
              clear hS1
              clear hK K
              try simp only [Act.put, List.setIfInBounds_toArray, List.set_cons_zero, List.set_cons_succ]
              clear o8 g8 b8 a8 ow hNs R7
              refine ldW 15 (fun K hK => ?_)
              have hNs : N ≤ w6.heap.size := Nat.le_trans Q.out.low (Nat.le_of_lt Q.out.blk.lt)
              have ow := Q.out.row
              rw [tr_len] at ow
              have NW := World.news_of_block (cs := #[.int .i64 t1, .int .i64 t2, .int .i64 t3, .int .i64 t4, .int .i64 t5, .int .i64 t6, .int .i64 t7]) (t := 33) (fr := (0, 0)) R14.out
              obtain ⟨iu, hi, hz0, hz1, hz2⟩ := info_parts info_tv
              refine step_append_lies _ (by rfl) _ _ _ (by rfl) N 33 iu (tvV zeroT) 7 56 Try.underlying39 hi hz0 hz1 hz2 rfl (by omega) (.slice Av C.length cv) C.length ((tr C).flatMap tvC) (by rfl) ow
                ⟨gC, 0, none⟩ 1 1 (tvC ⟨t1, t2, t3, t4, t5, t6, t7⟩) (by rfl) (by rfl) NW (tvC_one _) (by omega) (by unfold maxLen; omega) (by omega) hNs w6.heap.size rfl ?_
              intro gg cg w7 hown hgrow hat hlt
              replace Q := Kept.mk (Q.out.appV (t' := ⟨t1, t2, t3, t4, t5, t6, t7⟩) (vv' := .slice (some ⟨gg, 0, none⟩) (C.length + 1) cg) hgrow (by rw [tr_len]; exact hown) (hat.imp (fun h => h.symm) (fun h => by rw [h]; rfl)))
              have hS1 := CS Q.out
              refine hK.out _ _ (fun _ => hS1) (fun _ => ?_)
              clear hS0
              have hS0 := hS1
              clear hS1
              clear hK K
              try simp only [Act.put, List.setIfInBounds_toArray, List.set_cons_zero, List.set_cons_succ]
              clear hown hgrow hat hlt ow hNs NW hi hz0 hz1 hz2 R14
              have f3 := Q.out.blk.frozen 3; have f4 := Q.out.blk.frozen 4
              have x3 : w7.cell? ⟨x, 3, none⟩ = some (.slice Au C.length cu) := Q.out.blk.cell 3
              have x4 : w7.cell? ⟨x, 4, none⟩ = some (.slice Av C.length cv) := Q.out.blk.cell 4
              refine ldW 16 (fun K hK => ?_)
              go_simp
              refine hK.out _ _ (fun _ => hS0) (fun _ => ?_)
              clear hK K
              try simp only [Act.put, List.setIfInBounds_toArray, List.set_cons_zero, List.set_cons_succ]
              refine ldW 17 (fun K hK => ?_)
              go_simp
              refine hK.out _ _ (fun _ => hS0) (fun _ => ?_)
              clear hK K
              try simp only [Act.put, List.setIfInBounds_toArray, List.set_cons_zero, List.set_cons_succ]
              refine ldW 18 (fun K hK => ?_)
              go_simp
              refine hK.out _ _ (late_come (by kernel_rfl)) (fun _ => ?_)
              clear hK K
              try simp only [Act.put]
              refine ldW 19 (fun K hK => ?_)
              go_simp
              refine hK.out _ _ (late_come (by kernel_rfl)) (fun _ => ?_)
              clear hK K
              try simp only [Act.put, List.setIfInBounds_toArray, List.set_cons_zero, List.set_cons_succ]
              refine ldW 20 (fun K hK => ?_)
              go_simp
              refine hK.out _ _ (late_come (by kernel_rfl)) (fun _ => ?_)
              clear hK K
              try simp only [Act.put, List.setIfInBounds_toArray, List.set_cons_zero, List.set_cons_succ]
              refine ldW 21 (fun K hK => ?_)
              go_simp
              refine hK.out _ _ (late_come (by kernel_rfl)) (fun _ => ?_)
              clear hK K
              try simp only [Act.put]
              refine wpAnyW_done (by kernel_rfl) ?_ _
              refine NoPanic.normal ?_
              have FI := Kept.mk (Q.out.fin (C := C2) (by rw [KL.out (by simp)]; simp) (by rw [KL.out (by simp)]; simp [tr]))
              clear Q f3 f4 x3 x4 hS0
              go_wp2
              go_ret
              exact ⟨_, rfl, FI.out.1, HF.out ▸ FI.out.2⟩
    · rw [hs, if_pos rfl] at her
      obtain ⟨hwu, cwu, rwho⟩ := own_ri (XU.out w2 B2.out).who
      have WH := Kept.mk rwho
      have RC := Kept.mk (RCU.out w2 B2.out)
      have XW2 := Kept.mk (XU.out w2 B2.out)
      replace Y2 := Kept.mk Y2.out
      clear rwho cwu
      go_wp2
      go_loopw [8] (fun i wr => ∃ k : Nat, k ≤ C.length ∧ i = .int .i64 k ∧ Kept (hasC (C.take k) who t1 = false) ∧ Kept (Below w2.heap.size w2 wr)) (fun i _ => C.length - (Go.RowKit.intOf i).toNat)
      case atStart => exact ⟨0, by omega, rfl, ⟨by simp [hasC]⟩, ⟨Below.refl _ _⟩⟩
      case round =>
        clear m0 m1 m2
        obtain ⟨k, hk, rfl, HN, B3⟩ := hrel
        have BW := Kept.mk (B2.out.trans (B3.out.mono B2.out.size))
        have XW := Kept.mk (XW2.out.below B3.out)
        have YW := Kept.mk (Y2.out.below B3.out Y2.out.lt)
        have x3 : wr.cell? ⟨x, 3, none⟩ = some (.slice Au C.length cu) := XW.out.blk.cell 3
        have x4 : wr.cell? ⟨x, 4, none⟩ = some (.slice Av C.length cv) := XW.out.blk.cell 4
        have m0 : wr.cell? ⟨M, 0, none⟩ = some (.int .i64 t1) := YW.out.cell 0
        by_cases hkn : k < C.length
        · have hkn' : (k : Int) < C.length := by omega
          obtain ⟨g, o, u, rfl, hu, hc⟩ := (RC.out.below B3.out).at_ hkn
          obtain ⟨gw, ow, rfl, hcw⟩ := (WH.out.below B3.out).2.resolve_left (by omega)
          obtain ⟨z, hz⟩ : ∃ z, C[k]? = some z := ⟨_, List.getElem?_eq_getElem hkn⟩
          have hzu : u = z.t := by
            have : (tr C)[k]? = some z.t := by unfold tr; rw [List.getElem?_map, hz]; rfl
            rw [this] at hu
            injection hu with hu
            exact hu.symm
          subst hzu
          have c0 : wr.cell? ⟨g, o + k * 7, none⟩ = some (.int .i64 z.t.id) := hc 0 _ rfl
          have w0 : wr.cell? ⟨gw, ow + k, none⟩ = some (.int .i64 z.who) := by
            have := hcw k hkn
            rw [this]
            congr 2
            have e2 : (C.map CV.who)[k]? = some z.who := by rw [List.getElem?_map, hz]; rfl
            rw [at_eq (by rw [List.length_map]; exact hkn)] at e2
            injection e2
          have HT := Kept.mk (has_take (who := who) (id := t1) hz)
          rw [HN.out, Bool.false_or] at HT
          have HY : Kept (z.who = who → z.t.id = t1 → hasC C who t1 = true) := ⟨has_yes hz⟩
          clear hc hcw hz hu
          generalize z.who = zw at *
          generalize z.t.id = zi at *
          clear z
          by_cases q3 : zw = who
          · by_cases q4 : zi = t1
            · have h3 : (zw == who) = true := by simpa using q3
              have h4 : (zi == t1) = true := by simpa using q4
              rw [if_pos (HY.out q3 q4)] at her
              subst her
              have PE := Kept.mk (KE.out (by decide) (wr.drewN 0) (FB.out.trans (BW.out.mono FB.out.size)))
              have PB := Kept.mk (FB.out.trans (BW.out.mono FB.out.size))
              clear q3 q4 HY HT HN PE
              go_upto_region 9 with (fail)
              go_quiet (fail)
              go_wp2
              go_ret
              exact ⟨F, rfl, KE.out (by decide) _ (below_drewN PB.out _)⟩
            · have h3 : (zw == who) = true := by simpa using q3
              have h4 : (zi == t1) = false := by simpa using q4
              have HN2 : Kept (hasC (C.take (k + 1)) who t1 = false) := ⟨by rw [HT.out]; simp [q4]⟩
              clear q3 q4 HY HT HN
              go_upto_region 9 with (fail)
              go_quiet (fail)
              go_wp2
              go_roundw
              case rel => exact ⟨k + 1, by omega, by go_num, HN2, ⟨below_drewN B3.out _⟩⟩
              case measure => simp only [Go.RowKit.intOf]; omega
          · have h3 : (zw == who) = false := by simpa using q3
            have HN2 : Kept (hasC (C.take (k + 1)) who t1 = false) := ⟨by rw [HT.out]; simp [q3]⟩
            clear q3 HY HT HN
            go_upto_region 9 with (fail)
            go_quiet (fail)
            go_wp2
            go_roundw
            case rel => exact ⟨k + 1, by omega, by go_num, HN2, ⟨below_drewN B3.out _⟩⟩
            case measure => simp only [Go.RowKit.intOf]; omega
        · have hkn' : ¬ (k : Int) < C.length := by omega
          obtain rfl : k = C.length := by omega
          have hh : ¬ hasC C who t1 = true := by have := HN.out; rw [List.take_length] at this; rw [this]; decide
          rw [if_neg hh] at her
          clear hh HN
          by_cases hl : C.length = 400
          · rw [if_pos hl] at her
            subst her
            have hl' : (400 : Int) ≤ C.length := by omega
            have PE := Kept.mk (KE.out (by decide) wr (FB.out.trans (BW.out.mono FB.out.size)))
            clear KE KL hl
            go_wp2
            go_ret
            exact ⟨F, rfl, PE.out⟩
          · rw [if_neg hl] at her
            subst her
            have hl' : ¬ (400 : Int) ≤ C.length := by omega
            clear KE
            go_upto_region 13 with (fail)
            have CS : ∀ {z : World} {uu vv : Value} {k : List Int} {l : List TV}, QS N w z x M p c a ⟨t1, t2, t3, t4, t5, t6, t7⟩ (.slice Au C.length cu) (.slice Av C.length cv) uu vv k l → (fun z : World => z.cell? ⟨x, 3, none⟩ = some (.slice Au C.length cu) ∧ z.cell? ⟨x, 4, none⟩ = some (.slice Av C.length cv) ∧ z.cell? ⟨M, 0, none⟩ = some (.int .i64 t1) ∧ z.cell? ⟨M, 1, none⟩ = some (.int .i64 t2) ∧ z.cell? ⟨M, 2, none⟩ = some (.int .i64 t3) ∧ z.cell? ⟨M, 3, none⟩ = some (.int .i64 t4) ∧ z.cell? ⟨M, 4, none⟩ = some (.int .i64 t5) ∧ z.cell? ⟨M, 5, none⟩ = some (.int .i64 t6) ∧ z.cell? ⟨M, 6, none⟩ = some (.int .i64 t7)) z := fun q => ⟨q.blk.cell 3, q.blk.cell 4, q.box.cell 0, q.box.cell 1, q.box.cell 2, q.box.cell 3, q.box.cell 4, q.box.cell 5, q.box.cell 6⟩
            refine wp_region_noPanic ?_
            have Q : Kept (QS N w wr.drew x M p c a ⟨t1, t2, t3, t4, t5, t6, t7⟩ (.slice Au C.length cu) (.slice Av C.length cv) (.slice Au C.length cu) (.slice Av C.length cv) (C.map CV.who) (tr C)) :=
              ⟨⟨XW.out.blk.drew, by rw [List.length_map]; exact XW.out.who.drew, by rw [tr_len]; exact XW.out.row.drew, YW.out.drew, MF.out, barOf (FB.out.trans (BW.out.mono FB.out.size)).drew _, fun _ h => .inl h, fun _ h => .inl h, XW.out.least⟩⟩
            refine wp_region_W [18, 21] (S := fun z : World => z.cell? ⟨x, 3, none⟩ = some (.slice Au C.length cu) ∧ z.cell? ⟨x, 4, none⟩ = some (.slice Av C.length cv) ∧ z.cell? ⟨M, 0, none⟩ = some (.int .i64 t1) ∧ z.cell? ⟨M, 1, none⟩ = some (.int .i64 t2) ∧ z.cell? ⟨M, 2, none⟩ = some (.int .i64 t3) ∧ z.cell? ⟨M, 3, none⟩ = some (.int .i64 t4) ∧ z.cell? ⟨M, 4, none⟩ = some (.int .i64 t5) ∧ z.cell? ⟨M, 5, none⟩ = some (.int .i64 t6) ∧ z.cell? ⟨M, 6, none⟩ = some (.int .i64 t7)) (by kernel_rfl) (CS Q.out) (fun hS0 => ?_)
            generalize wr.drew = wd at *
            refine frW 0 (fun _ => by assumption) ?_
            simp only [Act.put, List.setIfInBounds_toArray, List.set_cons_zero, List.set_cons_succ]
            refine frW 1 (fun _ => by assumption) ?_
            simp only [Act.put, List.setIfInBounds_toArray, List.set_cons_zero, List.set_cons_succ]
            refine frW 2 (fun _ => by assumption) ?_
            simp only [Act.put, List.setIfInBounds_toArray, List.set_cons_zero, List.set_cons_succ]
            refine frW 3 (fun _ => by assumption) ?_
            simp only [Act.put, List.setIfInBounds_toArray, List.set_cons_zero, List.set_cons_succ]
            refine frW 4 (fun _ => by assumption) ?_
            simp only [Act.put, List.setIfInBounds_toArray, List.set_cons_zero, List.set_cons_succ]
            refine tkW 5 (by assumption) ?_
            simp only [Act.put, List.setIfInBounds_toArray, List.set_cons_zero, List.set_cons_succ]
            refine frW 6 (fun _ => by assumption) ?_
            simp only [Act.put, List.setIfInBounds_toArray, List.set_cons_zero, List.set_cons_succ]
            refine frW 9 (fun _ => by assumption) ?_
            simp only [Act.put, List.setIfInBounds_toArray, List.set_cons_zero, List.set_cons_succ]
            refine frW 10 (fun _ => by assumption) ?_
            simp only [Act.put, List.setIfInBounds_toArray, List.set_cons_zero, List.set_cons_succ]
            refine frW 11 (fun _ => by assumption) ?_
            simp only [Act.put, List.setIfInBounds_toArray, List.set_cons_zero, List.set_cons_succ]
            refine tkW 12 (by assumption) ?_
            simp only [Act.put, List.setIfInBounds_toArray, List.set_cons_zero, List.set_cons_succ]
            refine tkV 13 [14, 15] (by assumption) ?_
            simp only [Act.put, List.setIfInBounds_toArray, List.set_cons_zero, List.set_cons_succ]
            refine ldW2 7 14 (fun K hK => ?_) (fun K hK => ?_)
            · go_simp
              have bb : Below wd.heap.size wd (wd.alloc (.cells #[.int .i64 who] 3)) := (Below.refl _ _).alloc (Nat.le_refl _) _
              have R7 := Kept.mk (Blk.new wd 3 #[.int .i64 who])
              replace Q := Kept.mk (Q.out.below bb)
              have hS1 := CS Q.out
              refine hK.out _ _ (fun _ => hS1) (fun _ => ?_)
              clear hS0
              have hS0 := hS1
              clear hS1
              clear hK K
              try simp only [Act.put, List.setIfInBounds_toArray, List.set_cons_zero, List.set_cons_succ]
              clear bb
              generalize wd.alloc (.cells #[.int .i64 who] 3) = w4 at *
              generalize wd.heap.size = gB at *
              refine ldW2 8 14 (fun K hK => ?_) (fun K hK => ?_)
              · have hNs : N ≤ w4.heap.size := Nat.le_trans Q.out.low (Nat.le_of_lt Q.out.blk.lt)
                have ow := Q.out.who
                rw [List.length_map] at ow
                refine step_append_ri rfl (.tmp 78) (.tmp 80) 38 (by rfl) N 3 Try.underlying38 info_int (.slice Au C.length cu) _ _ (by rfl) ow (some ⟨gB, 0, none⟩) 1 1 _ (by rfl) (Ri.blk (xs := [who]) R7.out rfl) (by omega) hNs ?_
                intro v8 w5 o8 g8 b8 a8
                obtain ⟨A8, c8, rfl⟩ := own_shape o8.out
                replace Q := Kept.mk (Q.out.appU (q := who) g8 (by rw [List.length_map]; exact o8.out) a8)
                have hS1 := CS Q.out
                refine hK.out _ _ (fun _ => hS1) (fun _ => ?_)
                clear hS0
                have hS0 := hS1
                clear hS1
                clear hK K
                try simp only [Act.put, List.setIfInBounds_toArray, List.set_cons_zero, List.set_cons_succ]
                clear o8 g8 b8 a8 ow hNs R7
                refine ldW 14 (fun K hK => ?_)
                go_simp
                have bb : Below w5.heap.size w5 (w5.alloc (.cells #[.int .i64 t1, .int .i64 t2, .int .i64 t3, .int .i64 t4, .int .i64 t5, .int .i64 t6, .int .i64 t7] 33)) := (Below.refl _ _).alloc (Nat.le_refl _) _
                have R14 := Kept.mk (Blk.new w5 33 #[.int .i64 t1, .int .i64 t2, .int .i64 t3, .int .i64 t4, .int .i64 t5, .int .i64 t6, .int .i64 t7])
                replace Q := Kept.mk (Q.out.below bb)
                have hS1 := CS Q.out
                refine hK.out _ _ (fun _ => hS1) (fun _ => ?_)
                clear hS0
                have hS0 := hS1
                clear hS1
                clear hK K
                try simp only [Act.put, List.setIfInBounds_toArray, List.set_cons_zero, List.set_cons_succ]
                clear bb
                generalize w5.alloc (.cells #[.int .i64 t1, .int .i64 t2, .int .i64 t3, .int .i64 t4, .int .i64 t5, .int .i64 t6, .int .i64 t7] 33) = w6 at *
                generalize w5.heap.size = gC at *
                refine ldW 15 (fun K hK => ?_)
                have hNs : N ≤ w6.heap.size := Nat.le_trans Q.out.low (Nat.le_of_lt Q.out.blk.lt)
                have ow := Q.out.row
                rw [tr_len] at ow
                have NW := World.news_of_block (cs := #[.int .i64 t1, .int .i64 t2, .int .i64 t3, .int .i64 t4, .int .i64 t5, .int .i64 t6, .int .i64 t7]) (t := 33) (fr := (0, 0)) R14.out
                obtain ⟨iu, hi, hz0, hz1, hz2⟩ := info_parts info_tv
                refine step_append_lies _ (by rfl) _ _ _ (by rfl) N 33 iu (tvV zeroT) 7 56 Try.underlying39 hi hz0 hz1 hz2 rfl (by omega) (.slice Av C.length cv) C.length ((tr C).flatMap tvC) (by rfl) ow
                  ⟨gC, 0, none⟩ 1 1 (tvC ⟨t1, t2, t3, t4, t5, t6, t7⟩) (by rfl) (by rfl) NW (tvC_one _) (by omega) (by unfold maxLen; omega) (by omega) hNs w6.heap.size rfl ?_
                intro gg cg w7 hown hgrow hat hlt
                replace Q := Kept.mk (Q.out.appV (t' := ⟨t1, t2, t3, t4, t5, t6, t7⟩) (vv' := .slice (some ⟨gg, 0, none⟩) (C.length + 1) cg) hgrow (by rw [tr_len]; exact hown) (hat.imp (fun h => h.symm) (fun h => by rw [h]; rfl)))
                have hS1 := CS Q.out
                refine hK.out _ _ (fun _ => hS1) (fun _ => ?_)
                clear hS0
                have hS0 := hS1
                clear hS1
                clear hK K
                try simp only [Act.put, List.setIfInBounds_toArray, List.set_cons_zero, List.set_cons_succ]
                clear hown hgrow hat hlt ow hNs NW hi hz0 hz1 hz2 R14
                have f3 := Q.out.blk.frozen 3; have f4 := Q.out.blk.frozen 4
                have x3 : w7.cell? ⟨x, 3, none⟩ = some (.slice Au C.length cu) := Q.out.blk.cell 3
                have x4 : w7.cell? ⟨x, 4, none⟩ = some (.slice Av C.length cv) := Q.out.blk.cell 4
                refine ldW 16 (fun K hK => ?_)
                go_simp
                refine hK.out _ _ (fun _ => hS0) (fun _ => ?_)
                clear hK K
                try simp only [Act.put, List.setIfInBounds_toArray, List.set_cons_zero, List.set_cons_succ]
                refine ldW 17 (fun K hK => ?_)
                go_simp
                refine hK.out _ _ (fun _ => hS0) (fun _ => ?_)
                clear hK K
                try simp only [Act.put, List.setIfInBounds_toArray, List.set_cons_zero, List.set_cons_succ]
                refine ldW 18 (fun K hK => ?_)
                go_simp
                refine hK.out _ _ (late_come (by kernel_rfl)) (fun _ => ?_)
                clear hK K
                try simp only [Act.put]
                refine ldW 19 (fun K hK => ?_)
                go_simp
                refine hK.out _ _ (late_come (by kernel_rfl)) (fun _ => ?_)
                clear hK K
                try simp only [Act.put, List.setIfInBounds_toArray, List.set_cons_zero, List.set_cons_succ]
                refine ldW 20 (fun K hK => ?_)
                go_simp
                refine hK.out _ _ (late_come (by kernel_rfl)) (fun _ => ?_)
                clear hK K
                try simp only [Act.put, List.setIfInBounds_toArray, List.set_cons_zero, List.set_cons_succ]
                refine ldW 21 (fun K hK => ?_)
                go_simp
                refine hK.out _ _ (late_come (by kernel_rfl)) (fun _ => ?_)
                clear hK K
                try simp only [Act.put]
                refine wpAnyW_done (by kernel_rfl) ?_ _
                refine NoPanic.normal ?_
                have FI := Kept.mk (Q.out.fin (C := C2) (by rw [KL.out (by simp)]; simp) (by rw [KL.out (by simp)]; simp [tr]))
                clear Q f3 f4 x3 x4 hS0
                go_wp2
                go_ret
                exact ⟨_, rfl, FI.out.1, HF.out ▸ FI.out.2⟩
              · go_simp
                have bb : Below w4.heap.size w4 (w4.alloc (.cells #[.int .i64 t1, .int .i64 t2, .int .i64 t3, .int .i64 t4, .int .i64 t5, .int .i64 t6, .int .i64 t7] 33)) := (Below.refl _ _).alloc (Nat.le_refl _) _
                have R14 := Kept.mk (Blk.new w4 33 #[.int .i64 t1, .int .i64 t2, .int .i64 t3, .int .i64 t4, .int .i64 t5, .int .i64 t6, .int .i64 t7])
                replace Q := Kept.mk (Q.out.below bb)
                replace R7 := Kept.mk (R7.out.below bb R7.out.lt)
                have hS1 := CS Q.out
                refine hK.out _ _ (fun _ => hS1) (fun _ => ?_)
                clear hS0
                have hS0 := hS1
                clear hS1
                clear hK K
                try simp only [Act.put, List.setIfInBounds_toArray, List.set_cons_zero, List.set_cons_succ]
                clear bb
                generalize w4.alloc (.cells #[.int .i64 t1, .int .i64 t2, .int .i64 t3, .int .i64 t4, .int .i64 t5, .int .i64 t6, .int .i64 t7] 33) = w5 at *
                generalize w4.heap.size = gC at *
                refine ldW 8 (fun K hK => ?_)
                have hNs : N ≤ w5.heap.size := Nat.le_trans Q.out.low (Nat.le_of_lt Q.out.blk.lt)
                have ow := Q.out.who
                rw [List.length_map] at ow
                refine step_append_ri rfl (.tmp 78) (.tmp 80) 38 (by rfl) N 3 Try.underlying38 info_int (.slice Au C.length cu) _ _ (by rfl) ow (some ⟨gB, 0, none⟩) 1 1 _ (by rfl) (Ri.blk (xs := [who]) R7.out rfl) (by omega) hNs ?_
                intro v8 w6 o8 g8 b8 a8
                obtain ⟨A8, c8, rfl⟩ := own_shape o8.out
                replace R14 := Kept.mk (R14.out.grown g8 (fun he => own_far Q.out.who R14.out (by decide) he.symm))
                replace Q := Kept.mk (Q.out.appU (q := who) g8 (by rw [List.length_map]; exact o8.out) a8)
                have hS1 := CS Q.out
                refine hK.out _ _ (fun _ => hS1) (fun _ => ?_)
                clear hS0
                have hS0 := hS1
                clear hS1
                clear hK K
                try simp only [Act.put, List.setIfInBounds_toArray, List.set_cons_zero, List.set_cons_succ]
                clear o8 g8 b8 a8 ow hNs R7
                refine ldW 15 (fun K hK => ?_)
                have hNs : N ≤ w6.heap.size := Nat.le_trans Q.out.low (Nat.le_of_lt Q.out.blk.lt)
                have ow := Q.out.row
                rw [tr_len] at ow
                have NW := World.news_of_block (cs := #[.int .i64 t1, .int .i64 t2, .int .i64 t3, .int .i64 t4, .int .i64 t5, .int .i64 t6, .int .i64 t7]) (t := 33) (fr := (0, 0)) R14.out
                obtain ⟨iu, hi, hz0, hz1, hz2⟩ := info_parts info_tv
                refine step_append_lies _ (by rfl) _ _ _ (by rfl) N 33 iu (tvV zeroT) 7 56 Try.underlying39 hi hz0 hz1 hz2 rfl (by omega) (.slice Av C.length cv) C.length ((tr C).flatMap tvC) (by rfl) ow
                  ⟨gC, 0, none⟩ 1 1 (tvC ⟨t1, t2, t3, t4, t5, t6, t7⟩) (by rfl) (by rfl) NW (tvC_one _) (by omega) (by unfold maxLen; omega) (by omega) hNs w6.heap.size rfl ?_
                intro gg cg w7 hown hgrow hat hlt
                replace Q := Kept.mk (Q.out.appV (t' := ⟨t1, t2, t3, t4, t5, t6, t7⟩) (vv' := .slice (some ⟨gg, 0, none⟩) (C.length + 1) cg) hgrow (by rw [tr_len]; exact hown) (hat.imp (fun h => h.symm) (fun h => by rw [h]; rfl)))
                have hS1 := CS Q.out
                refine hK.out _ _ (fun _ => hS1) (fun _ => ?_)
                clear hS0
                have hS0 := hS1
                clear hS1
                clear hK K
                try simp only [Act.put, List.setIfInBounds_toArray, List.set_cons_zero, List.set_cons_succ]
                clear hown hgrow hat hlt ow hNs NW hi hz0 hz1 hz2 R14
                have f3 := Q.out.blk.frozen 3; have f4 := Q.out.blk.frozen 4
                have x3 : w7.cell? ⟨x, 3, none⟩ = some (.slice Au C.length cu) := Q.out.blk.cell 3
                have x4 : w7.cell? ⟨x, 4, none⟩ = some (.slice Av C.length cv) := Q.out.blk.cell 4
                refine ldW 16 (fun K hK => ?_)
                go_simp
                refine hK.out _ _ (fun _ => hS0) (fun _ => ?_)
                clear hK K
                try simp only [Act.put, List.setIfInBounds_toArray, List.set_cons_zero, List.set_cons_succ]
                refine ldW 17 (fun K hK => ?_)
                go_simp
                refine hK.out _ _ (fun _ => hS0) (fun _ => ?_)
                clear hK K
                try simp only [Act.put, List.setIfInBounds_toArray, List.set_cons_zero, List.set_cons_succ]
                refine ldW 18 (fun K hK => ?_)
                go_simp
                refine hK.out _ _ (late_come (by kernel_rfl)) (fun _ => ?_)
                clear hK K
                try simp only [Act.put]
                refine ldW 19 (fun K hK => ?_)
                go_simp
                refine hK.out _ _ (late_come (by kernel_rfl)) (fun _ => ?_)
                clear hK K
                try simp only [Act.put, List.setIfInBounds_toArray, List.set_cons_zero, List.set_cons_succ]
                refine ldW 20 (fun K hK => ?_)
                go_simp
                refine hK.out _ _ (late_come (by kernel_rfl)) (fun _ => ?_)
                clear hK K
                try simp only [Act.put, List.setIfInBounds_toArray, List.set_cons_zero, List.set_cons_succ]
                refine ldW 21 (fun K hK => ?_)
                go_simp
                refine hK.out _ _ (late_come (by kernel_rfl)) (fun _ => ?_)
                clear hK K
                try simp only [Act.put]
                refine wpAnyW_done (by kernel_rfl) ?_ _
                refine NoPanic.normal ?_
                have FI := Kept.mk (Q.out.fin (C := C2) (by rw [KL.out (by simp)]; simp) (by rw [KL.out (by simp)]; simp [tr]))
                clear Q f3 f4 x3 x4 hS0
                go_wp2
                go_ret
                exact ⟨_, rfl, FI.out.1, HF.out ▸ FI.out.2⟩
            · go_simp
              have bb : Below wd.heap.size wd (wd.alloc (.cells #[.int .i64 t1, .int .i64 t2, .int .i64 t3, .int .i64 t4, .int .i64 t5, .int .i64 t6, .int .i64 t7] 33)) := (Below.refl _ _).alloc (Nat.le_refl _) _
              have R14 := Kept.mk (Blk.new wd 33 #[.int .i64 t1, .int .i64 t2, .int .i64 t3, .int .i64 t4, .int .i64 t5, .int .i64 t6, .int .i64 t7])
              replace Q := Kept.mk (Q.out.below bb)
              have hS1 := CS Q.out
              refine hK.out _ _ (fun _ => hS1) (fun _ => ?_)
              clear hS0
              have hS0 := hS1
              clear hS1
              clear hK K
              try simp only [Act.put, List.setIfInBounds_toArray, List.set_cons_zero, List.set_cons_succ]
              clear bb
              generalize wd.alloc (.cells #[.int .i64 t1, .int .i64 t2, .int .i64 t3, .int .i64 t4, .int .i64 t5, .int .i64 t6, .int .i64 t7] 33) = w4 at *
              generalize wd.heap.size = gC at *
              refine ldW 7 (fun K hK => ?_)
              go_simp
              have bb : Below w4.heap.size w4 (w4.alloc (.cells #[.int .i64 who] 3)) := (Below.refl _ _).alloc (Nat.le_refl _) _
              have R7 := Kept.mk (Blk.new w4 3 #[.int .i64 who])
              replace Q := Kept.mk (Q.out.below bb)
              replace R14 := Kept.mk (R14.out.below bb R14.out.lt)
              have hS1 := CS Q.out
              refine hK.out _ _ (fun _ => hS1) (fun _ => ?_)
              clear hS0
              have hS0 := hS1
              clear hS1
              clear hK K
              try simp only [Act.put, List.setIfInBounds_toArray, List.set_cons_zero, List.set_cons_succ]
              clear bb
              generalize w4.alloc (.cells #[.int .i64 who] 3) = w5 at *
              generalize w4.heap.size = gB at *
              refine ldW 8 (fun K hK => ?_)
              have hNs : N ≤ w5.heap.size := Nat.le_trans Q.out.low (Nat.le_of_lt Q.out.blk.lt)
              have ow := Q.out.who
              rw [List.length_map] at ow
              refine step_append_ri rfl (.tmp 78) (.tmp 80) 38 (by rfl) N 3 Try.underlying38 info_int (.slice Au C.length cu) _ _ (by rfl) ow (some ⟨gB, 0, none⟩) 1 1 _ (by rfl) (Ri.blk (xs := [who]) R7.out rfl) (by omega) hNs ?_
              intro v8 w6 o8 g8 b8 a8
              obtain ⟨A8, c8, rfl⟩ := own_shape o8.out
              replace R14 := Kept.mk (R14.out.grown g8 (fun he => own_far Q.out.who R14.out (by decide) he.symm))
              replace Q := Kept.mk (Q.out.appU (q := who) g8 (by rw [List.length_map]; exact o8.out) a8)
              have hS1 := CS Q.out
              refine hK.out _ _ (fun _ => hS1) (fun _ => ?_)
              clear hS0
              have hS0 := hS1
              clear hS1
              clear hK K
              try simp only [Act.put, List.setIfInBounds_toArray, List.set_cons_zero, List.set_cons_succ]
              clear o8 g8 b8 a8 ow hNs R7
              refine ldW 15 (fun K hK => ?_)
              have hNs : N ≤ w6.heap.size := Nat.le_trans Q.out.low (Nat.le_of_lt Q.out.blk.lt)
              have ow := Q.out.row
              rw [tr_len] at ow
              have NW := World.news_of_block (cs := #[.int .i64 t1, .int .i64 t2, .int .i64 t3, .int .i64 t4, .int .i64 t5, .int .i64 t6, .int .i64 t7]) (t := 33) (fr := (0, 0)) R14.out
              obtain ⟨iu, hi, hz0, hz1, hz2⟩ := info_parts info_tv
              refine step_append_lies _ (by rfl) _ _ _ (by rfl) N 33 iu (tvV zeroT) 7 56 Try.underlying39 hi hz0 hz1 hz2 rfl (by omega) (.slice Av C.length cv) C.length ((tr C).flatMap tvC) (by rfl) ow
                ⟨gC, 0, none⟩ 1 1 (tvC ⟨t1, t2, t3, t4, t5, t6, t7⟩) (by rfl) (by rfl) NW (tvC_one _) (by omega) (by unfold maxLen; omega) (by omega) hNs w6.heap.size rfl ?_
              intro gg cg w7 hown hgrow hat hlt
              replace Q := Kept.mk (Q.out.appV (t' := ⟨t1, t2, t3, t4, t5, t6, t7⟩) (vv' := .slice (some ⟨gg, 0, none⟩) (C.length + 1) cg) hgrow (by rw [tr_len]; exact hown) (hat.imp (fun h => h.symm) (fun h => by rw [h]; rfl)))
              have hS1 := CS Q.out
              refine hK.out _ _ (fun _ => hS1) (fun _ => ?_)
              clear hS0
              have hS0 := hS1
              clear hS1
              clear hK K
              try simp only [Act.put, List.setIfInBounds_toArray, List.set_cons_zero, List.set_cons_succ]
              clear hown hgrow hat hlt ow hNs NW hi hz0 hz1 hz2 R14
              have f3 := Q.out.blk.frozen 3; have f4 := Q.out.blk.frozen 4
              have x3 : w7.cell? ⟨x, 3, none⟩ = some (.slice Au C.length cu) := Q.out.blk.cell 3
              have x4 : w7.cell? ⟨x, 4, none⟩ = some (.slice Av C.length cv) := Q.out.blk.cell 4
              refine ldW 16 (fun K hK => ?_)
              go_simp
              refine hK.out _ _ (fun _ => hS0) (fun _ => ?_)
              clear hK K
              try simp only [Act.put, List.setIfInBounds_toArray, List.set_cons_zero, List.set_cons_succ]
              refine ldW 17 (fun K hK => ?_)
              go_simp
              refine hK.out _ _ (fun _ => hS0) (fun _ => ?_)
              clear hK K
              try simp only [Act.put, List.setIfInBounds_toArray, List.set_cons_zero, List.set_cons_succ]
              refine ldW 18 (fun K hK => ?_)
              go_simp
              refine hK.out _ _ (late_come (by kernel_rfl)) (fun _ => ?_)
              clear hK K
              try simp only [Act.put]
              refine ldW 19 (fun K hK => ?_)
              go_simp
              refine hK.out _ _ (late_come (by kernel_rfl)) (fun _ => ?_)
              clear hK K
              try simp only [Act.put, List.setIfInBounds_toArray, List.set_cons_zero, List.set_cons_succ]
              refine ldW 20 (fun K hK => ?_)
              go_simp
              refine hK.out _ _ (late_come (by kernel_rfl)) (fun _ => ?_)
              clear hK K
              try simp only [Act.put, List.setIfInBounds_toArray, List.set_cons_zero, List.set_cons_succ]
              refine ldW 21 (fun K hK => ?_)
              go_simp
              refine hK.out _ _ (late_come (by kernel_rfl)) (fun _ => ?_)
              clear hK K
              try simp only [Act.put]
              refine wpAnyW_done (by kernel_rfl) ?_ _
              refine NoPanic.normal ?_
              have FI := Kept.mk (Q.out.fin (C := C2) (by rw [KL.out (by simp)]; simp) (by rw [KL.out (by simp)]; simp [tr]))
              clear Q f3 f4 x3 x4 hS0
              go_wp2
              go_ret
              exact ⟨_, rfl, FI.out.1, HF.out ▸ FI.out.2⟩
  · rw [if_neg hme] at her
    subst her
    have hme' : (me == 0) = false := by simpa using hme
    have KE2 := Kept.mk (KE.out hme)
    clear hme KE KL
    go_enter Try.func13, Try.ntmps13
    go_upto_region 1 with (fail)
    refine wp_region_still_tail 13 (by kernel_rfl) (by kernel_rfl) ?_
    simp only [List.take_succ_cons, List.take_zero, List.drop_succ_cons, List.drop_zero]
    repeat still_step
    refine wpStill_nil ?_
    change wpList _ _ _ _ _ w1.drew
    go_wp2_with fail
    refine CM.out.mono ?_
    rintro e w2 ⟨rfl, b2⟩
    replace b2 : Below w1.heap.size w1 w2 := ⟨b2.os, b2.tape, b2.output, b2.size, b2.block⟩
    have PE := Kept.mk (KE2.out w2 (FB.out.trans (b2.mono FB.out.size)))
    clear b2 CM m0 m1 m2 m3 m4 m5 m6 c0 c1 c2
    go_wp2
    go_ret
    exact ⟨F, rfl, PE.out⟩
end
end Go.Proofs.Ythhjmbbfibgjpaa.Trade
