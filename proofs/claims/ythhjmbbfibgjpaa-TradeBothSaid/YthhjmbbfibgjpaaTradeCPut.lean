/-
  Package trade: Put.
-/
import Derived.Test.YthhjmbbfibgjpaaTakesU
import Derived.Test.YthhjmbbfibgjpaaTradeHas
import Derived.Test.YthhjmbbfibgjpaaTradeCMay
import Derived.Test.YthhjmbbfibgjpaaTakes
import Derived.Test.YthhjmbbfibgjpaaLast
import Derived.Deep.AppendLies
import Derived.StillTailTactics
namespace Go.Proofs.Ythhjmbbfibgjpaa.Trade
open Go.RowKit Go.Proofs.Ythhjmbbfibgjpaa.Sha

theorem info_cv : (Try.prog.info? 57).map (fun i => (i.zero, i.size, i.bytes)) = some (some (.agg #[.int .i64 0, .int .i64 0, .int .i64 0, .int .i64 0, .int .i64 0, .int .i64 0, .int .i64 0, .int .i64 0]), 8, 64) := by kernel_rfl
/-- one more is said -/
theorem Tv.push {N x : Nat} {w w' : World} {p c a : Int} {v v' : Value} {C : List CV} {u : CV} (h : Tv N w x p c a v C) (hg : w.grownBy w' v.ownBlock) (ho : w'.ownsRow N 57 8 v' (C.length + 1) (C.flatMap cvC ++ cvC u)) (hat : v'.ownBlock = v.ownBlock ∨ v'.ownBlock = some w.heap.size) :
    Blk w' x 53 #[.int .i64 p, .int .i64 c, .int .i64 a, v] ∧ Tv N (w'.setCell ⟨x, 3, none⟩ v') x p c a v' (C ++ [u]) ∧ Fp (x :: v.ownBlock.toList) (x :: v'.ownBlock.toList) w (w'.setCell ⟨x, 3, none⟩ v') := by
  have far0 : ∀ g ∈ v.ownBlock.toList, g ≠ x := fun g hg e => own_far h.row h.blk (by decide) (by rw [← e]; exact Option.mem_toList.1 hg)
  have b := Bar.grownRow hg
  have hb : Blk w' x 53 #[.int .i64 p, .int .i64 c, .int .i64 a, v] := h.blk.bar b (fun hm => far0 x hm rfl)
  have b2 : Bar [x] w' (w'.setCell ⟨x, 3, none⟩ v') := (Bar.refl _ w').setCell (by simp) _
  have far : ∀ g ∈ v'.ownBlock.toList, g ≠ x := fun g hg e => own_far ho hb (by decide) (by rw [← e]; exact Option.mem_toList.1 hg)
  have hr : w'.ownsRow N 57 8 v' (C ++ [u]).length ((C ++ [u]).flatMap cvC) := by
    rw [List.length_append, List.length_singleton, List.flatMap_append, List.flatMap_singleton]
    exact ho
  refine ⟨hb, ⟨h.least, by simpa using hb.set_ 3 v', own_keep hr b2 (fun g hg hm => far g hg (by simpa using hm))⟩, ?_, fun k hk => ?_⟩
  · refine (b.mono (l' := x :: v.ownBlock.toList) (fun z hz => .inl (List.mem_cons_of_mem _ hz))).trans b2 (fun z hz => .inl ?_)
    rw [List.mem_singleton] at hz
    simp [hz]
  · rcases List.mem_cons.1 hk with e | hk
    · exact .inl (by simp [e])
    · rcases hat with e | e
      · rw [e] at hk; exact .inl (List.mem_cons_of_mem _ hk)
      · rw [e] at hk; simp at hk; exact .inr (by have := b.size; omega)
section
variable {N x : Nat} {F : List Nat} {w : World} {p c a : Int} {C : List CV}
set_option maxRecDepth 100000 in
set_option maxHeartbeats 1000000 in
theorem put_any (who : Int) (t : TV) (h : Td F N w x p c a C) (hC : Okc C) : Calls Try.prog 12 #[.pointer (some ⟨x, 0, none⟩), .int .i64 who, tvV t] w (PutP F N x p c a (putE p c a C who t) (putC p c a C who t) w) := by
  have hfew := hC.few
  obtain ⟨er, her⟩ : ∃ z, putE p c a C who t = z := ⟨_, rfl⟩
  obtain ⟨C2, hC2⟩ : ∃ z, putC p c a C who t = z := ⟨_, rfl⟩
  rw [her, hC2]
  unfold putC at hC2
  rw [her] at hC2
  unfold putE at her
  have KE : Kept (er ≠ 0 → ∀ w', Below w.heap.size w w' → Td F N w' x p c a C2 ∧ Fp F F w w') := ⟨fun hz w' bb => by rw [if_neg hz] at hC2; subst hC2; exact ⟨h.below bb, barOf bb _, fun _ h => .inl h⟩⟩
  have KL : Kept (er = 0 → C2 = C ++ [⟨who, t⟩]) := ⟨fun h => by rw [if_pos h] at hC2; exact hC2.symm⟩
  obtain ⟨w1, hw1⟩ : ∃ z, w.alloc (.cells (tvC t).toArray 33) = z := ⟨_, rfl⟩
  obtain ⟨M, hM⟩ : ∃ z, w.heap.size = z := ⟨_, rfl⟩
  have b1 : Below w.heap.size w w1 := hw1 ▸ (Below.refl _ _).alloc (Nat.le_refl _) _
  have Y : Kept (Blk w1 M 33 (tvC t).toArray) := ⟨hw1 ▸ Blk.new_at w _ _ _ hM.symm⟩
  have HMF : Kept (∀ k ∈ F, k ≠ M) := ⟨fun k hk => by have := (h.lt k hk).2; omega⟩
  have h1 := h.below b1
  obtain ⟨v, X, hF⟩ := h1
  have Mx : x ≠ M := HMF.out x (by rw [hF]; simp)
  obtain ⟨B, cp, rfl, hcp1, hcp2, -⟩ := X.rc
  have CM := may_any t p c a w1.drew
  have CH := fun w2 (bb : Below w1.heap.size w1 w2) => has_any who t.id (X.below bb) hC.few
  have FB : Kept (Below w.heap.size w w1) := ⟨b1⟩
  have HF := Kept.mk hF
  have YX : Kept (∀ w2, Below w1.heap.size w1 w2 → Tv N w2 x p c a (.slice B C.length cp) C) := ⟨fun w2 bb => X.below bb⟩
  obtain ⟨t1, t2, t3, t4, t5, t6, t7⟩ := t
  unfold tvV at CM ⊢
  unfold tvC at hw1 Y
  dsimp only at hw1 Y CM CH ⊢
  have m0 : w1.cell? ⟨M, 0, none⟩ = some (.int .i64 t1) := Y.out.cell 0
  have m1 : w1.cell? ⟨M, 1, none⟩ = some (.int .i64 t2) := Y.out.cell 1
  have m2 : w1.cell? ⟨M, 2, none⟩ = some (.int .i64 t3) := Y.out.cell 2
  have m3 : w1.cell? ⟨M, 3, none⟩ = some (.int .i64 t4) := Y.out.cell 3
  have m4 : w1.cell? ⟨M, 4, none⟩ = some (.int .i64 t5) := Y.out.cell 4
  have m5 : w1.cell? ⟨M, 5, none⟩ = some (.int .i64 t6) := Y.out.cell 5
  have m6 : w1.cell? ⟨M, 6, none⟩ = some (.int .i64 t7) := Y.out.cell 6
  have c0 : w1.cell? ⟨x, 0, none⟩ = some (.int .i64 p) := X.blk.cell 0
  have c1 : w1.cell? ⟨x, 1, none⟩ = some (.int .i64 c) := X.blk.cell 1
  have c2 : w1.cell? ⟨x, 2, none⟩ = some (.int .i64 a) := X.blk.cell 2
  replace CH := Kept.mk CH
  clear b1 X hF h hC hC2
  generalize mayE ⟨t1, t2, t3, t4, t5, t6, t7⟩ p c a = me at *
  replace CM := Kept.mk CM
  by_cases hme : me = 0
  · subst hme
    rw [if_pos rfl] at her
    have SB := sideB_cases who ⟨t1, t2, t3, t4, t5, t6, t7⟩
    go_enter Try.func12, Try.ntmps12
    go_upto_region 1 with (fail)
    refine wp_region_still_tail 13 (by kernel_rfl) (by kernel_rfl) ?_
    simp only [List.take_succ_cons, List.take_zero, List.drop_succ_cons, List.drop_zero]
    repeat still_step
    refine wpStill_nil ?_
    change wpList _ _ _ _ _ w1.drew
    go_wp2_with fail
    refine CM.out.mono ?_
    rintro e w2 ⟨rfl, b2⟩
    replace b2 : Below w1.heap.size w1 w2 := ⟨b2.os, b2.tape, b2.output, b2.size, b2.block⟩
    have B2 := Kept.mk b2
    have Y2 := Kept.mk (Y.out.below b2 Y.out.lt)
    have CH2 := Kept.mk (CH.out w2 b2)
    clear b2 CM CH m0 m1 m2 m3 m4 m5 m6 c0 c1 c2
    have m0 : w2.cell? ⟨M, 0, none⟩ = some (.int .i64 t1) := Y2.out.cell 0
    have m1 : w2.cell? ⟨M, 1, none⟩ = some (.int .i64 t2) := Y2.out.cell 1
    have m2 : w2.cell? ⟨M, 2, none⟩ = some (.int .i64 t3) := Y2.out.cell 2
    rcases SB with ⟨q1, q2, hs⟩ | ⟨q1, hs⟩ | ⟨q1, q2, hs⟩
    · rw [hs, if_neg (by decide)] at her
      subst her
      have PE := Kept.mk (KE.out (by decide) w2 (FB.out.trans (B2.out.mono FB.out.size)))
      clear KE KL CH2
      go_wp2
      go_ret
      exact ⟨F, rfl, PE.out⟩
    · rw [hs, if_pos rfl] at her
      replace CH2 := CH2.out
      by_cases hh : hasC C who t1 = true
      · rw [if_pos hh] at her
        subst her
        rw [hh] at CH2
        replace CH2 := Kept.mk CH2
        clear hh
        go_wp2_with fail
        refine CH2.out.mono ?_
        rintro e w3 ⟨rfl, b3⟩
        have PE := Kept.mk (KE.out (by decide) w3 (FB.out.trans ((B2.out.trans (b3.mono B2.out.size)).mono FB.out.size)))
        clear b3 CH2 KE KL
        go_wp2
        go_ret
        exact ⟨F, rfl, PE.out⟩
      · have hh' : hasC C who t1 = false := by simpa using hh
        rw [if_neg hh] at her
        rw [hh'] at CH2
        replace CH2 := Kept.mk CH2
        clear hh hh'
        go_wp2_with fail
        refine CH2.out.mono ?_
        rintro e w3 ⟨rfl, b3⟩
        have B3 := Kept.mk (B2.out.trans (b3.mono B2.out.size))
        have X := Kept.mk (YX.out w3 B3.out)
        replace Y := Kept.mk (Y.out.below B3.out Y.out.lt)
        clear b3 CH2 m0 m1 m2 Y2 B2 YX
        have c3 : w3.cell? ⟨x, 3, none⟩ = some (.slice B C.length cp) := X.out.blk.cell 3
        by_cases hl : C.length = 400
        · rw [if_pos hl] at her
          subst her
          have hl' : (C.length : Int) = 400 := by omega
          have PE := Kept.mk (KE.out (by decide) w3 (FB.out.trans (B3.out.mono FB.out.size)))
          clear KE KL hl
          go_wp2
          go_ret
          exact ⟨F, rfl, PE.out⟩
        · rw [if_neg hl] at her
          subst her
          have hl' : ¬ (C.length : Int) = 400 := by omega
          have FP : Kept (Fp F F w w3) := ⟨barOf (FB.out.trans (B3.out.mono FB.out.size)) _, fun _ h => .inl h⟩
          clear KE
          go_upto_region 10 with (fail)
          have CS : ∀ {u : World}, Tv N u x p c a (.slice B C.length cp) C → Blk u M 33 #[.int .i64 t1, .int .i64 t2, .int .i64 t3, .int .i64 t4, .int .i64 t5, .int .i64 t6, .int .i64 t7] → (fun u : World => u.cell? ⟨x, 3, none⟩ = some (.slice B C.length cp) ∧ u.cell? ⟨M, 0, none⟩ = some (.int .i64 t1) ∧ u.cell? ⟨M, 1, none⟩ = some (.int .i64 t2) ∧ u.cell? ⟨M, 2, none⟩ = some (.int .i64 t3) ∧ u.cell? ⟨M, 3, none⟩ = some (.int .i64 t4) ∧ u.cell? ⟨M, 4, none⟩ = some (.int .i64 t5) ∧ u.cell? ⟨M, 5, none⟩ = some (.int .i64 t6) ∧ u.cell? ⟨M, 6, none⟩ = some (.int .i64 t7)) u := fun h g => ⟨h.blk.cell 3, g.cell 0, g.cell 1, g.cell 2, g.cell 3, g.cell 4, g.cell 5, g.cell 6⟩
          refine wp_region_noPanic ?_
          have bb : Below w3.heap.size w3 w3.drew := (Below.refl _ _).drew
          replace X := Kept.mk (X.out.below bb); replace Y := Kept.mk Y.out.drew
          replace FP := Kept.mk (Fp.trans FP.out ⟨barOf bb _, fun _ hk => .inl hk⟩)
          refine wp_region_U 12 (S := fun u : World => u.cell? ⟨x, 3, none⟩ = some (.slice B C.length cp) ∧ u.cell? ⟨M, 0, none⟩ = some (.int .i64 t1) ∧ u.cell? ⟨M, 1, none⟩ = some (.int .i64 t2) ∧ u.cell? ⟨M, 2, none⟩ = some (.int .i64 t3) ∧ u.cell? ⟨M, 3, none⟩ = some (.int .i64 t4) ∧ u.cell? ⟨M, 4, none⟩ = some (.int .i64 t5) ∧ u.cell? ⟨M, 5, none⟩ = some (.int .i64 t6) ∧ u.cell? ⟨M, 6, none⟩ = some (.int .i64 t7)) (by kernel_rfl) (CS X.out Y.out) (fun hS0 => ?_)
          clear bb c3 B3 FB
          generalize w3.drew = w3 at *
          refine tkU 0 (by assumption) ?_
          simp only [Act.put, List.setIfInBounds_toArray, List.set_cons_zero, List.set_cons_succ]
          refine tkU 1 (by assumption) ?_
          simp only [Act.put, List.setIfInBounds_toArray, List.set_cons_zero, List.set_cons_succ]
          refine tkU 2 (by assumption) ?_
          simp only [Act.put, List.setIfInBounds_toArray, List.set_cons_zero, List.set_cons_succ]
          refine tkU 3 (by assumption) ?_
          simp only [Act.put, List.setIfInBounds_toArray, List.set_cons_zero, List.set_cons_succ]
          refine tkU 4 (by assumption) ?_
          simp only [Act.put, List.setIfInBounds_toArray, List.set_cons_zero, List.set_cons_succ]
          refine tkU 5 (by assumption) ?_
          simp only [Act.put, List.setIfInBounds_toArray, List.set_cons_zero, List.set_cons_succ]
          refine tkU 6 (by assumption) ?_
          simp only [Act.put, List.setIfInBounds_toArray, List.set_cons_zero, List.set_cons_succ]
          refine tkU 7 (by assumption) ?_
          simp only [Act.put, List.setIfInBounds_toArray, List.set_cons_zero, List.set_cons_succ]
          refine ldU 8 (fun K hK => ?_)
          go_simp
          have bb : Below w3.heap.size w3 (w3.alloc (.cells #[.int .i64 who, .int .i64 t1, .int .i64 t2, .int .i64 t3, .int .i64 t4, .int .i64 t5, .int .i64 t6, .int .i64 t7] 57)) := (Below.refl _ _).alloc (Nat.le_refl _) _
          have NW := Kept.mk (World.news_of_block (cs := #[.int .i64 who, .int .i64 t1, .int .i64 t2, .int .i64 t3, .int .i64 t4, .int .i64 t5, .int .i64 t6, .int .i64 t7]) (t := 57) (fr := (0, 0)) (heap_alloc_new w3 _))
          replace X := Kept.mk (X.out.below bb); replace Y := Kept.mk (Y.out.below bb Y.out.lt)
          replace FP := Kept.mk (Fp.trans FP.out ⟨barOf bb _, fun _ hk => .inl hk⟩)
          have hS1 := CS X.out Y.out
          refine hK.out _ _ (fun _ => hS1) (fun _ => ?_)
          clear hK K bb hS0
          try simp only [Act.put, List.setIfInBounds_toArray, List.set_cons_zero, List.set_cons_succ]
          generalize (w3.alloc (.cells #[.int .i64 who, .int .i64 t1, .int .i64 t2, .int .i64 t3, .int .i64 t4, .int .i64 t5, .int .i64 t6, .int .i64 t7] 57)) = w4 at *
          generalize w3.heap.size = gB at *
          obtain ⟨iu, hi, hz0, hz1, hz2⟩ := info_parts info_cv
          have hNx := X.out.least; have hxl := X.out.blk.lt
          refine ldU 9 (fun K hK => ?_)
          refine step_append_lies _ (by rfl) _ _ _ (by rfl) N 57 iu (.agg #[.int .i64 0, .int .i64 0, .int .i64 0, .int .i64 0, .int .i64 0, .int .i64 0, .int .i64 0, .int .i64 0]) 8 64 Try.underlying51 hi hz0 hz1 hz2 rfl (by omega) (.slice B C.length cp) C.length (C.flatMap cvC) (by rfl) X.out.row
            ⟨gB, 0, none⟩ 1 1 (cvC ⟨who, t1, t2, t3, t4, t5, t6, t7⟩) (by rfl) (by rfl) NW.out (cvC_one _) (by omega) (by unfold maxLen; omega) (by omega) (by omega) w4.heap.size rfl ?_
          intro gg cg w5 hown hgrow hat hlt
          have PS := Kept.mk (X.out.push hgrow hown (hat.imp (fun h => h.symm) (fun h1 => by rw [h1]; rfl)))
          have YF : Kept (M ∉ (Value.slice B C.length cp).ownBlock.toList) := ⟨fun hm => HMF.out M (by rw [HF.out]; exact List.mem_cons_of_mem _ hm) rfl⟩
          replace Y := Kept.mk (Y.out.bar (Bar.grownRow hgrow) YF.out)
          have y3 : w5.cell? ⟨x, 3, none⟩ = some (.slice B C.length cp) := PS.out.1.cell 3
          have f3 := PS.out.1.frozen 3
          replace FP := Kept.mk (Fp.trans (HF.out ▸ FP.out) PS.out.2.2)
          have hS2 : w5.cell? ⟨x, 3, none⟩ = some (.slice B C.length cp) ∧ w5.cell? ⟨M, 0, none⟩ = some (.int .i64 t1) ∧ w5.cell? ⟨M, 1, none⟩ = some (.int .i64 t2) ∧ w5.cell? ⟨M, 2, none⟩ = some (.int .i64 t3) ∧ w5.cell? ⟨M, 3, none⟩ = some (.int .i64 t4) ∧ w5.cell? ⟨M, 4, none⟩ = some (.int .i64 t5) ∧ w5.cell? ⟨M, 5, none⟩ = some (.int .i64 t6) ∧ w5.cell? ⟨M, 6, none⟩ = some (.int .i64 t7) := ⟨y3, Y.out.cell 0, Y.out.cell 1, Y.out.cell 2, Y.out.cell 3, Y.out.cell 4, Y.out.cell 5, Y.out.cell 6⟩
          clear hown hgrow hat hlt NW hi hz0 hz1 hz2 X hS1 hNx hxl CS
          refine hK.out _ _ (fun _ => hS2) (fun _ => ?_)
          clear hK K
          try simp only [Act.put, List.setIfInBounds_toArray, List.set_cons_zero, List.set_cons_succ]
          refine ldU 10 (fun K hK => ?_)
          go_simp
          refine hK.out _ _ (fun _ => hS2) (fun _ => ?_)
          clear hK K
          try simp only [Act.put, List.setIfInBounds_toArray, List.set_cons_zero, List.set_cons_succ]
          refine ldU 11 (fun K hK => ?_)
          go_simp
          refine hK.out _ _ (fun _ => hS2) (fun _ => ?_)
          clear hK K
          try simp only [Act.put, List.setIfInBounds_toArray, List.set_cons_zero, List.set_cons_succ]
          refine ldU 12 (fun K hK => ?_)
          go_simp
          refine hK.out _ _ (fun h => absurd rfl h) (fun _ => ?_)
          clear hK K
          try simp only [Act.put, List.setIfInBounds_toArray, List.set_cons_zero, List.set_cons_succ]
          refine wpAnyU_done (by kernel_rfl) ?_ _
          refine NoPanic.normal ?_
          have PE : Kept (Td (x :: (Value.slice (some ⟨gg, 0, none⟩) (C.length + 1) cg).ownBlock.toList) N (w5.setCell ⟨x, 3, none⟩ (.slice (some ⟨gg, 0, none⟩) (C.length + 1) cg)) x p c a C2) := ⟨by rw [KL.out (by simp)]; exact ⟨_, PS.out.2.1, rfl⟩⟩
          clear PS y3 f3 KL
          go_wp2
          go_ret
          exact ⟨_, rfl, PE.out, HF.out ▸ FP.out⟩
    · rw [hs, if_pos rfl] at her
      replace CH2 := CH2.out
      by_cases hh : hasC C who t1 = true
      · rw [if_pos hh] at her
        subst her
        rw [hh] at CH2
        replace CH2 := Kept.mk CH2
        clear hh
        go_wp2_with fail
        refine CH2.out.mono ?_
        rintro e w3 ⟨rfl, b3⟩
        have PE := Kept.mk (KE.out (by decide) w3 (FB.out.trans ((B2.out.trans (b3.mono B2.out.size)).mono FB.out.size)))
        clear b3 CH2 KE KL
        go_wp2
        go_ret
        exact ⟨F, rfl, PE.out⟩
      · have hh' : hasC C who t1 = false := by simpa using hh
        rw [if_neg hh] at her
        rw [hh'] at CH2
        replace CH2 := Kept.mk CH2
        clear hh hh'
        go_wp2_with fail
        refine CH2.out.mono ?_
        rintro e w3 ⟨rfl, b3⟩
        have B3 := Kept.mk (B2.out.trans (b3.mono B2.out.size))
        have X := Kept.mk (YX.out w3 B3.out)
        replace Y := Kept.mk (Y.out.below B3.out Y.out.lt)
        clear b3 CH2 m0 m1 m2 Y2 B2 YX
        have c3 : w3.cell? ⟨x, 3, none⟩ = some (.slice B C.length cp) := X.out.blk.cell 3
        by_cases hl : C.length = 400
        · rw [if_pos hl] at her
          subst her
          have hl' : (C.length : Int) = 400 := by omega
          have PE := Kept.mk (KE.out (by decide) w3 (FB.out.trans (B3.out.mono FB.out.size)))
          clear KE KL hl
          go_wp2
          go_ret
          exact ⟨F, rfl, PE.out⟩
        · rw [if_neg hl] at her
          subst her
          have hl' : ¬ (C.length : Int) = 400 := by omega
          have FP : Kept (Fp F F w w3) := ⟨barOf (FB.out.trans (B3.out.mono FB.out.size)) _, fun _ h => .inl h⟩
          clear KE
          go_upto_region 10 with (fail)
          have CS : ∀ {u : World}, Tv N u x p c a (.slice B C.length cp) C → Blk u M 33 #[.int .i64 t1, .int .i64 t2, .int .i64 t3, .int .i64 t4, .int .i64 t5, .int .i64 t6, .int .i64 t7] → (fun u : World => u.cell? ⟨x, 3, none⟩ = some (.slice B C.length cp) ∧ u.cell? ⟨M, 0, none⟩ = some (.int .i64 t1) ∧ u.cell? ⟨M, 1, none⟩ = some (.int .i64 t2) ∧ u.cell? ⟨M, 2, none⟩ = some (.int .i64 t3) ∧ u.cell? ⟨M, 3, none⟩ = some (.int .i64 t4) ∧ u.cell? ⟨M, 4, none⟩ = some (.int .i64 t5) ∧ u.cell? ⟨M, 5, none⟩ = some (.int .i64 t6) ∧ u.cell? ⟨M, 6, none⟩ = some (.int .i64 t7)) u := fun h g => ⟨h.blk.cell 3, g.cell 0, g.cell 1, g.cell 2, g.cell 3, g.cell 4, g.cell 5, g.cell 6⟩
          refine wp_region_noPanic ?_
          have bb : Below w3.heap.size w3 w3.drew := (Below.refl _ _).drew
          replace X := Kept.mk (X.out.below bb); replace Y := Kept.mk Y.out.drew
          replace FP := Kept.mk (Fp.trans FP.out ⟨barOf bb _, fun _ hk => .inl hk⟩)
          refine wp_region_U 12 (S := fun u : World => u.cell? ⟨x, 3, none⟩ = some (.slice B C.length cp) ∧ u.cell? ⟨M, 0, none⟩ = some (.int .i64 t1) ∧ u.cell? ⟨M, 1, none⟩ = some (.int .i64 t2) ∧ u.cell? ⟨M, 2, none⟩ = some (.int .i64 t3) ∧ u.cell? ⟨M, 3, none⟩ = some (.int .i64 t4) ∧ u.cell? ⟨M, 4, none⟩ = some (.int .i64 t5) ∧ u.cell? ⟨M, 5, none⟩ = some (.int .i64 t6) ∧ u.cell? ⟨M, 6, none⟩ = some (.int .i64 t7)) (by kernel_rfl) (CS X.out Y.out) (fun hS0 => ?_)
          clear bb c3 B3 FB
          generalize w3.drew = w3 at *
          refine tkU 0 (by assumption) ?_
          simp only [Act.put, List.setIfInBounds_toArray, List.set_cons_zero, List.set_cons_succ]
          refine tkU 1 (by assumption) ?_
          simp only [Act.put, List.setIfInBounds_toArray, List.set_cons_zero, List.set_cons_succ]
          refine tkU 2 (by assumption) ?_
          simp only [Act.put, List.setIfInBounds_toArray, List.set_cons_zero, List.set_cons_succ]
          refine tkU 3 (by assumption) ?_
          simp only [Act.put, List.setIfInBounds_toArray, List.set_cons_zero, List.set_cons_succ]
          refine tkU 4 (by assumption) ?_
          simp only [Act.put, List.setIfInBounds_toArray, List.set_cons_zero, List.set_cons_succ]
          refine tkU 5 (by assumption) ?_
          simp only [Act.put, List.setIfInBounds_toArray, List.set_cons_zero, List.set_cons_succ]
          refine tkU 6 (by assumption) ?_
          simp only [Act.put, List.setIfInBounds_toArray, List.set_cons_zero, List.set_cons_succ]
          refine tkU 7 (by assumption) ?_
          simp only [Act.put, List.setIfInBounds_toArray, List.set_cons_zero, List.set_cons_succ]
          refine ldU 8 (fun K hK => ?_)
          go_simp
          have bb : Below w3.heap.size w3 (w3.alloc (.cells #[.int .i64 who, .int .i64 t1, .int .i64 t2, .int .i64 t3, .int .i64 t4, .int .i64 t5, .int .i64 t6, .int .i64 t7] 57)) := (Below.refl _ _).alloc (Nat.le_refl _) _
          have NW := Kept.mk (World.news_of_block (cs := #[.int .i64 who, .int .i64 t1, .int .i64 t2, .int .i64 t3, .int .i64 t4, .int .i64 t5, .int .i64 t6, .int .i64 t7]) (t := 57) (fr := (0, 0)) (heap_alloc_new w3 _))
          replace X := Kept.mk (X.out.below bb); replace Y := Kept.mk (Y.out.below bb Y.out.lt)
          replace FP := Kept.mk (Fp.trans FP.out ⟨barOf bb _, fun _ hk => .inl hk⟩)
          have hS1 := CS X.out Y.out
          refine hK.out _ _ (fun _ => hS1) (fun _ => ?_)
          clear hK K bb hS0
          try simp only [Act.put, List.setIfInBounds_toArray, List.set_cons_zero, List.set_cons_succ]
          generalize (w3.alloc (.cells #[.int .i64 who, .int .i64 t1, .int .i64 t2, .int .i64 t3, .int .i64 t4, .int .i64 t5, .int .i64 t6, .int .i64 t7] 57)) = w4 at *
          generalize w3.heap.size = gB at *
          obtain ⟨iu, hi, hz0, hz1, hz2⟩ := info_parts info_cv
          have hNx := X.out.least; have hxl := X.out.blk.lt
          refine ldU 9 (fun K hK => ?_)
          refine step_append_lies _ (by rfl) _ _ _ (by rfl) N 57 iu (.agg #[.int .i64 0, .int .i64 0, .int .i64 0, .int .i64 0, .int .i64 0, .int .i64 0, .int .i64 0, .int .i64 0]) 8 64 Try.underlying51 hi hz0 hz1 hz2 rfl (by omega) (.slice B C.length cp) C.length (C.flatMap cvC) (by rfl) X.out.row
            ⟨gB, 0, none⟩ 1 1 (cvC ⟨who, t1, t2, t3, t4, t5, t6, t7⟩) (by rfl) (by rfl) NW.out (cvC_one _) (by omega) (by unfold maxLen; omega) (by omega) (by omega) w4.heap.size rfl ?_
          intro gg cg w5 hown hgrow hat hlt
          have PS := Kept.mk (X.out.push hgrow hown (hat.imp (fun h => h.symm) (fun h1 => by rw [h1]; rfl)))
          have YF : Kept (M ∉ (Value.slice B C.length cp).ownBlock.toList) := ⟨fun hm => HMF.out M (by rw [HF.out]; exact List.mem_cons_of_mem _ hm) rfl⟩
          replace Y := Kept.mk (Y.out.bar (Bar.grownRow hgrow) YF.out)
          have y3 : w5.cell? ⟨x, 3, none⟩ = some (.slice B C.length cp) := PS.out.1.cell 3
          have f3 := PS.out.1.frozen 3
          replace FP := Kept.mk (Fp.trans (HF.out ▸ FP.out) PS.out.2.2)
          have hS2 : w5.cell? ⟨x, 3, none⟩ = some (.slice B C.length cp) ∧ w5.cell? ⟨M, 0, none⟩ = some (.int .i64 t1) ∧ w5.cell? ⟨M, 1, none⟩ = some (.int .i64 t2) ∧ w5.cell? ⟨M, 2, none⟩ = some (.int .i64 t3) ∧ w5.cell? ⟨M, 3, none⟩ = some (.int .i64 t4) ∧ w5.cell? ⟨M, 4, none⟩ = some (.int .i64 t5) ∧ w5.cell? ⟨M, 5, none⟩ = some (.int .i64 t6) ∧ w5.cell? ⟨M, 6, none⟩ = some (.int .i64 t7) := ⟨y3, Y.out.cell 0, Y.out.cell 1, Y.out.cell 2, Y.out.cell 3, Y.out.cell 4, Y.out.cell 5, Y.out.cell 6⟩
          clear hown hgrow hat hlt NW hi hz0 hz1 hz2 X hS1 hNx hxl CS
          refine hK.out _ _ (fun _ => hS2) (fun _ => ?_)
          clear hK K
          try simp only [Act.put, List.setIfInBounds_toArray, List.set_cons_zero, List.set_cons_succ]
          refine ldU 10 (fun K hK => ?_)
          go_simp
          refine hK.out _ _ (fun _ => hS2) (fun _ => ?_)
          clear hK K
          try simp only [Act.put, List.setIfInBounds_toArray, List.set_cons_zero, List.set_cons_succ]
          refine ldU 11 (fun K hK => ?_)
          go_simp
          refine hK.out _ _ (fun _ => hS2) (fun _ => ?_)
          clear hK K
          try simp only [Act.put, List.setIfInBounds_toArray, List.set_cons_zero, List.set_cons_succ]
          refine ldU 12 (fun K hK => ?_)
          go_simp
          refine hK.out _ _ (fun h => absurd rfl h) (fun _ => ?_)
          clear hK K
          try simp only [Act.put, List.setIfInBounds_toArray, List.set_cons_zero, List.set_cons_succ]
          refine wpAnyU_done (by kernel_rfl) ?_ _
          refine NoPanic.normal ?_
          have PE : Kept (Td (x :: (Value.slice (some ⟨gg, 0, none⟩) (C.length + 1) cg).ownBlock.toList) N (w5.setCell ⟨x, 3, none⟩ (.slice (some ⟨gg, 0, none⟩) (C.length + 1) cg)) x p c a C2) := ⟨by rw [KL.out (by simp)]; exact ⟨_, PS.out.2.1, rfl⟩⟩
          clear PS y3 f3 KL
          go_wp2
          go_ret
          exact ⟨_, rfl, PE.out, HF.out ▸ FP.out⟩
  · rw [if_neg hme] at her
    subst her
    have hme' : (me == 0) = false := by simpa using hme
    have KE2 := Kept.mk (KE.out hme)
    clear hme KE KL
    go_enter Try.func12, Try.ntmps12
    go_upto_region 1 with (fail)
    refine wp_region_still_tail 13 (by kernel_rfl) (by kernel_rfl) ?_
    simp only [List.take_succ_cons, List.take_zero, List.drop_succ_cons, List.drop_zero]
    repeat still_step
    refine wpStill_nil ?_
    change wpList _ _ _ _ _ w1.drew
    go_wp2_with fail
    refine CM.out.mono ?_
    rintro e w2 ⟨rfl, b2⟩
    replace b2 : Below w1.heap.size w1 w2 := ⟨b2.os, b2.tape, b2.output, b2.size, b2.block⟩
    have PE := Kept.mk (KE2.out w2 (FB.out.trans (b2.mono FB.out.size)))
    clear b2 CM CH m0 m1 m2 m3 m4 m5 m6 c0 c1 c2
    go_wp2
    go_ret
    exact ⟨F, rfl, PE.out⟩
end
end Go.Proofs.Ythhjmbbfibgjpaa.Trade
