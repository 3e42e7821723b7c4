/-
  The law TradeSides, walked.
-/
import Derived.Test.YthhjmbbfibgjpaaTakes
import Derived.Test.YthhjmbbfibgjpaaTradeFirst
import Derived.Test.YthhjmbbfibgjpaaTradeBits
import Derived.Test.YthhjmbbfibgjpaaTradeSidesV
import Derived.Test.YthhjmbbfibgjpaaPutN
import Derived.Deep.CutBlock
import Derived.Deep.CutRange
namespace Go.Proofs.Ythhjmbbfibgjpaa.Trade
open Go.RowKit Go.Proofs.Ythhjmbbfibgjpaa.Sha

theorem ok_two {t u : TV} {x y : Int} (h : mayE t 16 4 4 = 0) (hi : u.id = t.id) : Okc [⟨x, t⟩, ⟨y, u⟩] := by
  have := (may_ok h).1
  refine ⟨by simp, fun z hz => ?_⟩
  simp only [List.mem_cons, List.not_mem_nil, or_false] at hz
  rcases hz with rfl | rfl
  · exact this
  · exact hi ▸ this
theorem ok_one {t : TV} {x : Int} (h : mayE t 16 4 4 = 0) : Okc [⟨x, t⟩] := by
  have := (may_ok h).1
  refine ⟨by simp, fun z hz => ?_⟩
  simp only [List.mem_cons, List.not_mem_nil, or_false] at hz
  subst hz
  exact this
set_option maxRecDepth 100000 in
set_option maxHeartbeats 8000000 in
theorem sides_walk (t : TV) (field : Int) (swap : Bool) (W : World) :
    Calls Try.prog 5 #[tvV t, .int .i64 field, .bool swap] W fun e w' => e = .returned (.bool true) ∧ Below W.heap.size W w' := by
  obtain ⟨N, hN⟩ : ∃ z, W.heap.size = z := ⟨_, rfl⟩
  obtain ⟨w0, hw0⟩ : ∃ z, W.alloc (.cells (tvC t).toArray 33) = z := ⟨_, rfl⟩
  have b0 : Below W.heap.size W w0 := hw0 ▸ (Below.refl _ _).alloc (Nat.le_refl _) _
  have Y0 : Blk w0 N 33 (tvC t).toArray := hw0 ▸ Blk.new_at W _ _ _ hN.symm
  have HB := Kept.mk b0
  obtain ⟨ti, hti⟩ : ∃ z, z = t := ⟨_, rfl⟩
  have KT := Kept.mk hti
  obtain ⟨t1, t2, t3, t4, t5, t6, t7⟩ := t
  unfold tvC at hw0 Y0
  unfold tvV
  dsimp only at hw0 Y0 ⊢
  have Y := Kept.mk Y0
  clear b0 Y0 hti
  go_enter Try.func5, Try.ntmps5
  go_wp2_with fail
  refine (tfirst_any w0).mono ?_
  rintro e w1 ⟨rfl, b1⟩
  replace HB := Kept.mk (HB.out.trans (b1.mono HB.out.size))
  replace Y := Kept.mk (Y.out.below b1 Y.out.lt)
  clear b1
  have CN := Kept.mk (new_yes (p := 16) (c := 4) (a := 4) (w := w1) (by decide))
  go_wp2_with fail
  refine CN.out.mono ?_
  rintro e w2 ⟨F, rfl, td, b2⟩
  have hxN : N < w1.heap.size := Y.out.lt
  have HF : Kept (∀ k ∈ F, N < k) := ⟨fun k hk => by have := (td.lt k hk).1; omega⟩
  have T := Kept.mk (td.base (Nat.le_of_lt hxN))
  replace HB := Kept.mk (HB.out.trans (b2.mono HB.out.size))
  have L := Kept.mk (Hd.mk (E := F) (Y.out.below b2 Y.out.lt) (fun hm => by have := HF.out N hm; omega))
  clear b2 CN td Y hxN HF
  generalize w1.heap.size = x at *
  have l0 : w2.cell? ⟨N, 0, none⟩ = some (.int .i64 t1) := L.out.blk.cell 0
  have l1 : w2.cell? ⟨N, 1, none⟩ = some (.int .i64 t2) := L.out.blk.cell 1
  have l2 : w2.cell? ⟨N, 2, none⟩ = some (.int .i64 t3) := L.out.blk.cell 2
  have l3 : w2.cell? ⟨N, 3, none⟩ = some (.int .i64 t4) := L.out.blk.cell 3
  have l4 : w2.cell? ⟨N, 4, none⟩ = some (.int .i64 t5) := L.out.blk.cell 4
  have l5 : w2.cell? ⟨N, 5, none⟩ = some (.int .i64 t6) := L.out.blk.cell 5
  have l6 : w2.cell? ⟨N, 6, none⟩ = some (.int .i64 t7) := L.out.blk.cell 6
  have CM : Kept (Calls Try.prog 10 #[.agg #[.int .i64 t1, .int .i64 t2, .int .i64 t3, .int .i64 t4, .int .i64 t5, .int .i64 t6, .int .i64 t7], .int .i64 16, .int .i64 4, .int .i64 4] w2 fun e w' => e = .returned (.int .i64 (mayE ⟨t1, t2, t3, t4, t5, t6, t7⟩ 16 4 4)) ∧ Below w2.heap.size w2 w') := ⟨may_any ⟨t1, t2, t3, t4, t5, t6, t7⟩ 16 4 4 w2⟩
  obtain ⟨me, hme⟩ : ∃ z, mayE ⟨t1, t2, t3, t4, t5, t6, t7⟩ 16 4 4 = z := ⟨_, rfl⟩
  rw [hme] at CM
  go_wp2_with fail
  refine CM.out.mono ?_
  rintro e w3 ⟨rfl, b3⟩
  replace HB := Kept.mk (HB.out.trans (b3.mono HB.out.size))
  replace T := Kept.mk (T.out.below b3)
  replace L := Kept.mk (L.out.below b3)
  clear b3 CM l0 l1 l2 l3 l4 l5 l6
  by_cases hm0 : me = 0
  · subst hm0
    have HM := Kept.mk hme
    clear hme
    go_upto_region 6 with (fail)
    have l0 : w3.cell? ⟨N, 0, none⟩ = some (.int .i64 t1) := L.out.blk.cell 0
    have l1 : w3.cell? ⟨N, 1, none⟩ = some (.int .i64 t2) := L.out.blk.cell 1
    have l2 : w3.cell? ⟨N, 2, none⟩ = some (.int .i64 t3) := L.out.blk.cell 2
    have l3 : w3.cell? ⟨N, 3, none⟩ = some (.int .i64 t4) := L.out.blk.cell 3
    have l4 : w3.cell? ⟨N, 4, none⟩ = some (.int .i64 t5) := L.out.blk.cell 4
    have l5 : w3.cell? ⟨N, 5, none⟩ = some (.int .i64 t6) := L.out.blk.cell 5
    have l6 : w3.cell? ⟨N, 6, none⟩ = some (.int .i64 t7) := L.out.blk.cell 6
    go_quiet (fail)
    have bb : Below w3.heap.size w3 (w3.drewN nq) := below_drewN (Below.refl _ _) nq
    replace HB := Kept.mk (HB.out.trans (bb.mono HB.out.size))
    replace T := Kept.mk (T.out.below bb)
    replace L := Kept.mk (L.out.below bb)
    clear bb l0 l1 l2 l3 l4 l5 l6
    go_upto_region 7 with (fail)
    generalize w3.drewN nq = w4 at *
    go_cut [43] from 44 to 45 (fun ts wx => ts = .bool swap ∧ w4 = wx)
    case first =>
      go_wp2
      go_meet
      exact ⟨rfl, rfl⟩
    case rest =>
    obtain ⟨rfl, hwc⟩ := hcut
    subst hwc
    refine ‹∀ (a : Act) (w : World), Code.wp _ _ _ a w → _› _ _ ?_
    go_cut [9, 10] from 44 to 45 (fun ta tb wx => ∃ aa bb : Int, ta = .int .i64 aa ∧ tb = .int .i64 bb ∧ w4 = wx ∧ Ends ⟨t1, t2, t3, t4, t5, t6, t7⟩ aa bb)
    case first =>
      cases swap with
      | true =>
        go_wp2
        go_meet
        exact ⟨t3, t2, rfl, rfl, rfl, .inr ⟨rfl, rfl⟩⟩
      | false =>
        go_wp2
        go_meet
        exact ⟨t2, t3, rfl, rfl, rfl, .inl ⟨rfl, rfl⟩⟩
    case rest =>
      obtain ⟨aa, bb, rfl, rfl, rfl, he⟩ := hcut
      have HE := Kept.mk he
      clear he
      have l0 : w4.cell? ⟨N, 0, none⟩ = some (.int .i64 t1) := L.out.blk.cell 0
      have l1 : w4.cell? ⟨N, 1, none⟩ = some (.int .i64 t2) := L.out.blk.cell 1
      have l2 : w4.cell? ⟨N, 2, none⟩ = some (.int .i64 t3) := L.out.blk.cell 2
      have l3 : w4.cell? ⟨N, 3, none⟩ = some (.int .i64 t4) := L.out.blk.cell 3
      have l4 : w4.cell? ⟨N, 4, none⟩ = some (.int .i64 t5) := L.out.blk.cell 4
      have l5 : w4.cell? ⟨N, 5, none⟩ = some (.int .i64 t6) := L.out.blk.cell 5
      have l6 : w4.cell? ⟨N, 6, none⟩ = some (.int .i64 t7) := L.out.blk.cell 6
      obtain ⟨U, hU⟩ : ∃ z, w4.heap.size = z := ⟨_, rfl⟩
      obtain ⟨w5, hw5⟩ : ∃ z, w4.alloc (.cells #[.int .i64 t1, .int .i64 t2, .int .i64 t3, .int .i64 t4, .int .i64 t5, .int .i64 t6, .int .i64 t7] 33) = z := ⟨_, rfl⟩
      have b5 : Below w4.heap.size w4 w5 := hw5 ▸ (Below.refl _ _).alloc (Nat.le_refl _) _
      have HUL : Kept (U ≠ N ∧ N ≤ U) := ⟨by have := L.out.blk.lt; omega⟩
      have V := Kept.mk (Hd.new (E := F) 33 #[.int .i64 t1, .int .i64 t2, .int .i64 t3, .int .i64 t4, .int .i64 t5, .int .i64 t6, .int .i64 t7] hU.symm (fun k hk => (T.out.lt k hk).2))
      rw [hw5] at V
      replace HB := Kept.mk (HB.out.trans (b5.mono HB.out.size))
      replace T := Kept.mk (T.out.below b5)
      replace L := Kept.mk (L.out.below b5)
      go_upto_block 0 with (fail)
      clear b5 hw5 hU l0 l1 l2 l3 l4 l5 l6
      go_cut [49] from 50 to 69 (fun _ wx => ∃ u1 u2 u3 u4 u5 u6 u7 : Int, Kept (uT field ⟨t1, t2, t3, t4, t5, t6, t7⟩ = ⟨u1, u2, u3, u4, u5, u6, u7⟩) ∧ Kept (Hd wx F U 33 #[.int .i64 u1, .int .i64 u2, .int .i64 u3, .int .i64 u4, .int .i64 u5, .int .i64 u6, .int .i64 u7]) ∧ Kept (Below W.heap.size W wx) ∧ Kept (Td F N wx x 16 4 4 []) ∧ Kept (Hd wx F N 33 #[.int .i64 t1, .int .i64 t2, .int .i64 t3, .int .i64 t4, .int .i64 t5, .int .i64 t6, .int .i64 t7]))
      case first =>
        have AND := and3 field
        have y0 : w5.cell? ⟨U, 0, none⟩ = some (.int .i64 t1) := V.out.blk.cell 0
        have y1 : w5.cell? ⟨U, 1, none⟩ = some (.int .i64 t2) := V.out.blk.cell 1
        have y2 : w5.cell? ⟨U, 2, none⟩ = some (.int .i64 t3) := V.out.blk.cell 2
        have y3 : w5.cell? ⟨U, 3, none⟩ = some (.int .i64 t4) := V.out.blk.cell 3
        have y4 : w5.cell? ⟨U, 4, none⟩ = some (.int .i64 t5) := V.out.blk.cell 4
        have y5 : w5.cell? ⟨U, 5, none⟩ = some (.int .i64 t6) := V.out.blk.cell 5
        have y6 : w5.cell? ⟨U, 6, none⟩ = some (.int .i64 t7) := V.out.blk.cell 6
        have f3 := V.out.blk.frozen 3; have f4 := V.out.blk.frozen 4; have f6 := V.out.blk.frozen 6
        have RX : ∀ z : Int, 0 < z → z ≤ 4611686018427387904 → IntKind.i64.wrap (z.tmod 1000 + 1001) = z % 1000 + 1001 ∧ IntKind.i64.wrap (z.tmod 1000) = z % 1000 ∧ z.tmod 1000 = z % 1000 := fun z h0 h1 => by
          have e := Int.tmod_eq_emod_of_nonneg (b := 1000) (Int.le_of_lt h0)
          rw [e]
          have h2 : 0 ≤ z % 1000 ∧ z % 1000 < 1000 := ⟨Int.emod_nonneg _ (by decide), Int.emod_lt_of_pos _ (by decide)⟩
          generalize z % 1000 = y at *
          refine ⟨?_, ?_, rfl⟩ <;> (simp only [IntKind.wrap_i64]; omega)
        have OK := may_ok HM.out
        dsimp only at OK
        obtain ⟨r1, r2, r3⟩ := RX t7 OK.2.2.2.2.2.2.1.1 OK.2.2.2.2.2.2.1.2
        obtain ⟨s1, s2, s3⟩ := RX t5 OK.2.2.2.2.2.1.1 OK.2.2.2.2.2.1.2
        have q4 : IntKind.i64.wrap (t4 + 1) = t4 + 1 := by have := OK.2.2.2.1; simp only [IntKind.wrap_i64]; omega
        have A4 := and3 (t4 + 1)
        clear RX OK
        by_cases h1 : field % 4 = 1
        · have hU : Kept (uT field ⟨t1, t2, t3, t4, t5, t6, t7⟩ = ⟨t1, t2, t3, t4, t5, t6, t7 % 1000 + 1001⟩) := ⟨by unfold uT; rw [if_pos h1]⟩
          rw [h1] at AND
          go_wp2
          go_meet
          have b6 : Bar [U] w5 (w5.setCell ⟨U, 6, none⟩ (.int .i64 (t7 % 1000 + 1001))) := (Bar.refl _ _).setCell (by simp) _
          refine ⟨t1, t2, t3, t4, t5, t6, t7 % 1000 + 1001, hU, ⟨⟨by simpa using V.out.blk.set_ 6 (.int .i64 (t7 % 1000 + 1001)), V.out.away⟩⟩, ⟨HB.out.trans (b6.below (by have := HB.out.size; omega) (fun z hz => by rw [List.mem_singleton] at hz; subst hz; have := HUL.out; omega))⟩, ⟨T.out.keep b6 (fun z hz hm => by rw [List.mem_singleton] at hm; subst hm; exact V.out.away hz)⟩, ⟨⟨L.out.blk.bar b6 (fun hm => by rw [List.mem_singleton] at hm; exact HUL.out.1 hm.symm), L.out.away⟩⟩⟩
        · by_cases h2 : field % 4 = 2
          · have hU : Kept (uT field ⟨t1, t2, t3, t4, t5, t6, t7⟩ = ⟨t1, t2, t3, t4, t5 % 1000 + 1001, t6, t7⟩) := ⟨by unfold uT; rw [if_neg h1, if_pos h2]⟩
            rw [h2] at AND
            go_wp2
            go_meet
            have b6 : Bar [U] w5 (w5.setCell ⟨U, 4, none⟩ (.int .i64 (t5 % 1000 + 1001))) := (Bar.refl _ _).setCell (by simp) _
            refine ⟨t1, t2, t3, t4, t5 % 1000 + 1001, t6, t7, hU, ⟨⟨by simpa using V.out.blk.set_ 4 (.int .i64 (t5 % 1000 + 1001)), V.out.away⟩⟩, ⟨HB.out.trans (b6.below (by have := HB.out.size; omega) (fun z hz => by rw [List.mem_singleton] at hz; subst hz; have := HUL.out; omega))⟩, ⟨T.out.keep b6 (fun z hz hm => by rw [List.mem_singleton] at hm; subst hm; exact V.out.away hz)⟩, ⟨⟨L.out.blk.bar b6 (fun hm => by rw [List.mem_singleton] at hm; exact HUL.out.1 hm.symm), L.out.away⟩⟩⟩
          · by_cases h3 : field % 4 = 3
            · have hU : Kept (uT field ⟨t1, t2, t3, t4, t5, t6, t7⟩ = ⟨t1, t2, t3, (t4 + 1) % 4, t5, t6, t7⟩) := ⟨by unfold uT; rw [if_neg h1, if_neg h2, if_pos h3]⟩
              rw [h3] at AND
              go_wp2
              go_meet
              have b6 : Bar [U] w5 (w5.setCell ⟨U, 3, none⟩ (.int .i64 ((t4 + 1) % 4))) := (Bar.refl _ _).setCell (by simp) _
              refine ⟨t1, t2, t3, (t4 + 1) % 4, t5, t6, t7, hU, ⟨⟨by simpa using V.out.blk.set_ 3 (.int .i64 ((t4 + 1) % 4)), V.out.away⟩⟩, ⟨HB.out.trans (b6.below (by have := HB.out.size; omega) (fun z hz => by rw [List.mem_singleton] at hz; subst hz; have := HUL.out; omega))⟩, ⟨T.out.keep b6 (fun z hz hm => by rw [List.mem_singleton] at hm; subst hm; exact V.out.away hz)⟩, ⟨⟨L.out.blk.bar b6 (fun hm => by rw [List.mem_singleton] at hm; exact HUL.out.1 hm.symm), L.out.away⟩⟩⟩
            · have hU : Kept (uT field ⟨t1, t2, t3, t4, t5, t6, t7⟩ = ⟨t1, t2, t3, t4, t5, t6, t7⟩) := ⟨by unfold uT; rw [if_neg h1, if_neg h2, if_neg h3]⟩
              have h1' : (field % 4 == 1) = false := by simpa using h1
              have h2' : (field % 4 == 2) = false := by simpa using h2
              have h3' : (field % 4 == 3) = false := by simpa using h3
              rw [← AND] at h1' h2' h3'
              go_wp2
              go_meet
              exact ⟨t1, t2, t3, t4, t5, t6, t7, hU, V, HB, T, L⟩
      case rest =>
        obtain ⟨v1, v2, v3, v4, v5, v6, v7, hU, V, HB, T, L⟩ := hcut
        have HU2 := uT_id field ⟨t1, t2, t3, t4, t5, t6, t7⟩
        have HM2 := uT_may (f := field) HM.out
        rw [hU.out] at HU2 HM2
        have HI := Kept.mk HU2; have HMU := Kept.mk HM2
        have OK := may_ok HM.out
        dsimp only at OK
        have hr2 := OK.2.1; have hr3 := OK.2.2.1; have hne := OK.2.2.2.2.2.2.2
        clear HU2 HM2 hU OK
        have WR : IntKind.i64.wrap (t2 + 1) = t2 + 1 := by simp only [IntKind.wrap_i64]; omega
        have A2 := and15 (t2 + 1)
        obtain ⟨z0, hz0⟩ : ∃ z, (t2 + 1) % 16 = z := ⟨_, rfl⟩
        rw [hz0] at A2
        have hz1 : z0 ≠ t2 ∧ 0 ≤ z0 ∧ z0 < 16 ∧ (z0 = t3 → (z0 + 1) % 16 ≠ t2 ∧ (z0 + 1) % 16 ≠ t3) := by omega
        clear hz0
        have A3 := and15 (z0 + 1)
        have WR2 : IntKind.i64.wrap (z0 + 1) = z0 + 1 := by simp only [IntKind.wrap_i64]; omega
        generalize hwc : wc = w6 at *
        clear hwc
        have l1 : w6.cell? ⟨N, 1, none⟩ = some (.int .i64 t2) := L.out.blk.cell 1
        have l2 : w6.cell? ⟨N, 2, none⟩ = some (.int .i64 t3) := L.out.blk.cell 2
        go_upto_region 18 with (fail)
        go_cut [77] from 74 to 76 (fun ts wx => ts = .bool (z0 == t3) ∧ w6 = wx)
        case first =>
          go_wp2
          go_meet
          exact ⟨rfl, rfl⟩
        case rest =>
        obtain ⟨rfl, hwc⟩ := hcut
        subst hwc
        refine ‹∀ (a : Act) (w : World), Code.wp _ _ _ a w → _› _ _ ?_
        go_cut [12] from 77 to 80 (fun tz wx => ∃ z : Int, tz = .int .i64 z ∧ w6 = wx ∧ z ≠ t2 ∧ z ≠ t3)
        case first =>
          by_cases h : z0 = t3
          · have h' : (z0 == t3) = true := by simpa using h
            have hz2 := hz1.2.2.2 h
            clear h
            go_wp2
            go_meet
            exact ⟨_, rfl, rfl, hz2⟩
          · have h' : (z0 == t3) = false := by simpa using h
            go_wp2
            go_meet
            exact ⟨z0, rfl, rfl, hz1.1, h⟩
        case rest =>
        obtain ⟨z, rfl, hwc, hzb, hzs⟩ := hcut
        subst hwc
        have HZ := Kept.mk (And.intro hzb hzs)
        have hz' : (z == t2) = false := by simpa using hzb
        clear A2 A3 WR WR2 hz1 hzb hzs
        go_upto_region 22 with (fail)
        clear l1 l2 hz' hr2 hr3 hne
        refine wp_region_noPanic ?_
        have bb : Below w6.heap.size w6 w6.drew := (Below.refl _ _).drew
        replace HB := Kept.mk (HB.out.trans (bb.mono HB.out.size))
        replace T := Kept.mk (T.out.below bb)
        replace L := Kept.mk (L.out.below bb)
        replace V := Kept.mk (V.out.below bb)
        refine wp_region_held_drew (S := fun u : World => u.cell? ⟨N, 0, none⟩ = some (.int .i64 t1) ∧ u.cell? ⟨N, 1, none⟩ = some (.int .i64 t2) ∧ u.cell? ⟨N, 2, none⟩ = some (.int .i64 t3) ∧ u.cell? ⟨N, 3, none⟩ = some (.int .i64 t4) ∧ u.cell? ⟨N, 4, none⟩ = some (.int .i64 t5) ∧ u.cell? ⟨N, 5, none⟩ = some (.int .i64 t6) ∧ u.cell? ⟨N, 6, none⟩ = some (.int .i64 t7) ∧ u.cell? ⟨U, 0, none⟩ = some (.int .i64 v1) ∧ u.cell? ⟨U, 1, none⟩ = some (.int .i64 v2) ∧ u.cell? ⟨U, 2, none⟩ = some (.int .i64 v3) ∧ u.cell? ⟨U, 3, none⟩ = some (.int .i64 v4) ∧ u.cell? ⟨U, 4, none⟩ = some (.int .i64 v5) ∧ u.cell? ⟨U, 5, none⟩ = some (.int .i64 v6) ∧ u.cell? ⟨U, 6, none⟩ = some (.int .i64 v7)) (by kernel_rfl) ⟨L.out.blk.cell 0, L.out.blk.cell 1, L.out.blk.cell 2, L.out.blk.cell 3, L.out.blk.cell 4, L.out.blk.cell 5, L.out.blk.cell 6, V.out.blk.cell 0, V.out.blk.cell 1, V.out.blk.cell 2, V.out.blk.cell 3, V.out.blk.cell 4, V.out.blk.cell 5, V.out.blk.cell 6⟩ (fun hHeld => ?_)
        clear bb
        generalize w6.drew = w7 at *
        refine tk 0 ?_
        simp only [Act.put, List.setIfInBounds_toArray, List.set_cons_zero, List.set_cons_succ]
        refine tk 1 ?_
        simp only [Act.put, List.setIfInBounds_toArray, List.set_cons_zero, List.set_cons_succ]
        refine tk 2 ?_
        simp only [Act.put, List.setIfInBounds_toArray, List.set_cons_zero, List.set_cons_succ]
        refine tk 4 ?_
        simp only [Act.put, List.setIfInBounds_toArray, List.set_cons_zero, List.set_cons_succ]
        refine tk 5 ?_
        simp only [Act.put, List.setIfInBounds_toArray, List.set_cons_zero, List.set_cons_succ]
        refine tk 6 ?_
        simp only [Act.put, List.setIfInBounds_toArray, List.set_cons_zero, List.set_cons_succ]
        have CP : Kept (Calls Try.prog 12 #[.pointer (some ⟨x, 0, none⟩), .int .i64 aa, .agg #[.int .i64 t1, .int .i64 t2, .int .i64 t3, .int .i64 t4, .int .i64 t5, .int .i64 t6, .int .i64 t7]] w7 (PutP F N x 16 4 4 0 [⟨aa, ⟨t1, t2, t3, t4, t5, t6, t7⟩⟩] w7)) := ⟨by have h := put_any aa ⟨t1, t2, t3, t4, t5, t6, t7⟩ T.out ok_nil; rw [(one_side HM.out HE.out).1, (one_side HM.out HE.out).2] at h; exact h⟩
        refine ld 3 (fun K hK => ?_)
        go_simp
        go_at_call 12
        refine CP.out.mono ?_
        rintro e w8 ⟨F2, rfl, td, fp⟩
        replace HB := Kept.mk (T.out.step (hN ▸ HB.out) fp)
        replace HB : Kept (Below W.heap.size W w8) := ⟨hN.symm ▸ HB.out⟩
        replace L := Kept.mk (L.out.step fp)
        replace V := Kept.mk (V.out.step fp)
        replace T := Kept.mk td
        clear hHeld CP td fp
        refine hK.out _ _ ⟨L.out.blk.cell 0, L.out.blk.cell 1, L.out.blk.cell 2, L.out.blk.cell 3, L.out.blk.cell 4, L.out.blk.cell 5, L.out.blk.cell 6, V.out.blk.cell 0, V.out.blk.cell 1, V.out.blk.cell 2, V.out.blk.cell 3, V.out.blk.cell 4, V.out.blk.cell 5, V.out.blk.cell 6⟩ (fun hHeld => ?_)
        clear hK K
        try simp only [Act.put, List.setIfInBounds_toArray, List.set_cons_zero, List.set_cons_succ]
        have CP : Kept (Calls Try.prog 12 #[.pointer (some ⟨x, 0, none⟩), .int .i64 bb, .agg #[.int .i64 v1, .int .i64 v2, .int .i64 v3, .int .i64 v4, .int .i64 v5, .int .i64 v6, .int .i64 v7]] w8 (PutP F2 N x 16 4 4 0 [⟨aa, ⟨t1, t2, t3, t4, t5, t6, t7⟩⟩, ⟨bb, ⟨v1, v2, v3, v4, v5, v6, v7⟩⟩] w8)) := ⟨by have h := put_any bb ⟨v1, v2, v3, v4, v5, v6, v7⟩ T.out (ok_one HM.out); rw [(two_sides HM.out HMU.out HI.out HE.out).1, (two_sides HM.out HMU.out HI.out HE.out).2] at h; exact h⟩
        refine ld 7 (fun K hK => ?_)
        go_simp
        go_at_call 12
        refine CP.out.mono ?_
        rintro e w9 ⟨F3, rfl, td, fp⟩
        replace HB := Kept.mk (T.out.step (hN ▸ HB.out) fp)
        replace HB : Kept (Below W.heap.size W w9) := ⟨hN.symm ▸ HB.out⟩
        replace L := Kept.mk (L.out.step fp)
        replace V := Kept.mk (V.out.step fp)
        replace T := Kept.mk td
        clear hHeld CP td fp
        refine hK.out _ _ ⟨L.out.blk.cell 0, L.out.blk.cell 1, L.out.blk.cell 2, L.out.blk.cell 3, L.out.blk.cell 4, L.out.blk.cell 5, L.out.blk.cell 6, V.out.blk.cell 0, V.out.blk.cell 1, V.out.blk.cell 2, V.out.blk.cell 3, V.out.blk.cell 4, V.out.blk.cell 5, V.out.blk.cell 6⟩ (fun hHeld => ?_)
        clear hK K
        try simp only [Act.put, List.setIfInBounds_toArray, List.set_cons_zero, List.set_cons_succ]
        refine tk 8 ?_
        simp only [Act.put, List.setIfInBounds_toArray, List.set_cons_zero, List.set_cons_succ]
        refine tk 9 ?_
        simp only [Act.put, List.setIfInBounds_toArray, List.set_cons_zero, List.set_cons_succ]
        refine wpAnyH_done (by kernel_rfl) ?_ _
        refine NoPanic.normal ?_
        clear hHeld
        have OK2 : Kept (Okc [⟨aa, ⟨t1, t2, t3, t4, t5, t6, t7⟩⟩, ⟨bb, ⟨v1, v2, v3, v4, v5, v6, v7⟩⟩]) := ⟨ok_two HM.out HI.out.1⟩
        have PM := pair_mat (x := aa) (y := bb) HI.out.1
        by_cases hq : (⟨t1, t2, t3, t4, t5, t6, t7⟩ : TV) = ⟨v1, v2, v3, v4, v5, v6, v7⟩
        · rw [if_pos hq, if_pos hq] at PM
          injection hq with e1 e2 e3 e4 e5 e6 e7
          subst e1 e2 e3 e4 e5 e6 e7
          have NE := fun w => tv_eql (a := ⟨t1, t2, t3, t4, t5, t6, t7⟩) (b := ⟨t1, t2, t3, t4, t5, t6, t7⟩) (decide_eq_true rfl) w
          unfold tvV at NE
          dsimp only at NE
          have CM := mat_any T.out OK2.out
          rw [PM.1] at CM
          replace CM := Kept.mk CM
          go_wp2_with fail
          refine CM.out.mono ?_
          rintro e w10 ⟨v10, rfl, o10, bb⟩
          have T9 := Kept.mk T.out
          replace HB := Kept.mk (HB.out.trans (bb.mono HB.out.size))
          replace T := Kept.mk (T.out.below bb)
          replace L := Kept.mk (L.out.below bb)
          replace V := Kept.mk (V.out.below bb)
          obtain ⟨gm, cm, rfl, RMC, RMF⟩ : ∃ gm cm, v10 = .slice (some ⟨gm, 0, none⟩) 1 cm ∧ Kept (∀ (j : Nat) v, (tvC ⟨t1, t2, t3, t4, t5, t6, t7⟩)[j]? = some v → w10.cell? ⟨gm, j, none⟩ = some v) ∧ Kept (gm ∉ F3) := by
            obtain ⟨A10, c10, rfl, -, -, r10⟩ := Rc.own tvC_len o10 rfl
            obtain ⟨g, o, u, hA, hu, hc⟩ := r10.at_ (k := 0) (by simp)
            rcases o10.2 with ⟨_, h0⟩ | ⟨g2, c2, r2, hv, -⟩
            · simp at h0
            · injection hv with hv1 _ hv3
              rw [hA] at hv1
              injection hv1 with hv1
              injection hv1 with hv11 hv12
              simp at hu
              subst hu hv11 hv12 hA
              exact ⟨g, c10, rfl, ⟨fun j v h => by simpa using hc j v h⟩, ⟨fun hm => by have h1 := (o10.lt g (by simp [Value.ownBlock])).1; have h2 := (T9.out.lt g hm).2; omega⟩⟩
          clear CM o10 bb
          have CO := opn_any T.out OK2.out
          rw [PM.2] at CO
          replace CO := Kept.mk CO
          go_wp2_with fail
          refine CO.out.mono ?_
          rintro e w11 ⟨v11, rfl, o11, bb⟩
          obtain ⟨A11, c11, rfl⟩ := own_shape o11
          replace HB := Kept.mk (HB.out.trans (bb.mono HB.out.size))
          replace T := Kept.mk (T.out.below bb)
          replace L := Kept.mk (L.out.below bb)
          replace V := Kept.mk (V.out.below bb)
          replace RMC := Kept.mk (fun (j : Nat) v (h : (tvC ⟨t1, t2, t3, t4, t5, t6, t7⟩)[j]? = some v) => (bb.cell (World.block_lt_of_cell? _ _ (RMC.out j v h))).trans (RMC.out j v h))
          clear CO o11 bb PM
          go_upto_region 24 with (fail)
          refine wp_region_noPanic ?_
          have bb : Below w11.heap.size w11 w11.drew := (Below.refl _ _).drew
          replace HB := Kept.mk (HB.out.trans (bb.mono HB.out.size))
          replace T := Kept.mk (T.out.below bb)
          replace L := Kept.mk (L.out.below bb)
          replace V := Kept.mk (V.out.below bb)
          replace RMC := Kept.mk (fun (j : Nat) v (h : (tvC ⟨t1, t2, t3, t4, t5, t6, t7⟩)[j]? = some v) => (bb.cell (World.block_lt_of_cell? _ _ (RMC.out j v h))).trans (RMC.out j v h))
          refine wp_region_held_drew (S := fun u : World => u.cell? ⟨N, 0, none⟩ = some (.int .i64 t1) ∧ u.cell? ⟨N, 1, none⟩ = some (.int .i64 t2) ∧ u.cell? ⟨N, 2, none⟩ = some (.int .i64 t3) ∧ u.cell? ⟨N, 3, none⟩ = some (.int .i64 t4) ∧ u.cell? ⟨N, 4, none⟩ = some (.int .i64 t5) ∧ u.cell? ⟨N, 5, none⟩ = some (.int .i64 t6) ∧ u.cell? ⟨N, 6, none⟩ = some (.int .i64 t7) ∧ u.cell? ⟨U, 0, none⟩ = some (.int .i64 t1) ∧ u.cell? ⟨U, 1, none⟩ = some (.int .i64 t2) ∧ u.cell? ⟨U, 2, none⟩ = some (.int .i64 t3) ∧ u.cell? ⟨U, 3, none⟩ = some (.int .i64 t4) ∧ u.cell? ⟨U, 4, none⟩ = some (.int .i64 t5) ∧ u.cell? ⟨U, 5, none⟩ = some (.int .i64 t6) ∧ u.cell? ⟨U, 6, none⟩ = some (.int .i64 t7) ∧ u.cell? ⟨gm, 0, none⟩ = some (.int .i64 t1) ∧ u.cell? ⟨gm, 1, none⟩ = some (.int .i64 t2) ∧ u.cell? ⟨gm, 2, none⟩ = some (.int .i64 t3) ∧ u.cell? ⟨gm, 3, none⟩ = some (.int .i64 t4) ∧ u.cell? ⟨gm, 4, none⟩ = some (.int .i64 t5) ∧ u.cell? ⟨gm, 5, none⟩ = some (.int .i64 t6) ∧ u.cell? ⟨gm, 6, none⟩ = some (.int .i64 t7)) (by kernel_rfl) ⟨L.out.blk.cell 0, L.out.blk.cell 1, L.out.blk.cell 2, L.out.blk.cell 3, L.out.blk.cell 4, L.out.blk.cell 5, L.out.blk.cell 6, V.out.blk.cell 0, V.out.blk.cell 1, V.out.blk.cell 2, V.out.blk.cell 3, V.out.blk.cell 4, V.out.blk.cell 5, V.out.blk.cell 6, RMC.out 0 _ rfl, RMC.out 1 _ rfl, RMC.out 2 _ rfl, RMC.out 3 _ rfl, RMC.out 4 _ rfl, RMC.out 5 _ rfl, RMC.out 6 _ rfl⟩ (fun hHeld => ?_)
          clear bb
          generalize w11.drew = w12 at *
          refine ld 0 (fun K hK => ?_)
          go_simp
          go_at_call 7
          refine (tfirst_any w12).mono ?_
          rintro e w13 ⟨rfl, bb⟩
          replace HB := Kept.mk (HB.out.trans (bb.mono HB.out.size))
          replace T := Kept.mk (T.out.below bb)
          replace L := Kept.mk (L.out.below bb)
          replace V := Kept.mk (V.out.below bb)
          replace RMC := Kept.mk (fun (j : Nat) v (h : (tvC ⟨t1, t2, t3, t4, t5, t6, t7⟩)[j]? = some v) => (bb.cell (World.block_lt_of_cell? _ _ (RMC.out j v h))).trans (RMC.out j v h))
          clear bb hHeld
          refine hK.out _ _ ⟨L.out.blk.cell 0, L.out.blk.cell 1, L.out.blk.cell 2, L.out.blk.cell 3, L.out.blk.cell 4, L.out.blk.cell 5, L.out.blk.cell 6, V.out.blk.cell 0, V.out.blk.cell 1, V.out.blk.cell 2, V.out.blk.cell 3, V.out.blk.cell 4, V.out.blk.cell 5, V.out.blk.cell 6, RMC.out 0 _ rfl, RMC.out 1 _ rfl, RMC.out 2 _ rfl, RMC.out 3 _ rfl, RMC.out 4 _ rfl, RMC.out 5 _ rfl, RMC.out 6 _ rfl⟩ (fun hHeld => ?_)
          clear hK K
          try simp only [Act.put, List.setIfInBounds_toArray, List.set_cons_zero, List.set_cons_succ]
          refine tk 1 ?_
          simp only [Act.put, List.setIfInBounds_toArray, List.set_cons_zero, List.set_cons_succ]
          refine tk 2 ?_
          simp only [Act.put, List.setIfInBounds_toArray, List.set_cons_zero, List.set_cons_succ]
          refine tk 3 ?_
          simp only [Act.put, List.setIfInBounds_toArray, List.set_cons_zero, List.set_cons_succ]
          refine tk 4 ?_
          simp only [Act.put, List.setIfInBounds_toArray, List.set_cons_zero, List.set_cons_succ]
          refine tk 5 ?_
          simp only [Act.put, List.setIfInBounds_toArray, List.set_cons_zero, List.set_cons_succ]
          refine tk 6 ?_
          simp only [Act.put, List.setIfInBounds_toArray, List.set_cons_zero, List.set_cons_succ]
          refine tk 7 ?_
          simp only [Act.put, List.setIfInBounds_toArray, List.set_cons_zero, List.set_cons_succ]
          refine tk 8 ?_
          simp only [Act.put, List.setIfInBounds_toArray, List.set_cons_zero, List.set_cons_succ]
          refine tk 9 ?_
          simp only [Act.put, List.setIfInBounds_toArray, List.set_cons_zero, List.set_cons_succ]
          refine tk 10 ?_
          simp only [Act.put, List.setIfInBounds_toArray, List.set_cons_zero, List.set_cons_succ]
          refine tk 11 ?_
          simp only [Act.put, List.setIfInBounds_toArray, List.set_cons_zero, List.set_cons_succ]
          refine tk 12 ?_
          simp only [Act.put, List.setIfInBounds_toArray, List.set_cons_zero, List.set_cons_succ]
          have CP : Kept (Calls Try.prog 12 #[.pointer (some ⟨x, 0, none⟩), .int .i64 z, .agg #[.int .i64 t1, .int .i64 t2, .int .i64 t3, .int .i64 t4, .int .i64 t5, .int .i64 t6, .int .i64 t7]] w13 (PutP F3 N x 16 4 4 14 [⟨aa, ⟨t1, t2, t3, t4, t5, t6, t7⟩⟩, ⟨bb, ⟨t1, t2, t3, t4, t5, t6, t7⟩⟩] w13)) := ⟨by have h := put_any z ⟨t1, t2, t3, t4, t5, t6, t7⟩ T.out OK2.out; rw [(third_no _ HM.out HZ.out.1 HZ.out.2).1, (third_no _ HM.out HZ.out.1 HZ.out.2).2] at h; exact h⟩
          refine ld 13 (fun K hK => ?_)
          go_simp
          go_at_call 12
          refine CP.out.mono ?_
          rintro e w14 ⟨F4, rfl, td, fp⟩
          replace HB := Kept.mk (T.out.step (hN ▸ HB.out) fp)
          replace HB : Kept (Below W.heap.size W w14) := ⟨hN.symm ▸ HB.out⟩
          replace L := Kept.mk (L.out.step fp)
          replace V := Kept.mk (V.out.step fp)

          replace T := Kept.mk td
          replace RMC : Kept (∀ (j : Nat) v, (tvC ⟨t1, t2, t3, t4, t5, t6, t7⟩)[j]? = some v → w14.cell? ⟨gm, j, none⟩ = some v) := ⟨fun j v h => by have hh := RMC.out j v h; rw [← hh]; exact World.cell?_of_block (w := w13) (fp.1.block gm (World.block_lt_of_cell? _ _ hh) RMF.out)⟩
          clear hHeld CP td
          clear fp
          refine hK.out _ _ ⟨L.out.blk.cell 0, L.out.blk.cell 1, L.out.blk.cell 2, L.out.blk.cell 3, L.out.blk.cell 4, L.out.blk.cell 5, L.out.blk.cell 6, V.out.blk.cell 0, V.out.blk.cell 1, V.out.blk.cell 2, V.out.blk.cell 3, V.out.blk.cell 4, V.out.blk.cell 5, V.out.blk.cell 6, RMC.out 0 _ rfl, RMC.out 1 _ rfl, RMC.out 2 _ rfl, RMC.out 3 _ rfl, RMC.out 4 _ rfl, RMC.out 5 _ rfl, RMC.out 6 _ rfl⟩ (fun hHeld => ?_)
          clear hK K
          try simp only [Act.put, List.setIfInBounds_toArray, List.set_cons_zero, List.set_cons_succ]
          refine tk 14 ?_
          simp only [Act.put, List.setIfInBounds_toArray, List.set_cons_zero, List.set_cons_succ]
          refine tk 15 ?_
          simp only [Act.put, List.setIfInBounds_toArray, List.set_cons_zero, List.set_cons_succ]
          refine tk 16 ?_
          simp only [Act.put, List.setIfInBounds_toArray, List.set_cons_zero, List.set_cons_succ]
          refine tk 17 ?_
          simp only [Act.put, List.setIfInBounds_toArray, List.set_cons_zero, List.set_cons_succ]
          refine tk 18 ?_
          simp only [Act.put, List.setIfInBounds_toArray, List.set_cons_zero, List.set_cons_succ]
          refine tk 19 ?_
          simp only [Act.put, List.setIfInBounds_toArray, List.set_cons_zero, List.set_cons_succ]
          refine tk 20 ?_
          simp only [Act.put, List.setIfInBounds_toArray, List.set_cons_zero, List.set_cons_succ]
          refine tk 21 ?_
          simp only [Act.put, List.setIfInBounds_toArray, List.set_cons_zero, List.set_cons_succ]
          refine tk 22 ?_
          simp only [Act.put, List.setIfInBounds_toArray, List.set_cons_zero, List.set_cons_succ]
          refine tk 23 ?_
          simp only [Act.put, List.setIfInBounds_toArray, List.set_cons_zero, List.set_cons_succ]
          refine tk 24 ?_
          simp only [Act.put, List.setIfInBounds_toArray, List.set_cons_zero, List.set_cons_succ]
          refine tk 25 ?_
          simp only [Act.put, List.setIfInBounds_toArray, List.set_cons_zero, List.set_cons_succ]
          refine tk 26 ?_
          simp only [Act.put, List.setIfInBounds_toArray, List.set_cons_zero, List.set_cons_succ]
          refine tk 27 ?_
          simp only [Act.put, List.setIfInBounds_toArray, List.set_cons_zero, List.set_cons_succ]
          refine tk 28 ?_
          simp only [Act.put, List.setIfInBounds_toArray, List.set_cons_zero, List.set_cons_succ]
          refine tk 29 ?_
          simp only [Act.put, List.setIfInBounds_toArray, List.set_cons_zero, List.set_cons_succ]
          refine tk 30 ?_
          simp only [Act.put, List.setIfInBounds_toArray, List.set_cons_zero, List.set_cons_succ]
          refine tk 31 ?_
          simp only [Act.put, List.setIfInBounds_toArray, List.set_cons_zero, List.set_cons_succ]
          refine tk 32 ?_
          simp only [Act.put, List.setIfInBounds_toArray, List.set_cons_zero, List.set_cons_succ]
          refine tk 33 ?_
          simp only [Act.put, List.setIfInBounds_toArray, List.set_cons_zero, List.set_cons_succ]
          refine tk 34 ?_
          simp only [Act.put, List.setIfInBounds_toArray, List.set_cons_zero, List.set_cons_succ]
          refine tk 35 ?_
          simp only [Act.put, List.setIfInBounds_toArray, List.set_cons_zero, List.set_cons_succ]
          refine tk 36 ?_
          simp only [Act.put, List.setIfInBounds_toArray, List.set_cons_zero, List.set_cons_succ]
          refine tk 37 ?_
          simp only [Act.put, List.setIfInBounds_toArray, List.set_cons_zero, List.set_cons_succ]
          refine tk 38 ?_
          simp only [Act.put, List.setIfInBounds_toArray, List.set_cons_zero, List.set_cons_succ]
          refine tk 39 ?_
          simp only [Act.put, List.setIfInBounds_toArray, List.set_cons_zero, List.set_cons_succ]
          refine tk 40 ?_
          simp only [Act.put, List.setIfInBounds_toArray, List.set_cons_zero, List.set_cons_succ]
          refine tk 41 ?_
          simp only [Act.put, List.setIfInBounds_toArray, List.set_cons_zero, List.set_cons_succ]
          refine tk 42 ?_
          simp only [Act.put, List.setIfInBounds_toArray, List.set_cons_zero, List.set_cons_succ]
          refine tk 43 ?_
          simp only [Act.put, List.setIfInBounds_toArray, List.set_cons_zero, List.set_cons_succ]
          refine tk 44 ?_
          simp only [Act.put, List.setIfInBounds_toArray, List.set_cons_zero, List.set_cons_succ]
          refine tk 45 ?_
          simp only [Act.put, List.setIfInBounds_toArray, List.set_cons_zero, List.set_cons_succ]
          refine tk 46 ?_
          simp only [Act.put, List.setIfInBounds_toArray, List.set_cons_zero, List.set_cons_succ]
          refine tk 47 ?_
          simp only [Act.put, List.setIfInBounds_toArray, List.set_cons_zero, List.set_cons_succ]
          have CL := Kept.mk (len_any T.out)
          refine ld 48 (fun K hK => ?_)
          go_simp
          go_at_call 14
          refine CL.out.mono ?_
          rintro e w15 ⟨rfl, rfl⟩
          clear CL
          refine hK.out _ _ hHeld (fun hHeld => ?_)
          clear hK K
          try simp only [Act.put, List.setIfInBounds_toArray, List.set_cons_zero, List.set_cons_succ]
          refine tk 49 ?_
          simp only [Act.put, List.setIfInBounds_toArray, List.set_cons_zero, List.set_cons_succ]
          refine tk 50 ?_
          simp only [Act.put, List.setIfInBounds_toArray, List.set_cons_zero, List.set_cons_succ]
          refine tk 51 ?_
          simp only [Act.put, List.setIfInBounds_toArray, List.set_cons_zero, List.set_cons_succ]
          refine wpAnyH_done (by kernel_rfl) ?_ _
          refine NoPanic.normal ?_
          clear hHeld
          go_wp2
          go_ret
          exact ⟨rfl, HB.out⟩
        · rw [if_neg hq, if_neg hq] at PM
          have NE := fun w => tv_eql (decide_eq_false hq) w
          unfold tvV at NE
          dsimp only at NE
          clear hq
          have CM := mat_any T.out OK2.out
          rw [PM.1] at CM
          replace CM := Kept.mk CM
          go_wp2_with fail
          refine CM.out.mono ?_
          rintro e w10 ⟨v10, rfl, o10, bb⟩
          replace HB := Kept.mk (HB.out.trans (bb.mono HB.out.size))
          replace T := Kept.mk (T.out.below bb)
          replace L := Kept.mk (L.out.below bb)
          replace V := Kept.mk (V.out.below bb)
          unfold Tr at o10
          obtain ⟨A10, c10, rfl⟩ := own_shape o10
          clear CM o10 bb
          have CO := opn_any T.out OK2.out
          rw [PM.2] at CO
          replace CO := Kept.mk CO
          go_wp2_with fail
          refine CO.out.mono ?_
          rintro e w11 ⟨v11, rfl, o11, bb⟩
          obtain ⟨A11, c11, rfl⟩ := own_shape o11
          replace HB := Kept.mk (HB.out.trans (bb.mono HB.out.size))
          replace T := Kept.mk (T.out.below bb)
          replace L := Kept.mk (L.out.below bb)
          replace V := Kept.mk (V.out.below bb)
          clear CO o11 bb PM
          go_upto_region 24 with (fail)
          refine wp_region_noPanic ?_
          have bb : Below w11.heap.size w11 w11.drew := (Below.refl _ _).drew
          replace HB := Kept.mk (HB.out.trans (bb.mono HB.out.size))
          replace T := Kept.mk (T.out.below bb)
          replace L := Kept.mk (L.out.below bb)
          replace V := Kept.mk (V.out.below bb)
          refine wp_region_held_drew (S := fun u : World => u.cell? ⟨N, 0, none⟩ = some (.int .i64 t1) ∧ u.cell? ⟨N, 1, none⟩ = some (.int .i64 t2) ∧ u.cell? ⟨N, 2, none⟩ = some (.int .i64 t3) ∧ u.cell? ⟨N, 3, none⟩ = some (.int .i64 t4) ∧ u.cell? ⟨N, 4, none⟩ = some (.int .i64 t5) ∧ u.cell? ⟨N, 5, none⟩ = some (.int .i64 t6) ∧ u.cell? ⟨N, 6, none⟩ = some (.int .i64 t7) ∧ u.cell? ⟨U, 0, none⟩ = some (.int .i64 v1) ∧ u.cell? ⟨U, 1, none⟩ = some (.int .i64 v2) ∧ u.cell? ⟨U, 2, none⟩ = some (.int .i64 v3) ∧ u.cell? ⟨U, 3, none⟩ = some (.int .i64 v4) ∧ u.cell? ⟨U, 4, none⟩ = some (.int .i64 v5) ∧ u.cell? ⟨U, 5, none⟩ = some (.int .i64 v6) ∧ u.cell? ⟨U, 6, none⟩ = some (.int .i64 v7)) (by kernel_rfl) ⟨L.out.blk.cell 0, L.out.blk.cell 1, L.out.blk.cell 2, L.out.blk.cell 3, L.out.blk.cell 4, L.out.blk.cell 5, L.out.blk.cell 6, V.out.blk.cell 0, V.out.blk.cell 1, V.out.blk.cell 2, V.out.blk.cell 3, V.out.blk.cell 4, V.out.blk.cell 5, V.out.blk.cell 6⟩ (fun hHeld => ?_)
          clear bb
          generalize w11.drew = w12 at *
          refine ld 0 (fun K hK => ?_)
          go_simp
          go_at_call 7
          refine (tfirst_any w12).mono ?_
          rintro e w13 ⟨rfl, bb⟩
          replace HB := Kept.mk (HB.out.trans (bb.mono HB.out.size))
          replace T := Kept.mk (T.out.below bb)
          replace L := Kept.mk (L.out.below bb)
          replace V := Kept.mk (V.out.below bb)
          clear bb hHeld
          refine hK.out _ _ ⟨L.out.blk.cell 0, L.out.blk.cell 1, L.out.blk.cell 2, L.out.blk.cell 3, L.out.blk.cell 4, L.out.blk.cell 5, L.out.blk.cell 6, V.out.blk.cell 0, V.out.blk.cell 1, V.out.blk.cell 2, V.out.blk.cell 3, V.out.blk.cell 4, V.out.blk.cell 5, V.out.blk.cell 6⟩ (fun hHeld => ?_)
          clear hK K
          try simp only [Act.put, List.setIfInBounds_toArray, List.set_cons_zero, List.set_cons_succ]
          refine tk 1 ?_
          simp only [Act.put, List.setIfInBounds_toArray, List.set_cons_zero, List.set_cons_succ]
          refine tk 2 ?_
          simp only [Act.put, List.setIfInBounds_toArray, List.set_cons_zero, List.set_cons_succ]
          refine tk 3 ?_
          simp only [Act.put, List.setIfInBounds_toArray, List.set_cons_zero, List.set_cons_succ]
          refine tk 4 ?_
          simp only [Act.put, List.setIfInBounds_toArray, List.set_cons_zero, List.set_cons_succ]
          refine tk 5 ?_
          simp only [Act.put, List.setIfInBounds_toArray, List.set_cons_zero, List.set_cons_succ]
          refine tk 6 ?_
          simp only [Act.put, List.setIfInBounds_toArray, List.set_cons_zero, List.set_cons_succ]
          refine tk 7 ?_
          simp only [Act.put, List.setIfInBounds_toArray, List.set_cons_zero, List.set_cons_succ]
          refine tk 8 ?_
          simp only [Act.put, List.setIfInBounds_toArray, List.set_cons_zero, List.set_cons_succ]
          refine tk 9 ?_
          simp only [Act.put, List.setIfInBounds_toArray, List.set_cons_zero, List.set_cons_succ]
          refine tk 10 ?_
          simp only [Act.put, List.setIfInBounds_toArray, List.set_cons_zero, List.set_cons_succ]
          refine tk 11 ?_
          simp only [Act.put, List.setIfInBounds_toArray, List.set_cons_zero, List.set_cons_succ]
          refine tk 12 ?_
          simp only [Act.put, List.setIfInBounds_toArray, List.set_cons_zero, List.set_cons_succ]
          have CP : Kept (Calls Try.prog 12 #[.pointer (some ⟨x, 0, none⟩), .int .i64 z, .agg #[.int .i64 t1, .int .i64 t2, .int .i64 t3, .int .i64 t4, .int .i64 t5, .int .i64 t6, .int .i64 t7]] w13 (PutP F3 N x 16 4 4 14 [⟨aa, ⟨t1, t2, t3, t4, t5, t6, t7⟩⟩, ⟨bb, ⟨v1, v2, v3, v4, v5, v6, v7⟩⟩] w13)) := ⟨by have h := put_any z ⟨t1, t2, t3, t4, t5, t6, t7⟩ T.out OK2.out; rw [(third_no _ HM.out HZ.out.1 HZ.out.2).1, (third_no _ HM.out HZ.out.1 HZ.out.2).2] at h; exact h⟩
          refine ld 13 (fun K hK => ?_)
          go_simp
          go_at_call 12
          refine CP.out.mono ?_
          rintro e w14 ⟨F4, rfl, td, fp⟩
          replace HB := Kept.mk (T.out.step (hN ▸ HB.out) fp)
          replace HB : Kept (Below W.heap.size W w14) := ⟨hN.symm ▸ HB.out⟩
          replace L := Kept.mk (L.out.step fp)
          replace V := Kept.mk (V.out.step fp)

          replace T := Kept.mk td
          clear hHeld CP td
          clear fp
          refine hK.out _ _ ⟨L.out.blk.cell 0, L.out.blk.cell 1, L.out.blk.cell 2, L.out.blk.cell 3, L.out.blk.cell 4, L.out.blk.cell 5, L.out.blk.cell 6, V.out.blk.cell 0, V.out.blk.cell 1, V.out.blk.cell 2, V.out.blk.cell 3, V.out.blk.cell 4, V.out.blk.cell 5, V.out.blk.cell 6⟩ (fun hHeld => ?_)
          clear hK K
          try simp only [Act.put, List.setIfInBounds_toArray, List.set_cons_zero, List.set_cons_succ]
          refine tk 14 ?_
          simp only [Act.put, List.setIfInBounds_toArray, List.set_cons_zero, List.set_cons_succ]
          refine tk 15 ?_
          simp only [Act.put, List.setIfInBounds_toArray, List.set_cons_zero, List.set_cons_succ]
          refine tk 16 ?_
          simp only [Act.put, List.setIfInBounds_toArray, List.set_cons_zero, List.set_cons_succ]
          refine tk 17 ?_
          simp only [Act.put, List.setIfInBounds_toArray, List.set_cons_zero, List.set_cons_succ]
          refine tk 18 ?_
          simp only [Act.put, List.setIfInBounds_toArray, List.set_cons_zero, List.set_cons_succ]
          refine tk 19 ?_
          simp only [Act.put, List.setIfInBounds_toArray, List.set_cons_zero, List.set_cons_succ]
          refine tk 20 ?_
          simp only [Act.put, List.setIfInBounds_toArray, List.set_cons_zero, List.set_cons_succ]
          refine tk 21 ?_
          simp only [Act.put, List.setIfInBounds_toArray, List.set_cons_zero, List.set_cons_succ]
          refine tk 22 ?_
          simp only [Act.put, List.setIfInBounds_toArray, List.set_cons_zero, List.set_cons_succ]
          refine tk 23 ?_
          simp only [Act.put, List.setIfInBounds_toArray, List.set_cons_zero, List.set_cons_succ]
          refine tk 24 ?_
          simp only [Act.put, List.setIfInBounds_toArray, List.set_cons_zero, List.set_cons_succ]
          refine tk 25 ?_
          simp only [Act.put, List.setIfInBounds_toArray, List.set_cons_zero, List.set_cons_succ]
          refine tk 26 ?_
          simp only [Act.put, List.setIfInBounds_toArray, List.set_cons_zero, List.set_cons_succ]
          refine tk 27 ?_
          simp only [Act.put, List.setIfInBounds_toArray, List.set_cons_zero, List.set_cons_succ]
          refine tk 28 ?_
          simp only [Act.put, List.setIfInBounds_toArray, List.set_cons_zero, List.set_cons_succ]
          refine tk 29 ?_
          simp only [Act.put, List.setIfInBounds_toArray, List.set_cons_zero, List.set_cons_succ]
          refine tk 30 ?_
          simp only [Act.put, List.setIfInBounds_toArray, List.set_cons_zero, List.set_cons_succ]
          refine tk 31 ?_
          simp only [Act.put, List.setIfInBounds_toArray, List.set_cons_zero, List.set_cons_succ]
          refine tk 32 ?_
          simp only [Act.put, List.setIfInBounds_toArray, List.set_cons_zero, List.set_cons_succ]
          refine tk 33 ?_
          simp only [Act.put, List.setIfInBounds_toArray, List.set_cons_zero, List.set_cons_succ]
          refine tk 34 ?_
          simp only [Act.put, List.setIfInBounds_toArray, List.set_cons_zero, List.set_cons_succ]
          refine tk 35 ?_
          simp only [Act.put, List.setIfInBounds_toArray, List.set_cons_zero, List.set_cons_succ]
          refine tk 36 ?_
          simp only [Act.put, List.setIfInBounds_toArray, List.set_cons_zero, List.set_cons_succ]
          refine tk 37 ?_
          simp only [Act.put, List.setIfInBounds_toArray, List.set_cons_zero, List.set_cons_succ]
          refine tk 38 ?_
          simp only [Act.put, List.setIfInBounds_toArray, List.set_cons_zero, List.set_cons_succ]
          refine tkn 39 ?_
          simp only [Act.put, List.setIfInBounds_toArray, List.set_cons_zero, List.set_cons_succ]
          refine tkn 40 ?_
          simp only [Act.put, List.setIfInBounds_toArray, List.set_cons_zero, List.set_cons_succ]
          refine tkn 41 ?_
          simp only [Act.put, List.setIfInBounds_toArray, List.set_cons_zero, List.set_cons_succ]
          refine tkn 42 ?_
          simp only [Act.put, List.setIfInBounds_toArray, List.set_cons_zero, List.set_cons_succ]
          refine tkn 43 ?_
          simp only [Act.put, List.setIfInBounds_toArray, List.set_cons_zero, List.set_cons_succ]
          refine tk 44 ?_
          simp only [Act.put, List.setIfInBounds_toArray, List.set_cons_zero, List.set_cons_succ]
          refine tk 45 ?_
          simp only [Act.put, List.setIfInBounds_toArray, List.set_cons_zero, List.set_cons_succ]
          refine tk 46 ?_
          simp only [Act.put, List.setIfInBounds_toArray, List.set_cons_zero, List.set_cons_succ]
          refine tk 47 ?_
          simp only [Act.put, List.setIfInBounds_toArray, List.set_cons_zero, List.set_cons_succ]
          have CL := Kept.mk (len_any T.out)
          refine ld 48 (fun K hK => ?_)
          go_simp
          go_at_call 14
          refine CL.out.mono ?_
          rintro e w15 ⟨rfl, rfl⟩
          clear CL
          refine hK.out _ _ hHeld (fun hHeld => ?_)
          clear hK K
          try simp only [Act.put, List.setIfInBounds_toArray, List.set_cons_zero, List.set_cons_succ]
          refine tk 49 ?_
          simp only [Act.put, List.setIfInBounds_toArray, List.set_cons_zero, List.set_cons_succ]
          refine tk 50 ?_
          simp only [Act.put, List.setIfInBounds_toArray, List.set_cons_zero, List.set_cons_succ]
          refine tk 51 ?_
          simp only [Act.put, List.setIfInBounds_toArray, List.set_cons_zero, List.set_cons_succ]
          refine wpAnyH_done (by kernel_rfl) ?_ _
          refine NoPanic.normal ?_
          clear hHeld
          go_wp2
          go_ret
          exact ⟨rfl, HB.out⟩
  · have hm1 : (me != 0) = true := by simpa using hm0
    clear hme
    go_wp2_with fail
    refine (tfirst_any w3).mono ?_
    rintro e w4 ⟨rfl, b4⟩
    replace HB := Kept.mk (HB.out.trans (b4.mono HB.out.size))
    clear b4
    go_wp2
    go_ret
    exact ⟨rfl, HB.out⟩
end Go.Proofs.Ythhjmbbfibgjpaa.Trade
