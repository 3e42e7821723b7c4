/-
  Package trade: byID.
-/
import Derived.Test.YthhjmbbfibgjpaaTakesU
import Derived.Test.YthhjmbbfibgjpaaTradeMap
import Derived.Test.YthhjmbbfibgjpaaTakes
import Derived.Test.YthhjmbbfibgjpaaLast
import Derived.Deep.AppendLies
namespace Go.Proofs.Ythhjmbbfibgjpaa.Trade
open Go.RowKit Go.Proofs.Ythhjmbbfibgjpaa.Sha

theorem tr_take {C : List CV} {k : Nat} {u : CV} (h : C[k]? = some u) : tr (C.take (k + 1)) = tr (C.take k) ++ [u.t] := by
  obtain ⟨hk, rfl⟩ := List.getElem?_eq_some_iff.1 h
  rw [List.take_add_one, List.getElem?_eq_getElem hk]
  unfold tr
  rw [List.map_append]
  rfl
set_option maxRecDepth 100000 in
set_option maxHeartbeats 1000000 in
theorem byID_any {N x : Nat} {p c a : Int} {v : Value} {C : List CV} {w : World} (h : Tv N w x p c a v C) (hC : Okc C) :
    Calls Try.prog 28 #[.pointer (some ⟨x, 0, none⟩)] w fun e w' => ∃ g, e = .returned (.map (some g)) ∧ Mt w.heap.size w' g (tr C) ∧ Below w.heap.size w w' := by
  obtain ⟨G, hG⟩ : ∃ z, w.heap.size = z := ⟨_, rfl⟩
  obtain ⟨w1, hw1⟩ : ∃ z, w.alloc (.map #[] 0) = z := ⟨_, rfl⟩
  have b1 : Below w.heap.size w w1 := hw1 ▸ (Below.refl _ _).alloc (Nat.le_refl _) _
  have M1 : Kept (Mt G w1 G []) := ⟨hw1 ▸ hG ▸ Mt.new _ _⟩
  have T := h.below b1
  obtain ⟨A, cp, rfl, h1, h2, R0⟩ := h.rc
  have R := Kept.mk R0
  have c3 : w1.cell? ⟨x, 3, none⟩ = some (.slice A C.length cp) := T.blk.cell 3
  have B1 : Kept (Below G w w1) := ⟨hG ▸ b1⟩
  have OK := Kept.mk hC
  have hf := hC.few
  rw [hG]
  have hmm : (Instr.makeMap 58 none).run Try.prog w = .ok (.map (some G)) w1 := by
    rw [← hw1, ← hG]; exact run_makeMap _ w
  clear h b1 T R0 hC h1 hw1
  go_enter Try.func28, Try.ntmps28
  go_wp2
  clear hmm
  go_loopw [12] (fun i wr => ∃ k : Nat, k ≤ C.length ∧ i = .int .i64 k ∧ Kept (Mt G wr G (tr (C.take k))) ∧ Kept (Below G w wr)) (fun i _ => C.length - (Go.RowKit.intOf i).toNat)
  case atStart => exact ⟨0, by omega, rfl, M1, B1⟩
  case round =>
    obtain ⟨k, hk, rfl, HM, BW⟩ := hrel
    by_cases hkn : k < C.length
    · have hkn' : (k : Int) < C.length := by omega
      obtain ⟨g, o, u, hA, hu, hc⟩ := (R.out.below (hG.symm ▸ BW.out)).at_ hkn
      have c0 : wr.cell? ⟨g, o + k * 8, none⟩ = some (.int .i64 u.who) := hc 0 _ rfl
      have c1 : wr.cell? ⟨g, o + k * 8 + 1, none⟩ = some (.int .i64 u.t.id) := hc 1 _ rfl
      have c2 : wr.cell? ⟨g, o + k * 8 + 2, none⟩ = some (.int .i64 u.t.buyer) := hc 2 _ rfl
      have c3 : wr.cell? ⟨g, o + k * 8 + 3, none⟩ = some (.int .i64 u.t.seller) := hc 3 _ rfl
      have c4 : wr.cell? ⟨g, o + k * 8 + 4, none⟩ = some (.int .i64 u.t.cash) := hc 4 _ rfl
      have c5 : wr.cell? ⟨g, o + k * 8 + 5, none⟩ = some (.int .i64 u.t.price) := hc 5 _ rfl
      have c6 : wr.cell? ⟨g, o + k * 8 + 6, none⟩ = some (.int .i64 u.t.asset) := hc 6 _ rfl
      have c7 : wr.cell? ⟨g, o + k * 8 + 7, none⟩ = some (.int .i64 u.t.qty) := hc 7 _ rfl
      have HID := Kept.mk (OK.out.each u (List.mem_of_getElem? hu))
      have HU := Kept.mk (tr_take hu)
      have HLN : Kept ((tr (C.take k)).length < 1000) := ⟨by rw [tr_len, List.length_take]; omega⟩
      subst hA
      clear hc hu
      obtain ⟨u0, u1, u2, u3, u4, u5, u6, u7⟩ := u
      dsimp only at c0 c1 c2 c3 c4 c5 c6 c7 HID HU
      generalize tr (C.take k) = l at *
      go_upto_region 5 with (fail)
      obtain ⟨w2, hw2⟩ : ∃ z, wr.alloc (.cells #[.int .i64 u0, .int .i64 u1, .int .i64 u2, .int .i64 u3, .int .i64 u4, .int .i64 u5, .int .i64 u6, .int .i64 u7] 57) = z := ⟨_, rfl⟩
      obtain ⟨M, hM⟩ : ∃ z, wr.heap.size = z := ⟨_, rfl⟩
      have b2 : Below wr.heap.size wr w2 := hw2 ▸ (Below.refl _ _).alloc (Nat.le_refl _) _
      have Y0 : Blk w2 M 57 #[.int .i64 u0, .int .i64 u1, .int .i64 u2, .int .i64 u3, .int .i64 u4, .int .i64 u5, .int .i64 u6, .int .i64 u7] := hw2 ▸ Blk.new_at wr _ _ _ hM.symm
      have gs : G ≤ wr.heap.size := Nat.le_of_lt HM.out.lt
      rw [hw2, hM]
      refine wp_region_noPanic ?_
      have bb : Below wr.heap.size wr w2.drew := b2.drew
      have X := Kept.mk (HM.out.below bb)
      have Y := Kept.mk Y0.drew
      replace BW := Kept.mk (BW.out.trans (bb.mono gs))
      obtain ⟨vv, hlook, hvr, hvn⟩ := X.out.look (i := u1) HID.out
      obtain ⟨Av, cv, rfl, hcv1, hcv2⟩ := hvr.ow.shape
      obtain ⟨nv, hnv⟩ : ∃ z, (ofID u1 l).length = z := ⟨_, rfl⟩
      rw [hnv] at hvn hlook hvr hcv1
      have hnl : nv < 1000 := by have := ofID_len u1 l; have := HLN.out; omega
      refine wp_region_U 13 (S := fun u : World => u.cell? ⟨M, 1, none⟩ = some (.int .i64 u1) ∧ u.cell? ⟨M, 2, none⟩ = some (.int .i64 u2) ∧ u.cell? ⟨M, 3, none⟩ = some (.int .i64 u3) ∧ u.cell? ⟨M, 4, none⟩ = some (.int .i64 u4) ∧ u.cell? ⟨M, 5, none⟩ = some (.int .i64 u5) ∧ u.cell? ⟨M, 6, none⟩ = some (.int .i64 u6) ∧ u.cell? ⟨M, 7, none⟩ = some (.int .i64 u7) ∧ (Instr.lookup 58 (.map (some G)) (.int .i64 u1) false).run Try.prog u = .ok (.slice Av nv cv) u) (by kernel_rfl) ⟨Y.out.cell 1, Y.out.cell 2, Y.out.cell 3, Y.out.cell 4, Y.out.cell 5, Y.out.cell 6, Y.out.cell 7, hlook _ rfl⟩ (fun hS0 => ?_)
      clear bb b2 Y0 hw2 hM HM c0 c1 c2 c3 c4 c5 c6 c7
      have VR := Kept.mk hvr; have VN := Kept.mk hvn
      have HLK := Kept.mk hlook
      clear hvr hvn hlook
      generalize w2.drew = w3 at *
      refine tkU 0 (by assumption) ?_
      simp only [Act.put, List.setIfInBounds_toArray, List.set_cons_zero, List.set_cons_succ]
      refine tkU 1 (by assumption) ?_
      simp only [Act.put, List.setIfInBounds_toArray, List.set_cons_zero, List.set_cons_succ]
      refine tkU 2 (by assumption) ?_
      simp only [Act.put, List.setIfInBounds_toArray, List.set_cons_zero, List.set_cons_succ]
      refine tkU 3 (by assumption) ?_
      simp only [Act.put, List.setIfInBounds_toArray, List.set_cons_zero, List.set_cons_succ]
      refine tkU 4 (by assumption) ?_
      simp only [Act.put, List.setIfInBounds_toArray, List.set_cons_zero, List.set_cons_succ]
      refine tkU 5 (by assumption) ?_
      simp only [Act.put, List.setIfInBounds_toArray, List.set_cons_zero, List.set_cons_succ]
      refine tkU 6 (by assumption) ?_
      simp only [Act.put, List.setIfInBounds_toArray, List.set_cons_zero, List.set_cons_succ]
      refine tkU 7 (by assumption) ?_
      simp only [Act.put, List.setIfInBounds_toArray, List.set_cons_zero, List.set_cons_succ]
      refine tkU 8 (by assumption) ?_
      simp only [Act.put, List.setIfInBounds_toArray, List.set_cons_zero, List.set_cons_succ]
      refine tkU 9 (by assumption) ?_
      simp only [Act.put, List.setIfInBounds_toArray, List.set_cons_zero, List.set_cons_succ]
      refine tkU 10 (by assumption) ?_
      simp only [Act.put, List.setIfInBounds_toArray, List.set_cons_zero, List.set_cons_succ]
      refine ldU 11 (fun K hK => ?_)
      go_simp
      have bb : Below w3.heap.size w3 (w3.alloc (.cells #[.int .i64 u1, .int .i64 u2, .int .i64 u3, .int .i64 u4, .int .i64 u5, .int .i64 u6, .int .i64 u7] 33)) := (Below.refl _ _).alloc (Nat.le_refl _) _
      have NW := Kept.mk (World.news_of_block (cs := #[.int .i64 u1, .int .i64 u2, .int .i64 u3, .int .i64 u4, .int .i64 u5, .int .i64 u6, .int .i64 u7]) (t := 33) (fr := (0, 0)) (heap_alloc_new w3 _))
      have gs3 : G < w3.heap.size := X.out.lt
      replace HLK := Kept.mk (fun (w' : World) (hw' : w'.heap[G]? = (w3.alloc (.cells #[.int .i64 u1, .int .i64 u2, .int .i64 u3, .int .i64 u4, .int .i64 u5, .int .i64 u6, .int .i64 u7] 33)).heap[G]?) => HLK.out w' (hw'.trans (bb.block G gs3)))
      replace X := Kept.mk (X.out.below bb); replace Y := Kept.mk (Y.out.below bb Y.out.lt)
      replace VR := Kept.mk (show Tr G _ _ _ from own_keep VR.out (barOf bb []) (by simp))
      replace BW := Kept.mk (BW.out.trans (bb.mono (Nat.le_of_lt gs3)))
      have hS1 : (fun u : World => u.cell? ⟨M, 1, none⟩ = some (.int .i64 u1) ∧ u.cell? ⟨M, 2, none⟩ = some (.int .i64 u2) ∧ u.cell? ⟨M, 3, none⟩ = some (.int .i64 u3) ∧ u.cell? ⟨M, 4, none⟩ = some (.int .i64 u4) ∧ u.cell? ⟨M, 5, none⟩ = some (.int .i64 u5) ∧ u.cell? ⟨M, 6, none⟩ = some (.int .i64 u6) ∧ u.cell? ⟨M, 7, none⟩ = some (.int .i64 u7) ∧ (Instr.lookup 58 (.map (some G)) (.int .i64 u1) false).run Try.prog u = .ok (.slice Av nv cv) u) (w3.alloc (.cells #[.int .i64 u1, .int .i64 u2, .int .i64 u3, .int .i64 u4, .int .i64 u5, .int .i64 u6, .int .i64 u7] 33)) := ⟨Y.out.cell 1, Y.out.cell 2, Y.out.cell 3, Y.out.cell 4, Y.out.cell 5, Y.out.cell 6, Y.out.cell 7, HLK.out _ rfl⟩
      refine hK.out _ _ (fun _ => hS1) (fun _ => ?_)
      clear hK K bb hS0 gs3
      try simp only [Act.put, List.setIfInBounds_toArray, List.set_cons_zero, List.set_cons_succ]
      generalize (w3.alloc (.cells #[.int .i64 u1, .int .i64 u2, .int .i64 u3, .int .i64 u4, .int .i64 u5, .int .i64 u6, .int .i64 u7] 33)) = w4 at *
      generalize w3.heap.size = gB at *
      obtain ⟨iu, hi, hz0, hz1, hz2⟩ := info_parts info_tv
      have gs4 : G < w4.heap.size := X.out.lt
      have vr := VR.out
      unfold Tr at vr
      rw [hnv] at vr
      refine ldU 12 (fun K hK => ?_)
      refine step_append_lies _ (by rfl) _ _ _ (by rfl) G 33 iu (tvV zeroT) 7 56 Try.underlying39 hi hz0 hz1 hz2 rfl (by omega) (.slice Av nv cv) nv ((ofID u1 l).flatMap tvC) (by rfl) vr
        ⟨gB, 0, none⟩ 1 1 (tvC ⟨u1, u2, u3, u4, u5, u6, u7⟩) (by rfl) (by rfl) NW.out (tvC_one _) (by omega) (by unfold maxLen; omega) (by omega) (by omega) w4.heap.size rfl ?_
      intro gg cg w5 hown hgrow hat hlt
      have bg := Bar.grownRow hgrow
      have GV : G ∉ (Value.slice Av nv cv).ownBlock.toList := by
        obtain ⟨D, H, o1, -⟩ := X.out
        exact row_map VR.out o1
      have MV : M ∉ (Value.slice Av nv cv).ownBlock.toList := fun hm => own_far VR.out Y.out (by decide) (Option.mem_toList.1 hm)
      have hv' : Tr G w5 (.slice (some ⟨gg, 0, none⟩) (nv + 1) cg) (ofID u1 l ++ [⟨u1, u2, u3, u4, u5, u6, u7⟩]) := by
        unfold Tr
        rw [List.length_append, List.length_singleton, List.flatMap_append, List.flatMap_singleton, hnv]
        exact hown
      obtain ⟨w6, hput, XM, b6⟩ := X.out.put (t := ⟨u1, u2, u3, u4, u5, u6, u7⟩) HID.out VR.out VN.out bg hv' HLN.out
      dsimp only at hput
      replace Y := Kept.mk (Y.out.bar bg MV)
      have hS2 : (fun u : World => u.cell? ⟨M, 1, none⟩ = some (.int .i64 u1) ∧ u.cell? ⟨M, 2, none⟩ = some (.int .i64 u2) ∧ u.cell? ⟨M, 3, none⟩ = some (.int .i64 u3) ∧ u.cell? ⟨M, 4, none⟩ = some (.int .i64 u4) ∧ u.cell? ⟨M, 5, none⟩ = some (.int .i64 u5) ∧ u.cell? ⟨M, 6, none⟩ = some (.int .i64 u6) ∧ u.cell? ⟨M, 7, none⟩ = some (.int .i64 u7) ∧ (Instr.lookup 58 (.map (some G)) (.int .i64 u1) false).run Try.prog u = .ok (.slice Av nv cv) u) w5 := ⟨Y.out.cell 1, Y.out.cell 2, Y.out.cell 3, Y.out.cell 4, Y.out.cell 5, Y.out.cell 6, Y.out.cell 7, HLK.out _ (bg.block G gs4 GV)⟩
      replace BW := Kept.mk (BW.out.trans ((own_below VR.out hgrow (Nat.le_of_lt gs4)).trans (b6.below (Nat.le_trans (Nat.le_of_lt gs4) bg.size) (fun z hz => by rw [List.mem_singleton] at hz; subst hz; exact Nat.le_refl _))))
      clear hown hgrow hat hlt NW hi hz0 hz1 hz2 X hS1 gs4 bg GV MV hv' vr VR VN b6 Y HLK
      refine hK.out _ _ (fun _ => hS2) (fun _ => ?_)
      clear hK K
      try simp only [Act.put, List.setIfInBounds_toArray, List.set_cons_zero, List.set_cons_succ]
      refine ldU 13 (fun K hK => ?_)
      go_simp
      refine hK.out _ _ (fun h => absurd rfl h) (fun _ => ?_)
      clear hK K
      try simp only [Act.put, List.setIfInBounds_toArray, List.set_cons_zero, List.set_cons_succ]
      refine wpAnyU_done (by kernel_rfl) ?_ _
      refine NoPanic.normal ?_
      have X6 := Kept.mk (HU.out.symm ▸ XM)
      clear XM hS2 hput
      go_wp2
      go_roundw
      case rel => exact ⟨k + 1, by omega, by go_num, X6, BW⟩
      case measure => simp only [Go.RowKit.intOf]; omega
    · have hkn' : ¬ (k : Int) < C.length := by omega
      obtain rfl : k = C.length := by omega
      have HM2 : Kept (Mt G wr G (tr C)) := ⟨by have := HM.out; rwa [List.take_length] at this⟩
      go_wp2
      go_ret
      exact ⟨G, rfl, HM2.out, BW.out⟩
end Go.Proofs.Ythhjmbbfibgjpaa.Trade
