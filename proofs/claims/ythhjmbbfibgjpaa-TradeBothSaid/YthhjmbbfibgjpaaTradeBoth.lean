/-
  The law TradeBoth, walked.
-/
import Derived.Test.YthhjmbbfibgjpaaTakes
import Derived.Test.YthhjmbbfibgjpaaTradeFirst
import Derived.Test.YthhjmbbfibgjpaaTradeOps
import Derived.Test.YthhjmbbfibgjpaaTradeBothV
import Derived.Test.YthhjmbbfibgjpaaTakes
import Derived.Deep.CutBlock
import Derived.Deep.CutRange
namespace Go.Proofs.Ythhjmbbfibgjpaa.Trade
open Go.RowKit Go.Proofs.Ythhjmbbfibgjpaa.Sha

theorem info_op : (Try.prog.info? 35).map (fun i => (i.zero, i.size, i.bytes)) = some (some (.agg #[.int .i64 0, .int .i64 0, .int .i64 0, .int .i64 0, .int .i64 0, .int .i64 0, .int .i64 0, .int .i64 0]), 8, 64) := by kernel_rfl
set_option maxRecDepth 100000 in
set_option maxHeartbeats 8000000 in
theorem both_walk (p c a : Int) (A : Option Addr) (n cap : Nat) (X : List CV) (W : World) (hr : Rc cvC 8 W A n X) :
    Calls Try.prog 4 #[.int .i64 p, .int .i64 c, .int .i64 a, .slice A n cap] W fun e w' => e = .returned (.bool true) ∧ Below W.heap.size W w' := by
  obtain ⟨N, hN⟩ : ∃ z, W.heap.size = z := ⟨_, rfl⟩
  have RX := Kept.mk hr
  clear hr
  rw [hN]
  go_enter Try.func4, Try.ntmps4
  go_wp2_with fail
  refine (tfirst_any W).mono ?_
  rintro e w1 ⟨rfl, bb⟩
  have B : Kept (Below N W w1) := ⟨hN ▸ bb⟩
  clear bb
  cases hok : newOk p c a with
  | false =>
    have C1 := Kept.mk (fun w => new_no (w := w) hok)
    clear hok
    go_wp2_with fail
    refine (C1.out _).mono ?_
    rintro e w2 ⟨rfl, rfl⟩
    clear C1
    go_wp2_with fail
    refine (tfirst_any w1).mono ?_
    rintro e w3 ⟨rfl, bb⟩
    replace B := Kept.mk (low_trans B.out bb (hN ▸ B.out.size))
    clear bb
    go_wp2
    go_ret
    exact ⟨rfl, B.out⟩
  | true =>
    have C1 := Kept.mk (fun w => new_yes (w := w) hok)
    clear hok
    go_wp2_with fail
    refine (C1.out _).mono ?_
    rintro e w2 ⟨F, rfl, td, b1⟩
    have T := Kept.mk (td.base (N' := N) (hN ▸ B.out.size))
    replace B := Kept.mk (low_trans B.out b1 (hN ▸ B.out.size))
    clear b1 td C1
    generalize w1.heap.size = x at *
    by_cases h150 : 150 < n
    · have h1 : (150 : Int) < n := by omega
      go_wp2_with fail
      refine (tfirst_any w2).mono ?_
      rintro e w3 ⟨rfl, bb⟩
      replace B := Kept.mk (low_trans B.out bb (hN ▸ B.out.size))
      clear bb
      go_wp2
      go_ret
      exact ⟨rfl, B.out⟩
    · have h1 : ¬ (150 : Int) < n := by omega
      go_wp2
      go_loopw [11, 12, 13] (fun dv wv i wr => ∃ (k : Nat) (C : List CV) (F : List Nat) (Ad Aw : Option Addr) (nd cd nw cw : Nat), k ≤ n ∧ dv = .slice Ad nd cd ∧ wv = .slice Aw nw cw ∧ i = .int .i64 k ∧ Kept (Td F N wr x p c a C) ∧ Kept (Okc C ∧ Wf C) ∧ Kept (wr.ownsRow N 35 8 (Value.slice Ad nd cd) C.length (C.flatMap cvC)) ∧ Kept (∀ g ∈ (Value.slice Ad nd cd).ownBlock.toList, g ∉ F) ∧ Kept (nw ≤ (matched (tr C)).length) ∧ Kept (Below N W wr)) (fun _ _ i _ => n - (Go.RowKit.intOf i).toNat)
      case atStart => exact ⟨0, [], F, none, none, 0, 0, 0, 0, by omega, rfl, rfl, rfl, T, ⟨ok_nil, Wf.nil⟩, ⟨World.ownsRow_nil _ _ _ _⟩, ⟨by simp [Value.ownBlock]⟩, ⟨Nat.zero_le _⟩, B⟩
      case round =>
        clear B T
        clear F
        obtain ⟨k, C, F, Ad, Aw, nd, cd, nw, cw, hk, rfl, rfl, rfl, T, OKW, DR, DF, WL, B⟩ := hrel
        by_cases hkn : k < n
        · have hkn' : (k : Int) < n := by omega
          obtain ⟨bA, oA, u, hA, -, hcA⟩ := RX.out.at_ hkn
          subst hA
          obtain ⟨who, t1, t2, t3, t4, t5, t6, t7⟩ := u
          have AT : Kept (∀ u, Below N W u → (fun u : World => u.cell? ⟨bA, oA + k * 8, none⟩ = some (.int .i64 who) ∧ u.cell? ⟨bA, oA + k * 8 + 1, none⟩ = some (.int .i64 t1) ∧ u.cell? ⟨bA, oA + k * 8 + 2, none⟩ = some (.int .i64 t2) ∧ u.cell? ⟨bA, oA + k * 8 + 3, none⟩ = some (.int .i64 t3) ∧ u.cell? ⟨bA, oA + k * 8 + 4, none⟩ = some (.int .i64 t4) ∧ u.cell? ⟨bA, oA + k * 8 + 5, none⟩ = some (.int .i64 t5) ∧ u.cell? ⟨bA, oA + k * 8 + 6, none⟩ = some (.int .i64 t6) ∧ u.cell? ⟨bA, oA + k * 8 + 7, none⟩ = some (.int .i64 t7)) u) := ⟨fun u b => ⟨(b.cell (hN ▸ World.block_lt_of_cell? _ _ (hcA 0 _ rfl))).trans (hcA 0 _ rfl), (b.cell (hN ▸ World.block_lt_of_cell? _ _ (hcA 1 _ rfl))).trans (hcA 1 _ rfl), (b.cell (hN ▸ World.block_lt_of_cell? _ _ (hcA 2 _ rfl))).trans (hcA 2 _ rfl), (b.cell (hN ▸ World.block_lt_of_cell? _ _ (hcA 3 _ rfl))).trans (hcA 3 _ rfl), (b.cell (hN ▸ World.block_lt_of_cell? _ _ (hcA 4 _ rfl))).trans (hcA 4 _ rfl), (b.cell (hN ▸ World.block_lt_of_cell? _ _ (hcA 5 _ rfl))).trans (hcA 5 _ rfl), (b.cell (hN ▸ World.block_lt_of_cell? _ _ (hcA 6 _ rfl))).trans (hcA 6 _ rfl), (b.cell (hN ▸ World.block_lt_of_cell? _ _ (hcA 7 _ rfl))).trans (hcA 7 _ rfl)⟩⟩
          clear hcA
          go_upto_region 11 with (fail)
          refine wp_region_noPanic ?_
          have hlow : N ≤ wr.heap.size := hN ▸ B.out.size
          have bb : Below wr.heap.size wr wr.drew := (Below.refl _ _).drew
          replace T := Kept.mk (T.out.below bb)
          replace B := Kept.mk (low_trans B.out bb hlow)
          replace DR : Kept (wr.drew.ownsRow N 35 8 (.slice Ad nd cd) C.length (C.flatMap cvC)) := ⟨DR.out.drew⟩
          refine wp_region_held_drew (S := fun u : World => u.cell? ⟨bA, oA + k * 8, none⟩ = some (.int .i64 who) ∧ u.cell? ⟨bA, oA + k * 8 + 1, none⟩ = some (.int .i64 t1) ∧ u.cell? ⟨bA, oA + k * 8 + 2, none⟩ = some (.int .i64 t2) ∧ u.cell? ⟨bA, oA + k * 8 + 3, none⟩ = some (.int .i64 t3) ∧ u.cell? ⟨bA, oA + k * 8 + 4, none⟩ = some (.int .i64 t4) ∧ u.cell? ⟨bA, oA + k * 8 + 5, none⟩ = some (.int .i64 t5) ∧ u.cell? ⟨bA, oA + k * 8 + 6, none⟩ = some (.int .i64 t6) ∧ u.cell? ⟨bA, oA + k * 8 + 7, none⟩ = some (.int .i64 t7)) (by kernel_rfl) (AT.out _ B.out) (fun hHeld => ?_)
          clear bb hlow
          generalize wr.drew = w1 at *
          obtain ⟨er, her⟩ : ∃ z, putE p c a C who ⟨t1, t2, t3, t4, t5, t6, t7⟩ = z := ⟨_, rfl⟩
          obtain ⟨C2, hC2⟩ : ∃ z, putC p c a C who ⟨t1, t2, t3, t4, t5, t6, t7⟩ = z := ⟨_, rfl⟩
          have HE := Kept.mk her; have HC := Kept.mk hC2
          clear her hC2
          refine tk 0 ?_
          simp only [Act.put, List.setIfInBounds_toArray, List.set_cons_zero, List.set_cons_succ]
          refine tk 1 ?_
          simp only [Act.put, List.setIfInBounds_toArray, List.set_cons_zero, List.set_cons_succ]
          refine tk 2 ?_
          simp only [Act.put, List.setIfInBounds_toArray, List.set_cons_zero, List.set_cons_succ]
          refine tk 3 ?_
          simp only [Act.put, List.setIfInBounds_toArray, List.set_cons_zero, List.set_cons_succ]
          refine tk 4 ?_
          simp only [Act.put, List.setIfInBounds_toArray, List.set_cons_zero, List.set_cons_succ]
          refine tk 5 ?_
          simp only [Act.put, List.setIfInBounds_toArray, List.set_cons_zero, List.set_cons_succ]
          refine tk 6 ?_
          simp only [Act.put, List.setIfInBounds_toArray, List.set_cons_zero, List.set_cons_succ]
          refine tk 7 ?_
          simp only [Act.put, List.setIfInBounds_toArray, List.set_cons_zero, List.set_cons_succ]
          refine tk 8 ?_
          simp only [Act.put, List.setIfInBounds_toArray, List.set_cons_zero, List.set_cons_succ]
          refine tk 9 ?_
          simp only [Act.put, List.setIfInBounds_toArray, List.set_cons_zero, List.set_cons_succ]
          refine tk 10 ?_
          simp only [Act.put, List.setIfInBounds_toArray, List.set_cons_zero, List.set_cons_succ]
          have CP : Kept (Calls Try.prog 12 #[.pointer (some ⟨x, 0, none⟩), .int .i64 who, .agg #[.int .i64 t1, .int .i64 t2, .int .i64 t3, .int .i64 t4, .int .i64 t5, .int .i64 t6, .int .i64 t7]] w1 (PutP F N x p c a er C2 w1)) := ⟨HE.out ▸ HC.out ▸ put_any who ⟨t1, t2, t3, t4, t5, t6, t7⟩ T.out OKW.out.1⟩
          refine ld 11 (fun K hK => ?_)
          go_simp
          go_at_call 12
          refine CP.out.mono ?_
          rintro e w2 ⟨F2, rfl, td, fp⟩
          have DK := own_keep DR.out fp.1 (fun g hg => DF.out g (by simpa using hg))
          replace DF : Kept (∀ g ∈ (Value.slice Ad nd cd).ownBlock.toList, g ∉ F2) := ⟨fun g hg hm => (fp.2 g hm).elim (DF.out g hg) (fun h => by have := (DR.out.lt g (by simpa using hg)).2; omega)⟩
          replace DR := Kept.mk DK
          replace B := Kept.mk (T.out.step B.out fp)
          replace T := Kept.mk td
          clear CP td fp hHeld DK
          refine hK.out _ _ (AT.out _ B.out) (fun hHeld => ?_)
          clear hK K
          try simp only [Act.put, List.setIfInBounds_toArray, List.set_cons_zero, List.set_cons_succ]
          refine tk 12 ?_
          simp only [Act.put, List.setIfInBounds_toArray, List.set_cons_zero, List.set_cons_succ]
          refine wpAnyH_done (by kernel_rfl) ?_ _
          refine NoPanic.normal ?_
          clear hHeld
          refine ‹∀ (a : Act) (w : World), Code.wp _ _ _ a w → _› _ _ ?_
          have HGR : Kept ((matched (tr C)).length ≤ (matched (tr C2)).length ∧ Okc C2 ∧ (er = 0 → C2 = C ++ [⟨who, ⟨t1, t2, t3, t4, t5, t6, t7⟩⟩] ∧ Wf C2) ∧ (er ≠ 0 → C2 = C)) := ⟨by
            have h0 := HC.out
            unfold putC at h0
            rw [HE.out] at h0
            by_cases hz : er = 0
            · rw [if_pos hz] at h0
              subst h0
              refine ⟨?_, ?_, fun _ => ⟨rfl, OKW.out.2.put (p := p) (c := c) (a := a) (HE.out.trans hz)⟩, fun h => absurd hz h⟩
              · have e : tr (C ++ [⟨who, ⟨t1, t2, t3, t4, t5, t6, t7⟩⟩]) = tr C ++ [⟨t1, t2, t3, t4, t5, t6, t7⟩] := by unfold tr; rw [List.map_append]; rfl
                rw [e]; exact mat_grow _ _
              · have h1 := OKW.out.1.put (p := p) (c := c) (a := a) who ⟨t1, t2, t3, t4, t5, t6, t7⟩
                unfold putC at h1
                rw [if_pos (HE.out.trans hz)] at h1
                exact h1
            · rw [if_neg hz] at h0
              subst h0
              exact ⟨Nat.le_refl _, OKW.out.1, fun h => absurd h hz, fun _ => rfl⟩⟩
          have WF0 := Kept.mk OKW.out.2
          replace WL := Kept.mk (Nat.le_trans WL.out HGR.out.1)
          clear OKW HE HC
          go_cut [11] from 61 to 68 (fun td wx => ∃ (C : List CV) (F : List Nat) (Ad : Option Addr) (nd cd : Nat), td = .slice Ad nd cd ∧ Kept (Td F N wx x p c a C) ∧ Kept (Okc C ∧ Wf C) ∧ Kept (wx.ownsRow N 35 8 (Value.slice Ad nd cd) C.length (C.flatMap cvC)) ∧ Kept (∀ g ∈ (Value.slice Ad nd cd).ownBlock.toList, g ∉ F) ∧ Kept (nw ≤ (matched (tr C)).length) ∧ Kept (Below N W wx))
          case first =>
            by_cases hz : er = 0
            · subst hz
              obtain ⟨hC2, hW2⟩ := HGR.out.2.2.1 rfl
              subst hC2
              obtain ⟨y0, y1, y2, y3, y4, y5, y6, y7⟩ := AT.out w2 B.out
              obtain ⟨w3, hw3⟩ : ∃ z, w2.alloc (.cells #[.int .i64 who, .int .i64 t1, .int .i64 t2, .int .i64 t3, .int .i64 t4, .int .i64 t5, .int .i64 t6, .int .i64 t7] 35) = z := ⟨_, rfl⟩
              have bb : Below w2.heap.size w2 (w2.alloc (.cells #[.int .i64 who, .int .i64 t1, .int .i64 t2, .int .i64 t3, .int .i64 t4, .int .i64 t5, .int .i64 t6, .int .i64 t7] 35)) := (Below.refl _ _).alloc (Nat.le_refl _) _
              have NC := new_cells w2 35 [.int .i64 who, .int .i64 t1, .int .i64 t2, .int .i64 t3, .int .i64 t4, .int .i64 t5, .int .i64 t6, .int .i64 t7]
              have hlow : N ≤ w2.heap.size := hN ▸ B.out.size
              replace T := Kept.mk (T.out.below bb)
              replace B := Kept.mk (low_trans B.out bb hlow)
              replace DR := Kept.mk (own_keep DR.out (barOf bb []) (by simp))
              have hnd : C.length ≤ 400 := by have := HGR.out.2.1.few; rw [List.length_append] at this; simp at this; omega
              obtain ⟨iu, hi, hz0, hz1, hz2⟩ := info_parts info_op
              have hnN : N ≤ (w2.alloc (.cells #[.int .i64 who, .int .i64 t1, .int .i64 t2, .int .i64 t3, .int .i64 t4, .int .i64 t5, .int .i64 t6, .int .i64 t7] 35)).heap.size := Nat.le_trans hlow bb.size
              clear bb hw3
              go_wp2_with ((with_reducible refine sel 68 ?_); refine wpList_append_own_at _ rfl (.tmp 62) (.tmp 67) 22 rfl N 35 iu (.agg #[.int .i64 0, .int .i64 0, .int .i64 0, .int .i64 0, .int .i64 0, .int .i64 0, .int .i64 0, .int .i64 0]) 8 64 Try.underlying22 hi hz0 hz1 hz2 rfl (by omega) _ _ _ rfl DR.out ⟨w2.heap.size, 0, none⟩ 1 1 [.int .i64 who, .int .i64 t1, .int .i64 t2, .int .i64 t3, .int .i64 t4, .int .i64 t5, .int .i64 t6, .int .i64 t7] rfl rfl NC (cvC_one ⟨who, ⟨t1, t2, t3, t4, t5, t6, t7⟩⟩) (by unfold maxLen; omega) (by omega) hnN ?_; intro v' w' ho hg _ hat)
              have gr := Bar.grownRow hg
              have T2 := Kept.mk (T.out.keep gr (fun z hz hm => DF.out z hm hz))
              have DR2 : Kept (w'.ownsRow N 35 8 v' (C ++ [(⟨who, ⟨t1, t2, t3, t4, t5, t6, t7⟩⟩ : CV)]).length ((C ++ [(⟨who, ⟨t1, t2, t3, t4, t5, t6, t7⟩⟩ : CV)]).flatMap cvC)) := ⟨by rw [List.length_append, List.length_singleton, List.flatMap_append, List.flatMap_singleton]; exact ho⟩
              have DF2 : Kept (∀ g ∈ v'.ownBlock.toList, g ∉ F2) := ⟨fun g hgm => by
                rcases hat with e | e
                · rw [e] at hgm; exact DF.out g hgm
                · rw [e] at hgm; simp at hgm; intro hm; have := (T.out.lt g hm).2; simp at this hgm; omega⟩
              have B2 := Kept.mk (B.out.trans (own_below DR.out hg hnN))
              obtain ⟨A5, c5, hv5⟩ := own_shape DR2.out
              subst hv5
              have OK3 := Kept.mk (And.intro HGR.out.2.1 hW2)
              clear ho hg hat gr NC hi hz0 hz1 hz2 DR DF T B hW2 HGR
              go_wp2
              go_meet
              exact ⟨_, F2, A5, _, c5, rfl, T2, OK3, DR2, DF2, WL, B2⟩
            · have hz' : (er == 0) = false := by simpa using hz
              have e2 := HGR.out.2.2.2 hz
              subst e2
              have OK3 := Kept.mk (And.intro HGR.out.2.1 WF0.out)
              clear hz
              go_wp2
              go_meet
              exact ⟨_, F2, Ad, nd, cd, rfl, T, OK3, DR, DF, WL, B⟩
          case rest =>
            clear T DR DF HGR WF0 WL B
            clear C C2 F F2
            obtain ⟨C, F, Ad, nd, cd, rfl, T, OKW, DR, DF, WL, B⟩ := hcut
            generalize hwc : wc = w3 at *
            clear hwc
            obtain ⟨Ad2, cd2, hv, hd1, hd2, -⟩ := Rc.own cvC_len DR.out rfl
            injection hv with e1 e2 e3
            subst e1 e2 e3
            have CM := Kept.mk (mat_any T.out OKW.out.1)
            go_wp2_with fail
            refine CM.out.mono ?_
            rintro e w4 ⟨v4, rfl, o4, bb⟩
            obtain ⟨Am, cm, rfl, hm1, hm2, rm⟩ := Rc.own tvC_len o4 rfl
            have RM := Kept.mk rm
            have hlow : N ≤ w3.heap.size := hN ▸ B.out.size
            replace T := Kept.mk (T.out.below bb)
            replace B := Kept.mk (low_trans B.out bb hlow)
            replace DR := Kept.mk (own_keep DR.out (barOf bb []) (by simp))
            clear CM o4 bb rm hlow
            have CO := Kept.mk (opn_any T.out OKW.out.1)
            go_wp2_with fail
            refine CO.out.mono ?_
            rintro e w5 ⟨v5, rfl, o5, bb⟩
            obtain ⟨Ao, co, rfl⟩ := own_shape o5
            have RO := Kept.mk (ri_own o5 rfl)
            have hlow : N ≤ w4.heap.size := hN ▸ B.out.size
            replace RM := Kept.mk (RM.out.below bb)
            replace T := Kept.mk (T.out.below bb)
            replace B := Kept.mk (low_trans B.out bb hlow)
            replace DR := Kept.mk (own_keep DR.out (barOf bb []) (by simp))
            clear CO o5 bb hlow
            have RD : Kept (Rc cvC 8 w5 Ad C.length C) := ⟨by
              obtain ⟨Ad2, cd2, hv, -, -, rd⟩ := Rc.own cvC_len DR.out rfl
              injection hv with e1 e2 e3
              subst e1
              exact rd⟩
            have hCl : C.length ≤ 400 := OKW.out.1.few
            have MLN : Kept ((matched (tr C)).length ≤ 400) := ⟨by
              have h1 := matT_len (tr C) (ids (tr C)).length
              rw [matT_all] at h1
              have h2 := ids_len (tr C)
              rw [tr_len] at h2
              omega⟩
            have OLN : Kept ((openI (tr C)).length ≤ 400) := ⟨by
              have h1 := opnT_len (tr C) (ids (tr C)).length
              rw [opnT_all] at h1
              have h2 := ids_len (tr C)
              rw [tr_len] at h2
              omega⟩
            have M2 : Kept (∀ t ∈ matched (tr C), cnt t C = 2 ∧ t.id ∉ openI (tr C)) := ⟨fun t ht => ⟨mat_two OKW.out.2 ht, mat_open ht⟩⟩
            have ML : Kept (∀ (i : Nat) (t u : TV), (matched (tr C))[i]? = some t → (matched (tr C))[i + 1]? = some u → t.id < u.id) := ⟨fun i t u => mat_lt⟩
            have MO : Kept (∀ u ∈ tr C, u.id ∈ openI (tr C) ∨ ∃ t ∈ matched (tr C), t.id = u.id) := ⟨fun u hu => open_or hu⟩
            obtain ⟨ml, hml⟩ : ∃ z, matched (tr C) = z := ⟨_, rfl⟩
            obtain ⟨ol, hol⟩ : ∃ z, openI (tr C) = z := ⟨_, rfl⟩
            have HML := Kept.mk hml
            rw [hml] at RM MLN M2 ML MO WL ⊢
            rw [hol] at RO OLN M2 MO ⊢
            clear hml hol hm1 hm2
            go_wp2
            go_loopw [16] (fun kv wx => ∃ q : Nat, q ≤ ml.length ∧ kv = .int .i64 q ∧ Kept (Below w5.heap.size w5 wx)) (fun kv _ => ml.length - (Go.RowKit.intOf kv).toNat)
            case atStart => exact ⟨0, by omega, rfl, ⟨Below.refl _ _⟩⟩
            case round =>
              obtain ⟨q, hq, rfl, BX⟩ := hrel
              by_cases hqm : q < ml.length
              · have hqm' : (q : Int) < ml.length := by omega
                obtain ⟨gm, om, t, hA, ht, mc0⟩ := RM.out.at_ hqm
                subst hA
                have MC : Kept (∀ (j : Nat) v, (tvC t)[j]? = some v → w5.cell? ⟨gm, om + q * 7 + j, none⟩ = some v) := ⟨mc0⟩
                have TWO := Kept.mk (M2.out t (List.mem_of_getElem? ht))
                have HT := Kept.mk ht
                have HLT : Kept (∀ r, q = r + 1 → ∃ s, ml[r]? = some s ∧ s.id < t.id) := ⟨fun r hr => by
                  subst hr
                  exact ⟨ml[r]'(by omega), List.getElem?_eq_getElem _, ML.out r _ t (List.getElem?_eq_getElem _) HT.out⟩⟩
                clear ht mc0
                obtain ⟨t1, t2, t3, t4, t5, t6, t7⟩ := t
                go_wp2
                go_loopw [17, 18] (fun sv jv wy => ∃ j : Nat, j ≤ C.length ∧ sv = .int .i64 (cnt ⟨t1, t2, t3, t4, t5, t6, t7⟩ (C.take j) : Nat) ∧ jv = .int .i64 j ∧ Kept (Below w5.heap.size w5 wy)) (fun _ jv _ => C.length - (Go.RowKit.intOf jv).toNat)
                case atStart => exact ⟨0, by omega, rfl, rfl, BX⟩
                case round =>
                  clear BX
                  obtain ⟨j, hj, rfl, rfl, BX⟩ := hrel
                  obtain ⟨cn, hcn⟩ : ∃ z, cnt ⟨t1, t2, t3, t4, t5, t6, t7⟩ (C.take j) = z := ⟨_, rfl⟩
                  have hcn4 : cn ≤ 400 := by
                    have : cnt ⟨t1, t2, t3, t4, t5, t6, t7⟩ (C.take j) ≤ (C.take j).length := List.countP_le_length
                    rw [hcn, List.length_take] at this
                    omega
                  have HCN := Kept.mk hcn
                  rw [hcn]
                  clear hcn
                  have mc : ∀ (j : Nat) v, (tvC ⟨t1, t2, t3, t4, t5, t6, t7⟩)[j]? = some v → wr.cell? ⟨gm, om + q * 7 + j, none⟩ = some v := fun j v h => (BX.out.cell (World.block_lt_of_cell? _ _ (MC.out j v h))).trans (MC.out j v h)
                  have m0 : wr.cell? ⟨gm, om + q * 7, none⟩ = some (.int .i64 t1) := mc 0 _ rfl
                  have m1 : wr.cell? ⟨gm, om + q * 7 + 1, none⟩ = some (.int .i64 t2) := mc 1 _ rfl
                  have m2 : wr.cell? ⟨gm, om + q * 7 + 2, none⟩ = some (.int .i64 t3) := mc 2 _ rfl
                  have m3 : wr.cell? ⟨gm, om + q * 7 + 3, none⟩ = some (.int .i64 t4) := mc 3 _ rfl
                  have m4 : wr.cell? ⟨gm, om + q * 7 + 4, none⟩ = some (.int .i64 t5) := mc 4 _ rfl
                  have m5 : wr.cell? ⟨gm, om + q * 7 + 5, none⟩ = some (.int .i64 t6) := mc 5 _ rfl
                  have m6 : wr.cell? ⟨gm, om + q * 7 + 6, none⟩ = some (.int .i64 t7) := mc 6 _ rfl
                  clear mc
                  by_cases hjc : j < C.length
                  · have hjc' : (j : Int) < C.length := by omega
                    have hqm2 : (q : Int) < ml.length := by omega
                    obtain ⟨gd, od, z, hA, hz, dc⟩ := (RD.out.below BX.out).at_ hjc
                    subst hA
                    have SB := OKW.out.2.side z (List.mem_of_getElem? hz)
                    have CT : cnt ⟨t1, t2, t3, t4, t5, t6, t7⟩ (C.take (j + 1)) = cn + (if z.t = ⟨t1, t2, t3, t4, t5, t6, t7⟩ then 1 else 0) := by
                      obtain ⟨hk, rfl⟩ := List.getElem?_eq_some_iff.1 hz
                      rw [List.take_add_one, List.getElem?_eq_getElem hk]
                      exact cnt_snoc.trans (by rw [HCN.out])
                    obtain ⟨zw, z1, z2, z3, z4, z5, z6, z7⟩ := z
                    have d0 : wr.cell? ⟨gd, od + j * 8, none⟩ = some (.int .i64 zw) := dc 0 _ rfl
                    have d1 : wr.cell? ⟨gd, od + j * 8 + 1, none⟩ = some (.int .i64 z1) := dc 1 _ rfl
                    have d2 : wr.cell? ⟨gd, od + j * 8 + 2, none⟩ = some (.int .i64 z2) := dc 2 _ rfl
                    have d3 : wr.cell? ⟨gd, od + j * 8 + 3, none⟩ = some (.int .i64 z3) := dc 3 _ rfl
                    have d4 : wr.cell? ⟨gd, od + j * 8 + 4, none⟩ = some (.int .i64 z4) := dc 4 _ rfl
                    have d5 : wr.cell? ⟨gd, od + j * 8 + 5, none⟩ = some (.int .i64 z5) := dc 5 _ rfl
                    have d6 : wr.cell? ⟨gd, od + j * 8 + 6, none⟩ = some (.int .i64 z6) := dc 6 _ rfl
                    have d7 : wr.cell? ⟨gd, od + j * 8 + 7, none⟩ = some (.int .i64 z7) := dc 7 _ rfl
                    clear dc hz
                    by_cases hzt : (⟨z1, z2, z3, z4, z5, z6, z7⟩ : TV) = ⟨t1, t2, t3, t4, t5, t6, t7⟩
                    · have NE := fun w => tv_eql (decide_eq_true hzt) w
                      unfold tvV at NE
                      dsimp only at NE
                      dsimp only at CT SB
                      rw [if_pos hzt] at CT
                      rw [hzt] at SB
                      have HC1 := Kept.mk CT
                      clear hzt CT
                      by_cases hb : zw = t2
                      · have hb' : (zw == t2) = true := by simpa using hb
                        clear hb SB
                        go_upto_region 21 with (fail)
                        go_quiet (fail)
                        go_wp2
                        go_roundw
                        case rel => exact ⟨j + 1, by omega, by rw [HC1.out]; go_num, by go_num, ⟨below_drewN BX.out _⟩⟩
                        case measure => simp only [Go.RowKit.intOf]; omega
                      · have hb' : (zw == t2) = false := by simpa using hb
                        have hs' : (zw == t3) = true := by
                          unfold sideB at SB
                          dsimp only at SB
                          simp only [Bool.or_eq_true, decide_eq_true_eq] at SB
                          simpa using SB.resolve_left hb
                        clear hb SB
                        go_upto_region 21 with (fail)
                        go_quiet (fail)
                        go_wp2
                        go_roundw
                        case rel => exact ⟨j + 1, by omega, by rw [HC1.out]; go_num, by go_num, ⟨below_drewN BX.out _⟩⟩
                        case measure => simp only [Go.RowKit.intOf]; omega
                    · have NE := fun w => tv_eql (decide_eq_false hzt) w
                      unfold tvV at NE
                      dsimp only at NE
                      dsimp only at CT
                      rw [if_neg hzt, Nat.add_zero] at CT
                      have HC1 := Kept.mk CT
                      clear hzt CT SB
                      go_upto_region 21 with (fail)
                      go_quiet (fail)
                      go_wp2
                      go_roundw
                      case rel => exact ⟨j + 1, by omega, by rw [HC1.out]; rfl, by go_num, ⟨below_drewN BX.out _⟩⟩
                      case measure => simp only [Go.RowKit.intOf]; omega
                  · have hjc' : ¬ (j : Int) < C.length := by omega
                    obtain rfl : j = C.length := by omega
                    obtain rfl : cn = 2 := by have := HCN.out; rw [List.take_length, TWO.out.1] at this; exact this.symm
                    have hno : decide (t1 ∈ ol) = false := decide_eq_false TWO.out.2
                    have CH : ∀ w', Below wr.heap.size wr w' → Calls Try.prog 21 #[.slice Ao ol.length co, .int .i64 t1] w' fun e w'' => e = .returned (.bool false) ∧ w' = w'' := fun w' b => by
                      have h := inthas_any Ao ol.length co ol t1 w' ((RO.out.below BX.out).below b) (by have := OLN.out; omega)
                      rwa [hno] at h
                    replace CH := Kept.mk CH
                    clear hno
                    have hqm2 : (q : Int) < ml.length := by omega
                    by_cases hq0 : q = 0
                    · subst hq0
                      have m00 : wr.cell? ⟨gm, om, none⟩ = some (.int .i64 t1) := by simpa using m0
                      go_upto_region 23 with (fail)
                      go_quiet ((first | (go_at_call 21; exact Calls.quiet_of_same (still_of (CH.out _ (by first | exact Below.refl _ _ | exact below_drewN (Below.refl _ _) _))))))
                      go_wp2
                      go_roundw
                      case rel => exact ⟨0 + 1, by omega, by go_num, ⟨below_drewN BX.out _⟩⟩
                      case measure => simp only [Go.RowKit.intOf]; omega
                    · obtain ⟨r, hr⟩ : ∃ r, q = r + 1 := ⟨q - 1, by omega⟩
                      obtain ⟨s0, hs0, hlt⟩ := HLT.out r hr
                      obtain ⟨gm2, om2, s', hA2, hs', sc⟩ := (RM.out.below BX.out).at_ (k := r) (by omega)
                      injection hA2 with hA2
                      injection hA2 with hA21 hA22
                      subst hA21 hA22
                      rw [hs0] at hs'
                      injection hs' with hs'
                      subst hs'
                      have p0 : wr.cell? ⟨gm, om + r * 7, none⟩ = some (.int .i64 s0.id) := sc 0 _ rfl
                      have hq1 : (q : Int) - 1 = r := by omega
                      have hq0' : (0 : Int) < q := by omega
                      have hq0n : 0 < q := by omega
                      have hqd2 : decide (0 < q) = true := decide_eq_true hq0n
                      have hqd : decide ((0 : Int) < q) = true := decide_eq_true hq0'
                      have hrl : (r : Int) < ml.length := by omega
                      have hle : ¬ t1 ≤ s0.id := by omega
                      have hwr : IntKind.i64.wrap ((q : Int) - 1) = r := by have := MLN.out; simp only [IntKind.wrap_i64]; omega
                      have hml4 : ml.length ≤ 400 := MLN.out
                      have hr4 : r ≤ 400 := by omega
                      have hwr2 : IntKind.i64.wrap (r : Int) = r := by simp only [IntKind.wrap_i64]; omega
                      clear sc hs0 hr hq0 hlt
                      generalize s0.id = si at *
                      have hled : decide (t1 ≤ si) = false := decide_eq_false hle
                      go_upto_region 23 with (fail)
                      go_quiet ((first | (go_at_call 21; exact Calls.quiet_of_same (still_of (CH.out _ (by first | exact Below.refl _ _ | exact below_drewN (Below.refl _ _) _))))))
                      go_wp2
                      go_roundw
                      case rel => exact ⟨q + 1, by omega, by go_num, ⟨below_drewN BX.out _⟩⟩
                      case measure => simp only [Go.RowKit.intOf]; omega
              · have hqm' : ¬ (q : Int) < ml.length := by omega
                obtain rfl : q = ml.length := by omega
                go_wp2
                have hin : ∀ z ∈ C, z.t ∈ tr C := fun z hz => List.mem_map_of_mem hz
                go_loopw [19] (fun kv wx => ∃ q : Nat, q ≤ C.length ∧ kv = .int .i64 q ∧ Kept (Below w5.heap.size w5 wx)) (fun kv _ => C.length - (Go.RowKit.intOf kv).toNat)
                case atStart => exact ⟨0, by omega, rfl, BX⟩
                case round =>
                  clear BX
                  obtain ⟨q, hq, rfl, BX⟩ := hrel
                  by_cases hqc : q < C.length
                  · have hqc' : (q : Int) < C.length := by omega
                    obtain ⟨gd, od, z, hA, hz, dc⟩ := (RD.out.below BX.out).at_ hqc
                    subst hA
                    have OR := Kept.mk (MO.out z.t (hin z (List.mem_of_getElem? hz)))
                    obtain ⟨b0, hb0⟩ : ∃ b, decide (z.t.id ∈ ol) = b := ⟨_, rfl⟩
                    have HB0 : Kept (b0 = false → ∃ t ∈ ml, t.id = z.t.id) := ⟨fun h => by
                      subst h
                      exact OR.out.resolve_left (of_decide_eq_false hb0)⟩
                    have CH := inthas_any Ao ol.length co ol z.t.id wr (RO.out.below BX.out) (by have := OLN.out; omega)
                    rw [hb0] at CH
                    replace CH := Kept.mk CH
                    have dd : w5.cell? ⟨gd, od + q * 8 + 1, none⟩ = some (.int .i64 z.t.id) := by
                      obtain ⟨g2, o2, z2, hA2, hz2, dc2⟩ := RD.out.at_ hqc
                      injection hA2 with hA2
                      injection hA2 with e1 e2
                      subst e1 e2
                      rw [hz] at hz2
                      injection hz2 with hz2
                      subst hz2
                      exact dc2 1 _ rfl
                    have DD := Kept.mk dd
                    have d1 : wr.cell? ⟨gd, od + q * 8 + 1, none⟩ = some (.int .i64 z.t.id) := dc 1 _ rfl
                    clear hz dc dd hb0 OR
                    generalize z.t.id = zi at *
                    clear z
                    go_wp2_with fail
                    refine CH.out.mono ?_
                    rintro e wr' ⟨rfl, rfl⟩
                    clear CH d1
                    go_wp2
                    go_loopw [20, 21] (fun bv jv wy => ∃ j : Nat, j ≤ ml.length ∧ bv = .bool (b0 || (ml.take j).any (fun t => decide (t.id = zi))) ∧ jv = .int .i64 j ∧ Kept (Below w5.heap.size w5 wy)) (fun _ jv _ => ml.length - (Go.RowKit.intOf jv).toNat)
                    case atStart => exact ⟨0, by omega, by simp, rfl, BX⟩
                    case round =>
                      clear BX
                      obtain ⟨j, hj, rfl, rfl, BX⟩ := hrel
                      by_cases hjm : j < ml.length
                      · have hjm' : (j : Int) < ml.length := by omega
                        have hqc2 : (q : Int) < C.length := by omega
                        have hml4 : ml.length ≤ 400 := MLN.out
                        obtain ⟨gm, om, t, hA, ht, mc⟩ := (RM.out.below BX.out).at_ hjm
                        subst hA
                        have m0 : wr.cell? ⟨gm, om + j * 7, none⟩ = some (.int .i64 t.id) := mc 0 _ rfl
                        have d1 : wr.cell? ⟨gd, od + q * 8 + 1, none⟩ = some (.int .i64 zi) := (BX.out.cell (World.block_lt_of_cell? _ _ DD.out)).trans DD.out
                        have NX : (b0 || (ml.take (j + 1)).any (fun t => decide (t.id = zi))) = ((b0 || (ml.take j).any (fun t => decide (t.id = zi))) || decide (t.id = zi)) := by
                          obtain ⟨hk, rfl⟩ := List.getElem?_eq_some_iff.1 ht
                          rw [List.take_add_one, List.getElem?_eq_getElem hk, List.any_append, ← Bool.or_assoc]
                          simp
                        clear mc ht
                        generalize (b0 || (ml.take j).any (fun t => decide (t.id = zi))) = bb at *
                        generalize t.id = ti at *
                        clear t
                        cases bb with
                        | true =>
                          have HN := Kept.mk NX
                          clear NX
                          go_upto_region 32 with (fail)
                          go_quiet (fail)
                          go_wp2
                          go_roundw
                          case rel => exact ⟨j + 1, by omega, by rw [HN.out]; rfl, by go_num, ⟨below_drewN BX.out _⟩⟩
                          case measure => simp only [Go.RowKit.intOf]; omega
                        | false =>
                          by_cases hti : ti = zi
                          · have h3 : (ti == zi) = true := by simpa using hti
                            rw [decide_eq_true hti] at NX
                            have HN := Kept.mk NX
                            clear NX hti
                            go_upto_region 32 with (fail)
                            go_quiet (fail)
                            go_wp2
                            go_roundw
                            case rel => exact ⟨j + 1, by omega, by rw [HN.out]; rfl, by go_num, ⟨below_drewN BX.out _⟩⟩
                            case measure => simp only [Go.RowKit.intOf]; omega
                          · have h3 : (ti == zi) = false := by simpa using hti
                            rw [decide_eq_false hti] at NX
                            have HN := Kept.mk NX
                            clear NX hti
                            go_upto_region 32 with (fail)
                            go_quiet (fail)
                            go_wp2
                            go_roundw
                            case rel => exact ⟨j + 1, by omega, by rw [HN.out]; rfl, by go_num, ⟨below_drewN BX.out _⟩⟩
                            case measure => simp only [Go.RowKit.intOf]; omega
                      · have hjm' : ¬ (j : Int) < ml.length := by omega
                        obtain rfl : j = ml.length := by omega
                        have hyes : (b0 || (ml.take ml.length).any (fun t => decide (t.id = zi))) = true := by
                          rw [List.take_length]
                          cases hb : b0 with
                          | true => rfl
                          | false =>
                            obtain ⟨t, ht, e⟩ := HB0.out hb
                            rw [Bool.false_or, List.any_eq_true]
                            exact ⟨t, ht, by simp [e]⟩
                        rw [hyes]
                        clear hyes
                        go_wp2
                        go_roundw
                        case rel => exact ⟨q + 1, by omega, by go_num, BX⟩
                        case measure => simp only [Go.RowKit.intOf]; omega
                  · have hqc' : ¬ (q : Int) < C.length := by omega
                    obtain rfl : q = C.length := by omega
                    have hwl : ¬ ((ml.length : Int) < nw) := by have := WL.out; omega
                    have B9 := Kept.mk (B.out.trans (BX.out.mono (hN ▸ B.out.size)))
                    have T9 := Kept.mk (T.out.below BX.out)
                    have D9 := Kept.mk (own_keep DR.out (barOf BX.out []) (by simp))
                    have W9 : Kept (ml.length ≤ (matched (tr C)).length) := ⟨by rw [HML.out]; exact Nat.le_refl _⟩
                    go_wp2
                    go_roundw
                    case rel => exact ⟨k + 1, C, F, Ad, _, C.length, cd, ml.length, cm, by omega, rfl, rfl, by go_num, T9, OKW, D9, DF, W9, B9⟩
                    case measure => simp only [Go.RowKit.intOf]; omega
        · have hkn' : ¬ (k : Int) < n := by omega
          obtain rfl : k = n := by omega
          go_wp2_with fail
          refine (tfirst_any wr).mono ?_
          rintro e w2 ⟨rfl, bb⟩
          replace B := Kept.mk (low_trans B.out bb (hN ▸ B.out.size))
          clear bb
          go_wp2
          go_ret
          exact ⟨rfl, B.out⟩
end Go.Proofs.Ythhjmbbfibgjpaa.Trade
