/-
  The document's desk: ids.
-/
import Derived.Test.YthhjmbbfibgjpaaTakes
import Derived.Test.YthhjmbbfibgjpaaTradeTake
import Derived.Test.YthhjmbbfibgjpaaTradeInsV
import Derived.Test.YthhjmbbfibgjpaaIntsSame
import Derived.Test.YthhjmbbfibgjpaaIntRows
import Derived.Test.YthhjmbbfibgjpaaTakes
namespace Go.Proofs.Ythhjmbbfibgjpaa.Trade
open Go.RowKit Go.Proofs.Ythhjmbbfibgjpaa.Sha

theorem ids_next {l : List TV} {k : Nat} {t : TV} (h : l[k]? = some t) : ids (l.take (k + 1)) = insI t.id (ids (l.take k)) := by
  obtain ⟨hk, rfl⟩ := List.getElem?_eq_some_iff.1 h
  rw [List.take_add_one, List.getElem?_eq_getElem hk]
  exact ids_snoc _ _
set_option maxRecDepth 100000 in
set_option maxHeartbeats 4000000 in
theorem rids_any {N0 x : Nat} {p c a : Int} {u v : Value} {C : List CV} {w : World} (h : Rv N0 w x p c a u v C) (hC : Okc C) :
    Calls Try.prog 32 #[.pointer (some ⟨x, 0, none⟩)] w (IdsP (ids (tr C)) w) := by
  obtain ⟨A, cp, rfl, h1, h2, R0⟩ := h.rc
  have R := Kept.mk R0
  have c4 : w.cell? ⟨x, 4, none⟩ = some (.slice A C.length cp) := h.blk.cell 4
  have K4 := Kept.mk c4
  have hf := hC.few
  have HL : Kept ((tr C).length = C.length) := ⟨tr_len C⟩
  clear h R0 hC h1 h2
  generalize C.length = n at *
  generalize tr C = l at *
  obtain ⟨N, hN⟩ : ∃ z, w.heap.size = z := ⟨_, rfl⟩
  have NB : ∀ wx, Kept (Below N w wx) → N ≤ wx.heap.size := fun wx B => hN ▸ B.out.size
  go_enter Try.func32, Try.ntmps32
  go_wp2
  go_loopw [3, 4] (fun ov i wr => ∃ k : Nat, k ≤ n ∧ i = .int .i64 k ∧ Kept (wr.ownsRow N 3 1 ov (ids (l.take k)).length (ints .i64 (ids (l.take k)))) ∧ Kept (Below N w wr)) (fun _ i _ => n - (Go.RowKit.intOf i).toNat)
  case atStart => exact ⟨0, by omega, rfl, ⟨World.ownsRow_nil _ _ _ _⟩, ⟨Below.refl _ _⟩⟩
  case round =>
    clear c4
    obtain ⟨k, hk, rfl, HO, BW⟩ := hrel
    have c4 : wr.cell? ⟨x, 4, none⟩ = some (.slice A n cp) := (BW.out.cell (hN ▸ World.block_lt_of_cell? _ _ K4.out)).trans K4.out
    obtain ⟨Ao, co, rfl⟩ := own_shape HO.out
    by_cases hkn : k < n
    · have hkn' : (k : Int) < n := by omega
      obtain ⟨g, o, t, rfl, ht, hc⟩ := (R.out.below (hN.symm ▸ BW.out)).at_ hkn
      have c0 : wr.cell? ⟨g, o + k * 7, none⟩ = some (.int .i64 t.id) := hc 0 _ rfl
      have NX := Kept.mk (ids_next ht)
      have RIS := Kept.mk (ids_rise (l.take k))
      have RO := Kept.mk (own_ri HO.out)
      have LEN := ids_len (l.take k)
      have HLT : (ids (l.take k)).length ≤ 400 := Nat.le_trans LEN (by rw [List.length_take]; omega)
      obtain ⟨id, hid⟩ : ∃ z, t.id = z := ⟨_, rfl⟩
      rw [hid] at c0 NX
      obtain ⟨os, hos⟩ : ∃ z, ids (l.take k) = z := ⟨_, rfl⟩
      rw [hos] at NX RIS RO HLT HO ⊢
      obtain ⟨m, hmm⟩ : ∃ z, os.length = z := ⟨_, rfl⟩
      rw [hmm] at RO HLT HO ⊢
      have HMM := Kept.mk hmm
      have CH := inthas_any Ao m co os id wr RO.out.2.2 (by omega)
      clear hc ht hid LEN hos hmm
      by_cases hm : id ∈ os
      · rw [decide_eq_true hm] at CH
        replace CH := Kept.mk CH
        have HO2 : Kept (wr.ownsRow N 3 1 (.slice Ao m co) (ids (l.take (k + 1))).length (ints .i64 (ids (l.take (k + 1))))) := ⟨by rw [NX.out, insI_same RIS.out hm, HMM.out]; exact HO.out⟩
        clear HO NX hm
        go_wp2_with fail
        refine CH.out.mono ?_
        rintro e w2 ⟨rfl, rfl⟩
        go_wp2
        go_roundw
        case rel => exact ⟨k + 1, by omega, by go_num, HO2, BW⟩
        case measure => simp only [Go.RowKit.intOf]; omega
      · rw [decide_eq_false hm] at CH
        replace CH := Kept.mk CH
        have HNM := Kept.mk hm
        clear hm
        have EQ : Kept (∀ (q : Nat) (v : Value) (wx : World), q ≤ m → insI id os = os.take q ++ [id] ++ os.drop q → wx.ownsRow N 3 1 v (0 + q + 1 + (m - q)) ([] ++ ints .i64 (os.take q) ++ ints .i64 [id] ++ ints .i64 (os.drop q)) → wx.ownsRow N 3 1 v (ids (l.take (k + 1))).length (ints .i64 (ids (l.take (k + 1))))) := ⟨fun q v wx hq hs o => by
          have e1 : [] ++ ints .i64 (os.take q) ++ ints .i64 [id] ++ ints .i64 (os.drop q) = ints .i64 (ids (l.take (k + 1))) := by
            rw [NX.out, hs]; simp [ints]
          have e2 : 0 + q + 1 + (m - q) = (ids (l.take (k + 1))).length := by
            rw [NX.out, hs]; simp [HMM.out]; omega
          rw [e1, e2] at o
          exact o⟩
        have RW : Kept (∀ wx, Below wr.heap.size wr wx → Ri wx Ao m os) := ⟨fun wx b => RO.out.2.2.below b⟩
        go_wp2_with fail
        refine CH.out.mono ?_
        rintro e w2 ⟨rfl, rfl⟩
        clear CH
        go_wp2
        go_loop [6] (fun j => ∃ q : Nat, q ≤ m ∧ j = .int .i64 q ∧ Kept (∀ r, q ≤ r → r < m → id < at_ os r)) (fun j => (Go.RowKit.intOf j).toNat)
        case atStart => exact ⟨m, Nat.le_refl _, rfl, ⟨fun r h1 h2 => by omega⟩⟩
        case round =>
          obtain ⟨q, hq, rfl, HU⟩ := hrel
          by_cases hq0 : q = 0
          · subst hq0
            have LOW : Kept (∀ j, j < 0 → at_ os j < id) := ⟨fun j h => by omega⟩
            go_wp2
            have SPL := Kept.mk (insI_split id os 0 (by rw [HMM.out]; exact hq) LOW.out (fun j hj hl => HU.out j hj (by rw [HMM.out] at hl; exact hl)))
            obtain ⟨A1, hs1, r1⟩ := islice_h RO.out.2.2 RO.out.1 0 hq 0 (by omega)
            obtain ⟨A2, hs2, r2⟩ := islice_l RO.out.2.2 RO.out.1 0 hq 0 (by omega)
            obtain ⟨Z, hZ⟩ : ∃ z, wr.heap.size = z := ⟨_, rfl⟩
            have NZ : Kept (N ≤ Z) := ⟨hZ ▸ NB _ BW⟩
            have RR1 := Kept.mk fun wx (B : Kept (Below Z wr wx)) => r1.below (hZ.symm ▸ B.out)
            have RR2 := Kept.mk fun wx (B : Kept (Below Z wr wx)) => r2.below (hZ.symm ▸ B.out)
            replace NB : ∀ wx, Kept (Below Z wr wx) → Z ≤ wx.heap.size := fun wx B => hZ ▸ B.out.size
            clear r1 r2 HU LOW HO RO hZ
            refine wp_region_noPanic ?_
            refine wp_region_held_drew (S := fun _ : World => True) (by kernel_rfl) trivial (fun hT => ?_)
            have B0 : Kept (Below Z wr wr.drew) := ⟨(Below.refl _ _).drew⟩
            generalize wr.drew = wd at *
            refine tk 1 ?_
            simp only [Act.put, List.setIfInBounds_toArray, List.set_cons_zero, List.set_cons_succ]
            refine tk 2 ?_
            simp only [Act.put, List.setIfInBounds_toArray, List.set_cons_zero, List.set_cons_succ]
            refine tk 3 ?_
            simp only [Act.put, List.setIfInBounds_toArray, List.set_cons_zero, List.set_cons_succ]
            refine tk 5 ?_
            simp only [Act.put, List.setIfInBounds_toArray, List.set_cons_zero, List.set_cons_succ]
            refine tk 8 ?_
            simp only [Act.put, List.setIfInBounds_toArray, List.set_cons_zero, List.set_cons_succ]
            refine tk 9 ?_
            simp only [Act.put, List.setIfInBounds_toArray, List.set_cons_zero, List.set_cons_succ]
            refine tk 10 ?_
            simp only [Act.put, List.setIfInBounds_toArray, List.set_cons_zero, List.set_cons_succ]
            refine ld2 0 6 (fun K hK => ?_) (fun K hK => ?_)
            · go_simp
              have O0 := Kept.mk (World.ownsRow_made (base := Z) (e := 3) (size := 1) wd #[] 0 (NB _ B0) (by unfold maxLen; omega) rfl)
              have B1 : Kept (Below Z wr (wd.alloc (.cells #[] 3))) := ⟨B0.out.alloc (NB _ B0) _⟩
              have hv : (Value.slice (some ⟨wd.heap.size, 0, none⟩) 0 0).ownBlock = some wd.heap.size := rfl
              have hlt1 : wd.heap.size < (wd.alloc (.cells #[] 3)).heap.size := by simp
              refine hK.out _ _ trivial (fun _ => ?_)
              clear hK K
              try simp only [Act.put, List.setIfInBounds_toArray, List.set_cons_zero, List.set_cons_succ]
              generalize wd.alloc (.cells #[] 3) = w1 at *
              generalize wd.heap.size = g0 at *
              refine ld2 4 6 (fun K hK => ?_) (fun K hK => ?_)
              · refine step_append_ri rfl (.tmp 42) (.tmp 45) 38 (by rfl) Z 3 Try.underlying38 info_int _ _ _ (by rfl) O0.out A1 0 co _ (by rfl) (RR1.out _ B1) (by omega) (NB _ B1) ?_
                intro v4 w4 o4 g4 b4 a4
                have B4 : Kept (Below Z wr w4) := ⟨B1.out.trans b4⟩
                refine hK.out _ _ trivial (fun _ => ?_)
                clear hK K
                try simp only [Act.put, List.setIfInBounds_toArray, List.set_cons_zero, List.set_cons_succ]
                refine ld 6 (fun K hK => ?_)
                go_simp
                have RB := Kept.mk (Blk.new w4 3 #[.int .i64 id])
                have O4 := Kept.mk (o4.out.alloc (.cells #[.int .i64 id] 3))
                have B6 : Kept (Below Z wr (w4.alloc (.cells #[.int .i64 id] 3))) := ⟨B4.out.alloc (NB _ B4) _⟩
                refine hK.out _ _ trivial (fun _ => ?_)
                clear hK K
                try simp only [Act.put, List.setIfInBounds_toArray, List.set_cons_zero, List.set_cons_succ]
                clear g4 a4 b4 B4 o4 B1 O0 hv hlt1
                generalize w4.alloc (.cells #[.int .i64 id] 3) = w6 at *
                generalize w4.heap.size = gB at *
                refine ld 7 (fun K hK => ?_)
                refine step_append_ri rfl (.tmp 46) (.tmp 48) 38 (by rfl) Z 3 Try.underlying38 info_int _ _ _ (by rfl) O4.out (some ⟨gB, 0, none⟩) 1 1 _ (by rfl) (Ri.blk (xs := [id]) RB.out rfl) (by omega) (NB _ B6) ?_
                intro v7 w7 o7 g7 b7 a7
                have B7 : Kept (Below Z wr w7) := ⟨B6.out.trans b7⟩
                refine hK.out _ _ trivial (fun _ => ?_)
                clear hK K
                try simp only [Act.put, List.setIfInBounds_toArray, List.set_cons_zero, List.set_cons_succ]
                refine ld 11 (fun K hK => ?_)
                refine step_append_ri rfl (.tmp 49) (.tmp 52) 38 (by rfl) Z 3 Try.underlying38 info_int _ _ _ (by rfl) o7.out A2 (m - 0) (co - 0) _ (by rfl) (RR2.out _ B7) (by omega) (NB _ B7) ?_
                intro v11 w11 o11 g11 b11 a11
                have B11 : Kept (Below Z wr w11) := ⟨B7.out.trans b11⟩
                have O11 := Kept.mk (EQ.out 0 _ _ hq SPL.out (row_base o11.out NZ.out))
                have BE := Kept.mk (BW.out.trans (B11.out.mono NZ.out))
                refine hK.out _ _ trivial (fun _ => ?_)
                clear hK K
                try simp only [Act.put, List.setIfInBounds_toArray, List.set_cons_zero, List.set_cons_succ]
                clear o11 o7 O4 RB g7 g11 a7 a11 b7 b11 B7 B6 B11
                refine ld 12 (fun K hK => ?_)
                go_simp
                refine hK.out _ _ trivial (fun _ => ?_)
                clear hK K
                try simp only [Act.put, List.setIfInBounds_toArray, List.set_cons_zero, List.set_cons_succ]
                refine wpAnyH_done (by kernel_rfl) ?_ _
                refine NoPanic.normal ?_
                go_wp2
                go_roundw
                case rel => exact ⟨k + 1, by omega, by go_num, O11, BE⟩
                case measure => simp only [Go.RowKit.intOf]; omega
              · go_simp
                have RB0 := Kept.mk (Blk.new w1 3 #[.int .i64 id])
                have O1 := Kept.mk (O0.out.alloc (.cells #[.int .i64 id] 3))
                have B5 : Kept (Below Z wr (w1.alloc (.cells #[.int .i64 id] 3))) := ⟨B1.out.alloc (NB _ B1) _⟩
                have hne : some w1.heap.size ≠ (Value.slice (some ⟨g0, 0, none⟩) 0 0).ownBlock := by rw [hv]; intro he; injection he with he; omega
                refine hK.out _ _ trivial (fun _ => ?_)
                clear hK K
                try simp only [Act.put, List.setIfInBounds_toArray, List.set_cons_zero, List.set_cons_succ]
                generalize w1.alloc (.cells #[.int .i64 id] 3) = w2 at *
                generalize w1.heap.size = gB at *
                refine ld 4 (fun K hK => ?_)
                refine step_append_ri rfl (.tmp 42) (.tmp 45) 38 (by rfl) Z 3 Try.underlying38 info_int _ _ _ (by rfl) O1.out A1 0 co _ (by rfl) (RR1.out _ B5) (by omega) (NB _ B5) ?_
                intro v4 w4 o4 g4 b4 a4
                have B6 : Kept (Below Z wr w4) := ⟨B5.out.trans b4⟩
                have RB := Kept.mk (RB0.out.grown g4 hne)
                have O4 := o4
                refine hK.out _ _ trivial (fun _ => ?_)
                clear hK K
                try simp only [Act.put, List.setIfInBounds_toArray, List.set_cons_zero, List.set_cons_succ]
                clear g4 a4 b4 B5 o4 B1 O0 O1 RB0 hv hlt1 hne
                refine ld 7 (fun K hK => ?_)
                refine step_append_ri rfl (.tmp 46) (.tmp 48) 38 (by rfl) Z 3 Try.underlying38 info_int _ _ _ (by rfl) O4.out (some ⟨gB, 0, none⟩) 1 1 _ (by rfl) (Ri.blk (xs := [id]) RB.out rfl) (by omega) (NB _ B6) ?_
                intro v7 w7 o7 g7 b7 a7
                have B7 : Kept (Below Z wr w7) := ⟨B6.out.trans b7⟩
                refine hK.out _ _ trivial (fun _ => ?_)
                clear hK K
                try simp only [Act.put, List.setIfInBounds_toArray, List.set_cons_zero, List.set_cons_succ]
                refine ld 11 (fun K hK => ?_)
                refine step_append_ri rfl (.tmp 49) (.tmp 52) 38 (by rfl) Z 3 Try.underlying38 info_int _ _ _ (by rfl) o7.out A2 (m - 0) (co - 0) _ (by rfl) (RR2.out _ B7) (by omega) (NB _ B7) ?_
                intro v11 w11 o11 g11 b11 a11
                have B11 : Kept (Below Z wr w11) := ⟨B7.out.trans b11⟩
                have O11 := Kept.mk (EQ.out 0 _ _ hq SPL.out (row_base o11.out NZ.out))
                have BE := Kept.mk (BW.out.trans (B11.out.mono NZ.out))
                refine hK.out _ _ trivial (fun _ => ?_)
                clear hK K
                try simp only [Act.put, List.setIfInBounds_toArray, List.set_cons_zero, List.set_cons_succ]
                clear o11 o7 O4 RB g7 g11 a7 a11 b7 b11 B7 B6 B11
                refine ld 12 (fun K hK => ?_)
                go_simp
                refine hK.out _ _ trivial (fun _ => ?_)
                clear hK K
                try simp only [Act.put, List.setIfInBounds_toArray, List.set_cons_zero, List.set_cons_succ]
                refine wpAnyH_done (by kernel_rfl) ?_ _
                refine NoPanic.normal ?_
                go_wp2
                go_roundw
                case rel => exact ⟨k + 1, by omega, by go_num, O11, BE⟩
                case measure => simp only [Go.RowKit.intOf]; omega
            · go_simp
              have RB0 := Kept.mk (Blk.new wd 3 #[.int .i64 id])
              have B5 : Kept (Below Z wr (wd.alloc (.cells #[.int .i64 id] 3))) := ⟨B0.out.alloc (NB _ B0) _⟩
              have hltB : wd.heap.size < (wd.alloc (.cells #[.int .i64 id] 3)).heap.size := by simp
              refine hK.out _ _ trivial (fun _ => ?_)
              clear hK K
              try simp only [Act.put, List.setIfInBounds_toArray, List.set_cons_zero, List.set_cons_succ]
              generalize wd.alloc (.cells #[.int .i64 id] 3) = w2 at *
              generalize wd.heap.size = gB at *
              refine ld 0 (fun K hK => ?_)
              go_simp
              have O0 := Kept.mk (World.ownsRow_made (base := Z) (e := 3) (size := 1) w2 #[] 0 (NB _ B5) (by unfold maxLen; omega) rfl)
              have B1 : Kept (Below Z wr (w2.alloc (.cells #[] 3))) := ⟨B5.out.alloc (NB _ B5) _⟩
              have hv : (Value.slice (some ⟨w2.heap.size, 0, none⟩) 0 0).ownBlock = some w2.heap.size := rfl
              have hlt1 : w2.heap.size < (w2.alloc (.cells #[] 3)).heap.size := by simp
              have RB1 := Kept.mk (RB0.out.alloc (.cells #[] 3))
              have hne : some gB ≠ (Value.slice (some ⟨w2.heap.size, 0, none⟩) 0 0).ownBlock := by rw [hv]; intro he; injection he with he; omega
              refine hK.out _ _ trivial (fun _ => ?_)
              clear hK K
              try simp only [Act.put, List.setIfInBounds_toArray, List.set_cons_zero, List.set_cons_succ]
              generalize w2.alloc (.cells #[] 3) = w3 at *
              generalize w2.heap.size = g0 at *
              refine ld 4 (fun K hK => ?_)
              refine step_append_ri rfl (.tmp 42) (.tmp 45) 38 (by rfl) Z 3 Try.underlying38 info_int _ _ _ (by rfl) O0.out A1 0 co _ (by rfl) (RR1.out _ B1) (by omega) (NB _ B1) ?_
              intro v4 w4 o4 g4 b4 a4
              have B6 : Kept (Below Z wr w4) := ⟨B1.out.trans b4⟩
              have RB := Kept.mk (RB1.out.grown g4 hne)
              have O4 := o4
              refine hK.out _ _ trivial (fun _ => ?_)
              clear hK K
              try simp only [Act.put, List.setIfInBounds_toArray, List.set_cons_zero, List.set_cons_succ]
              clear g4 a4 b4 B5 o4 B1 O0 RB0 RB1 hv hlt1 hne hltB
              refine ld 7 (fun K hK => ?_)
              refine step_append_ri rfl (.tmp 46) (.tmp 48) 38 (by rfl) Z 3 Try.underlying38 info_int _ _ _ (by rfl) O4.out (some ⟨gB, 0, none⟩) 1 1 _ (by rfl) (Ri.blk (xs := [id]) RB.out rfl) (by omega) (NB _ B6) ?_
              intro v7 w7 o7 g7 b7 a7
              have B7 : Kept (Below Z wr w7) := ⟨B6.out.trans b7⟩
              refine hK.out _ _ trivial (fun _ => ?_)
              clear hK K
              try simp only [Act.put, List.setIfInBounds_toArray, List.set_cons_zero, List.set_cons_succ]
              refine ld 11 (fun K hK => ?_)
              refine step_append_ri rfl (.tmp 49) (.tmp 52) 38 (by rfl) Z 3 Try.underlying38 info_int _ _ _ (by rfl) o7.out A2 (m - 0) (co - 0) _ (by rfl) (RR2.out _ B7) (by omega) (NB _ B7) ?_
              intro v11 w11 o11 g11 b11 a11
              have B11 : Kept (Below Z wr w11) := ⟨B7.out.trans b11⟩
              have O11 := Kept.mk (EQ.out 0 _ _ hq SPL.out (row_base o11.out NZ.out))
              have BE := Kept.mk (BW.out.trans (B11.out.mono NZ.out))
              refine hK.out _ _ trivial (fun _ => ?_)
              clear hK K
              try simp only [Act.put, List.setIfInBounds_toArray, List.set_cons_zero, List.set_cons_succ]
              clear o11 o7 O4 RB g7 g11 a7 a11 b7 b11 B7 B6 B11
              refine ld 12 (fun K hK => ?_)
              go_simp
              refine hK.out _ _ trivial (fun _ => ?_)
              clear hK K
              try simp only [Act.put, List.setIfInBounds_toArray, List.set_cons_zero, List.set_cons_succ]
              refine wpAnyH_done (by kernel_rfl) ?_ _
              refine NoPanic.normal ?_
              go_wp2
              go_roundw
              case rel => exact ⟨k + 1, by omega, by go_num, O11, BE⟩
              case measure => simp only [Go.RowKit.intOf]; omega
          · obtain ⟨r, rfl⟩ : ∃ r, q = r + 1 := ⟨q - 1, by omega⟩
            have hr0 : (0 : Int) < r + 1 := by omega
            have x0 := RO.out.2.2.2.resolve_left (by omega)
            obtain ⟨go, oo, rfl, hco⟩ := x0
            have y0 := hco r (by omega)
            have hr1 : ((r : Int) + 1 - 1) = r := by omega
            clear hco
            by_cases hgt : id < at_ os r
            · have HU2 : Kept (∀ j, r ≤ j → j < m → id < at_ os j) := ⟨fun j h1 h2 => by
                by_cases e : j = r
                · subst e; exact hgt
                · exact HU.out j (by omega) h2⟩
              generalize at_ os r = z at *
              clear HU
              go_wp2
              go_round
              case rel => exact ⟨r, by omega, by go_num, HU2⟩
              case measure => simp only [Go.RowKit.intOf]; omega
            · have LOW := Kept.mk (ins_low RIS.out HNM.out (by rw [HMM.out]; exact hq) hgt)
              generalize at_ os r = z at *
              go_wp2
              have SPL := Kept.mk (insI_split id os (r + 1) (by rw [HMM.out]; exact hq) LOW.out (fun j hj hl => HU.out j hj (by rw [HMM.out] at hl; exact hl)))
              obtain ⟨A1, hs1, r1⟩ := islice_h RO.out.2.2 RO.out.1 (r + 1) hq ((r : Int) + 1) (by omega)
              obtain ⟨A2, hs2, r2⟩ := islice_l RO.out.2.2 RO.out.1 (r + 1) hq ((r : Int) + 1) (by omega)
              obtain ⟨Z, hZ⟩ : ∃ z, wr.heap.size = z := ⟨_, rfl⟩
              have NZ : Kept (N ≤ Z) := ⟨hZ ▸ NB _ BW⟩
              have RR1 := Kept.mk fun wx (B : Kept (Below Z wr wx)) => r1.below (hZ.symm ▸ B.out)
              have RR2 := Kept.mk fun wx (B : Kept (Below Z wr wx)) => r2.below (hZ.symm ▸ B.out)
              replace NB : ∀ wx, Kept (Below Z wr wx) → Z ≤ wx.heap.size := fun wx B => hZ ▸ B.out.size
              clear r1 r2 HU LOW HO RO hZ
              refine wp_region_noPanic ?_
              refine wp_region_held_drew (S := fun _ : World => True) (by kernel_rfl) trivial (fun hT => ?_)
              have B0 : Kept (Below Z wr wr.drew) := ⟨(Below.refl _ _).drew⟩
              generalize wr.drew = wd at *
              refine tk 1 ?_
              simp only [Act.put, List.setIfInBounds_toArray, List.set_cons_zero, List.set_cons_succ]
              refine tk 2 ?_
              simp only [Act.put, List.setIfInBounds_toArray, List.set_cons_zero, List.set_cons_succ]
              refine tk 3 ?_
              simp only [Act.put, List.setIfInBounds_toArray, List.set_cons_zero, List.set_cons_succ]
              refine tk 5 ?_
              simp only [Act.put, List.setIfInBounds_toArray, List.set_cons_zero, List.set_cons_succ]
              refine tk 8 ?_
              simp only [Act.put, List.setIfInBounds_toArray, List.set_cons_zero, List.set_cons_succ]
              refine tk 9 ?_
              simp only [Act.put, List.setIfInBounds_toArray, List.set_cons_zero, List.set_cons_succ]
              refine tk 10 ?_
              simp only [Act.put, List.setIfInBounds_toArray, List.set_cons_zero, List.set_cons_succ]
              refine ld2 0 6 (fun K hK => ?_) (fun K hK => ?_)
              · go_simp
                have O0 := Kept.mk (World.ownsRow_made (base := Z) (e := 3) (size := 1) wd #[] 0 (NB _ B0) (by unfold maxLen; omega) rfl)
                have B1 : Kept (Below Z wr (wd.alloc (.cells #[] 3))) := ⟨B0.out.alloc (NB _ B0) _⟩
                have hv : (Value.slice (some ⟨wd.heap.size, 0, none⟩) 0 0).ownBlock = some wd.heap.size := rfl
                have hlt1 : wd.heap.size < (wd.alloc (.cells #[] 3)).heap.size := by simp
                refine hK.out _ _ trivial (fun _ => ?_)
                clear hK K
                try simp only [Act.put, List.setIfInBounds_toArray, List.set_cons_zero, List.set_cons_succ]
                generalize wd.alloc (.cells #[] 3) = w1 at *
                generalize wd.heap.size = g0 at *
                refine ld2 4 6 (fun K hK => ?_) (fun K hK => ?_)
                · refine step_append_ri rfl (.tmp 42) (.tmp 45) 38 (by rfl) Z 3 Try.underlying38 info_int _ _ _ (by rfl) O0.out A1 (r + 1) co _ (by rfl) (RR1.out _ B1) (by omega) (NB _ B1) ?_
                  intro v4 w4 o4 g4 b4 a4
                  have B4 : Kept (Below Z wr w4) := ⟨B1.out.trans b4⟩
                  refine hK.out _ _ trivial (fun _ => ?_)
                  clear hK K
                  try simp only [Act.put, List.setIfInBounds_toArray, List.set_cons_zero, List.set_cons_succ]
                  refine ld 6 (fun K hK => ?_)
                  go_simp
                  have RB := Kept.mk (Blk.new w4 3 #[.int .i64 id])
                  have O4 := Kept.mk (o4.out.alloc (.cells #[.int .i64 id] 3))
                  have B6 : Kept (Below Z wr (w4.alloc (.cells #[.int .i64 id] 3))) := ⟨B4.out.alloc (NB _ B4) _⟩
                  refine hK.out _ _ trivial (fun _ => ?_)
                  clear hK K
                  try simp only [Act.put, List.setIfInBounds_toArray, List.set_cons_zero, List.set_cons_succ]
                  clear g4 a4 b4 B4 o4 B1 O0 hv hlt1
                  generalize w4.alloc (.cells #[.int .i64 id] 3) = w6 at *
                  generalize w4.heap.size = gB at *
                  refine ld 7 (fun K hK => ?_)
                  refine step_append_ri rfl (.tmp 46) (.tmp 48) 38 (by rfl) Z 3 Try.underlying38 info_int _ _ _ (by rfl) O4.out (some ⟨gB, 0, none⟩) 1 1 _ (by rfl) (Ri.blk (xs := [id]) RB.out rfl) (by omega) (NB _ B6) ?_
                  intro v7 w7 o7 g7 b7 a7
                  have B7 : Kept (Below Z wr w7) := ⟨B6.out.trans b7⟩
                  refine hK.out _ _ trivial (fun _ => ?_)
                  clear hK K
                  try simp only [Act.put, List.setIfInBounds_toArray, List.set_cons_zero, List.set_cons_succ]
                  refine ld 11 (fun K hK => ?_)
                  refine step_append_ri rfl (.tmp 49) (.tmp 52) 38 (by rfl) Z 3 Try.underlying38 info_int _ _ _ (by rfl) o7.out A2 (m - (r + 1)) (co - (r + 1)) _ (by rfl) (RR2.out _ B7) (by omega) (NB _ B7) ?_
                  intro v11 w11 o11 g11 b11 a11
                  have B11 : Kept (Below Z wr w11) := ⟨B7.out.trans b11⟩
                  have O11 := Kept.mk (EQ.out (r + 1) _ _ hq SPL.out (row_base o11.out NZ.out))
                  have BE := Kept.mk (BW.out.trans (B11.out.mono NZ.out))
                  refine hK.out _ _ trivial (fun _ => ?_)
                  clear hK K
                  try simp only [Act.put, List.setIfInBounds_toArray, List.set_cons_zero, List.set_cons_succ]
                  clear o11 o7 O4 RB g7 g11 a7 a11 b7 b11 B7 B6 B11
                  refine ld 12 (fun K hK => ?_)
                  go_simp
                  refine hK.out _ _ trivial (fun _ => ?_)
                  clear hK K
                  try simp only [Act.put, List.setIfInBounds_toArray, List.set_cons_zero, List.set_cons_succ]
                  refine wpAnyH_done (by kernel_rfl) ?_ _
                  refine NoPanic.normal ?_
                  go_wp2
                  go_roundw
                  case rel => exact ⟨k + 1, by omega, by go_num, O11, BE⟩
                  case measure => simp only [Go.RowKit.intOf]; omega
                · go_simp
                  have RB0 := Kept.mk (Blk.new w1 3 #[.int .i64 id])
                  have O1 := Kept.mk (O0.out.alloc (.cells #[.int .i64 id] 3))
                  have B5 : Kept (Below Z wr (w1.alloc (.cells #[.int .i64 id] 3))) := ⟨B1.out.alloc (NB _ B1) _⟩
                  have hne : some w1.heap.size ≠ (Value.slice (some ⟨g0, 0, none⟩) 0 0).ownBlock := by rw [hv]; intro he; injection he with he; omega
                  refine hK.out _ _ trivial (fun _ => ?_)
                  clear hK K
                  try simp only [Act.put, List.setIfInBounds_toArray, List.set_cons_zero, List.set_cons_succ]
                  generalize w1.alloc (.cells #[.int .i64 id] 3) = w2 at *
                  generalize w1.heap.size = gB at *
                  refine ld 4 (fun K hK => ?_)
                  refine step_append_ri rfl (.tmp 42) (.tmp 45) 38 (by rfl) Z 3 Try.underlying38 info_int _ _ _ (by rfl) O1.out A1 (r + 1) co _ (by rfl) (RR1.out _ B5) (by omega) (NB _ B5) ?_
                  intro v4 w4 o4 g4 b4 a4
                  have B6 : Kept (Below Z wr w4) := ⟨B5.out.trans b4⟩
                  have RB := Kept.mk (RB0.out.grown g4 hne)
                  have O4 := o4
                  refine hK.out _ _ trivial (fun _ => ?_)
                  clear hK K
                  try simp only [Act.put, List.setIfInBounds_toArray, List.set_cons_zero, List.set_cons_succ]
                  clear g4 a4 b4 B5 o4 B1 O0 O1 RB0 hv hlt1 hne
                  refine ld 7 (fun K hK => ?_)
                  refine step_append_ri rfl (.tmp 46) (.tmp 48) 38 (by rfl) Z 3 Try.underlying38 info_int _ _ _ (by rfl) O4.out (some ⟨gB, 0, none⟩) 1 1 _ (by rfl) (Ri.blk (xs := [id]) RB.out rfl) (by omega) (NB _ B6) ?_
                  intro v7 w7 o7 g7 b7 a7
                  have B7 : Kept (Below Z wr w7) := ⟨B6.out.trans b7⟩
                  refine hK.out _ _ trivial (fun _ => ?_)
                  clear hK K
                  try simp only [Act.put, List.setIfInBounds_toArray, List.set_cons_zero, List.set_cons_succ]
                  refine ld 11 (fun K hK => ?_)
                  refine step_append_ri rfl (.tmp 49) (.tmp 52) 38 (by rfl) Z 3 Try.underlying38 info_int _ _ _ (by rfl) o7.out A2 (m - (r + 1)) (co - (r + 1)) _ (by rfl) (RR2.out _ B7) (by omega) (NB _ B7) ?_
                  intro v11 w11 o11 g11 b11 a11
                  have B11 : Kept (Below Z wr w11) := ⟨B7.out.trans b11⟩
                  have O11 := Kept.mk (EQ.out (r + 1) _ _ hq SPL.out (row_base o11.out NZ.out))
                  have BE := Kept.mk (BW.out.trans (B11.out.mono NZ.out))
                  refine hK.out _ _ trivial (fun _ => ?_)
                  clear hK K
                  try simp only [Act.put, List.setIfInBounds_toArray, List.set_cons_zero, List.set_cons_succ]
                  clear o11 o7 O4 RB g7 g11 a7 a11 b7 b11 B7 B6 B11
                  refine ld 12 (fun K hK => ?_)
                  go_simp
                  refine hK.out _ _ trivial (fun _ => ?_)
                  clear hK K
                  try simp only [Act.put, List.setIfInBounds_toArray, List.set_cons_zero, List.set_cons_succ]
                  refine wpAnyH_done (by kernel_rfl) ?_ _
                  refine NoPanic.normal ?_
                  go_wp2
                  go_roundw
                  case rel => exact ⟨k + 1, by omega, by go_num, O11, BE⟩
                  case measure => simp only [Go.RowKit.intOf]; omega
              · go_simp
                have RB0 := Kept.mk (Blk.new wd 3 #[.int .i64 id])
                have B5 : Kept (Below Z wr (wd.alloc (.cells #[.int .i64 id] 3))) := ⟨B0.out.alloc (NB _ B0) _⟩
                have hltB : wd.heap.size < (wd.alloc (.cells #[.int .i64 id] 3)).heap.size := by simp
                refine hK.out _ _ trivial (fun _ => ?_)
                clear hK K
                try simp only [Act.put, List.setIfInBounds_toArray, List.set_cons_zero, List.set_cons_succ]
                generalize wd.alloc (.cells #[.int .i64 id] 3) = w2 at *
                generalize wd.heap.size = gB at *
                refine ld 0 (fun K hK => ?_)
                go_simp
                have O0 := Kept.mk (World.ownsRow_made (base := Z) (e := 3) (size := 1) w2 #[] 0 (NB _ B5) (by unfold maxLen; omega) rfl)
                have B1 : Kept (Below Z wr (w2.alloc (.cells #[] 3))) := ⟨B5.out.alloc (NB _ B5) _⟩
                have hv : (Value.slice (some ⟨w2.heap.size, 0, none⟩) 0 0).ownBlock = some w2.heap.size := rfl
                have hlt1 : w2.heap.size < (w2.alloc (.cells #[] 3)).heap.size := by simp
                have RB1 := Kept.mk (RB0.out.alloc (.cells #[] 3))
                have hne : some gB ≠ (Value.slice (some ⟨w2.heap.size, 0, none⟩) 0 0).ownBlock := by rw [hv]; intro he; injection he with he; omega
                refine hK.out _ _ trivial (fun _ => ?_)
                clear hK K
                try simp only [Act.put, List.setIfInBounds_toArray, List.set_cons_zero, List.set_cons_succ]
                generalize w2.alloc (.cells #[] 3) = w3 at *
                generalize w2.heap.size = g0 at *
                refine ld 4 (fun K hK => ?_)
                refine step_append_ri rfl (.tmp 42) (.tmp 45) 38 (by rfl) Z 3 Try.underlying38 info_int _ _ _ (by rfl) O0.out A1 (r + 1) co _ (by rfl) (RR1.out _ B1) (by omega) (NB _ B1) ?_
                intro v4 w4 o4 g4 b4 a4
                have B6 : Kept (Below Z wr w4) := ⟨B1.out.trans b4⟩
                have RB := Kept.mk (RB1.out.grown g4 hne)
                have O4 := o4
                refine hK.out _ _ trivial (fun _ => ?_)
                clear hK K
                try simp only [Act.put, List.setIfInBounds_toArray, List.set_cons_zero, List.set_cons_succ]
                clear g4 a4 b4 B5 o4 B1 O0 RB0 RB1 hv hlt1 hne hltB
                refine ld 7 (fun K hK => ?_)
                refine step_append_ri rfl (.tmp 46) (.tmp 48) 38 (by rfl) Z 3 Try.underlying38 info_int _ _ _ (by rfl) O4.out (some ⟨gB, 0, none⟩) 1 1 _ (by rfl) (Ri.blk (xs := [id]) RB.out rfl) (by omega) (NB _ B6) ?_
                intro v7 w7 o7 g7 b7 a7
                have B7 : Kept (Below Z wr w7) := ⟨B6.out.trans b7⟩
                refine hK.out _ _ trivial (fun _ => ?_)
                clear hK K
                try simp only [Act.put, List.setIfInBounds_toArray, List.set_cons_zero, List.set_cons_succ]
                refine ld 11 (fun K hK => ?_)
                refine step_append_ri rfl (.tmp 49) (.tmp 52) 38 (by rfl) Z 3 Try.underlying38 info_int _ _ _ (by rfl) o7.out A2 (m - (r + 1)) (co - (r + 1)) _ (by rfl) (RR2.out _ B7) (by omega) (NB _ B7) ?_
                intro v11 w11 o11 g11 b11 a11
                have B11 : Kept (Below Z wr w11) := ⟨B7.out.trans b11⟩
                have O11 := Kept.mk (EQ.out (r + 1) _ _ hq SPL.out (row_base o11.out NZ.out))
                have BE := Kept.mk (BW.out.trans (B11.out.mono NZ.out))
                refine hK.out _ _ trivial (fun _ => ?_)
                clear hK K
                try simp only [Act.put, List.setIfInBounds_toArray, List.set_cons_zero, List.set_cons_succ]
                clear o11 o7 O4 RB g7 g11 a7 a11 b7 b11 B7 B6 B11
                refine ld 12 (fun K hK => ?_)
                go_simp
                refine hK.out _ _ trivial (fun _ => ?_)
                clear hK K
                try simp only [Act.put, List.setIfInBounds_toArray, List.set_cons_zero, List.set_cons_succ]
                refine wpAnyH_done (by kernel_rfl) ?_ _
                refine NoPanic.normal ?_
                go_wp2
                go_roundw
                case rel => exact ⟨k + 1, by omega, by go_num, O11, BE⟩
                case measure => simp only [Go.RowKit.intOf]; omega
    · have hkn' : ¬ (k : Int) < n := by omega
      obtain rfl : k = n := by omega
      have HE : Kept (l.take k = l) := ⟨by rw [← HL.out, List.take_length]⟩
      go_wp2
      go_ret
      refine ⟨_, rfl, ?_, hN ▸ BW.out⟩
      have := HO.out
      rw [HE.out] at this ⊢
      rw [hN]
      exact this
end Go.Proofs.Ythhjmbbfibgjpaa.Trade
