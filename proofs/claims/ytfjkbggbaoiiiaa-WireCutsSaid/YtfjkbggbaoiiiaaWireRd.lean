/-
  WireCuts' own 'reads', walked.
-/
import Derived.Test.YtfjkbggbaoiiiaaWireTexts
namespace Go.Proofs.Ytfjkbggbaoiiiaa.Wire
open Go.RowKit Go.Proofs.Ytfjkbggbaoiiiaa.Sha

theorem bytes_is {A B : Option Addr} {n m : Nat} {xs ys : List Int} {t : Bool} (h : (decide (xs = ys)) = t) (c d : Nat) (w : World) (ha : Rd w A n xs) (hb : Rd w B m ys) :
    Calls Try.prog 18 #[.slice A n c, .slice B m d] w fun e w' => e = .returned (.bool t) ∧ w = w' := by
  have := bytes_any A B n m c d xs ys w ha hb
  unfold sameB at this
  rw [h] at this
  exact this

set_option maxRecDepth 100000 in
set_option maxHeartbeats 2000000 in
theorem reads_any (A B : Option Addr) (m c n cb : Nat) (xs : List Int) (X : Nat → List Int) (w : World) (hr : Rd w A m xs) (hx : Rws w B n X) (hn : n ≤ 20) (hX : ∀ k, k < n → (X k).length ≤ 2000) (hm : m < 2147483648) :
    Calls Try.prog 29 #[.slice A m c, .slice B n cb] w (ReadsPost X n xs w) := by
  have HR := Kept.mk hr
  have HX := Kept.mk hx
  have HL := Kept.mk hX
  have LM := Kept.mk hr.1
  clear hr hx hX
  go_enter Try.func29, Try.ntmps29
  go_wp2_with fail
  refine (newdec_any A m c xs w HR.out hm).mono ?_
  rintro x w1 ⟨d, G, rfl, de, hd1, hd2, hd3, b1⟩
  have DE := Kept.mk de
  have B1 := Kept.mk b1
  have I0 := Kept.mk (rdInv_0 X n xs HR.out.2.1)
  clear de b1 hd2
  go_wp2
  go_loopw [6] (fun i wr => ∃ (k : Nat) (st : St), k ≤ n ∧ i = .int .i64 k ∧ Kept (De 62 wr d G st) ∧ Kept (RdInv X n xs k st) ∧ Kept (Below w.heap.size w wr)) (fun i _ => n - (intOf i).toNat)
  case atStart => exact ⟨0, _, by omega, rfl, DE, I0, B1⟩
  case round =>
    clear DE I0 B1
    obtain ⟨k, st, hk, rfl, DE, INV, BW⟩ := hrel
    by_cases hkn : k < n
    · have hkn' : (k : Int) < n := by omega
      have hn0 : ¬ n = 0 := by omega
      obtain ⟨b, o, rfl, hc⟩ := (HX.out.below BW.out).resolve_left hn0
      obtain ⟨a, l, cl, g3, g4, g5, g6⟩ := hc k hkn
      have hbw := World.block_lt_of_cell? _ _ g3
      have hbB : b < w.heap.size := by
        obtain ⟨b', o', hA, hc'⟩ := HX.out.resolve_left hn0
        injection hA with hA
        injection hA with h1 h2
        subst h1 h2
        obtain ⟨a', l', c', h1, -⟩ := hc' k hkn
        exact World.block_lt_of_cell? _ _ h1
      have hbd : b ∉ [d] := by simp; omega
      have hO : Off a l [d] := by
        obtain ⟨b', o', hA, hc'⟩ := HX.out.resolve_left hn0
        injection hA with hA
        injection hA with h1 h2
        subst h1 h2
        obtain ⟨a', l', c', h1, -, -, h4⟩ := hc' k hkn
        have e := (BW.out.cell (p := ⟨b, o + k, none⟩) hbB).trans h1
        rw [g3] at e
        simp only [Option.some.injEq, Value.slice.injEq] at e
        obtain ⟨rfl, rfl, rfl⟩ := e
        exact h4.off (by simpa using hd1)
      have hil : st.2.length < 2147483648 := by have := INV.out.2.1; have := LM.out; omega
      have ct := Kept.mk (dtxt_any wr.drew d G st DE.out hd3 hil)
      have hby := Kept.mk (decTxt_bytes st INV.out.1)
      have G6 := Kept.mk g6
      have HO := Kept.mk hO
      clear hc g6 hO
      have HELD0 : (fun w' : World => w'.cell? ⟨b, o + k, none⟩ = some (.slice a l cl)) wr.drew := g3
      cases hs : decide ((decTxt st).1 = X k) with
      | false =>
        have hne := of_decide_eq_false hs
        go_wp2_with fail
        refine wp_region_noPanic ?_
        refine wp_region_held_drew (S := fun w' : World => w'.cell? ⟨b, o + k, none⟩ = some (.slice a l cl)) (by kernel_rfl) HELD0 (fun hHeld => ?_)
        refine wpAnyH_take (i := 0) (oi := ?o81) (v := ?v81) ?hi81 (by kernel_rfl) (by kernel_rfl) (by kernel_rfl) ?hq81 (Or.inl ⟨?hw81, ?hy81⟩) (by assumption) ?r81
        case hi81 => (simp only [List.getElem?_toArray, List.getElem?_cons_zero]; exact rfl)
        case hq81 => exact fun _ _ _ h => h
        case hw81 => rfl
        case hy81 => (intro w hSw; (try dsimp only at hSw); go_simp; try exact rfl)
        simp only [Act.put, List.setIfInBounds_toArray, List.set_cons_zero, List.set_cons_succ]
        refine wpAnyH_take (i := 2) (oi := ?o82) (v := ?v82) ?hi82 (by kernel_rfl) (by kernel_rfl) (by kernel_rfl) ?hq82 (Or.inl ⟨?hw82, ?hy82⟩) (by assumption) ?r82
        case hi82 => (simp only [List.getElem?_toArray, List.getElem?_cons_succ, List.getElem?_cons_zero]; exact rfl)
        case hq82 => exact fun _ _ _ h => h
        case hw82 => rfl
        case hy82 => (intro w hSw; (try dsimp only at hSw); go_simp; try exact rfl)
        simp only [Act.put, List.setIfInBounds_toArray, List.set_cons_zero, List.set_cons_succ]
        refine wpAnyH_take (i := 3) (oi := ?o83) (v := ?v83) ?hi83 (by kernel_rfl) (by kernel_rfl) (by kernel_rfl) ?hq83 (Or.inl ⟨?hw83, ?hy83⟩) (by assumption) ?r83
        case hi83 => (simp only [List.getElem?_toArray, List.getElem?_cons_succ, List.getElem?_cons_zero]; exact rfl)
        case hq83 => exact fun _ _ _ h => h
        case hw83 => rfl
        case hy83 => (intro w hSw; (try dsimp only at hSw); go_simp; try exact rfl)
        simp only [Act.put, List.setIfInBounds_toArray, List.set_cons_zero, List.set_cons_succ]
        refine wpAnyH_take (i := 4) (oi := ?o84) (v := ?v84) ?hi84 (by kernel_rfl) (by kernel_rfl) (by kernel_rfl) ?hq84 (Or.inl ⟨?hw84, ?hy84⟩) (by assumption) ?r84
        case hi84 => (simp only [List.getElem?_toArray, List.getElem?_cons_succ, List.getElem?_cons_zero]; exact rfl)
        case hq84 => exact fun _ _ _ h => h
        case hw84 => rfl
        case hy84 => (intro w hSw; (try dsimp only at hSw); go_simp; try exact rfl)
        simp only [Act.put, List.setIfInBounds_toArray, List.set_cons_zero, List.set_cons_succ]
        refine wpAnyH_take (i := 5) (oi := ?o85) (v := ?v85) ?hi85 (by kernel_rfl) (by kernel_rfl) (by kernel_rfl) ?hq85 (Or.inl ⟨?hw85, ?hy85⟩) (by assumption) ?r85
        case hi85 => (simp only [List.getElem?_toArray, List.getElem?_cons_succ, List.getElem?_cons_zero]; exact rfl)
        case hq85 => exact fun _ _ _ h => h
        case hw85 => rfl
        case hy85 => (intro w hSw; (try dsimp only at hSw); go_simp; try exact rfl)
        simp only [Act.put, List.setIfInBounds_toArray, List.set_cons_zero, List.set_cons_succ]
        refine wpAnyH_ready (rs := [1]) (by kernel_rfl) (by simp) ?_
        refine AllReadyH.cons (o := ?o115) ?hi115 (fun K hK => ?_) AllReadyH.nil
        case hi115 => (simp only [List.getElem?_toArray, List.getElem?_cons_succ, List.getElem?_cons_zero]; exact rfl)
        go_simp
        go_at_call 22
        refine ct.out.mono ?_
        rintro x w8 ⟨v, rfl, own, de, bd⟩
        have b8 := BW.out.drew.trans (bd.below (B := w.heap.size) BW.out.drew.size (by simpa using hd1))
        obtain ⟨A8, c8, rfl, -, -, r8⟩ := own_rd own hby.out.2
        refine hK.out _ _ (cell_bar g3 bd.drewL hbd) (fun hHeld2 => ?_)
        clear hK K hHeld HELD0
        try simp only [Act.put, List.setIfInBounds_toArray, List.set_cons_zero, List.set_cons_succ]
        refine wpAnyH_ready (rs := [6]) (by kernel_rfl) (by simp) ?_
        refine AllReadyH.cons (o := ?o116) ?hi116 (fun K hK => ?_) AllReadyH.nil
        case hi116 => (simp only [List.getElem?_toArray, List.getElem?_cons_succ, List.getElem?_cons_zero]; exact rfl)
        go_simp
        go_at_call 18
        refine (bytes_is hs c8 cl w8 r8 (G6.out.far bd.drewL HO.out)).mono ?_
        rintro x w9 ⟨rfl, rfl⟩
        refine hK.out _ _ hHeld2 (fun hHeld3 => ?_)
        clear hK K hHeld2
        try simp only [Act.put, List.setIfInBounds_toArray, List.set_cons_zero, List.set_cons_succ]
        refine wpAnyH_take (i := 7) (oi := ?o86) (v := ?v86) ?hi86 (by kernel_rfl) (by kernel_rfl) (by kernel_rfl) ?hq86 (Or.inl ⟨?hw86, ?hy86⟩) (by assumption) ?r86
        case hi86 => (simp only [List.getElem?_toArray, List.getElem?_cons_succ, List.getElem?_cons_zero]; exact rfl)
        case hq86 => exact fun _ _ _ h => h
        case hw86 => rfl
        case hy86 => (intro w hSw; (try dsimp only at hSw); go_simp; try exact rfl)
        simp only [Act.put, List.setIfInBounds_toArray, List.set_cons_zero, List.set_cons_succ]
        refine wpAnyH_take (i := 8) (oi := ?o87) (v := ?v87) ?hi87 (by kernel_rfl) (by kernel_rfl) (by kernel_rfl) ?hq87 (Or.inl ⟨?hw87, ?hy87⟩) (by assumption) ?r87
        case hi87 => (simp only [List.getElem?_toArray, List.getElem?_cons_succ, List.getElem?_cons_zero]; exact rfl)
        case hq87 => exact fun _ _ _ h => h
        case hw87 => rfl
        case hy87 => (intro w hSw; (try dsimp only at hSw); go_simp; try exact rfl)
        simp only [Act.put, List.setIfInBounds_toArray, List.set_cons_zero, List.set_cons_succ]
        refine wpAnyH_take (i := 9) (oi := ?o88) (v := undef) ?hi88 (by kernel_rfl) (by kernel_rfl) (by kernel_rfl) ?hq88 (Or.inr ⟨?hw88, rfl⟩) (by assumption) ?r88
        case hi88 => (simp only [List.getElem?_toArray, List.getElem?_cons_succ, List.getElem?_cons_zero]; exact rfl)
        case hq88 => exact fun _ _ _ h => h
        case hw88 => rfl
        simp only [Act.put, List.setIfInBounds_toArray, List.set_cons_zero, List.set_cons_succ]
        refine wpAnyH_take (i := 10) (oi := ?o89) (v := undef) ?hi89 (by kernel_rfl) (by kernel_rfl) (by kernel_rfl) ?hq89 (Or.inr ⟨?hw89, rfl⟩) (by assumption) ?r89
        case hi89 => (simp only [List.getElem?_toArray, List.getElem?_cons_succ, List.getElem?_cons_zero]; exact rfl)
        case hq89 => exact fun _ _ _ h => h
        case hw89 => rfl
        simp only [Act.put, List.setIfInBounds_toArray, List.set_cons_zero, List.set_cons_succ]
        refine wpAnyH_take (i := 11) (oi := ?o90) (v := undef) ?hi90 (by kernel_rfl) (by kernel_rfl) (by kernel_rfl) ?hq90 (Or.inr ⟨?hw90, rfl⟩) (by assumption) ?r90
        case hi90 => (simp only [List.getElem?_toArray, List.getElem?_cons_succ, List.getElem?_cons_zero]; exact rfl)
        case hq90 => exact fun _ _ _ h => h
        case hw90 => rfl
        simp only [Act.put, List.setIfInBounds_toArray, List.set_cons_zero, List.set_cons_succ]
        refine wpAnyH_take (i := 12) (oi := ?o91) (v := undef) ?hi91 (by kernel_rfl) (by kernel_rfl) (by kernel_rfl) ?hq91 (Or.inr ⟨?hw91, rfl⟩) (by assumption) ?r91
        case hi91 => (simp only [List.getElem?_toArray, List.getElem?_cons_succ, List.getElem?_cons_zero]; exact rfl)
        case hq91 => exact fun _ _ _ h => h
        case hw91 => rfl
        simp only [Act.put, List.setIfInBounds_toArray, List.set_cons_zero, List.set_cons_succ]
        refine wpAnyH_take (i := 13) (oi := ?o92) (v := ?v92) ?hi92 (by kernel_rfl) (by kernel_rfl) (by kernel_rfl) ?hq92 (Or.inl ⟨?hw92, ?hy92⟩) (by assumption) ?r92
        case hi92 => (simp only [List.getElem?_toArray, List.getElem?_cons_succ, List.getElem?_cons_zero]; exact rfl)
        case hq92 => exact fun _ _ _ h => h
        case hw92 => rfl
        case hy92 => (intro w hSw; (try dsimp only at hSw); go_simp; try exact rfl)
        simp only [Act.put, List.setIfInBounds_toArray, List.set_cons_zero, List.set_cons_succ]
        refine wpAnyH_done (by kernel_rfl) ?_ _
        refine NoPanic.normal ?_
        have B8 := Kept.mk b8
        clear de bd b8 hHeld3 own r8
        go_wp2
        go_ret
        exact ⟨false, rfl, ⟨fun h => (by cases h), fun e => absurd (rdInv_good X n hn HL.out xs k hkn st INV.out e).1 hne⟩, B8.out⟩
      | true =>
        have heq := of_decide_eq_true hs
        have HS := Kept.mk hs
        have cn := Kept.mk fun w' (D : De 62 w' d G (decTxt st).2) => dnum_any w' d G 3 _ D hd3
        by_cases hv : (decNum (decTxt st).2 3).1 = k
        · have I2 := Kept.mk (rdInv_step X n hn HL.out xs k hkn st INV.out heq hv)
          rw [hv] at cn
          clear heq hs
          go_wp2_with fail
          refine wp_region_noPanic ?_
          refine wp_region_held_drew (S := fun w' : World => w'.cell? ⟨b, o + k, none⟩ = some (.slice a l cl)) (by kernel_rfl) HELD0 (fun hHeld => ?_)
          refine wpAnyH_take (i := 0) (oi := ?o93) (v := ?v93) ?hi93 (by kernel_rfl) (by kernel_rfl) (by kernel_rfl) ?hq93 (Or.inl ⟨?hw93, ?hy93⟩) (by assumption) ?r93
          case hi93 => (simp only [List.getElem?_toArray, List.getElem?_cons_zero]; exact rfl)
          case hq93 => exact fun _ _ _ h => h
          case hw93 => rfl
          case hy93 => (intro w hSw; (try dsimp only at hSw); go_simp; try exact rfl)
          simp only [Act.put, List.setIfInBounds_toArray, List.set_cons_zero, List.set_cons_succ]
          refine wpAnyH_take (i := 2) (oi := ?o94) (v := ?v94) ?hi94 (by kernel_rfl) (by kernel_rfl) (by kernel_rfl) ?hq94 (Or.inl ⟨?hw94, ?hy94⟩) (by assumption) ?r94
          case hi94 => (simp only [List.getElem?_toArray, List.getElem?_cons_succ, List.getElem?_cons_zero]; exact rfl)
          case hq94 => exact fun _ _ _ h => h
          case hw94 => rfl
          case hy94 => (intro w hSw; (try dsimp only at hSw); go_simp; try exact rfl)
          simp only [Act.put, List.setIfInBounds_toArray, List.set_cons_zero, List.set_cons_succ]
          refine wpAnyH_take (i := 3) (oi := ?o95) (v := ?v95) ?hi95 (by kernel_rfl) (by kernel_rfl) (by kernel_rfl) ?hq95 (Or.inl ⟨?hw95, ?hy95⟩) (by assumption) ?r95
          case hi95 => (simp only [List.getElem?_toArray, List.getElem?_cons_succ, List.getElem?_cons_zero]; exact rfl)
          case hq95 => exact fun _ _ _ h => h
          case hw95 => rfl
          case hy95 => (intro w hSw; (try dsimp only at hSw); go_simp; try exact rfl)
          simp only [Act.put, List.setIfInBounds_toArray, List.set_cons_zero, List.set_cons_succ]
          refine wpAnyH_take (i := 4) (oi := ?o96) (v := ?v96) ?hi96 (by kernel_rfl) (by kernel_rfl) (by kernel_rfl) ?hq96 (Or.inl ⟨?hw96, ?hy96⟩) (by assumption) ?r96
          case hi96 => (simp only [List.getElem?_toArray, List.getElem?_cons_succ, List.getElem?_cons_zero]; exact rfl)
          case hq96 => exact fun _ _ _ h => h
          case hw96 => rfl
          case hy96 => (intro w hSw; (try dsimp only at hSw); go_simp; try exact rfl)
          simp only [Act.put, List.setIfInBounds_toArray, List.set_cons_zero, List.set_cons_succ]
          refine wpAnyH_take (i := 5) (oi := ?o97) (v := ?v97) ?hi97 (by kernel_rfl) (by kernel_rfl) (by kernel_rfl) ?hq97 (Or.inl ⟨?hw97, ?hy97⟩) (by assumption) ?r97
          case hi97 => (simp only [List.getElem?_toArray, List.getElem?_cons_succ, List.getElem?_cons_zero]; exact rfl)
          case hq97 => exact fun _ _ _ h => h
          case hw97 => rfl
          case hy97 => (intro w hSw; (try dsimp only at hSw); go_simp; try exact rfl)
          simp only [Act.put, List.setIfInBounds_toArray, List.set_cons_zero, List.set_cons_succ]
          refine wpAnyH_ready (rs := [1]) (by kernel_rfl) (by simp) ?_
          refine AllReadyH.cons (o := ?o117) ?hi117 (fun K hK => ?_) AllReadyH.nil
          case hi117 => (simp only [List.getElem?_toArray, List.getElem?_cons_succ, List.getElem?_cons_zero]; exact rfl)
          go_simp
          go_at_call 22
          refine ct.out.mono ?_
          rintro x w8 ⟨v, rfl, own, de, bd⟩
          have b8 := BW.out.drew.trans (bd.below (B := w.heap.size) BW.out.drew.size (by simpa using hd1))
          obtain ⟨A8, c8, rfl, -, -, r8⟩ := own_rd own hby.out.2
          refine hK.out _ _ (cell_bar g3 bd.drewL hbd) (fun hHeld2 => ?_)
          clear hK K hHeld HELD0
          try simp only [Act.put, List.setIfInBounds_toArray, List.set_cons_zero, List.set_cons_succ]
          refine wpAnyH_ready (rs := [6]) (by kernel_rfl) (by simp) ?_
          refine AllReadyH.cons (o := ?o118) ?hi118 (fun K hK => ?_) AllReadyH.nil
          case hi118 => (simp only [List.getElem?_toArray, List.getElem?_cons_succ, List.getElem?_cons_zero]; exact rfl)
          go_simp
          go_at_call 18
          refine (bytes_is HS.out c8 cl w8 r8 (G6.out.far bd.drewL HO.out)).mono ?_
          rintro x w9 ⟨rfl, rfl⟩
          refine hK.out _ _ hHeld2 (fun hHeld3 => ?_)
          clear hK K hHeld2
          try simp only [Act.put, List.setIfInBounds_toArray, List.set_cons_zero, List.set_cons_succ]
          refine wpAnyH_take (i := 7) (oi := ?o98) (v := ?v98) ?hi98 (by kernel_rfl) (by kernel_rfl) (by kernel_rfl) ?hq98 (Or.inl ⟨?hw98, ?hy98⟩) (by assumption) ?r98
          case hi98 => (simp only [List.getElem?_toArray, List.getElem?_cons_succ, List.getElem?_cons_zero]; exact rfl)
          case hq98 => exact fun _ _ _ h => h
          case hw98 => rfl
          case hy98 => (intro w hSw; (try dsimp only at hSw); go_simp; try exact rfl)
          simp only [Act.put, List.setIfInBounds_toArray, List.set_cons_zero, List.set_cons_succ]
          refine wpAnyH_take (i := 8) (oi := ?o99) (v := ?v99) ?hi99 (by kernel_rfl) (by kernel_rfl) (by kernel_rfl) ?hq99 (Or.inl ⟨?hw99, ?hy99⟩) (by assumption) ?r99
          case hi99 => (simp only [List.getElem?_toArray, List.getElem?_cons_succ, List.getElem?_cons_zero]; exact rfl)
          case hq99 => exact fun _ _ _ h => h
          case hw99 => rfl
          case hy99 => (intro w hSw; (try dsimp only at hSw); go_simp; try exact rfl)
          simp only [Act.put, List.setIfInBounds_toArray, List.set_cons_zero, List.set_cons_succ]
          refine wpAnyH_take (i := 9) (oi := ?o100) (v := ?v100) ?hi100 (by kernel_rfl) (by kernel_rfl) (by kernel_rfl) ?hq100 (Or.inl ⟨?hw100, ?hy100⟩) (by assumption) ?r100
          case hi100 => (simp only [List.getElem?_toArray, List.getElem?_cons_succ, List.getElem?_cons_zero]; exact rfl)
          case hq100 => exact fun _ _ _ h => h
          case hw100 => rfl
          case hy100 => (intro w hSw; (try dsimp only at hSw); go_simp; try exact rfl)
          simp only [Act.put, List.setIfInBounds_toArray, List.set_cons_zero, List.set_cons_succ]
          refine wpAnyH_take (i := 11) (oi := ?o101) (v := ?v101) ?hi101 (by kernel_rfl) (by kernel_rfl) (by kernel_rfl) ?hq101 (Or.inl ⟨?hw101, ?hy101⟩) (by assumption) ?r101
          case hi101 => (simp only [List.getElem?_toArray, List.getElem?_cons_succ, List.getElem?_cons_zero]; exact rfl)
          case hq101 => exact fun _ _ _ h => h
          case hw101 => rfl
          case hy101 => (intro w hSw; (try dsimp only at hSw); go_simp; try exact rfl)
          simp only [Act.put, List.setIfInBounds_toArray, List.set_cons_zero, List.set_cons_succ]
          refine wpAnyH_ready (rs := [10]) (by kernel_rfl) (by simp) ?_
          refine AllReadyH.cons (o := ?o119) ?hi119 (fun K hK => ?_) AllReadyH.nil
          case hi119 => (simp only [List.getElem?_toArray, List.getElem?_cons_succ, List.getElem?_cons_zero]; exact rfl)
          go_simp
          go_at_call 20
          refine (cn.out w8 de).mono ?_
          rintro x w10 ⟨rfl, de2, bd2⟩
          have b10 := b8.trans (bd2.below (B := w.heap.size) b8.size (by simpa using hd1))
          refine hK.out _ _ (cell_bar hHeld3 bd2 hbd) (fun hHeld4 => ?_)
          clear hK K hHeld3
          try simp only [Act.put, List.setIfInBounds_toArray, List.set_cons_zero, List.set_cons_succ]
          refine wpAnyH_take (i := 12) (oi := ?o102) (v := ?v102) ?hi102 (by kernel_rfl) (by kernel_rfl) (by kernel_rfl) ?hq102 (Or.inl ⟨?hw102, ?hy102⟩) (by assumption) ?r102
          case hi102 => (simp only [List.getElem?_toArray, List.getElem?_cons_succ, List.getElem?_cons_zero]; exact rfl)
          case hq102 => exact fun _ _ _ h => h
          case hw102 => rfl
          case hy102 => (intro w hSw; (try dsimp only at hSw); go_simp; try exact rfl)
          simp only [Act.put, List.setIfInBounds_toArray, List.set_cons_zero, List.set_cons_succ]
          refine wpAnyH_take (i := 13) (oi := ?o103) (v := ?v103) ?hi103 (by kernel_rfl) (by kernel_rfl) (by kernel_rfl) ?hq103 (Or.inl ⟨?hw103, ?hy103⟩) (by assumption) ?r103
          case hi103 => (simp only [List.getElem?_toArray, List.getElem?_cons_succ, List.getElem?_cons_zero]; exact rfl)
          case hq103 => exact fun _ _ _ h => h
          case hw103 => rfl
          case hy103 => (intro w hSw; (try dsimp only at hSw); go_simp; try exact rfl)
          simp only [Act.put, List.setIfInBounds_toArray, List.set_cons_zero, List.set_cons_succ]
          refine wpAnyH_done (by kernel_rfl) ?_ _
          refine NoPanic.normal ?_
          have B8 := Kept.mk b10; have D8 := Kept.mk de2
          clear de bd b8 hHeld4 own r8 de2 bd2 b10
          go_wp2
          go_roundw
          case rel => exact ⟨k + 1, _, by omega, by go_num, D8, I2, B8⟩
          case measure => simp [intOf]; omega
        · have hvb : ((decNum (decTxt st).2 3).1 != (k : Int)) = true := by simpa using hv
          have HV := Kept.mk (show xs = items (opsT X) 0 (2 * n) → False from fun e => hv (rdInv_good X n hn HL.out xs k hkn st INV.out e).2.1)
          generalize (decNum (decTxt st).2 3).1 = nv at *
          clear hv heq hs
          go_wp2_with fail
          refine wp_region_noPanic ?_
          refine wp_region_held_drew (S := fun w' : World => w'.cell? ⟨b, o + k, none⟩ = some (.slice a l cl)) (by kernel_rfl) HELD0 (fun hHeld => ?_)
          refine wpAnyH_take (i := 0) (oi := ?o104) (v := ?v104) ?hi104 (by kernel_rfl) (by kernel_rfl) (by kernel_rfl) ?hq104 (Or.inl ⟨?hw104, ?hy104⟩) (by assumption) ?r104
          case hi104 => (simp only [List.getElem?_toArray, List.getElem?_cons_zero]; exact rfl)
          case hq104 => exact fun _ _ _ h => h
          case hw104 => rfl
          case hy104 => (intro w hSw; (try dsimp only at hSw); go_simp; try exact rfl)
          simp only [Act.put, List.setIfInBounds_toArray, List.set_cons_zero, List.set_cons_succ]
          refine wpAnyH_take (i := 2) (oi := ?o105) (v := ?v105) ?hi105 (by kernel_rfl) (by kernel_rfl) (by kernel_rfl) ?hq105 (Or.inl ⟨?hw105, ?hy105⟩) (by assumption) ?r105
          case hi105 => (simp only [List.getElem?_toArray, List.getElem?_cons_succ, List.getElem?_cons_zero]; exact rfl)
          case hq105 => exact fun _ _ _ h => h
          case hw105 => rfl
          case hy105 => (intro w hSw; (try dsimp only at hSw); go_simp; try exact rfl)
          simp only [Act.put, List.setIfInBounds_toArray, List.set_cons_zero, List.set_cons_succ]
          refine wpAnyH_take (i := 3) (oi := ?o106) (v := ?v106) ?hi106 (by kernel_rfl) (by kernel_rfl) (by kernel_rfl) ?hq106 (Or.inl ⟨?hw106, ?hy106⟩) (by assumption) ?r106
          case hi106 => (simp only [List.getElem?_toArray, List.getElem?_cons_succ, List.getElem?_cons_zero]; exact rfl)
          case hq106 => exact fun _ _ _ h => h
          case hw106 => rfl
          case hy106 => (intro w hSw; (try dsimp only at hSw); go_simp; try exact rfl)
          simp only [Act.put, List.setIfInBounds_toArray, List.set_cons_zero, List.set_cons_succ]
          refine wpAnyH_take (i := 4) (oi := ?o107) (v := ?v107) ?hi107 (by kernel_rfl) (by kernel_rfl) (by kernel_rfl) ?hq107 (Or.inl ⟨?hw107, ?hy107⟩) (by assumption) ?r107
          case hi107 => (simp only [List.getElem?_toArray, List.getElem?_cons_succ, List.getElem?_cons_zero]; exact rfl)
          case hq107 => exact fun _ _ _ h => h
          case hw107 => rfl
          case hy107 => (intro w hSw; (try dsimp only at hSw); go_simp; try exact rfl)
          simp only [Act.put, List.setIfInBounds_toArray, List.set_cons_zero, List.set_cons_succ]
          refine wpAnyH_take (i := 5) (oi := ?o108) (v := ?v108) ?hi108 (by kernel_rfl) (by kernel_rfl) (by kernel_rfl) ?hq108 (Or.inl ⟨?hw108, ?hy108⟩) (by assumption) ?r108
          case hi108 => (simp only [List.getElem?_toArray, List.getElem?_cons_succ, List.getElem?_cons_zero]; exact rfl)
          case hq108 => exact fun _ _ _ h => h
          case hw108 => rfl
          case hy108 => (intro w hSw; (try dsimp only at hSw); go_simp; try exact rfl)
          simp only [Act.put, List.setIfInBounds_toArray, List.set_cons_zero, List.set_cons_succ]
          refine wpAnyH_ready (rs := [1]) (by kernel_rfl) (by simp) ?_
          refine AllReadyH.cons (o := ?o120) ?hi120 (fun K hK => ?_) AllReadyH.nil
          case hi120 => (simp only [List.getElem?_toArray, List.getElem?_cons_succ, List.getElem?_cons_zero]; exact rfl)
          go_simp
          go_at_call 22
          refine ct.out.mono ?_
          rintro x w8 ⟨v, rfl, own, de, bd⟩
          have b8 := BW.out.drew.trans (bd.below (B := w.heap.size) BW.out.drew.size (by simpa using hd1))
          obtain ⟨A8, c8, rfl, -, -, r8⟩ := own_rd own hby.out.2
          refine hK.out _ _ (cell_bar g3 bd.drewL hbd) (fun hHeld2 => ?_)
          clear hK K hHeld HELD0
          try simp only [Act.put, List.setIfInBounds_toArray, List.set_cons_zero, List.set_cons_succ]
          refine wpAnyH_ready (rs := [6]) (by kernel_rfl) (by simp) ?_
          refine AllReadyH.cons (o := ?o121) ?hi121 (fun K hK => ?_) AllReadyH.nil
          case hi121 => (simp only [List.getElem?_toArray, List.getElem?_cons_succ, List.getElem?_cons_zero]; exact rfl)
          go_simp
          go_at_call 18
          refine (bytes_is HS.out c8 cl w8 r8 (G6.out.far bd.drewL HO.out)).mono ?_
          rintro x w9 ⟨rfl, rfl⟩
          refine hK.out _ _ hHeld2 (fun hHeld3 => ?_)
          clear hK K hHeld2
          try simp only [Act.put, List.setIfInBounds_toArray, List.set_cons_zero, List.set_cons_succ]
          refine wpAnyH_take (i := 7) (oi := ?o109) (v := ?v109) ?hi109 (by kernel_rfl) (by kernel_rfl) (by kernel_rfl) ?hq109 (Or.inl ⟨?hw109, ?hy109⟩) (by assumption) ?r109
          case hi109 => (simp only [List.getElem?_toArray, List.getElem?_cons_succ, List.getElem?_cons_zero]; exact rfl)
          case hq109 => exact fun _ _ _ h => h
          case hw109 => rfl
          case hy109 => (intro w hSw; (try dsimp only at hSw); go_simp; try exact rfl)
          simp only [Act.put, List.setIfInBounds_toArray, List.set_cons_zero, List.set_cons_succ]
          refine wpAnyH_take (i := 8) (oi := ?o110) (v := ?v110) ?hi110 (by kernel_rfl) (by kernel_rfl) (by kernel_rfl) ?hq110 (Or.inl ⟨?hw110, ?hy110⟩) (by assumption) ?r110
          case hi110 => (simp only [List.getElem?_toArray, List.getElem?_cons_succ, List.getElem?_cons_zero]; exact rfl)
          case hq110 => exact fun _ _ _ h => h
          case hw110 => rfl
          case hy110 => (intro w hSw; (try dsimp only at hSw); go_simp; try exact rfl)
          simp only [Act.put, List.setIfInBounds_toArray, List.set_cons_zero, List.set_cons_succ]
          refine wpAnyH_take (i := 9) (oi := ?o111) (v := ?v111) ?hi111 (by kernel_rfl) (by kernel_rfl) (by kernel_rfl) ?hq111 (Or.inl ⟨?hw111, ?hy111⟩) (by assumption) ?r111
          case hi111 => (simp only [List.getElem?_toArray, List.getElem?_cons_succ, List.getElem?_cons_zero]; exact rfl)
          case hq111 => exact fun _ _ _ h => h
          case hw111 => rfl
          case hy111 => (intro w hSw; (try dsimp only at hSw); go_simp; try exact rfl)
          simp only [Act.put, List.setIfInBounds_toArray, List.set_cons_zero, List.set_cons_succ]
          refine wpAnyH_take (i := 11) (oi := ?o112) (v := ?v112) ?hi112 (by kernel_rfl) (by kernel_rfl) (by kernel_rfl) ?hq112 (Or.inl ⟨?hw112, ?hy112⟩) (by assumption) ?r112
          case hi112 => (simp only [List.getElem?_toArray, List.getElem?_cons_succ, List.getElem?_cons_zero]; exact rfl)
          case hq112 => exact fun _ _ _ h => h
          case hw112 => rfl
          case hy112 => (intro w hSw; (try dsimp only at hSw); go_simp; try exact rfl)
          simp only [Act.put, List.setIfInBounds_toArray, List.set_cons_zero, List.set_cons_succ]
          refine wpAnyH_ready (rs := [10]) (by kernel_rfl) (by simp) ?_
          refine AllReadyH.cons (o := ?o122) ?hi122 (fun K hK => ?_) AllReadyH.nil
          case hi122 => (simp only [List.getElem?_toArray, List.getElem?_cons_succ, List.getElem?_cons_zero]; exact rfl)
          go_simp
          go_at_call 20
          refine (cn.out w8 de).mono ?_
          rintro x w10 ⟨rfl, de2, bd2⟩
          have b10 := b8.trans (bd2.below (B := w.heap.size) b8.size (by simpa using hd1))
          refine hK.out _ _ (cell_bar hHeld3 bd2 hbd) (fun hHeld4 => ?_)
          clear hK K hHeld3
          try simp only [Act.put, List.setIfInBounds_toArray, List.set_cons_zero, List.set_cons_succ]
          refine wpAnyH_take (i := 12) (oi := ?o113) (v := ?v113) ?hi113 (by kernel_rfl) (by kernel_rfl) (by kernel_rfl) ?hq113 (Or.inl ⟨?hw113, ?hy113⟩) (by assumption) ?r113
          case hi113 => (simp only [List.getElem?_toArray, List.getElem?_cons_succ, List.getElem?_cons_zero]; exact rfl)
          case hq113 => exact fun _ _ _ h => h
          case hw113 => rfl
          case hy113 => (intro w hSw; (try dsimp only at hSw); go_simp; try exact rfl)
          simp only [Act.put, List.setIfInBounds_toArray, List.set_cons_zero, List.set_cons_succ]
          refine wpAnyH_take (i := 13) (oi := ?o114) (v := ?v114) ?hi114 (by kernel_rfl) (by kernel_rfl) (by kernel_rfl) ?hq114 (Or.inl ⟨?hw114, ?hy114⟩) (by assumption) ?r114
          case hi114 => (simp only [List.getElem?_toArray, List.getElem?_cons_succ, List.getElem?_cons_zero]; exact rfl)
          case hq114 => exact fun _ _ _ h => h
          case hw114 => rfl
          case hy114 => (intro w hSw; (try dsimp only at hSw); go_simp; try exact rfl)
          simp only [Act.put, List.setIfInBounds_toArray, List.set_cons_zero, List.set_cons_succ]
          refine wpAnyH_done (by kernel_rfl) ?_ _
          refine NoPanic.normal ?_
          have B8 := Kept.mk b10
          clear de bd b8 hHeld4 own r8 de2 bd2 b10
          go_wp2
          go_ret
          exact ⟨false, rfl, ⟨fun h => (by cases h), fun e => (HV.out e).elim⟩, B8.out⟩
    · have hkn' : ¬ (k : Int) < n := by omega
      obtain rfl : k = n := by omega
      have hend := Kept.mk (rdInv_end X k xs st INV.out)
      have ce := Kept.mk (end_any wr d G st DE.out)
      obtain ⟨e, he⟩ : ∃ e, endOf st = e := ⟨_, rfl⟩
      rw [he] at hend ce
      by_cases h0 : e = 0
      · subst h0
        have HT := Kept.mk (hend.out.1 rfl)
        clear hend
        go_wp2_with fail
        refine ce.out.mono ?_
        rintro x w9 ⟨rfl, rfl⟩
        go_wp2
        go_ret
        exact ⟨true, rfl, ⟨fun _ => HT.out, fun _ => rfl⟩, BW.out⟩
      · have h0b : (e == 0) = false := by simpa using h0
        have H0 := Kept.mk h0
        clear h0
        go_wp2_with fail
        refine ce.out.mono ?_
        rintro x w9 ⟨rfl, rfl⟩
        go_wp2
        go_ret
        exact ⟨false, rfl, ⟨fun h => (by cases h), fun h => absurd (hend.out.2 h) H0.out⟩, BW.out⟩
end Go.Proofs.Ytfjkbggbaoiiiaa.Wire
