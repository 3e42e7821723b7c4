/-
 The law JournalPlays, walked.
-/
import Derived.Test.YtkbehjdglgpgjaaGreatPart34
import Derived.Deep.CutBlock
import Derived.Deep.CutRange
namespace Go.Proofs.YtkbehjdglgpgjaaGreat.Journal
open Go.RowKit Go.Proofs.YtkbehjdglgpgjaaGreat.Sha Go.Proofs.YtkbehjdglgpgjaaGreat.Disk Go.Proofs.YtkbehjdglgpgjaaGreat.Frame

theorem off_blk {w w' : World} {F F' : List Nat} {O : Nat} (h : Kept (O ∉ F)) (hO : O < w.heap.size) (fp : Fp F F' w w') : Kept (O ∉ F') := ⟨fun hm => by
 rcases fp.2 O hm with h1 | h1
 ·exact h.out h1
 ·omega⟩
theorem Ops.later {w w' : World} {A : Option Addr} {n : Nat} {X : Nat → OpJ} (h : Ops w A n X) (B : Kept (Below w.heap.size w w')) : Ops w' A n X := by
 rcases h with h | ⟨b, o, hA, hc⟩
 ·exact .inl h
 ·exact .inr ⟨b, o, hA, fun r hr => (hc r hr).later B⟩
theorem op_cells {w : World} {O : Nat} {kd q z : Int} {A A' : Option Addr} {l c l' c' : Nat} (h : Blk w O 41 #[.int .i64 kd, .int .i64 q, .int .i64 z, .slice A l c, .slice A' l' c']) :
  w.cell? ⟨O, 0, none⟩ = some (.int .i64 kd) ∧ w.cell? ⟨O, 1, none⟩ = some (.int .i64 q) ∧ w.cell? ⟨O, 2, none⟩ = some (.int .i64 z) ∧ w.cell? ⟨O, 3, none⟩ = some (.slice A l c) ∧ w.cell? ⟨O, 4, none⟩ = some (.slice A' l' c') :=
 ⟨h.cell 0, h.cell 1, h.cell 2, h.cell 3, h.cell 4⟩
theorem dr_below {w w' : World} {F : List Nat} {y n : Nat} {s : DS} (h : Kept (Dr w F y n s)) {H : List Nat} (b : Bar H w w') (j : Disj F H) : Kept (Dr w' F y n s) := ⟨h.out.keep b j⟩
set_option maxRecDepth 100000 in
set_option maxHeartbeats 8000000 in
theorem plays_walk {Jk : World → List Nat → Nat → Nat → Nat → Nat → JV → Prop} (api : JournalApi Jk) (n : Int) (A : Option Addr) (len cap : Nat) (X : Nat → OpJ) (w : World) (ho : Ops w A len X) (hlen : len ≤ 9223372036854775807) :
    Calls Tryz.prog 3 #[.int .i64 n, .slice A len cap] w (Holds w) := by
  have HO := Kept.mk ho
  clear ho
  go_enter Tryz.func3, Tryz.ntmps3
  go_wp2_with fail
  refine (jfirst_any api w).mono ?_
  rintro e w1 ⟨rfl, b1⟩
  have B := Kept.mk b1
  have FW := Kept.mk (few_any A len cap X w1 (Ops.later HO.out B))
  clear b1
  by_cases hn1 : n < 1
  · go_wp2_with fail
    refine (jfirst_any api w1).mono ?_
    rintro e w3 ⟨rfl, b3⟩
    replace B := step_below B b3
    go_wp2
    go_ret
    exact ⟨rfl, B.out⟩
  · by_cases hn2 : 200 < n
    · go_wp2_with fail
      refine (jfirst_any api w1).mono ?_
      rintro e w3 ⟨rfl, b3⟩
      replace B := step_below B b3
      go_wp2
      go_ret
      exact ⟨rfl, B.out⟩
    · obtain ⟨N, rfl⟩ : ∃ N : Nat, n = N := ⟨n.toNat, by omega⟩
      go_wp2_with fail
      refine FW.out.mono ?_
      rintro e w2 ⟨t, rfl, ht, b2⟩
      replace B := step_below B b2
      clear FW b2
      cases t with
      | false =>
        go_wp2_with fail
        refine (jfirst_any api w2).mono ?_
        rintro e w3 ⟨rfl, b3⟩
        replace B := step_below B b3
        go_wp2
        go_ret
        exact ⟨rfl, B.out⟩
      | true =>
        have hl100 := (ht rfl).1
        have H20 := Kept.mk (ht rfl).2
        clear ht
        go_wp2_with fail
        refine (newtable_any w2).mono ?_
        rintro e w3 ⟨rfl, rfl⟩
        have T0 : Kept (Tab (w2.alloc (.cells (tbl (.int .u32 0) (.int .i32 0) (.int .u32 0) 0 0) 73)) w2.heap.size) := ⟨.inl (Blk.new_at _ _ _ _ rfl)⟩
        have TL : Kept (w.heap.size ≤ w2.heap.size) := ⟨B.out.size⟩
        have b3 : Below w2.heap.size w2 (w2.alloc (.cells (tbl (.int .u32 0) (.int .i32 0) (.int .u32 0) 0 0) 73)) := (Below.refl _ _).alloc (Nat.le_refl _) _
        replace B := step_below B b3
        clear b3
        generalize w2.heap.size = t at *
        generalize w2.alloc (.cells (tbl (.int .u32 0) (.int .i32 0) (.int .u32 0) 0 0) 73) = w3 at *
        go_wp2_with fail
        refine (cnew_ok w3 N (by omega) (by omega)).mono ?_
        rintro e w4 ⟨d, F, rfl, dk, fp⟩
        obtain ⟨sd, sl⟩ := sd_new2 (w := w) T0.out TL.out dk fp
        have SD := Kept.mk sd
        have L := Kept.mk sl
        obtain ⟨B, -⟩ := step_fp B fp (none_least _)
        clear dk fp sd sl T0 TL
        go_wp2_with fail
        refine (rnew_ok w4 N (by omega) (by omega)).mono ?_
        rintro e w5 ⟨y, F2, rfl, dr, fp⟩
        have DR := Kept.mk dr
        have DJ : Kept (Disj (t :: F) F2) := ⟨(Disj.new (n := w4.heap.size) (fun g hg => by rcases fp.2 g hg with h | h; · simp at h
                                                                                            · exact h) (fun g hg => SD.out.lts g hg)).symm⟩
        replace SD : Kept (Sd w5 (t :: F) t d N (newD N)) := ⟨SD.out.keep fp.1 (fun _ _ => by simp)⟩
        obtain ⟨B, M⟩ := step_fp B fp (none_least _)
        clear dr fp
        have DRL := Kept.mk DR.out.lts
        have CO := Kept.mk (api.open_ SD.out)
        go_wp2_with fail
        refine CO.out.mono ?_
        rintro e w6 ⟨j, H, rfl, sy, fp⟩
        replace DR := dr_below DR fp.1 DJ.out.symm
        replace DJ : Kept (Disj H F2) := ⟨DJ.out.step fp DRL.out⟩
        obtain ⟨B, L⟩ := step_fp B fp L
        have SY := Kept.mk sy
        clear CO SD DRL sy fp
        have CR := Kept.mk (dr_open DR.out)
        have SLT := Kept.mk (SY.out.lts api.base)
        go_wp2_with fail
        refine CR.out.mono ?_
        rintro e w7 ⟨x, H2, rfl, ry, fp⟩
        replace SY := Kept.mk (SY.out.keep api.base fp.1 DJ.out)
        replace DJ : Kept (Disj H H2) := ⟨(DJ.out.symm.step fp SLT.out).symm⟩
        obtain ⟨B, M⟩ := step_fp B fp M
        have RY := Kept.mk ry
        have LV := Kept.mk (open_live (newD N))
        clear CR DR SLT ry fp
        go_wp2
        go_loopw [10, 11, 12] (fun tj tx i wr => ∃ (k j x : Nat) (H H2 : List Nat) (s : DS) (v : JV), k ≤ len ∧ i = .int .i64 k ∧ tj = .pointer (some ⟨j, 0, none⟩) ∧ tx = .pointer (some ⟨x, 0, none⟩) ∧ Kept (Sy Jk wr H t d j N s v) ∧ Kept (Ry wr H2 x y N s v) ∧ Kept (Disj H H2) ∧ Kept (Live s v) ∧ Kept (Below w.heap.size w wr) ∧ Kept (∀ k ∈ H, w.heap.size ≤ k) ∧ Kept (∀ k ∈ H2, w.heap.size ≤ k)) (fun _ _ i _ => len - (Go.RowKit.intOf i).toNat)
        case atStart => exact ⟨0, j, x, H, H2, _, _, by omega, rfl, rfl, rfl, SY, RY, DJ, LV, B, L, M⟩
        case round =>
          clear SY RY DJ LV B L M
          obtain ⟨k, j, x, H, H2, s, v, hk, rfl, rfl, rfl, SY, RY, DJ, LV, B, L, M⟩ := hrel
          by_cases hkn : k < len
          · have hkn' : (k : Int) < len := by omega
            obtain ⟨bb, oo, rfl, OP⟩ := Ops.at_ HO k hkn
            obtain ⟨kd, q, z, xb, bs, hY⟩ : ∃ kd q z xb bs, X k = ⟨kd, q, z, xb, bs⟩ := ⟨_, _, _, _, _, rfl⟩
            have h20 := H20.out k hkn
            rw [hY] at OP h20
            obtain ⟨y0, y1, y2, hz, ⟨A3, l3, c3, y3, hl3, hc3, r3⟩, A4, l4, c4, y4, hl4, hc4, r4⟩ := OP
            simp only at y0 y1 y2 hz r3 r4 h20
            have hl20 : l3 ≤ 20000 := by rw [← r3.1]; exact h20
            have R3 := Kept.mk r3; have R4 := Kept.mk r4
            have Y := Kept.mk (And.intro y0 (And.intro y1 (And.intro y2 (And.intro y3 y4))))
            clear hY h20 r3 r4 y0 y1 y2 y3 y4
            have CL : ∀ {i : Nat} {u : Value}, w.cell? ⟨bb, i, none⟩ = some u → wr.cell? ⟨bb, i, none⟩ = some u := fun {i u} hh => by rw [B.out.cell (World.block_lt_of_cell? _ _ hh)]; exact hh
            have y0 := CL Y.out.1
            have y1 := CL Y.out.2.1
            have y2 := CL Y.out.2.2.1
            have y3 := CL Y.out.2.2.2.1
            have y4 := CL Y.out.2.2.2.2
            clear CL Y
            go_upto_region 17 with (fail)
            have ob : Blk (wr.alloc (.cells #[.int .i64 kd, .int .i64 q, .int .i64 z, .slice A3 l3 c3, .slice A4 l4 c4] 41)) wr.heap.size 41 #[.int .i64 kd, .int .i64 q, .int .i64 z, .slice A3 l3 c3, .slice A4 l4 c4] := Blk.new _ _ _
            have OF : Kept (wr.heap.size ∉ H) := ⟨fun hm => by have := SY.out.lts api.base _ hm; omega⟩
            have OG : Kept (wr.heap.size ∉ H2) := ⟨fun hm => by have := RY.out.lts _ hm; omega⟩
            have b4 : Below wr.heap.size wr (wr.alloc (.cells #[.int .i64 kd, .int .i64 q, .int .i64 z, .slice A3 l3 c3, .slice A4 l4 c4] 41)) := (Below.refl _ _).alloc (Nat.le_refl _) _
            replace SY := Sy.below api.base SY b4
            replace RY := Kept.mk (RY.out.below b4)
            replace B := step_below B b4
            obtain ⟨O, hO⟩ : ∃ O, wr.heap.size = O := ⟨_, rfl⟩
            rw [hO] at ob OF OG ⊢
            have OB := Kept.mk ob
            clear ob b4 hO y0 y1 y2 y3 y4
            generalize wr.alloc (.cells #[.int .i64 kd, .int .i64 q, .int .i64 z, .slice A3 l3 c3, .slice A4 l4 c4] 41) = w5 at *
            obtain ⟨o0, o1, o2, o3, o4⟩ := op_cells OB.out
            go_upto_block 2 with (fail)
            clear o0 o1 o2 o3 o4
            go_cut [10, 11, 14] from 59 to 169 (fun tj tx tb wx => ∃ (j x : Nat) (H H2 : List Nat) (s : DS) (v : JV), tj = .pointer (some ⟨j, 0, none⟩) ∧ tx = .pointer (some ⟨x, 0, none⟩) ∧ tb = .bool true ∧ Kept (Sy Jk wx H t d j N s v) ∧ Kept (Ry wx H2 x y N s v) ∧ Kept (Disj H H2) ∧ Kept (Live s v) ∧ Kept (Below w.heap.size w wx) ∧ Kept (∀ k ∈ H, w.heap.size ≤ k) ∧ Kept (∀ k ∈ H2, w.heap.size ≤ k))
            case first =>
              by_cases h0 : kd = 0
              · subst h0
                obtain ⟨re, s2, v2, hR⟩ : ∃ re s2 v2, appendJ s v xb = (re, s2, v2) := ⟨_, _, _, rfl⟩
                obtain ⟨wf, hh⟩ := RY.out.wf
                have LV2 := append_live wf hh R3.out.2.1 LV.out
                rw [hR] at LV2
                replace LV : Kept (Live s2 v2) := ⟨LV2⟩
                clear wf hh LV2
                obtain ⟨o0, o1, o2, o3, o4⟩ := op_cells OB.out
                go_upto_region 20 with (fail)
                refine wp_region_noPanic ?_
                refine wp_region_held_drew (S := fun w' : World => w'.cell? ⟨O, 3, none⟩ = some (.slice A3 l3 c3)) (by kernel_rfl) o3 (fun hHeld => ?_)
                have bd : Below w5.heap.size w5 w5.drew := (Below.refl _ _).drew
                replace OB := Kept.mk (OB.out.below bd OB.out.lt)
                replace SY := Sy.below api.base SY bd
                replace RY := Kept.mk (RY.out.below bd)
                replace B := step_below B bd
                clear bd o0 o1 o2 o3 o4
                generalize w5.drew = w6 at *
                refine wpAnyH_take (i := 0) (oi := ?o451) (v := ?v451) ?hi451 (by kernel_rfl) (by kernel_rfl) (by kernel_rfl) ?hq451 (Or.inl ⟨?hw451, ?hy451⟩) (by assumption) ?r451
                case hi451 => (simp only [List.getElem?_toArray, List.getElem?_cons_zero]; exact rfl)
                case hq451 => exact fun _ _ _ h => h
                case hw451 => rfl
                case hy451 => (intro w hSw; (try dsimp only at hSw); go_simp; try exact rfl)
                simp only [Act.put, List.setIfInBounds_toArray, List.set_cons_zero, List.set_cons_succ]
                refine wpAnyH_take (i := 1) (oi := ?o452) (v := ?v452) ?hi452 (by kernel_rfl) (by kernel_rfl) (by kernel_rfl) ?hq452 (Or.inl ⟨?hw452, ?hy452⟩) (by assumption) ?r452
                case hi452 => (simp only [List.getElem?_toArray, List.getElem?_cons_succ, List.getElem?_cons_zero]; exact rfl)
                case hq452 => exact fun _ _ _ h => h
                case hw452 => rfl
                case hy452 => (intro w hSw; (try dsimp only at hSw); go_simp; try exact rfl)
                simp only [Act.put, List.setIfInBounds_toArray, List.set_cons_zero, List.set_cons_succ]
                refine wpAnyH_take (i := 2) (oi := ?o453) (v := ?v453) ?hi453 (by kernel_rfl) (by kernel_rfl) (by kernel_rfl) ?hq453 (Or.inl ⟨?hw453, ?hy453⟩) (by assumption) ?r453
                case hi453 => (simp only [List.getElem?_toArray, List.getElem?_cons_succ, List.getElem?_cons_zero]; exact rfl)
                case hq453 => exact fun _ _ _ h => h
                case hw453 => rfl
                case hy453 => (intro w hSw; (try dsimp only at hSw); go_simp; try exact rfl)
                simp only [Act.put, List.setIfInBounds_toArray, List.set_cons_zero, List.set_cons_succ]
                refine wpAnyH_take (i := 4) (oi := ?o454) (v := ?v454) ?hi454 (by kernel_rfl) (by kernel_rfl) (by kernel_rfl) ?hq454 (Or.inl ⟨?hw454, ?hy454⟩) (by assumption) ?r454
                case hi454 => (simp only [List.getElem?_toArray, List.getElem?_cons_succ, List.getElem?_cons_zero]; exact rfl)
                case hq454 => exact fun _ _ _ h => h
                case hw454 => rfl
                case hy454 => (intro w hSw; (try dsimp only at hSw); go_simp; try exact rfl)
                simp only [Act.put, List.setIfInBounds_toArray, List.set_cons_zero, List.set_cons_succ]
                refine wpAnyH_take (i := 5) (oi := ?o455) (v := ?v455) ?hi455 (by kernel_rfl) (by kernel_rfl) (by kernel_rfl) ?hq455 (Or.inl ⟨?hw455, ?hy455⟩) (by assumption) ?r455
                case hi455 => (simp only [List.getElem?_toArray, List.getElem?_cons_succ, List.getElem?_cons_zero]; exact rfl)
                case hq455 => exact fun _ _ _ h => h
                case hw455 => rfl
                case hy455 => (intro w hSw; (try dsimp only at hSw); go_simp; try exact rfl)
                simp only [Act.put, List.setIfInBounds_toArray, List.set_cons_zero, List.set_cons_succ]
                refine wpAnyH_take (i := 6) (oi := ?o456) (v := ?v456) ?hi456 (by kernel_rfl) (by kernel_rfl) (by kernel_rfl) ?hq456 (Or.inl ⟨?hw456, ?hy456⟩) (by assumption) ?r456
                case hi456 => (simp only [List.getElem?_toArray, List.getElem?_cons_succ, List.getElem?_cons_zero]; exact rfl)
                case hq456 => exact fun _ _ _ h => h
                case hw456 => rfl
                case hy456 => (intro w hSw; (try dsimp only at hSw); go_simp; try exact rfl)
                simp only [Act.put, List.setIfInBounds_toArray, List.set_cons_zero, List.set_cons_succ]
                have CA := Kept.mk (api.append SY.out (R3.out.below B.out) (R3.out.off L.out) hl3 hc3 (by omega))
                rw [hR] at CA
                refine wpAnyH_ready (rs := [3]) (by kernel_rfl) (by simp) ?_
                refine AllReadyH.cons (o := ?o526) ?hi526 (fun K hK => ?_) AllReadyH.nil
                case hi526 => (simp only [List.getElem?_toArray, List.getElem?_cons_succ, List.getElem?_cons_zero]; exact rfl)
                go_simp
                go_at_call 11
                refine CA.out.mono ?_
                rintro e w7 ⟨rfl, H3, sy, fp⟩
                have LTW := OB.out.lt
                replace OB := Kept.mk (OB.out.bar fp.1 OF.out)
                have RLT := RY.out.lts
                replace RY := Kept.mk (RY.out.keep fp.1 DJ.out.symm)
                replace DJ := Kept.mk (DJ.out.step fp RLT)
                replace OF := off_blk OF LTW fp
                obtain ⟨B, L⟩ := step_fp B fp L
                replace SY := Kept.mk sy
                clear fp sy LTW RLT
                have CA2 := Kept.mk (rappend_any RY.out (R3.out.below B.out) (R3.out.off M.out) (c := c3) (by omega))
                rw [hR] at CA2
                refine hK.out _ _ (op_cells OB.out).2.2.2.1 (fun _ => ?_)
                clear hK K hHeld CA
                refine wpAnyH_ready (rs := [7]) (by kernel_rfl) (by simp) ?_
                refine AllReadyH.cons (o := ?o527) ?hi527 (fun K hK => ?_) AllReadyH.nil
                case hi527 => (simp only [List.getElem?_toArray, List.getElem?_cons_succ, List.getElem?_cons_zero]; exact rfl)
                go_simp
                go_at_call 12
                refine CA2.out.mono ?_
                rintro e w8 ⟨rfl, H4, ry, fp⟩
                have LTW := OB.out.lt
                replace OB := Kept.mk (OB.out.bar fp.1 OG.out)
                have SLT := SY.out.lts api.base
                replace SY := Kept.mk (SY.out.keep api.base fp.1 DJ.out)
                replace DJ := Kept.mk ((DJ.out.symm.step fp SLT).symm)
                replace OG := off_blk OG LTW fp
                obtain ⟨B, M⟩ := step_fp B fp M
                replace RY := Kept.mk ry
                clear fp ry LTW SLT
                refine hK.out _ _ (op_cells OB.out).2.2.2.1 (fun _ => ?_)
                clear hK K CA2 hR
                refine wpAnyH_take (i := 8) (oi := ?o457) (v := ?v457) ?hi457 (by kernel_rfl) (by kernel_rfl) (by kernel_rfl) ?hq457 (Or.inl ⟨?hw457, ?hy457⟩) (by assumption) ?r457
                case hi457 => (simp only [List.getElem?_toArray, List.getElem?_cons_succ, List.getElem?_cons_zero]; exact rfl)
                case hq457 => exact fun _ _ _ h => h
                case hw457 => rfl
                case hy457 => (intro w hSw; (try dsimp only at hSw); go_simp; try exact rfl)
                simp only [Act.put, List.setIfInBounds_toArray, List.set_cons_zero, List.set_cons_succ]
                refine wpAnyH_take (i := 9) (oi := ?o458) (v := ?v458) ?hi458 (by kernel_rfl) (by kernel_rfl) (by kernel_rfl) ?hq458 (Or.inl ⟨?hw458, ?hy458⟩) (by assumption) ?r458
                case hi458 => (simp only [List.getElem?_toArray, List.getElem?_cons_succ, List.getElem?_cons_zero]; exact rfl)
                case hq458 => exact fun _ _ _ h => h
                case hw458 => rfl
                case hy458 => (intro w hSw; (try dsimp only at hSw); go_simp; try exact rfl)
                simp only [Act.put, List.setIfInBounds_toArray, List.set_cons_zero, List.set_cons_succ]
                refine wpAnyH_done (by kernel_rfl) ?_ _
                refine NoPanic.normal ?_
                clear OB OF OG
                go_wp2
                go_meet
                case rel => exact ⟨j, x, H3, H4, _, _, rfl, rfl, rfl, SY, RY, DJ, LV, B, L, M⟩
              · by_cases h1 : kd = 1
                · subst h1
                  obtain ⟨re, s2, v2, hR⟩ : ∃ re s2 v2, compactJ s v xb = (re, s2, v2) := ⟨_, _, _, rfl⟩
                  obtain ⟨wf, hh⟩ := RY.out.wf
                  have LV2 := compact_live wf hh R3.out.2.1 LV.out
                  rw [hR] at LV2
                  replace LV : Kept (Live s2 v2) := ⟨LV2⟩
                  clear wf hh LV2
                  obtain ⟨o0, o1, o2, o3, o4⟩ := op_cells OB.out
                  go_upto_region 22 with (fail)
                  refine wp_region_noPanic ?_
                  refine wp_region_held_drew (S := fun w' : World => w'.cell? ⟨O, 3, none⟩ = some (.slice A3 l3 c3)) (by kernel_rfl) o3 (fun hHeld => ?_)
                  have bd : Below w5.heap.size w5 w5.drew := (Below.refl _ _).drew
                  replace OB := Kept.mk (OB.out.below bd OB.out.lt)
                  replace SY := Sy.below api.base SY bd
                  replace RY := Kept.mk (RY.out.below bd)
                  replace B := step_below B bd
                  clear bd o0 o1 o2 o3 o4
                  generalize w5.drew = w6 at *
                  refine wpAnyH_take (i := 0) (oi := ?o459) (v := ?v459) ?hi459 (by kernel_rfl) (by kernel_rfl) (by kernel_rfl) ?hq459 (Or.inl ⟨?hw459, ?hy459⟩) (by assumption) ?r459
                  case hi459 => (simp only [List.getElem?_toArray, List.getElem?_cons_zero]; exact rfl)
                  case hq459 => exact fun _ _ _ h => h
                  case hw459 => rfl
                  case hy459 => (intro w hSw; (try dsimp only at hSw); go_simp; try exact rfl)
                  simp only [Act.put, List.setIfInBounds_toArray, List.set_cons_zero, List.set_cons_succ]
                  refine wpAnyH_take (i := 1) (oi := ?o460) (v := ?v460) ?hi460 (by kernel_rfl) (by kernel_rfl) (by kernel_rfl) ?hq460 (Or.inl ⟨?hw460, ?hy460⟩) (by assumption) ?r460
                  case hi460 => (simp only [List.getElem?_toArray, List.getElem?_cons_succ, List.getElem?_cons_zero]; exact rfl)
                  case hq460 => exact fun _ _ _ h => h
                  case hw460 => rfl
                  case hy460 => (intro w hSw; (try dsimp only at hSw); go_simp; try exact rfl)
                  simp only [Act.put, List.setIfInBounds_toArray, List.set_cons_zero, List.set_cons_succ]
                  refine wpAnyH_take (i := 2) (oi := ?o461) (v := ?v461) ?hi461 (by kernel_rfl) (by kernel_rfl) (by kernel_rfl) ?hq461 (Or.inl ⟨?hw461, ?hy461⟩) (by assumption) ?r461
                  case hi461 => (simp only [List.getElem?_toArray, List.getElem?_cons_succ, List.getElem?_cons_zero]; exact rfl)
                  case hq461 => exact fun _ _ _ h => h
                  case hw461 => rfl
                  case hy461 => (intro w hSw; (try dsimp only at hSw); go_simp; try exact rfl)
                  simp only [Act.put, List.setIfInBounds_toArray, List.set_cons_zero, List.set_cons_succ]
                  refine wpAnyH_take (i := 4) (oi := ?o462) (v := ?v462) ?hi462 (by kernel_rfl) (by kernel_rfl) (by kernel_rfl) ?hq462 (Or.inl ⟨?hw462, ?hy462⟩) (by assumption) ?r462
                  case hi462 => (simp only [List.getElem?_toArray, List.getElem?_cons_succ, List.getElem?_cons_zero]; exact rfl)
                  case hq462 => exact fun _ _ _ h => h
                  case hw462 => rfl
                  case hy462 => (intro w hSw; (try dsimp only at hSw); go_simp; try exact rfl)
                  simp only [Act.put, List.setIfInBounds_toArray, List.set_cons_zero, List.set_cons_succ]
                  refine wpAnyH_take (i := 5) (oi := ?o463) (v := ?v463) ?hi463 (by kernel_rfl) (by kernel_rfl) (by kernel_rfl) ?hq463 (Or.inl ⟨?hw463, ?hy463⟩) (by assumption) ?r463
                  case hi463 => (simp only [List.getElem?_toArray, List.getElem?_cons_succ, List.getElem?_cons_zero]; exact rfl)
                  case hq463 => exact fun _ _ _ h => h
                  case hw463 => rfl
                  case hy463 => (intro w hSw; (try dsimp only at hSw); go_simp; try exact rfl)
                  simp only [Act.put, List.setIfInBounds_toArray, List.set_cons_zero, List.set_cons_succ]
                  refine wpAnyH_take (i := 6) (oi := ?o464) (v := ?v464) ?hi464 (by kernel_rfl) (by kernel_rfl) (by kernel_rfl) ?hq464 (Or.inl ⟨?hw464, ?hy464⟩) (by assumption) ?r464
                  case hi464 => (simp only [List.getElem?_toArray, List.getElem?_cons_succ, List.getElem?_cons_zero]; exact rfl)
                  case hq464 => exact fun _ _ _ h => h
                  case hw464 => rfl
                  case hy464 => (intro w hSw; (try dsimp only at hSw); go_simp; try exact rfl)
                  simp only [Act.put, List.setIfInBounds_toArray, List.set_cons_zero, List.set_cons_succ]
                  have CA := Kept.mk (api.compact SY.out (R3.out.below B.out) (R3.out.off L.out) hl3 hc3 (by omega))
                  rw [hR] at CA
                  refine wpAnyH_ready (rs := [3]) (by kernel_rfl) (by simp) ?_
                  refine AllReadyH.cons (o := ?o528) ?hi528 (fun K hK => ?_) AllReadyH.nil
                  case hi528 => (simp only [List.getElem?_toArray, List.getElem?_cons_succ, List.getElem?_cons_zero]; exact rfl)
                  go_simp
                  go_at_call 13
                  refine CA.out.mono ?_
                  rintro e w7 ⟨rfl, H3, sy, fp⟩
                  have LTW := OB.out.lt
                  replace OB := Kept.mk (OB.out.bar fp.1 OF.out)
                  have RLT := RY.out.lts
                  replace RY := Kept.mk (RY.out.keep fp.1 DJ.out.symm)
                  replace DJ := Kept.mk (DJ.out.step fp RLT)
                  replace OF := off_blk OF LTW fp
                  obtain ⟨B, L⟩ := step_fp B fp L
                  replace SY := Kept.mk sy
                  clear fp sy LTW RLT
                  have CA2 := Kept.mk (rcompact_any RY.out (R3.out.below B.out) (R3.out.off M.out) (c := c3) (by omega))
                  rw [hR] at CA2
                  refine hK.out _ _ (op_cells OB.out).2.2.2.1 (fun _ => ?_)
                  clear hK K hHeld CA
                  refine wpAnyH_ready (rs := [7]) (by kernel_rfl) (by simp) ?_
                  refine AllReadyH.cons (o := ?o529) ?hi529 (fun K hK => ?_) AllReadyH.nil
                  case hi529 => (simp only [List.getElem?_toArray, List.getElem?_cons_succ, List.getElem?_cons_zero]; exact rfl)
                  go_simp
                  go_at_call 14
                  refine CA2.out.mono ?_
                  rintro e w8 ⟨rfl, H4, ry, fp⟩
                  have LTW := OB.out.lt
                  replace OB := Kept.mk (OB.out.bar fp.1 OG.out)
                  have SLT := SY.out.lts api.base
                  replace SY := Kept.mk (SY.out.keep api.base fp.1 DJ.out)
                  replace DJ := Kept.mk ((DJ.out.symm.step fp SLT).symm)
                  replace OG := off_blk OG LTW fp
                  obtain ⟨B, M⟩ := step_fp B fp M
                  replace RY := Kept.mk ry
                  clear fp ry LTW SLT
                  refine hK.out _ _ (op_cells OB.out).2.2.2.1 (fun _ => ?_)
                  clear hK K CA2 hR
                  refine wpAnyH_take (i := 8) (oi := ?o465) (v := ?v465) ?hi465 (by kernel_rfl) (by kernel_rfl) (by kernel_rfl) ?hq465 (Or.inl ⟨?hw465, ?hy465⟩) (by assumption) ?r465
                  case hi465 => (simp only [List.getElem?_toArray, List.getElem?_cons_succ, List.getElem?_cons_zero]; exact rfl)
                  case hq465 => exact fun _ _ _ h => h
                  case hw465 => rfl
                  case hy465 => (intro w hSw; (try dsimp only at hSw); go_simp; try exact rfl)
                  simp only [Act.put, List.setIfInBounds_toArray, List.set_cons_zero, List.set_cons_succ]
                  refine wpAnyH_take (i := 9) (oi := ?o466) (v := ?v466) ?hi466 (by kernel_rfl) (by kernel_rfl) (by kernel_rfl) ?hq466 (Or.inl ⟨?hw466, ?hy466⟩) (by assumption) ?r466
                  case hi466 => (simp only [List.getElem?_toArray, List.getElem?_cons_succ, List.getElem?_cons_zero]; exact rfl)
                  case hq466 => exact fun _ _ _ h => h
                  case hw466 => rfl
                  case hy466 => (intro w hSw; (try dsimp only at hSw); go_simp; try exact rfl)
                  simp only [Act.put, List.setIfInBounds_toArray, List.set_cons_zero, List.set_cons_succ]
                  refine wpAnyH_done (by kernel_rfl) ?_ _
                  refine NoPanic.normal ?_
                  clear OB OF OG
                  go_wp2
                  go_meet
                  case rel => exact ⟨j, x, H3, H4, _, _, rfl, rfl, rfl, SY, RY, DJ, LV, B, L, M⟩
                · by_cases h2 : kd = 2
                  · subst h2
                    obtain ⟨o0, o1, o2, o3, o4⟩ := op_cells OB.out
                    have CO := Kept.mk (sy_open api SY.out)
                    go_wp2_with fail
                    refine CO.out.mono ?_
                    rintro e w6 ⟨j2, H5, rfl, sy, fp⟩
                    have LTW := OB.out.lt
                    replace OB := Kept.mk (OB.out.bar fp.1 OF.out)
                    have RLT := RY.out.lts
                    replace RY := Kept.mk (RY.out.keep fp.1 DJ.out.symm)
                    replace DJ := Kept.mk (DJ.out.step fp RLT)
                    replace OF := off_blk OF LTW fp
                    obtain ⟨B, L⟩ := step_fp B fp L
                    have SY2 := Kept.mk sy
                    clear fp sy LTW RLT CO SY
                    have CR := Kept.mk (ry_open RY.out)
                    go_wp2_with fail
                    refine CR.out.mono ?_
                    rintro e w8 ⟨x2, H6, rfl, ry, fp⟩
                    have LTW := OB.out.lt
                    replace OB := Kept.mk (OB.out.bar fp.1 OG.out)
                    have SLT := SY2.out.lts api.base
                    have SY := Kept.mk (SY2.out.keep api.base fp.1 DJ.out)
                    replace DJ := Kept.mk ((DJ.out.symm.step fp SLT).symm)
                    replace OG := off_blk OG LTW fp
                    obtain ⟨B, M⟩ := step_fp B fp M
                    have RY2 := Kept.mk ry
                    clear fp ry LTW SLT CR RY SY2
                    have RY := RY2
                    clear RY2
                    replace LV := Kept.mk (open_live s)
                    clear OB OF OG
                    go_wp2
                    go_meet
                    case rel => exact ⟨j2, x2, H5, H6, _, _, rfl, rfl, rfl, SY, RY, DJ, LV, B, L, M⟩
                  · by_cases h3 : kd = 3
                    · subst h3
                      obtain ⟨o0, o1, o2, o3, o4⟩ := op_cells OB.out
                      have CC := Kept.mk (sy_crash api.base SY.out (c := c4) (R4.out.below B.out) (R4.out.off L.out))
                      go_wp2_with fail
                      refine CC.out.mono ?_
                      rintro e w6 ⟨rfl, H3, sy, fp⟩
                      have LTW := OB.out.lt
                      replace OB := Kept.mk (OB.out.bar fp.1 OF.out)
                      have RLT := RY.out.lts
                      replace RY := Kept.mk (RY.out.keep fp.1 DJ.out.symm)
                      replace DJ := Kept.mk (DJ.out.step fp RLT)
                      replace OF := off_blk OF LTW fp
                      obtain ⟨B, L⟩ := step_fp B fp L
                      have SY2 := Kept.mk sy
                      clear fp sy LTW RLT CC SY o0 o1 o2 o3 o4
                      obtain ⟨o0, o1, o2, o3, o4⟩ := op_cells OB.out
                      have CR := Kept.mk (ry_crash RY.out (c := c4) (R4.out.below B.out) (R4.out.off M.out))
                      go_wp2_with fail
                      refine CR.out.mono ?_
                      rintro e w7 ⟨rfl, H4, ry, fp⟩
                      have LTW := OB.out.lt
                      replace OB := Kept.mk (OB.out.bar fp.1 OG.out)
                      have SLT := SY2.out.lts api.base
                      have SY := Kept.mk (SY2.out.keep api.base fp.1 DJ.out)
                      replace DJ := Kept.mk ((DJ.out.symm.step fp SLT).symm)
                      replace OG := off_blk OG LTW fp
                      obtain ⟨B, M⟩ := step_fp B fp M
                      have RY2 := Kept.mk ry
                      clear fp ry LTW SLT CR RY SY2 o0 o1 o2 o3 o4
                      have RY := RY2
                      clear RY2
                      obtain ⟨s2, hs2⟩ : ∃ s2, crashD s bs = s2 := ⟨_, rfl⟩
                      rw [hs2] at SY RY
                      clear hs2
                      have CO := Kept.mk (sy_open api SY.out)
                      go_wp2_with fail
                      refine CO.out.mono ?_
                      rintro e w9 ⟨j2, H5, rfl, sy, fp⟩
                      have LTW := OB.out.lt
                      replace OB := Kept.mk (OB.out.bar fp.1 OF.out)
                      have RLT := RY.out.lts
                      replace RY := Kept.mk (RY.out.keep fp.1 DJ.out.symm)
                      replace DJ := Kept.mk (DJ.out.step fp RLT)
                      replace OF := off_blk OF LTW fp
                      obtain ⟨B, L⟩ := step_fp B fp L
                      have SY2 := Kept.mk sy
                      clear fp sy LTW RLT CO SY
                      have CR := Kept.mk (ry_open RY.out)
                      go_wp2_with fail
                      refine CR.out.mono ?_
                      rintro e w8 ⟨x2, H6, rfl, ry, fp⟩
                      have LTW := OB.out.lt
                      replace OB := Kept.mk (OB.out.bar fp.1 OG.out)
                      have SLT := SY2.out.lts api.base
                      have SY := Kept.mk (SY2.out.keep api.base fp.1 DJ.out)
                      replace DJ := Kept.mk ((DJ.out.symm.step fp SLT).symm)
                      replace OG := off_blk OG LTW fp
                      obtain ⟨B, M⟩ := step_fp B fp M
                      have RY2 := Kept.mk ry
                      clear fp ry LTW SLT CR RY SY2
                      have RY := RY2
                      clear RY2
                      replace LV := Kept.mk (open_live s2)
                      clear OB OF OG
                      go_wp2
                      go_meet
                      case rel => exact ⟨j2, x2, H5, H6, _, _, rfl, rfl, rfl, SY, RY, DJ, LV, B, L, M⟩
                    · by_cases h4 : kd = 4
                      · subst h4
                        obtain ⟨o0, o1, o2, o3, o4⟩ := op_cells OB.out
                        have CC := Kept.mk (sy_fuse api.base SY.out z hz)
                        go_wp2_with fail
                        refine CC.out.mono ?_
                        rintro e w6 ⟨rfl, H3, sy, fp⟩
                        have LTW := OB.out.lt
                        replace OB := Kept.mk (OB.out.bar fp.1 OF.out)
                        have RLT := RY.out.lts
                        replace RY := Kept.mk (RY.out.keep fp.1 DJ.out.symm)
                        replace DJ := Kept.mk (DJ.out.step fp RLT)
                        replace OF := off_blk OF LTW fp
                        obtain ⟨B, L⟩ := step_fp B fp L
                        have SY2 := Kept.mk sy
                        clear fp sy LTW RLT CC SY o0 o1 o2 o3 o4
                        obtain ⟨o0, o1, o2, o3, o4⟩ := op_cells OB.out
                        have CR := Kept.mk (ry_fuse RY.out z hz)
                        go_wp2_with fail
                        refine CR.out.mono ?_
                        rintro e w8 ⟨rfl, H4, ry, fp⟩
                        have LTW := OB.out.lt
                        replace OB := Kept.mk (OB.out.bar fp.1 OG.out)
                        have SLT := SY2.out.lts api.base
                        have SY := Kept.mk (SY2.out.keep api.base fp.1 DJ.out)
                        replace DJ := Kept.mk ((DJ.out.symm.step fp SLT).symm)
                        replace OG := off_blk OG LTW fp
                        obtain ⟨B, M⟩ := step_fp B fp M
                        have RY2 := Kept.mk ry
                        clear fp ry LTW SLT CR RY SY2 o0 o1 o2 o3 o4
                        have RY := RY2
                        clear RY2
                        replace LV := Kept.mk (fuse_live z LV.out)
                        obtain ⟨s2, hs2⟩ : ∃ s2, fuseD s z = s2 := ⟨_, rfl⟩
                        rw [hs2] at SY RY LV
                        clear hs2
                        clear OB OF OG
                        go_wp2
                        go_meet
                        case rel => exact ⟨j, x, H3, H4, _, _, rfl, rfl, rfl, SY, RY, DJ, LV, B, L, M⟩
                      · by_cases h5 : kd = 5
                        · subst h5
                          obtain ⟨re, s2, hR⟩ : ∃ re s2, writeD s q (padS xb) = (re, s2) := ⟨_, _, rfl⟩
                          have LV2 := write_live q (padS xb) LV.out
                          rw [hR] at LV2
                          replace LV : Kept (Live s2 v) := ⟨LV2⟩
                          clear LV2
                          obtain ⟨o0, o1, o2, o3, o4⟩ := op_cells OB.out
                          go_upto_region 33 with (fail)
                          refine wp_region_noPanic ?_
                          refine wp_region_held_drew (S := fun w' : World => w'.cell? ⟨O, 1, none⟩ = some (.int .i64 q) ∧ w'.cell? ⟨O, 3, none⟩ = some (.slice A3 l3 c3)) (by kernel_rfl) ⟨o1, o3⟩ (fun hHeld => ?_)
                          have bd : Below w5.heap.size w5 w5.drew := (Below.refl _ _).drew
                          replace OB := Kept.mk (OB.out.below bd OB.out.lt)
                          replace SY := Sy.below api.base SY bd
                          replace RY := Kept.mk (RY.out.below bd)
                          replace B := step_below B bd
                          clear bd o0 o1 o2 o3 o4
                          generalize w5.drew = w6 at *
                          refine wpAnyH_take (i := 0) (oi := ?o467) (v := ?v467) ?hi467 (by kernel_rfl) (by kernel_rfl) (by kernel_rfl) ?hq467 (Or.inl ⟨?hw467, ?hy467⟩) (by assumption) ?r467
                          case hi467 => (simp only [List.getElem?_toArray, List.getElem?_cons_zero]; exact rfl)
                          case hq467 => exact fun _ _ _ h => h
                          case hw467 => rfl
                          case hy467 => (intro w hSw; (try dsimp only at hSw); go_simp; try exact rfl)
                          simp only [Act.put, List.setIfInBounds_toArray, List.set_cons_zero, List.set_cons_succ]
                          refine wpAnyH_take (i := 1) (oi := ?o468) (v := ?v468) ?hi468 (by kernel_rfl) (by kernel_rfl) (by kernel_rfl) ?hq468 (Or.inl ⟨?hw468, ?hy468⟩) (by assumption) ?r468
                          case hi468 => (simp only [List.getElem?_toArray, List.getElem?_cons_succ, List.getElem?_cons_zero]; exact rfl)
                          case hq468 => exact fun _ _ _ h => h
                          case hw468 => rfl
                          case hy468 => (intro w hSw; (try dsimp only at hSw); go_simp; try exact rfl)
                          simp only [Act.put, List.setIfInBounds_toArray, List.set_cons_zero, List.set_cons_succ]
                          refine wpAnyH_take (i := 2) (oi := ?o469) (v := ?v469) ?hi469 (by kernel_rfl) (by kernel_rfl) (by kernel_rfl) ?hq469 (Or.inl ⟨?hw469, ?hy469⟩) (by assumption) ?r469
                          case hi469 => (simp only [List.getElem?_toArray, List.getElem?_cons_succ, List.getElem?_cons_zero]; exact rfl)
                          case hq469 => exact fun _ _ _ h => h
                          case hw469 => rfl
                          case hy469 => (intro w hSw; (try dsimp only at hSw); go_simp; try exact rfl)
                          simp only [Act.put, List.setIfInBounds_toArray, List.set_cons_zero, List.set_cons_succ]
                          refine wpAnyH_take (i := 3) (oi := ?o470) (v := ?v470) ?hi470 (by kernel_rfl) (by kernel_rfl) (by kernel_rfl) ?hq470 (Or.inl ⟨?hw470, ?hy470⟩) (by assumption) ?r470
                          case hi470 => (simp only [List.getElem?_toArray, List.getElem?_cons_succ, List.getElem?_cons_zero]; exact rfl)
                          case hq470 => exact fun _ _ _ h => h
                          case hw470 => rfl
                          case hy470 => (intro w hSw; (try dsimp only at hSw); go_simp; try exact rfl)
                          simp only [Act.put, List.setIfInBounds_toArray, List.set_cons_zero, List.set_cons_succ]
                          refine wpAnyH_take (i := 4) (oi := ?o471) (v := ?v471) ?hi471 (by kernel_rfl) (by kernel_rfl) (by kernel_rfl) ?hq471 (Or.inl ⟨?hw471, ?hy471⟩) (by assumption) ?r471
                          case hi471 => (simp only [List.getElem?_toArray, List.getElem?_cons_succ, List.getElem?_cons_zero]; exact rfl)
                          case hq471 => exact fun _ _ _ h => h
                          case hw471 => rfl
                          case hy471 => (intro w hSw; (try dsimp only at hSw); go_simp; try exact rfl)
                          simp only [Act.put, List.setIfInBounds_toArray, List.set_cons_zero, List.set_cons_succ]
                          refine wpAnyH_take (i := 7) (oi := ?o472) (v := ?v472) ?hi472 (by kernel_rfl) (by kernel_rfl) (by kernel_rfl) ?hq472 (Or.inl ⟨?hw472, ?hy472⟩) (by assumption) ?r472
                          case hi472 => (simp only [List.getElem?_toArray, List.getElem?_cons_succ, List.getElem?_cons_zero]; exact rfl)
                          case hq472 => exact fun _ _ _ h => h
                          case hw472 => rfl
                          case hy472 => (intro w hSw; (try dsimp only at hSw); go_simp; try exact rfl)
                          simp only [Act.put, List.setIfInBounds_toArray, List.set_cons_zero, List.set_cons_succ]
                          refine wpAnyH_take (i := 8) (oi := ?o473) (v := ?v473) ?hi473 (by kernel_rfl) (by kernel_rfl) (by kernel_rfl) ?hq473 (Or.inl ⟨?hw473, ?hy473⟩) (by assumption) ?r473
                          case hi473 => (simp only [List.getElem?_toArray, List.getElem?_cons_succ, List.getElem?_cons_zero]; exact rfl)
                          case hq473 => exact fun _ _ _ h => h
                          case hw473 => rfl
                          case hy473 => (intro w hSw; (try dsimp only at hSw); go_simp; try exact rfl)
                          simp only [Act.put, List.setIfInBounds_toArray, List.set_cons_zero, List.set_cons_succ]
                          refine wpAnyH_take (i := 9) (oi := ?o474) (v := ?v474) ?hi474 (by kernel_rfl) (by kernel_rfl) (by kernel_rfl) ?hq474 (Or.inl ⟨?hw474, ?hy474⟩) (by assumption) ?r474
                          case hi474 => (simp only [List.getElem?_toArray, List.getElem?_cons_succ, List.getElem?_cons_zero]; exact rfl)
                          case hq474 => exact fun _ _ _ h => h
                          case hw474 => rfl
                          case hy474 => (intro w hSw; (try dsimp only at hSw); go_simp; try exact rfl)
                          simp only [Act.put, List.setIfInBounds_toArray, List.set_cons_zero, List.set_cons_succ]
                          refine wpAnyH_take (i := 10) (oi := ?o475) (v := ?v475) ?hi475 (by kernel_rfl) (by kernel_rfl) (by kernel_rfl) ?hq475 (Or.inl ⟨?hw475, ?hy475⟩) (by assumption) ?r475
                          case hi475 => (simp only [List.getElem?_toArray, List.getElem?_cons_succ, List.getElem?_cons_zero]; exact rfl)
                          case hq475 => exact fun _ _ _ h => h
                          case hw475 => rfl
                          case hy475 => (intro w hSw; (try dsimp only at hSw); go_simp; try exact rfl)
                          simp only [Act.put, List.setIfInBounds_toArray, List.set_cons_zero, List.set_cons_succ]
                          refine wpAnyH_take (i := 11) (oi := ?o476) (v := ?v476) ?hi476 (by kernel_rfl) (by kernel_rfl) (by kernel_rfl) ?hq476 (Or.inl ⟨?hw476, ?hy476⟩) (by assumption) ?r476
                          case hi476 => (simp only [List.getElem?_toArray, List.getElem?_cons_succ, List.getElem?_cons_zero]; exact rfl)
                          case hq476 => exact fun _ _ _ h => h
                          case hw476 => rfl
                          case hy476 => (intro w hSw; (try dsimp only at hSw); go_simp; try exact rfl)
                          simp only [Act.put, List.setIfInBounds_toArray, List.set_cons_zero, List.set_cons_succ]
                          have C1 := Kept.mk (sector_any w6 A3 l3 c3 xb (R3.out.below B.out))
                          refine wpAnyH_ready (rs := [5]) (by kernel_rfl) (by simp) ?_
                          refine AllReadyH.cons (o := ?o530) ?hi530 (fun K hK => ?_) AllReadyH.nil
                          case hi530 => (simp only [List.getElem?_toArray, List.getElem?_cons_succ, List.getElem?_cons_zero]; exact rfl)
                          go_simp
                          go_at_call 20
                          refine C1.out.mono ?_
                          rintro e w7 ⟨rfl, rs, bs7, lt7⟩
                          have SLT := SY.out.lts api.base
                          replace OB := Kept.mk (OB.out.below bs7 OB.out.lt)
                          replace SY := Sy.below api.base SY bs7
                          replace RY := Kept.mk (RY.out.below bs7)
                          replace B := step_below B bs7
                          have CW := Kept.mk (sy_write api.base SY.out q (c := 64) rs (.inr ⟨w6.heap.size, 0, rfl, fun hm => by have := SLT _ hm; omega⟩))
                          rw [hR] at CW
                          refine hK.out _ _ ⟨(op_cells OB.out).2.1, (op_cells OB.out).2.2.2.1⟩ (fun _ => ?_)
                          clear hK K hHeld C1 rs bs7 lt7 SLT
                          try simp only [Act.put, List.setIfInBounds_toArray, List.set_cons_zero, List.set_cons_succ]
                          refine wpAnyH_ready (rs := [6]) (by kernel_rfl) (by simp) ?_
                          refine AllReadyH.cons (o := ?o531) ?hi531 (fun K hK => ?_) AllReadyH.nil
                          case hi531 => (simp only [List.getElem?_toArray, List.getElem?_cons_succ, List.getElem?_cons_zero]; exact rfl)
                          go_simp
                          go_at_call 19
                          refine CW.out.mono ?_
                          rintro e w9 ⟨rfl, H3, sy, fp⟩
                          have LTW := OB.out.lt
                          replace OB := Kept.mk (OB.out.bar fp.1 OF.out)
                          have RLT := RY.out.lts
                          replace RY := Kept.mk (RY.out.keep fp.1 DJ.out.symm)
                          replace DJ := Kept.mk (DJ.out.step fp RLT)
                          replace OF := off_blk OF LTW fp
                          obtain ⟨B, L⟩ := step_fp B fp L
                          replace SY := Kept.mk sy
                          clear fp sy LTW RLT
                          have C2 := Kept.mk (sector_any w9 A3 l3 c3 xb (R3.out.below B.out))
                          refine hK.out _ _ ⟨(op_cells OB.out).2.1, (op_cells OB.out).2.2.2.1⟩ (fun _ => ?_)
                          clear hK K CW
                          refine wpAnyH_ready (rs := [12]) (by kernel_rfl) (by simp) ?_
                          refine AllReadyH.cons (o := ?o532) ?hi532 (fun K hK => ?_) AllReadyH.nil
                          case hi532 => (simp only [List.getElem?_toArray, List.getElem?_cons_succ, List.getElem?_cons_zero]; exact rfl)
                          go_simp
                          go_at_call 20
                          refine C2.out.mono ?_
                          rintro e wa ⟨rfl, rs, bs7, lt7⟩
                          have RLT := RY.out.lts
                          replace OB := Kept.mk (OB.out.below bs7 OB.out.lt)
                          replace SY := Sy.below api.base SY bs7
                          replace RY := Kept.mk (RY.out.below bs7)
                          replace B := step_below B bs7
                          have CW := Kept.mk (ry_write RY.out q (c := 64) rs (.inr ⟨w9.heap.size, 0, rfl, fun hm => by have := RLT _ hm; omega⟩))
                          rw [hR] at CW
                          refine hK.out _ _ ⟨(op_cells OB.out).2.1, (op_cells OB.out).2.2.2.1⟩ (fun _ => ?_)
                          clear hK K C2 rs bs7 lt7 RLT
                          try simp only [Act.put, List.setIfInBounds_toArray, List.set_cons_zero, List.set_cons_succ]
                          refine wpAnyH_ready (rs := [13]) (by kernel_rfl) (by simp) ?_
                          refine AllReadyH.cons (o := ?o533) ?hi533 (fun K hK => ?_) AllReadyH.nil
                          case hi533 => (simp only [List.getElem?_toArray, List.getElem?_cons_succ, List.getElem?_cons_zero]; exact rfl)
                          go_simp
                          go_at_call 21
                          refine CW.out.mono ?_
                          rintro e w8 ⟨rfl, H4, ry, fp⟩
                          have LTW := OB.out.lt
                          replace OB := Kept.mk (OB.out.bar fp.1 OG.out)
                          have SLT := SY.out.lts api.base
                          replace SY := Kept.mk (SY.out.keep api.base fp.1 DJ.out)
                          replace DJ := Kept.mk ((DJ.out.symm.step fp SLT).symm)
                          replace OG := off_blk OG LTW fp
                          obtain ⟨B, M⟩ := step_fp B fp M
                          replace RY := Kept.mk ry
                          clear fp ry LTW SLT
                          refine hK.out _ _ ⟨(op_cells OB.out).2.1, (op_cells OB.out).2.2.2.1⟩ (fun _ => ?_)
                          clear hK K CW hR
                          refine wpAnyH_take (i := 14) (oi := ?o477) (v := ?v477) ?hi477 (by kernel_rfl) (by kernel_rfl) (by kernel_rfl) ?hq477 (Or.inl ⟨?hw477, ?hy477⟩) (by assumption) ?r477
                          case hi477 => (simp only [List.getElem?_toArray, List.getElem?_cons_succ, List.getElem?_cons_zero]; exact rfl)
                          case hq477 => exact fun _ _ _ h => h
                          case hw477 => rfl
                          case hy477 => (intro w hSw; (try dsimp only at hSw); go_simp; try exact rfl)
                          simp only [Act.put, List.setIfInBounds_toArray, List.set_cons_zero, List.set_cons_succ]
                          refine wpAnyH_take (i := 15) (oi := ?o478) (v := ?v478) ?hi478 (by kernel_rfl) (by kernel_rfl) (by kernel_rfl) ?hq478 (Or.inl ⟨?hw478, ?hy478⟩) (by assumption) ?r478
                          case hi478 => (simp only [List.getElem?_toArray, List.getElem?_cons_succ, List.getElem?_cons_zero]; exact rfl)
                          case hq478 => exact fun _ _ _ h => h
                          case hw478 => rfl
                          case hy478 => (intro w hSw; (try dsimp only at hSw); go_simp; try exact rfl)
                          simp only [Act.put, List.setIfInBounds_toArray, List.set_cons_zero, List.set_cons_succ]
                          refine wpAnyH_done (by kernel_rfl) ?_ _
                          refine NoPanic.normal ?_
                          clear OB OF OG
                          go_wp2
                          go_meet
                          case rel => exact ⟨j, x, H3, H4, _, _, rfl, rfl, rfl, SY, RY, DJ, LV, B, L, M⟩
                        · have hd0 : (kd == 0) = false := beq_eq_false_iff_ne.2 h0
                          have hd1 : (kd == 1) = false := beq_eq_false_iff_ne.2 h1
                          have hd2 : (kd == 2) = false := beq_eq_false_iff_ne.2 h2
                          have hd3 : (kd == 3) = false := beq_eq_false_iff_ne.2 h3
                          have hd4 : (kd == 4) = false := beq_eq_false_iff_ne.2 h4
                          have hd5 : (kd == 5) = false := beq_eq_false_iff_ne.2 h5
                          clear h0 h1 h2 h3 h4 h5
                          obtain ⟨o0, o1, o2, o3, o4⟩ := op_cells OB.out
                          clear OB OF OG
                          go_wp2
                          go_meet
                          case rel => exact ⟨j, x, H, H2, _, _, rfl, rfl, rfl, SY, RY, DJ, LV, B, L, M⟩
            case rest =>
              clear SY RY DJ LV B L M OB OF OG R3 R4
              obtain ⟨j, x, H, H2, s, v, rfl, rfl, rfl, SY, RY, DJ, LV, B, L, M⟩ := hcut
              cases hdn : s.down with
              | false =>
                obtain ⟨x4, -⟩ := RY.out.down4
                rw [hdn] at x4
                go_upto_region 34 with (fail)
                refine wp_region_noPanic ?_
                refine wp_region_held_drew (S := fun w' : World => w'.cell? ⟨y, 4, none⟩ = some (.bool false)) (by kernel_rfl) x4 (fun hHeld => ?_)
                have bd : Below wc.heap.size wc wc.drew := (Below.refl _ _).drew
                replace SY := Sy.below api.base SY bd
                replace RY := Kept.mk (RY.out.below bd)
                replace B := step_below B bd
                clear bd x4
                generalize wc.drew = wt at *
                have DN := Kept.mk (sy_down SY.out)
                rw [hdn] at DN
                refine wpAnyH_take (i := 0) (oi := ?o479) (v := ?v479) ?hi479 (by kernel_rfl) (by kernel_rfl) (by kernel_rfl) ?hq479 (Or.inl ⟨?hw479, ?hy479⟩) (by assumption) ?r479
                case hi479 => (simp only [List.getElem?_toArray, List.getElem?_cons_zero]; exact rfl)
                case hq479 => exact fun _ _ _ h => h
                case hw479 => rfl
                case hy479 => (intro w hSw; (try dsimp only at hSw); go_simp; try exact rfl)
                simp only [Act.put, List.setIfInBounds_toArray, List.set_cons_zero, List.set_cons_succ]
                refine wpAnyH_take (i := 1) (oi := ?o480) (v := ?v480) ?hi480 (by kernel_rfl) (by kernel_rfl) (by kernel_rfl) ?hq480 (Or.inl ⟨?hw480, ?hy480⟩) (by assumption) ?r480
                case hi480 => (simp only [List.getElem?_toArray, List.getElem?_cons_succ, List.getElem?_cons_zero]; exact rfl)
                case hq480 => exact fun _ _ _ h => h
                case hw480 => rfl
                case hy480 => (intro w hSw; (try dsimp only at hSw); go_simp; try exact rfl)
                simp only [Act.put, List.setIfInBounds_toArray, List.set_cons_zero, List.set_cons_succ]
                refine wpAnyH_take (i := 2) (oi := ?o481) (v := ?v481) ?hi481 (by kernel_rfl) (by kernel_rfl) (by kernel_rfl) ?hq481 (Or.inl ⟨?hw481, ?hy481⟩) (by assumption) ?r481
                case hi481 => (simp only [List.getElem?_toArray, List.getElem?_cons_succ, List.getElem?_cons_zero]; exact rfl)
                case hq481 => exact fun _ _ _ h => h
                case hw481 => rfl
                case hy481 => (intro w hSw; (try dsimp only at hSw); go_simp; try exact rfl)
                simp only [Act.put, List.setIfInBounds_toArray, List.set_cons_zero, List.set_cons_succ]
                refine wpAnyH_take (i := 3) (oi := ?o482) (v := ?v482) ?hi482 (by kernel_rfl) (by kernel_rfl) (by kernel_rfl) ?hq482 (Or.inl ⟨?hw482, ?hy482⟩) (by assumption) ?r482
                case hi482 => (simp only [List.getElem?_toArray, List.getElem?_cons_succ, List.getElem?_cons_zero]; exact rfl)
                case hq482 => exact fun _ _ _ h => h
                case hw482 => rfl
                case hy482 => (intro w hSw; (try dsimp only at hSw); go_simp; try exact rfl)
                simp only [Act.put, List.setIfInBounds_toArray, List.set_cons_zero, List.set_cons_succ]
                refine wpAnyH_take (i := 4) (oi := ?o483) (v := ?v483) ?hi483 (by kernel_rfl) (by kernel_rfl) (by kernel_rfl) ?hq483 (Or.inl ⟨?hw483, ?hy483⟩) (by assumption) ?r483
                case hi483 => (simp only [List.getElem?_toArray, List.getElem?_cons_succ, List.getElem?_cons_zero]; exact rfl)
                case hq483 => exact fun _ _ _ h => h
                case hw483 => rfl
                case hy483 => (intro w hSw; (try dsimp only at hSw); go_simp; try exact rfl)
                simp only [Act.put, List.setIfInBounds_toArray, List.set_cons_zero, List.set_cons_succ]
                refine wpAnyH_take (i := 5) (oi := ?o484) (v := ?v484) ?hi484 (by kernel_rfl) (by kernel_rfl) (by kernel_rfl) ?hq484 (Or.inl ⟨?hw484, ?hy484⟩) (by assumption) ?r484
                case hi484 => (simp only [List.getElem?_toArray, List.getElem?_cons_succ, List.getElem?_cons_zero]; exact rfl)
                case hq484 => exact fun _ _ _ h => h
                case hw484 => rfl
                case hy484 => (intro w hSw; (try dsimp only at hSw); go_simp; try exact rfl)
                simp only [Act.put, List.setIfInBounds_toArray, List.set_cons_zero, List.set_cons_succ]
                refine wpAnyH_take (i := 6) (oi := ?o485) (v := ?v485) ?hi485 (by kernel_rfl) (by kernel_rfl) (by kernel_rfl) ?hq485 (Or.inl ⟨?hw485, ?hy485⟩) (by assumption) ?r485
                case hi485 => (simp only [List.getElem?_toArray, List.getElem?_cons_succ, List.getElem?_cons_zero]; exact rfl)
                case hq485 => exact fun _ _ _ h => h
                case hw485 => rfl
                case hy485 => (intro w hSw; (try dsimp only at hSw); go_simp; try exact rfl)
                simp only [Act.put, List.setIfInBounds_toArray, List.set_cons_zero, List.set_cons_succ]
                refine wpAnyH_take (i := 7) (oi := ?o486) (v := ?v486) ?hi486 (by kernel_rfl) (by kernel_rfl) (by kernel_rfl) ?hq486 (Or.inl ⟨?hw486, ?hy486⟩) (by assumption) ?r486
                case hi486 => (simp only [List.getElem?_toArray, List.getElem?_cons_succ, List.getElem?_cons_zero]; exact rfl)
                case hq486 => exact fun _ _ _ h => h
                case hw486 => rfl
                case hy486 => (intro w hSw; (try dsimp only at hSw); go_simp; try exact rfl)
                simp only [Act.put, List.setIfInBounds_toArray, List.set_cons_zero, List.set_cons_succ]
                refine wpAnyH_take (i := 9) (oi := ?o487) (v := ?v487) ?hi487 (by kernel_rfl) (by kernel_rfl) (by kernel_rfl) ?hq487 (Or.inl ⟨?hw487, ?hy487⟩) (by assumption) ?r487
                case hi487 => (simp only [List.getElem?_toArray, List.getElem?_cons_succ, List.getElem?_cons_zero]; exact rfl)
                case hq487 => exact fun _ _ _ h => h
                case hw487 => rfl
                case hy487 => (intro w hSw; (try dsimp only at hSw); go_simp; try exact rfl)
                simp only [Act.put, List.setIfInBounds_toArray, List.set_cons_zero, List.set_cons_succ]
                refine wpAnyH_take (i := 10) (oi := ?o488) (v := ?v488) ?hi488 (by kernel_rfl) (by kernel_rfl) (by kernel_rfl) ?hq488 (Or.inl ⟨?hw488, ?hy488⟩) (by assumption) ?r488
                case hi488 => (simp only [List.getElem?_toArray, List.getElem?_cons_succ, List.getElem?_cons_zero]; exact rfl)
                case hq488 => exact fun _ _ _ h => h
                case hw488 => rfl
                case hy488 => (intro w hSw; (try dsimp only at hSw); go_simp; try exact rfl)
                simp only [Act.put, List.setIfInBounds_toArray, List.set_cons_zero, List.set_cons_succ]
                refine wpAnyH_take (i := 11) (oi := ?o489) (v := ?v489) ?hi489 (by kernel_rfl) (by kernel_rfl) (by kernel_rfl) ?hq489 (Or.inl ⟨?hw489, ?hy489⟩) (by assumption) ?r489
                case hi489 => (simp only [List.getElem?_toArray, List.getElem?_cons_succ, List.getElem?_cons_zero]; exact rfl)
                case hq489 => exact fun _ _ _ h => h
                case hw489 => rfl
                case hy489 => (intro w hSw; (try dsimp only at hSw); go_simp; try exact rfl)
                simp only [Act.put, List.setIfInBounds_toArray, List.set_cons_zero, List.set_cons_succ]
                refine wpAnyH_take (i := 12) (oi := ?o490) (v := ?v490) ?hi490 (by kernel_rfl) (by kernel_rfl) (by kernel_rfl) ?hq490 (Or.inl ⟨?hw490, ?hy490⟩) (by assumption) ?r490
                case hi490 => (simp only [List.getElem?_toArray, List.getElem?_cons_succ, List.getElem?_cons_zero]; exact rfl)
                case hq490 => exact fun _ _ _ h => h
                case hw490 => rfl
                case hy490 => (intro w hSw; (try dsimp only at hSw); go_simp; try exact rfl)
                simp only [Act.put, List.setIfInBounds_toArray, List.set_cons_zero, List.set_cons_succ]
                refine wpAnyH_ready (rs := [8]) (by kernel_rfl) (by simp) ?_
                refine AllReadyH.cons (o := ?o534) ?hi534 (fun K hK => ?_) AllReadyH.nil
                case hi534 => (simp only [List.getElem?_toArray, List.getElem?_cons_succ, List.getElem?_cons_zero]; exact rfl)
                go_simp
                go_at_call 22
                refine DN.out.mono ?_
                rintro e w' ⟨rfl, rfl⟩
                refine hK.out _ _ hHeld (fun _ => ?_)
                clear hK K
                try simp only [Act.put, List.setIfInBounds_toArray, List.set_cons_zero, List.set_cons_succ]
                refine wpAnyH_take (i := 13) (oi := ?o491) (v := ?v491) ?hi491 (by kernel_rfl) (by kernel_rfl) (by kernel_rfl) ?hq491 (Or.inl ⟨?hw491, ?hy491⟩) (by assumption) ?r491
                case hi491 => (simp only [List.getElem?_toArray, List.getElem?_cons_succ, List.getElem?_cons_zero]; exact rfl)
                case hq491 => exact fun _ _ _ h => h
                case hw491 => rfl
                case hy491 => (intro w hSw; (try dsimp only at hSw); go_simp; try exact rfl)
                simp only [Act.put, List.setIfInBounds_toArray, List.set_cons_zero, List.set_cons_succ]
                refine wpAnyH_take (i := 14) (oi := ?o492) (v := ?v492) ?hi492 (by kernel_rfl) (by kernel_rfl) (by kernel_rfl) ?hq492 (Or.inl ⟨?hw492, ?hy492⟩) (by assumption) ?r492
                case hi492 => (simp only [List.getElem?_toArray, List.getElem?_cons_succ, List.getElem?_cons_zero]; exact rfl)
                case hq492 => exact fun _ _ _ h => h
                case hw492 => rfl
                case hy492 => (intro w hSw; (try dsimp only at hSw); go_simp; try exact rfl)
                simp only [Act.put, List.setIfInBounds_toArray, List.set_cons_zero, List.set_cons_succ]
                refine wpAnyH_take (i := 15) (oi := ?o493) (v := ?v493) ?hi493 (by kernel_rfl) (by kernel_rfl) (by kernel_rfl) ?hq493 (Or.inl ⟨?hw493, ?hy493⟩) (by assumption) ?r493
                case hi493 => (simp only [List.getElem?_toArray, List.getElem?_cons_succ, List.getElem?_cons_zero]; exact rfl)
                case hq493 => exact fun _ _ _ h => h
                case hw493 => rfl
                case hy493 => (intro w hSw; (try dsimp only at hSw); go_simp; try exact rfl)
                simp only [Act.put, List.setIfInBounds_toArray, List.set_cons_zero, List.set_cons_succ]
                refine wpAnyH_take (i := 16) (oi := ?o494) (v := ?v494) ?hi494 (by kernel_rfl) (by kernel_rfl) (by kernel_rfl) ?hq494 (Or.inl ⟨?hw494, ?hy494⟩) (by assumption) ?r494
                case hi494 => (simp only [List.getElem?_toArray, List.getElem?_cons_succ, List.getElem?_cons_zero]; exact rfl)
                case hq494 => exact fun _ _ _ h => h
                case hw494 => rfl
                case hy494 => (intro w hSw; (try dsimp only at hSw); go_simp; try exact rfl)
                simp only [Act.put, List.setIfInBounds_toArray, List.set_cons_zero, List.set_cons_succ]
                refine wpAnyH_ready (rs := [17]) (by kernel_rfl) (by simp) ?_
                refine AllReadyH.cons (o := ?o535) ?hi535 (fun K hK => ?_) AllReadyH.nil
                case hi535 => (simp only [List.getElem?_toArray, List.getElem?_cons_succ, List.getElem?_cons_zero]; exact rfl)
                go_simp
                go_at_call 22
                refine DN.out.mono ?_
                rintro e w' ⟨rfl, rfl⟩
                refine hK.out _ _ hHeld (fun _ => ?_)
                clear hK K DN
                try simp only [Act.put, List.setIfInBounds_toArray, List.set_cons_zero, List.set_cons_succ]
                have SM := Kept.mk (same_any api SY.out RY.out (LV.out hdn))
                refine wpAnyH_take (i := 18) (oi := ?o495) (v := ?v495) ?hi495 (by kernel_rfl) (by kernel_rfl) (by kernel_rfl) ?hq495 (Or.inl ⟨?hw495, ?hy495⟩) (by assumption) ?r495
                case hi495 => (simp only [List.getElem?_toArray, List.getElem?_cons_succ, List.getElem?_cons_zero]; exact rfl)
                case hq495 => exact fun _ _ _ h => h
                case hw495 => rfl
                case hy495 => (intro w hSw; (try dsimp only at hSw); go_simp; try exact rfl)
                simp only [Act.put, List.setIfInBounds_toArray, List.set_cons_zero, List.set_cons_succ]
                refine wpAnyH_take (i := 19) (oi := ?o496) (v := ?v496) ?hi496 (by kernel_rfl) (by kernel_rfl) (by kernel_rfl) ?hq496 (Or.inl ⟨?hw496, ?hy496⟩) (by assumption) ?r496
                case hi496 => (simp only [List.getElem?_toArray, List.getElem?_cons_succ, List.getElem?_cons_zero]; exact rfl)
                case hq496 => exact fun _ _ _ h => h
                case hw496 => rfl
                case hy496 => (intro w hSw; (try dsimp only at hSw); go_simp; try exact rfl)
                simp only [Act.put, List.setIfInBounds_toArray, List.set_cons_zero, List.set_cons_succ]
                refine wpAnyH_take (i := 20) (oi := ?o497) (v := ?v497) ?hi497 (by kernel_rfl) (by kernel_rfl) (by kernel_rfl) ?hq497 (Or.inl ⟨?hw497, ?hy497⟩) (by assumption) ?r497
                case hi497 => (simp only [List.getElem?_toArray, List.getElem?_cons_succ, List.getElem?_cons_zero]; exact rfl)
                case hq497 => exact fun _ _ _ h => h
                case hw497 => rfl
                case hy497 => (intro w hSw; (try dsimp only at hSw); go_simp; try exact rfl)
                simp only [Act.put, List.setIfInBounds_toArray, List.set_cons_zero, List.set_cons_succ]
                refine wpAnyH_take (i := 21) (oi := ?o498) (v := ?v498) ?hi498 (by kernel_rfl) (by kernel_rfl) (by kernel_rfl) ?hq498 (Or.inl ⟨?hw498, ?hy498⟩) (by assumption) ?r498
                case hi498 => (simp only [List.getElem?_toArray, List.getElem?_cons_succ, List.getElem?_cons_zero]; exact rfl)
                case hq498 => exact fun _ _ _ h => h
                case hw498 => rfl
                case hy498 => (intro w hSw; (try dsimp only at hSw); go_simp; try exact rfl)
                simp only [Act.put, List.setIfInBounds_toArray, List.set_cons_zero, List.set_cons_succ]
                refine wpAnyH_ready (rs := [22]) (by kernel_rfl) (by simp) ?_
                refine AllReadyH.cons (o := ?o536) ?hi536 (fun K hK => ?_) AllReadyH.nil
                case hi536 => (simp only [List.getElem?_toArray, List.getElem?_cons_succ, List.getElem?_cons_zero]; exact rfl)
                go_simp
                go_at_call 23
                refine SM.out.mono ?_
                rintro e wu ⟨rfl, bu⟩
                replace SY := Sy.below api.base SY bu
                replace RY := Kept.mk (RY.out.below bu)
                replace B := step_below B bu
                clear bu SM
                obtain ⟨x4, -⟩ := RY.out.down4
                rw [hdn] at x4
                refine hK.out _ _ x4 (fun _ => ?_)
                clear hK K hHeld x4
                try simp only [Act.put, List.setIfInBounds_toArray, List.set_cons_zero, List.set_cons_succ]
                refine wpAnyH_take (i := 23) (oi := ?o499) (v := ?v499) ?hi499 (by kernel_rfl) (by kernel_rfl) (by kernel_rfl) ?hq499 (Or.inl ⟨?hw499, ?hy499⟩) (by assumption) ?r499
                case hi499 => (simp only [List.getElem?_toArray, List.getElem?_cons_succ, List.getElem?_cons_zero]; exact rfl)
                case hq499 => exact fun _ _ _ h => h
                case hw499 => rfl
                case hy499 => (intro w hSw; (try dsimp only at hSw); go_simp; try exact rfl)
                simp only [Act.put, List.setIfInBounds_toArray, List.set_cons_zero, List.set_cons_succ]
                refine wpAnyH_take (i := 24) (oi := ?o500) (v := ?v500) ?hi500 (by kernel_rfl) (by kernel_rfl) (by kernel_rfl) ?hq500 (Or.inl ⟨?hw500, ?hy500⟩) (by assumption) ?r500
                case hi500 => (simp only [List.getElem?_toArray, List.getElem?_cons_succ, List.getElem?_cons_zero]; exact rfl)
                case hq500 => exact fun _ _ _ h => h
                case hw500 => rfl
                case hy500 => (intro w hSw; (try dsimp only at hSw); go_simp; try exact rfl)
                simp only [Act.put, List.setIfInBounds_toArray, List.set_cons_zero, List.set_cons_succ]
                refine wpAnyH_take (i := 25) (oi := ?o501) (v := ?v501) ?hi501 (by kernel_rfl) (by kernel_rfl) (by kernel_rfl) ?hq501 (Or.inl ⟨?hw501, ?hy501⟩) (by assumption) ?r501
                case hi501 => (simp only [List.getElem?_toArray, List.getElem?_cons_succ, List.getElem?_cons_zero]; exact rfl)
                case hq501 => exact fun _ _ _ h => h
                case hw501 => rfl
                case hy501 => (intro w hSw; (try dsimp only at hSw); go_simp; try exact rfl)
                simp only [Act.put, List.setIfInBounds_toArray, List.set_cons_zero, List.set_cons_succ]
                refine wpAnyH_done (by kernel_rfl) ?_ _
                refine NoPanic.normal ?_
                go_wp2
                go_roundw
                case rel => exact ⟨k + 1, j, x, H, H2, _, _, by omega, by go_num, rfl, rfl, SY, RY, DJ, LV, B, L, M⟩
                case measure => simp [Go.RowKit.intOf]; omega
              | true =>
                obtain ⟨x4, -⟩ := RY.out.down4
                rw [hdn] at x4
                go_upto_region 34 with (fail)
                refine wp_region_noPanic ?_
                refine wp_region_held_drew (S := fun w' : World => w'.cell? ⟨y, 4, none⟩ = some (.bool true)) (by kernel_rfl) x4 (fun hHeld => ?_)
                have bd : Below wc.heap.size wc wc.drew := (Below.refl _ _).drew
                replace SY := Sy.below api.base SY bd
                replace RY := Kept.mk (RY.out.below bd)
                replace B := step_below B bd
                clear bd x4
                generalize wc.drew = wt at *
                have DN := Kept.mk (sy_down SY.out)
                rw [hdn] at DN
                refine wpAnyH_take (i := 0) (oi := ?o502) (v := ?v502) ?hi502 (by kernel_rfl) (by kernel_rfl) (by kernel_rfl) ?hq502 (Or.inl ⟨?hw502, ?hy502⟩) (by assumption) ?r502
                case hi502 => (simp only [List.getElem?_toArray, List.getElem?_cons_zero]; exact rfl)
                case hq502 => exact fun _ _ _ h => h
                case hw502 => rfl
                case hy502 => (intro w hSw; (try dsimp only at hSw); go_simp; try exact rfl)
                simp only [Act.put, List.setIfInBounds_toArray, List.set_cons_zero, List.set_cons_succ]
                refine wpAnyH_take (i := 1) (oi := ?o503) (v := ?v503) ?hi503 (by kernel_rfl) (by kernel_rfl) (by kernel_rfl) ?hq503 (Or.inl ⟨?hw503, ?hy503⟩) (by assumption) ?r503
                case hi503 => (simp only [List.getElem?_toArray, List.getElem?_cons_succ, List.getElem?_cons_zero]; exact rfl)
                case hq503 => exact fun _ _ _ h => h
                case hw503 => rfl
                case hy503 => (intro w hSw; (try dsimp only at hSw); go_simp; try exact rfl)
                simp only [Act.put, List.setIfInBounds_toArray, List.set_cons_zero, List.set_cons_succ]
                refine wpAnyH_take (i := 2) (oi := ?o504) (v := ?v504) ?hi504 (by kernel_rfl) (by kernel_rfl) (by kernel_rfl) ?hq504 (Or.inl ⟨?hw504, ?hy504⟩) (by assumption) ?r504
                case hi504 => (simp only [List.getElem?_toArray, List.getElem?_cons_succ, List.getElem?_cons_zero]; exact rfl)
                case hq504 => exact fun _ _ _ h => h
                case hw504 => rfl
                case hy504 => (intro w hSw; (try dsimp only at hSw); go_simp; try exact rfl)
                simp only [Act.put, List.setIfInBounds_toArray, List.set_cons_zero, List.set_cons_succ]
                refine wpAnyH_take (i := 3) (oi := ?o505) (v := ?v505) ?hi505 (by kernel_rfl) (by kernel_rfl) (by kernel_rfl) ?hq505 (Or.inl ⟨?hw505, ?hy505⟩) (by assumption) ?r505
                case hi505 => (simp only [List.getElem?_toArray, List.getElem?_cons_succ, List.getElem?_cons_zero]; exact rfl)
                case hq505 => exact fun _ _ _ h => h
                case hw505 => rfl
                case hy505 => (intro w hSw; (try dsimp only at hSw); go_simp; try exact rfl)
                simp only [Act.put, List.setIfInBounds_toArray, List.set_cons_zero, List.set_cons_succ]
                refine wpAnyH_take (i := 4) (oi := ?o506) (v := ?v506) ?hi506 (by kernel_rfl) (by kernel_rfl) (by kernel_rfl) ?hq506 (Or.inl ⟨?hw506, ?hy506⟩) (by assumption) ?r506
                case hi506 => (simp only [List.getElem?_toArray, List.getElem?_cons_succ, List.getElem?_cons_zero]; exact rfl)
                case hq506 => exact fun _ _ _ h => h
                case hw506 => rfl
                case hy506 => (intro w hSw; (try dsimp only at hSw); go_simp; try exact rfl)
                simp only [Act.put, List.setIfInBounds_toArray, List.set_cons_zero, List.set_cons_succ]
                refine wpAnyH_take (i := 5) (oi := ?o507) (v := ?v507) ?hi507 (by kernel_rfl) (by kernel_rfl) (by kernel_rfl) ?hq507 (Or.inl ⟨?hw507, ?hy507⟩) (by assumption) ?r507
                case hi507 => (simp only [List.getElem?_toArray, List.getElem?_cons_succ, List.getElem?_cons_zero]; exact rfl)
                case hq507 => exact fun _ _ _ h => h
                case hw507 => rfl
                case hy507 => (intro w hSw; (try dsimp only at hSw); go_simp; try exact rfl)
                simp only [Act.put, List.setIfInBounds_toArray, List.set_cons_zero, List.set_cons_succ]
                refine wpAnyH_take (i := 6) (oi := ?o508) (v := ?v508) ?hi508 (by kernel_rfl) (by kernel_rfl) (by kernel_rfl) ?hq508 (Or.inl ⟨?hw508, ?hy508⟩) (by assumption) ?r508
                case hi508 => (simp only [List.getElem?_toArray, List.getElem?_cons_succ, List.getElem?_cons_zero]; exact rfl)
                case hq508 => exact fun _ _ _ h => h
                case hw508 => rfl
                case hy508 => (intro w hSw; (try dsimp only at hSw); go_simp; try exact rfl)
                simp only [Act.put, List.setIfInBounds_toArray, List.set_cons_zero, List.set_cons_succ]
                refine wpAnyH_take (i := 7) (oi := ?o509) (v := ?v509) ?hi509 (by kernel_rfl) (by kernel_rfl) (by kernel_rfl) ?hq509 (Or.inl ⟨?hw509, ?hy509⟩) (by assumption) ?r509
                case hi509 => (simp only [List.getElem?_toArray, List.getElem?_cons_succ, List.getElem?_cons_zero]; exact rfl)
                case hq509 => exact fun _ _ _ h => h
                case hw509 => rfl
                case hy509 => (intro w hSw; (try dsimp only at hSw); go_simp; try exact rfl)
                simp only [Act.put, List.setIfInBounds_toArray, List.set_cons_zero, List.set_cons_succ]
                refine wpAnyH_take (i := 9) (oi := ?o510) (v := ?v510) ?hi510 (by kernel_rfl) (by kernel_rfl) (by kernel_rfl) ?hq510 (Or.inl ⟨?hw510, ?hy510⟩) (by assumption) ?r510
                case hi510 => (simp only [List.getElem?_toArray, List.getElem?_cons_succ, List.getElem?_cons_zero]; exact rfl)
                case hq510 => exact fun _ _ _ h => h
                case hw510 => rfl
                case hy510 => (intro w hSw; (try dsimp only at hSw); go_simp; try exact rfl)
                simp only [Act.put, List.setIfInBounds_toArray, List.set_cons_zero, List.set_cons_succ]
                refine wpAnyH_take (i := 10) (oi := ?o511) (v := ?v511) ?hi511 (by kernel_rfl) (by kernel_rfl) (by kernel_rfl) ?hq511 (Or.inl ⟨?hw511, ?hy511⟩) (by assumption) ?r511
                case hi511 => (simp only [List.getElem?_toArray, List.getElem?_cons_succ, List.getElem?_cons_zero]; exact rfl)
                case hq511 => exact fun _ _ _ h => h
                case hw511 => rfl
                case hy511 => (intro w hSw; (try dsimp only at hSw); go_simp; try exact rfl)
                simp only [Act.put, List.setIfInBounds_toArray, List.set_cons_zero, List.set_cons_succ]
                refine wpAnyH_take (i := 11) (oi := ?o512) (v := ?v512) ?hi512 (by kernel_rfl) (by kernel_rfl) (by kernel_rfl) ?hq512 (Or.inl ⟨?hw512, ?hy512⟩) (by assumption) ?r512
                case hi512 => (simp only [List.getElem?_toArray, List.getElem?_cons_succ, List.getElem?_cons_zero]; exact rfl)
                case hq512 => exact fun _ _ _ h => h
                case hw512 => rfl
                case hy512 => (intro w hSw; (try dsimp only at hSw); go_simp; try exact rfl)
                simp only [Act.put, List.setIfInBounds_toArray, List.set_cons_zero, List.set_cons_succ]
                refine wpAnyH_take (i := 12) (oi := ?o513) (v := ?v513) ?hi513 (by kernel_rfl) (by kernel_rfl) (by kernel_rfl) ?hq513 (Or.inl ⟨?hw513, ?hy513⟩) (by assumption) ?r513
                case hi513 => (simp only [List.getElem?_toArray, List.getElem?_cons_succ, List.getElem?_cons_zero]; exact rfl)
                case hq513 => exact fun _ _ _ h => h
                case hw513 => rfl
                case hy513 => (intro w hSw; (try dsimp only at hSw); go_simp; try exact rfl)
                simp only [Act.put, List.setIfInBounds_toArray, List.set_cons_zero, List.set_cons_succ]
                refine wpAnyH_ready (rs := [8]) (by kernel_rfl) (by simp) ?_
                refine AllReadyH.cons (o := ?o537) ?hi537 (fun K hK => ?_) AllReadyH.nil
                case hi537 => (simp only [List.getElem?_toArray, List.getElem?_cons_succ, List.getElem?_cons_zero]; exact rfl)
                go_simp
                go_at_call 22
                refine DN.out.mono ?_
                rintro e w' ⟨rfl, rfl⟩
                refine hK.out _ _ hHeld (fun _ => ?_)
                clear hK K
                try simp only [Act.put, List.setIfInBounds_toArray, List.set_cons_zero, List.set_cons_succ]
                refine wpAnyH_take (i := 13) (oi := ?o514) (v := ?v514) ?hi514 (by kernel_rfl) (by kernel_rfl) (by kernel_rfl) ?hq514 (Or.inl ⟨?hw514, ?hy514⟩) (by assumption) ?r514
                case hi514 => (simp only [List.getElem?_toArray, List.getElem?_cons_succ, List.getElem?_cons_zero]; exact rfl)
                case hq514 => exact fun _ _ _ h => h
                case hw514 => rfl
                case hy514 => (intro w hSw; (try dsimp only at hSw); go_simp; try exact rfl)
                simp only [Act.put, List.setIfInBounds_toArray, List.set_cons_zero, List.set_cons_succ]
                refine wpAnyH_take (i := 14) (oi := ?o515) (v := ?v515) ?hi515 (by kernel_rfl) (by kernel_rfl) (by kernel_rfl) ?hq515 (Or.inl ⟨?hw515, ?hy515⟩) (by assumption) ?r515
                case hi515 => (simp only [List.getElem?_toArray, List.getElem?_cons_succ, List.getElem?_cons_zero]; exact rfl)
                case hq515 => exact fun _ _ _ h => h
                case hw515 => rfl
                case hy515 => (intro w hSw; (try dsimp only at hSw); go_simp; try exact rfl)
                simp only [Act.put, List.setIfInBounds_toArray, List.set_cons_zero, List.set_cons_succ]
                refine wpAnyH_take (i := 15) (oi := ?o516) (v := ?v516) ?hi516 (by kernel_rfl) (by kernel_rfl) (by kernel_rfl) ?hq516 (Or.inl ⟨?hw516, ?hy516⟩) (by assumption) ?r516
                case hi516 => (simp only [List.getElem?_toArray, List.getElem?_cons_succ, List.getElem?_cons_zero]; exact rfl)
                case hq516 => exact fun _ _ _ h => h
                case hw516 => rfl
                case hy516 => (intro w hSw; (try dsimp only at hSw); go_simp; try exact rfl)
                simp only [Act.put, List.setIfInBounds_toArray, List.set_cons_zero, List.set_cons_succ]
                refine wpAnyH_take (i := 16) (oi := ?o517) (v := ?v517) ?hi517 (by kernel_rfl) (by kernel_rfl) (by kernel_rfl) ?hq517 (Or.inl ⟨?hw517, ?hy517⟩) (by assumption) ?r517
                case hi517 => (simp only [List.getElem?_toArray, List.getElem?_cons_succ, List.getElem?_cons_zero]; exact rfl)
                case hq517 => exact fun _ _ _ h => h
                case hw517 => rfl
                case hy517 => (intro w hSw; (try dsimp only at hSw); go_simp; try exact rfl)
                simp only [Act.put, List.setIfInBounds_toArray, List.set_cons_zero, List.set_cons_succ]
                refine wpAnyH_ready (rs := [17]) (by kernel_rfl) (by simp) ?_
                refine AllReadyH.cons (o := ?o538) ?hi538 (fun K hK => ?_) AllReadyH.nil
                case hi538 => (simp only [List.getElem?_toArray, List.getElem?_cons_succ, List.getElem?_cons_zero]; exact rfl)
                go_simp
                go_at_call 22
                refine DN.out.mono ?_
                rintro e w' ⟨rfl, rfl⟩
                refine hK.out _ _ hHeld (fun _ => ?_)
                clear hK K DN
                try simp only [Act.put, List.setIfInBounds_toArray, List.set_cons_zero, List.set_cons_succ]
                refine wpAnyH_take (i := 18) (oi := ?o518) (v := ?v518) ?hi518 (by kernel_rfl) (by kernel_rfl) (by kernel_rfl) ?hq518 (Or.inl ⟨?hw518, ?hy518⟩) (by assumption) ?r518
                case hi518 => (simp only [List.getElem?_toArray, List.getElem?_cons_succ, List.getElem?_cons_zero]; exact rfl)
                case hq518 => exact fun _ _ _ h => h
                case hw518 => rfl
                case hy518 => (intro w hSw; (try dsimp only at hSw); go_simp; try exact rfl)
                simp only [Act.put, List.setIfInBounds_toArray, List.set_cons_zero, List.set_cons_succ]
                refine wpAnyH_take (i := 19) (oi := ?o519) (v := ?v519) ?hi519 (by kernel_rfl) (by kernel_rfl) (by kernel_rfl) ?hq519 (Or.inl ⟨?hw519, ?hy519⟩) (by assumption) ?r519
                case hi519 => (simp only [List.getElem?_toArray, List.getElem?_cons_succ, List.getElem?_cons_zero]; exact rfl)
                case hq519 => exact fun _ _ _ h => h
                case hw519 => rfl
                case hy519 => (intro w hSw; (try dsimp only at hSw); go_simp; try exact rfl)
                simp only [Act.put, List.setIfInBounds_toArray, List.set_cons_zero, List.set_cons_succ]
                refine wpAnyH_take (i := 20) (oi := ?o520) (v := undef) ?hi520 (by kernel_rfl) (by kernel_rfl) (by kernel_rfl) ?hq520 (Or.inr ⟨?hw520, rfl⟩) (by assumption) ?r520
                case hi520 => (simp only [List.getElem?_toArray, List.getElem?_cons_succ, List.getElem?_cons_zero]; exact rfl)
                case hq520 => exact fun _ _ _ h => h
                case hw520 => rfl
                simp only [Act.put, List.setIfInBounds_toArray, List.set_cons_zero, List.set_cons_succ]
                refine wpAnyH_take (i := 21) (oi := ?o521) (v := undef) ?hi521 (by kernel_rfl) (by kernel_rfl) (by kernel_rfl) ?hq521 (Or.inr ⟨?hw521, rfl⟩) (by assumption) ?r521
                case hi521 => (simp only [List.getElem?_toArray, List.getElem?_cons_succ, List.getElem?_cons_zero]; exact rfl)
                case hq521 => exact fun _ _ _ h => h
                case hw521 => rfl
                simp only [Act.put, List.setIfInBounds_toArray, List.set_cons_zero, List.set_cons_succ]
                refine wpAnyH_take (i := 22) (oi := ?o522) (v := undef) ?hi522 (by kernel_rfl) (by kernel_rfl) (by kernel_rfl) ?hq522 (Or.inr ⟨?hw522, rfl⟩) (by assumption) ?r522
                case hi522 => (simp only [List.getElem?_toArray, List.getElem?_cons_succ, List.getElem?_cons_zero]; exact rfl)
                case hq522 => exact fun _ _ _ h => h
                case hw522 => rfl
                simp only [Act.put, List.setIfInBounds_toArray, List.set_cons_zero, List.set_cons_succ]
                refine wpAnyH_take (i := 23) (oi := ?o523) (v := undef) ?hi523 (by kernel_rfl) (by kernel_rfl) (by kernel_rfl) ?hq523 (Or.inr ⟨?hw523, rfl⟩) (by assumption) ?r523
                case hi523 => (simp only [List.getElem?_toArray, List.getElem?_cons_succ, List.getElem?_cons_zero]; exact rfl)
                case hq523 => exact fun _ _ _ h => h
                case hw523 => rfl
                simp only [Act.put, List.setIfInBounds_toArray, List.set_cons_zero, List.set_cons_succ]
                refine wpAnyH_take (i := 24) (oi := ?o524) (v := ?v524) ?hi524 (by kernel_rfl) (by kernel_rfl) (by kernel_rfl) ?hq524 (Or.inl ⟨?hw524, ?hy524⟩) (by assumption) ?r524
                case hi524 => (simp only [List.getElem?_toArray, List.getElem?_cons_succ, List.getElem?_cons_zero]; exact rfl)
                case hq524 => exact fun _ _ _ h => h
                case hw524 => rfl
                case hy524 => (intro w hSw; (try dsimp only at hSw); go_simp; try exact rfl)
                simp only [Act.put, List.setIfInBounds_toArray, List.set_cons_zero, List.set_cons_succ]
                refine wpAnyH_take (i := 25) (oi := ?o525) (v := ?v525) ?hi525 (by kernel_rfl) (by kernel_rfl) (by kernel_rfl) ?hq525 (Or.inl ⟨?hw525, ?hy525⟩) (by assumption) ?r525
                case hi525 => (simp only [List.getElem?_toArray, List.getElem?_cons_succ, List.getElem?_cons_zero]; exact rfl)
                case hq525 => exact fun _ _ _ h => h
                case hw525 => rfl
                case hy525 => (intro w hSw; (try dsimp only at hSw); go_simp; try exact rfl)
                simp only [Act.put, List.setIfInBounds_toArray, List.set_cons_zero, List.set_cons_succ]
                clear hHeld
                refine wpAnyH_done (by kernel_rfl) ?_ _
                refine NoPanic.normal ?_
                go_wp2
                go_roundw
                case rel => exact ⟨k + 1, j, x, H, H2, _, _, by omega, by go_num, rfl, rfl, SY, RY, DJ, LV, B, L, M⟩
                case measure => simp [Go.RowKit.intOf]; omega
          · have hkn' : ¬ (k : Int) < len := by omega
            go_wp2_with fail
            refine (jfirst_any api wr).mono ?_
            rintro e w8 ⟨rfl, b8⟩
            replace B := step_below B b8
            go_wp2
            go_ret
            exact ⟨rfl, B.out⟩
end Go.Proofs.YtkbehjdglgpgjaaGreat.Journal
