/-
  The law DiskPlays, walked.
-/
import Derived.Test.YtgjmnefninmoiaaDiskTwice
import Derived.Test.YtgjmnefninmoiaaDiskRef6
import Derived.Deep.RegionHeld3
import Derived.LoopN
namespace Go.Proofs.Ytgjmnefninmoiaa.Disk
open Go.RowKit Go.Proofs.Ytgjmnefninmoiaa.Sha

theorem Dr.down4 {w : World} {F : List Nat} {d n : Nat} {s : DS} (h : Dr w F d n s) : w.cell? ⟨d, 4, none⟩ = some (.bool s.down) := by
  obtain ⟨-, gn, cn, gl, cl, vp, h1, -⟩ := h
  exact h1.cell 4
theorem op_cells {w : World} {O : Nat} {kd q z b : Int} {ka : Option Addr} {kl kc : Nat} (h : Blk w O 34 #[.int .i64 kd, .int .i64 q, .int .i64 z, .int .u8 b, .slice ka kl kc]) :
    w.cell? ⟨O, 0, none⟩ = some (.int .i64 kd) ∧ w.cell? ⟨O, 1, none⟩ = some (.int .i64 q) ∧ w.cell? ⟨O, 2, none⟩ = some (.int .i64 z) ∧ w.cell? ⟨O, 3, none⟩ = some (.int .u8 b) ∧ w.cell? ⟨O, 4, none⟩ = some (.slice ka kl kc) :=
  ⟨h.cell 0, h.cell 1, h.cell 2, h.cell 3, h.cell 4⟩
theorem off_step {w w' : World} {F F' : List Nat} {O : Nat} (h : Kept (O ∉ F)) (hO : O < w.heap.size) (fp : Fp F F' w w') : Kept (O ∉ F') := ⟨fun hm => by
  rcases fp.2 O hm with h1 | h1
  · exact h.out h1
  · omega⟩
section
variable {Dk : World → List Nat → Nat → Nat → DS → Prop}
theorem mv_d {w w' : World} {F F' G : List Nat} {xb n : Nat} {s : DS} (X : Kept (Dr w G xb n s)) (DJ : Kept (Disj F G)) (fp : Fp F F' w w') : Kept (Dr w' G xb n s) ∧ Kept (Disj F' G) :=
  ⟨⟨X.out.keep fp.1 DJ.out.symm⟩, ⟨DJ.out.step fp X.out.lts⟩⟩
theorem mv_x (api : DiskApi Dk) {w w' : World} {F G G' : List Nat} {d n : Nat} {s : DS} (D : Kept (Dk w F d n s)) (DJ : Kept (Disj F G)) (fp : Fp G G' w w') : Kept (Dk w' F d n s) ∧ Kept (Disj F G') :=
  ⟨⟨api.keep D.out fp.1 DJ.out⟩, ⟨(DJ.out.symm.step fp (api.lts D.out)).symm⟩⟩
set_option maxRecDepth 100000 in
set_option maxHeartbeats 2000000 in
theorem plays_walk (api : DiskApi Dk) (n : Int) (A : Option Addr) (len cap : Nat) (X0 : Nat → OpV) (w : World) (hr : Ops w A len X0) : Calls Try.prog 3 #[.int .i64 n, .slice A len cap] w (Holds w) := by
  have R := Kept.mk hr
  clear hr
  go_enter Try.func3, Try.ntmps3
  go_wp2_with fail
  refine (first_any api w).mono ?_
  rintro e w1 ⟨rfl, b1⟩
  have B := Kept.mk b1
  have R1 : Ops w1 A len X0 := by
    rcases R.out with h | ⟨b, o, hA, hc⟩
    · exact .inl h
    · exact .inr ⟨b, o, hA, fun r hr => (hc r hr).later B⟩
  have FW := Kept.mk (few_any A len cap X0 w1 R1)
  clear b1 R1
  go_wp2_with fail
  refine FW.out.mono ?_
  rintro e w2 ⟨t, rfl, ht, rfl⟩
  clear FW
  cases t with
  | false =>
    go_wp2_with fail
    refine (first_any api w1).mono ?_
    rintro e w9 ⟨rfl, b9⟩
    replace B := step_below B b9
    go_wp2
    go_ret
    exact ⟨rfl, B.out⟩
  | true =>
    have hl300 : len ≤ 300 := ht rfl
    clear ht
    by_cases hbig : 300 < n ∧ n ≤ 8192
    · obtain ⟨hb1, hb2⟩ := hbig
      go_wp2_with fail
      refine (first_any api w1).mono ?_
      rintro e w9 ⟨rfl, b9⟩
      replace B := step_below B b9
      go_wp2
      go_ret
      exact ⟨rfl, B.out⟩
    · by_cases hok : 1 ≤ n ∧ n ≤ 300
      · obtain ⟨hn1, hn300⟩ := hok
        obtain ⟨N, rfl⟩ : ∃ N : Nat, n = N := ⟨n.toNat, by omega⟩
        have hb1 : ¬ 300 < (N : Int) := by omega
        clear hbig
        go_wp2_with fail
        refine (api.new w1 N (by omega) (by omega)).mono ?_
        rintro e w2 ⟨d, F, rfl, dk, fp⟩
        have D := Kept.mk dk
        obtain ⟨B, L⟩ := step_fp B fp (none_least _)
        clear dk fp
        go_wp2_with fail
        refine (rnew_ok w2 N (by omega) (by omega)).mono ?_
        rintro e w3 ⟨xb, G, rfl, dk, fp⟩
        have X := Kept.mk dk
        have DJ : Kept (Disj F G) := ⟨(Disj.new (n := w2.heap.size) (fun g hg => by rcases fp.2 g hg with h | h; · simp at h
                                                                                    · exact h) (fun g hg => api.lts D.out g hg)).symm⟩
        replace D := Kept.mk (api.keep D.out fp.1 (fun _ _ => by simp))
        obtain ⟨B, M⟩ := step_fp B fp (none_least _)
        clear dk fp
        go_wp2
        go_loopw [9] (fun j wr => ∃ (k : Nat) (F G : List Nat) (s : DS), k ≤ len ∧ j = .int .i64 k ∧ Kept (Dk wr F d N s) ∧ Kept (Dr wr G xb N s) ∧ Kept (Disj F G) ∧ Kept (Below w.heap.size w wr) ∧ Kept (∀ g ∈ F, w.heap.size ≤ g) ∧ Kept (∀ g ∈ G, w.heap.size ≤ g)) (fun j _ => len - (intOf j).toNat)
        case atStart => exact ⟨0, F, G, _, by omega, rfl, D, X, DJ, B, L, M⟩
        case round =>
          clear D X DJ B L M
          obtain ⟨k, F, G, s, hk, rfl, D, X, DJ, B, L, M⟩ := hrel
          by_cases hkn : k < len
          · have hkn' : (k : Int) < len := by omega
            obtain ⟨bb, oo, rfl, OP⟩ := Ops.at_ R k hkn
            obtain ⟨x0, x1, x2, x3, hz, ka, kl, kc, x4, hkl, hkc, kr⟩ := OP.later B
            obtain ⟨-, -, -, -, -, ka', kl', kc', y4, -, -, kr0⟩ := OP
            have yy := y4
            rw [← B.out.cell (World.block_lt_of_cell? _ _ y4), x4] at yy
            simp only [Option.some.injEq, Value.slice.injEq] at yy
            obtain ⟨rfl, rfl, rfl⟩ := yy
            have KR := Kept.mk kr0
            clear kr kr0 y4
            generalize (X0 k).kind = kd at *
            generalize (X0 k).i = q at *
            generalize (X0 k).n = z at *
            generalize (X0 k).b = b at *
            generalize (X0 k).keep = bs at *
            go_upto_region 13 with (fail)
            have ob : Blk (wr.alloc (.cells #[.int .i64 kd, .int .i64 q, .int .i64 z, .int .u8 b, .slice ka kl kc] 34)) wr.heap.size 34 #[.int .i64 kd, .int .i64 q, .int .i64 z, .int .u8 b, .slice ka kl kc] := Blk.new _ _ _
            have OF : Kept (wr.heap.size ∉ F) := ⟨fun hm => by have := api.lts D.out _ hm; omega⟩
            have OG : Kept (wr.heap.size ∉ G) := ⟨fun hm => by have := X.out.lts _ hm; omega⟩
            have b4 : Below wr.heap.size wr (wr.alloc (.cells #[.int .i64 kd, .int .i64 q, .int .i64 z, .int .u8 b, .slice ka kl kc] 34)) := (Below.refl _ _).alloc (Nat.le_refl _) _
            replace D := api.below D b4
            replace X := Kept.mk (X.out.below b4)
            replace B := step_below B b4
            obtain ⟨O, hO⟩ : ∃ O, wr.heap.size = O := ⟨_, rfl⟩
            rw [hO] at ob OF OG ⊢
            have OB := Kept.mk ob
            clear ob b4 hO x0 x1 x2 x3 x4
            generalize wr.alloc (.cells #[.int .i64 kd, .int .i64 q, .int .i64 z, .int .u8 b, .slice ka kl kc] 34) = w4 at *
            by_cases h0 : kd = 0
            · subst h0
              obtain ⟨o0, o1, o2, o3, o4⟩ := op_cells OB.out
              go_upto_region 16 with (fail)
              refine wp_region_noPanic ?_
              refine wp_region_held_drew (S := fun w' : World => w'.cell? ⟨O, 0, none⟩ = some (.int .i64 0) ∧ w'.cell? ⟨O, 1, none⟩ = some (.int .i64 q) ∧ w'.cell? ⟨O, 2, none⟩ = some (.int .i64 z) ∧ w'.cell? ⟨O, 3, none⟩ = some (.int .u8 b) ∧ w'.cell? ⟨O, 4, none⟩ = some (.slice ka kl kc)) (by kernel_rfl) ⟨o0, o1, o2, o3, o4⟩ (fun _ => ?_)
              have bd : Below w4.heap.size w4 w4.drew := (Below.refl _ _).drew
              replace OB := Kept.mk (OB.out.below bd OB.out.lt)
              replace D := api.below D bd
              replace X := Kept.mk (X.out.below bd)
              replace B := step_below B bd
              clear bd o0 o1 o2 o3 o4
              generalize w4.drew = w5 at *
              refine wpAnyH_take (i := 0) (oi := ?o75) (v := ?v75) ?hi75 (by kernel_rfl) (by kernel_rfl) (by kernel_rfl) ?hq75 (Or.inl ⟨?hw75, ?hy75⟩) (by assumption) ?r75
              case hi75 => (simp only [List.getElem?_toArray, List.getElem?_cons_zero]; exact rfl)
              case hq75 => exact fun _ _ _ h => h
              case hw75 => rfl
              case hy75 => (intro w hSw; (try dsimp only at hSw); go_simp; try exact rfl)
              simp only [Act.put, List.setIfInBounds_toArray, List.set_cons_zero, List.set_cons_succ]
              refine wpAnyH_take (i := 1) (oi := ?o76) (v := ?v76) ?hi76 (by kernel_rfl) (by kernel_rfl) (by kernel_rfl) ?hq76 (Or.inl ⟨?hw76, ?hy76⟩) (by assumption) ?r76
              case hi76 => (simp only [List.getElem?_toArray, List.getElem?_cons_succ, List.getElem?_cons_zero]; exact rfl)
              case hq76 => exact fun _ _ _ h => h
              case hw76 => rfl
              case hy76 => (intro w hSw; (try dsimp only at hSw); go_simp; try exact rfl)
              simp only [Act.put, List.setIfInBounds_toArray, List.set_cons_zero, List.set_cons_succ]
              refine wpAnyH_take (i := 2) (oi := ?o77) (v := ?v77) ?hi77 (by kernel_rfl) (by kernel_rfl) (by kernel_rfl) ?hq77 (Or.inl ⟨?hw77, ?hy77⟩) (by assumption) ?r77
              case hi77 => (simp only [List.getElem?_toArray, List.getElem?_cons_succ, List.getElem?_cons_zero]; exact rfl)
              case hq77 => exact fun _ _ _ h => h
              case hw77 => rfl
              case hy77 => (intro w hSw; (try dsimp only at hSw); go_simp; try exact rfl)
              simp only [Act.put, List.setIfInBounds_toArray, List.set_cons_zero, List.set_cons_succ]
              refine wpAnyH_take (i := 3) (oi := ?o78) (v := ?v78) ?hi78 (by kernel_rfl) (by kernel_rfl) (by kernel_rfl) ?hq78 (Or.inl ⟨?hw78, ?hy78⟩) (by assumption) ?r78
              case hi78 => (simp only [List.getElem?_toArray, List.getElem?_cons_succ, List.getElem?_cons_zero]; exact rfl)
              case hq78 => exact fun _ _ _ h => h
              case hw78 => rfl
              case hy78 => (intro w hSw; (try dsimp only at hSw); go_simp; try exact rfl)
              simp only [Act.put, List.setIfInBounds_toArray, List.set_cons_zero, List.set_cons_succ]
              refine wpAnyH_take (i := 6) (oi := ?o79) (v := ?v79) ?hi79 (by kernel_rfl) (by kernel_rfl) (by kernel_rfl) ?hq79 (Or.inl ⟨?hw79, ?hy79⟩) (by assumption) ?r79
              case hi79 => (simp only [List.getElem?_toArray, List.getElem?_cons_succ, List.getElem?_cons_zero]; exact rfl)
              case hq79 => exact fun _ _ _ h => h
              case hw79 => rfl
              case hy79 => (intro w hSw; (try dsimp only at hSw); go_simp; try exact rfl)
              simp only [Act.put, List.setIfInBounds_toArray, List.set_cons_zero, List.set_cons_succ]
              refine wpAnyH_take (i := 7) (oi := ?o80) (v := ?v80) ?hi80 (by kernel_rfl) (by kernel_rfl) (by kernel_rfl) ?hq80 (Or.inl ⟨?hw80, ?hy80⟩) (by assumption) ?r80
              case hi80 => (simp only [List.getElem?_toArray, List.getElem?_cons_succ, List.getElem?_cons_zero]; exact rfl)
              case hq80 => exact fun _ _ _ h => h
              case hw80 => rfl
              case hy80 => (intro w hSw; (try dsimp only at hSw); go_simp; try exact rfl)
              simp only [Act.put, List.setIfInBounds_toArray, List.set_cons_zero, List.set_cons_succ]
              refine wpAnyH_take (i := 8) (oi := ?o81) (v := ?v81) ?hi81 (by kernel_rfl) (by kernel_rfl) (by kernel_rfl) ?hq81 (Or.inl ⟨?hw81, ?hy81⟩) (by assumption) ?r81
              case hi81 => (simp only [List.getElem?_toArray, List.getElem?_cons_succ, List.getElem?_cons_zero]; exact rfl)
              case hq81 => exact fun _ _ _ h => h
              case hw81 => rfl
              case hy81 => (intro w hSw; (try dsimp only at hSw); go_simp; try exact rfl)
              simp only [Act.put, List.setIfInBounds_toArray, List.set_cons_zero, List.set_cons_succ]
              refine wpAnyH_take (i := 9) (oi := ?o82) (v := ?v82) ?hi82 (by kernel_rfl) (by kernel_rfl) (by kernel_rfl) ?hq82 (Or.inl ⟨?hw82, ?hy82⟩) (by assumption) ?r82
              case hi82 => (simp only [List.getElem?_toArray, List.getElem?_cons_succ, List.getElem?_cons_zero]; exact rfl)
              case hq82 => exact fun _ _ _ h => h
              case hw82 => rfl
              case hy82 => (intro w hSw; (try dsimp only at hSw); go_simp; try exact rfl)
              simp only [Act.put, List.setIfInBounds_toArray, List.set_cons_zero, List.set_cons_succ]
              refine wpAnyH_ready (rs := [4]) (by kernel_rfl) (by simp) ?_
              refine AllReadyH.cons (o := ?o265) ?hi265 (fun K hK => ?_) AllReadyH.nil
              case hi265 => (simp only [List.getElem?_toArray, List.getElem?_cons_succ, List.getElem?_cons_zero]; exact rfl)
              go_simp
              go_at_call 13
              refine (text_any w5 0 q z b ka kl kc).mono ?_
              rintro e w6 ⟨g, rfl, kg, hg, bg⟩
              obtain ⟨R, OO⟩ := text_rd (F := F) z b kg hg (api.lts D.out)
              replace OB := Kept.mk (OB.out.below bg OB.out.lt)
              replace D := api.below D bg
              replace X := Kept.mk (X.out.below bg)
              replace B := step_below B bg
              clear kg hg bg
              refine hK.out _ _ (op_cells OB.out) (fun _ => ?_)
              clear hK K
              try simp only [Act.put, List.setIfInBounds_toArray, List.set_cons_zero, List.set_cons_succ]
              obtain ⟨t, ht⟩ : ∃ t, textOf z b = t := ⟨_, rfl⟩
              obtain ⟨tl, htl⟩ : ∃ l, textLen z = l := ⟨_, rfl⟩
              have htl100 : tl ≤ 100 := by rw [← htl]; unfold textLen; omega
              rw [ht, htl] at R
              rw [htl] at OO
              have HT := Kept.mk ht
              have HTL := Kept.mk htl
              try rw [htl]
              clear ht htl
              obtain ⟨W, hW⟩ : ∃ W, writeD s q t = W := ⟨_, rfl⟩
              have hw := api.write (c := tl) q D.out R.out OO.out (by omega) (by omega)
              rw [hW] at hw
              have HW := Kept.mk hw
              clear hw
              refine wpAnyH_ready (rs := [5]) (by kernel_rfl) (by simp) ?_
              refine AllReadyH.cons (o := ?o266) ?hi266 (fun K hK => ?_) AllReadyH.nil
              case hi266 => (simp only [List.getElem?_toArray, List.getElem?_cons_succ, List.getElem?_cons_zero]; exact rfl)
              go_simp
              go_at_call 12
              refine HW.out.mono ?_
              rintro e w7 ⟨rfl, F7, dk, fp⟩
              have LTW := OB.out.lt
              replace OB := Kept.mk (OB.out.bar fp.1 OF.out)
              obtain ⟨X, DJ⟩ := mv_d X DJ fp
              replace OF := off_step OF LTW fp
              replace D := Kept.mk dk
              obtain ⟨B, L⟩ := step_fp B fp L
              clear dk fp LTW
              refine hK.out _ _ (op_cells OB.out) (fun _ => ?_)
              clear hK K HW R OO
              try simp only [Act.put, List.setIfInBounds_toArray, List.set_cons_zero, List.set_cons_succ]
              refine wpAnyH_ready (rs := [10]) (by kernel_rfl) (by simp) ?_
              refine AllReadyH.cons (o := ?o267) ?hi267 (fun K hK => ?_) AllReadyH.nil
              case hi267 => (simp only [List.getElem?_toArray, List.getElem?_cons_succ, List.getElem?_cons_zero]; exact rfl)
              go_simp
              go_at_call 13
              refine (text_any w7 0 q z b ka kl kc).mono ?_
              rintro e w8 ⟨g, rfl, kg, hg, bg⟩
              obtain ⟨R, OO⟩ := text_rd (F := G) z b kg hg X.out.lts
              rw [HT.out, HTL.out] at R
              rw [HTL.out] at OO ⊢
              replace OB := Kept.mk (OB.out.below bg OB.out.lt)
              replace D := api.below D bg
              replace X := Kept.mk (X.out.below bg)
              replace B := step_below B bg
              clear kg hg bg
              refine hK.out _ _ (op_cells OB.out) (fun _ => ?_)
              clear hK K
              try simp only [Act.put, List.setIfInBounds_toArray, List.set_cons_zero, List.set_cons_succ]
              have hw := rwrite_any _ _ xb N s q (some ⟨g, 0, none⟩) tl tl t X.out R.out OO.out
              rw [hW] at hw
              have HW := Kept.mk hw
              clear hw hW
              refine wpAnyH_ready (rs := [11]) (by kernel_rfl) (by simp) ?_
              refine AllReadyH.cons (o := ?o268) ?hi268 (fun K hK => ?_) AllReadyH.nil
              case hi268 => (simp only [List.getElem?_toArray, List.getElem?_cons_succ, List.getElem?_cons_zero]; exact rfl)
              go_simp
              go_at_call 14
              refine HW.out.mono ?_
              rintro e w9 ⟨rfl, G9, dk, fp⟩
              have LTW := OB.out.lt
              replace OB := Kept.mk (OB.out.bar fp.1 OG.out)
              obtain ⟨D, DJ⟩ := mv_x api D DJ fp
              replace OG := off_step OG LTW fp
              replace X := Kept.mk dk
              obtain ⟨B, M⟩ := step_fp B fp M
              clear dk fp LTW
              refine hK.out _ _ (op_cells OB.out) (fun _ => ?_)
              clear hK K HW R OO HT HTL
              generalize W.1 = ee at *
              try simp only [Act.put, List.setIfInBounds_toArray, List.set_cons_zero, List.set_cons_succ]
              refine wpAnyH_take (i := 12) (oi := ?o83) (v := ?v83) ?hi83 (by kernel_rfl) (by kernel_rfl) (by kernel_rfl) ?hq83 (Or.inl ⟨?hw83, ?hy83⟩) (by assumption) ?r83
              case hi83 => (simp only [List.getElem?_toArray, List.getElem?_cons_succ, List.getElem?_cons_zero]; exact rfl)
              case hq83 => exact fun _ _ _ h => h
              case hw83 => rfl
              case hy83 => (intro w hSw; (try dsimp only at hSw); go_simp; try exact rfl)
              simp only [Act.put, List.setIfInBounds_toArray, List.set_cons_zero, List.set_cons_succ]
              refine wpAnyH_take (i := 13) (oi := ?o84) (v := ?v84) ?hi84 (by kernel_rfl) (by kernel_rfl) (by kernel_rfl) ?hq84 (Or.inl ⟨?hw84, ?hy84⟩) (by assumption) ?r84
              case hi84 => (simp only [List.getElem?_toArray, List.getElem?_cons_succ, List.getElem?_cons_zero]; exact rfl)
              case hq84 => exact fun _ _ _ h => h
              case hw84 => rfl
              case hy84 => (intro w hSw; (try dsimp only at hSw); go_simp; try exact rfl)
              simp only [Act.put, List.setIfInBounds_toArray, List.set_cons_zero, List.set_cons_succ]
              refine wpAnyH_done (by kernel_rfl) ?_ _
              refine NoPanic.normal ?_
              -- what is read, what is told
              obtain ⟨o0, o1, o2, o3, o4⟩ := op_cells OB.out
              have hr := api.read q D.out
              obtain ⟨RR, hRR⟩ : ∃ r, readD W.2 q = r := ⟨_, rfl⟩
              rw [hRR] at hr
              have HR := Kept.mk hr
              clear hr
              go_wp2_with fail
              refine HR.out.mono ?_
              rintro e wa ⟨A5, c5, F5, rfl, r5, -, -, -, dk, fp⟩
              have R5 := Kept.mk r5
              have LTW := OB.out.lt
              replace OB := Kept.mk (OB.out.bar fp.1 OF.out)
              obtain ⟨X, DJ⟩ := mv_d X DJ fp
              replace OF := off_step OF LTW fp
              replace D := Kept.mk dk
              obtain ⟨B, L⟩ := step_fp B fp L
              clear dk fp LTW
              clear r5 HR o0 o1 o2 o3 o4
              obtain ⟨o0, o1, o2, o3, o4⟩ := op_cells OB.out
              have hr := rread_any _ _ xb N W.2 q X.out
              unfold RReadPost at hr
              rw [hRR] at hr
              have HR := Kept.mk hr
              clear hr hRR
              go_wp2_with fail
              refine HR.out.mono ?_
              rintro e wb ⟨A6, c6, rfl, r6, b6⟩
              have R6 := Kept.mk r6
              replace R5 := Kept.mk (R5.out.below b6)
              replace OB := Kept.mk (OB.out.below b6 OB.out.lt)
              replace D := api.below D b6
              replace X := Kept.mk (X.out.below b6)
              replace B := step_below B b6
              clear r6 HR b6 o0 o1 o2 o3 o4
              generalize RR.1 = ge at *
              generalize RR.2 = gx at *
              generalize gx.length = gl at *
              have x4 := X.out.down4
              go_upto_region 31 with (fail)
              refine wp_region_noPanic ?_
              refine wp_region_held_drew (S := fun w' : World => w'.cell? ⟨xb, 4, none⟩ = some (.bool W.2.down)) (by kernel_rfl) x4 (fun _ => ?_)
              replace R5 := Kept.mk R5.out.drew
              replace R6 := Kept.mk R6.out.drew
              have bd : Below wb.heap.size wb wb.drew := (Below.refl _ _).drew
              replace OB := Kept.mk (OB.out.below bd OB.out.lt)
              replace D := api.below D bd
              replace X := Kept.mk (X.out.below bd)
              replace B := step_below B bd
              clear bd x4
              generalize wb.drew = wc at *
              refine wpAnyH_take (i := 0) (oi := ?o85) (v := ?v85) ?hi85 (by kernel_rfl) (by kernel_rfl) (by kernel_rfl) ?hq85 (Or.inl ⟨?hw85, ?hy85⟩) (by assumption) ?r85
              case hi85 => (simp only [List.getElem?_toArray, List.getElem?_cons_zero]; exact rfl)
              case hq85 => exact fun _ _ _ h => h
              case hw85 => rfl
              case hy85 => (intro w hSw; (try dsimp only at hSw); go_simp; try exact rfl)
              simp only [Act.put, List.setIfInBounds_toArray, List.set_cons_zero, List.set_cons_succ]
              refine wpAnyH_take (i := 1) (oi := ?o86) (v := ?v86) ?hi86 (by kernel_rfl) (by kernel_rfl) (by kernel_rfl) ?hq86 (Or.inl ⟨?hw86, ?hy86⟩) (by assumption) ?r86
              case hi86 => (simp only [List.getElem?_toArray, List.getElem?_cons_succ, List.getElem?_cons_zero]; exact rfl)
              case hq86 => exact fun _ _ _ h => h
              case hw86 => rfl
              case hy86 => (intro w hSw; (try dsimp only at hSw); go_simp; try exact rfl)
              simp only [Act.put, List.setIfInBounds_toArray, List.set_cons_zero, List.set_cons_succ]
              refine wpAnyH_take (i := 2) (oi := ?o87) (v := ?v87) ?hi87 (by kernel_rfl) (by kernel_rfl) (by kernel_rfl) ?hq87 (Or.inl ⟨?hw87, ?hy87⟩) (by assumption) ?r87
              case hi87 => (simp only [List.getElem?_toArray, List.getElem?_cons_succ, List.getElem?_cons_zero]; exact rfl)
              case hq87 => exact fun _ _ _ h => h
              case hw87 => rfl
              case hy87 => (intro w hSw; (try dsimp only at hSw); go_simp; try exact rfl)
              simp only [Act.put, List.setIfInBounds_toArray, List.set_cons_zero, List.set_cons_succ]
              refine wpAnyH_take (i := 3) (oi := ?o88) (v := ?v88) ?hi88 (by kernel_rfl) (by kernel_rfl) (by kernel_rfl) ?hq88 (Or.inl ⟨?hw88, ?hy88⟩) (by assumption) ?r88
              case hi88 => (simp only [List.getElem?_toArray, List.getElem?_cons_succ, List.getElem?_cons_zero]; exact rfl)
              case hq88 => exact fun _ _ _ h => h
              case hw88 => rfl
              case hy88 => (intro w hSw; (try dsimp only at hSw); go_simp; try exact rfl)
              simp only [Act.put, List.setIfInBounds_toArray, List.set_cons_zero, List.set_cons_succ]
              refine wpAnyH_take (i := 4) (oi := ?o89) (v := ?v89) ?hi89 (by kernel_rfl) (by kernel_rfl) (by kernel_rfl) ?hq89 (Or.inl ⟨?hw89, ?hy89⟩) (by assumption) ?r89
              case hi89 => (simp only [List.getElem?_toArray, List.getElem?_cons_succ, List.getElem?_cons_zero]; exact rfl)
              case hq89 => exact fun _ _ _ h => h
              case hw89 => rfl
              case hy89 => (intro w hSw; (try dsimp only at hSw); go_simp; try exact rfl)
              simp only [Act.put, List.setIfInBounds_toArray, List.set_cons_zero, List.set_cons_succ]
              refine wpAnyH_take (i := 5) (oi := ?o90) (v := ?v90) ?hi90 (by kernel_rfl) (by kernel_rfl) (by kernel_rfl) ?hq90 (Or.inl ⟨?hw90, ?hy90⟩) (by assumption) ?r90
              case hi90 => (simp only [List.getElem?_toArray, List.getElem?_cons_succ, List.getElem?_cons_zero]; exact rfl)
              case hq90 => exact fun _ _ _ h => h
              case hw90 => rfl
              case hy90 => (intro w hSw; (try dsimp only at hSw); go_simp; try exact rfl)
              simp only [Act.put, List.setIfInBounds_toArray, List.set_cons_zero, List.set_cons_succ]
              refine wpAnyH_take (i := 6) (oi := ?o91) (v := ?v91) ?hi91 (by kernel_rfl) (by kernel_rfl) (by kernel_rfl) ?hq91 (Or.inl ⟨?hw91, ?hy91⟩) (by assumption) ?r91
              case hi91 => (simp only [List.getElem?_toArray, List.getElem?_cons_succ, List.getElem?_cons_zero]; exact rfl)
              case hq91 => exact fun _ _ _ h => h
              case hw91 => rfl
              case hy91 => (intro w hSw; (try dsimp only at hSw); go_simp; try exact rfl)
              simp only [Act.put, List.setIfInBounds_toArray, List.set_cons_zero, List.set_cons_succ]
              refine wpAnyH_take (i := 7) (oi := ?o92) (v := ?v92) ?hi92 (by kernel_rfl) (by kernel_rfl) (by kernel_rfl) ?hq92 (Or.inl ⟨?hw92, ?hy92⟩) (by assumption) ?r92
              case hi92 => (simp only [List.getElem?_toArray, List.getElem?_cons_succ, List.getElem?_cons_zero]; exact rfl)
              case hq92 => exact fun _ _ _ h => h
              case hw92 => rfl
              case hy92 => (intro w hSw; (try dsimp only at hSw); go_simp; try exact rfl)
              simp only [Act.put, List.setIfInBounds_toArray, List.set_cons_zero, List.set_cons_succ]
              refine wpAnyH_take (i := 8) (oi := ?o93) (v := ?v93) ?hi93 (by kernel_rfl) (by kernel_rfl) (by kernel_rfl) ?hq93 (Or.inl ⟨?hw93, ?hy93⟩) (by assumption) ?r93
              case hi93 => (simp only [List.getElem?_toArray, List.getElem?_cons_succ, List.getElem?_cons_zero]; exact rfl)
              case hq93 => exact fun _ _ _ h => h
              case hw93 => rfl
              case hy93 => (intro w hSw; (try dsimp only at hSw); go_simp; try exact rfl)
              simp only [Act.put, List.setIfInBounds_toArray, List.set_cons_zero, List.set_cons_succ]
              refine wpAnyH_take (i := 9) (oi := ?o94) (v := ?v94) ?hi94 (by kernel_rfl) (by kernel_rfl) (by kernel_rfl) ?hq94 (Or.inl ⟨?hw94, ?hy94⟩) (by assumption) ?r94
              case hi94 => (simp only [List.getElem?_toArray, List.getElem?_cons_succ, List.getElem?_cons_zero]; exact rfl)
              case hq94 => exact fun _ _ _ h => h
              case hw94 => rfl
              case hy94 => (intro w hSw; (try dsimp only at hSw); go_simp; try exact rfl)
              simp only [Act.put, List.setIfInBounds_toArray, List.set_cons_zero, List.set_cons_succ]
              refine wpAnyH_ready (rs := [10]) (by kernel_rfl) (by simp) ?_
              refine AllReadyH.cons (o := ?o269) ?hi269 (fun K hK => ?_) AllReadyH.nil
              case hi269 => (simp only [List.getElem?_toArray, List.getElem?_cons_succ, List.getElem?_cons_zero]; exact rfl)
              go_simp
              go_at_call 17
              refine (bytes_same A5 A6 gl gl c5 c6 gx wc R5.out R6.out).mono ?_
              rintro e wx ⟨rfl, rfl⟩
              refine hK.out _ _ X.out.down4 (fun _ => ?_)
              clear hK K R5 R6
              try simp only [Act.put, List.setIfInBounds_toArray, List.set_cons_zero, List.set_cons_succ]
              refine wpAnyH_take (i := 11) (oi := ?o95) (v := ?v95) ?hi95 (by kernel_rfl) (by kernel_rfl) (by kernel_rfl) ?hq95 (Or.inl ⟨?hw95, ?hy95⟩) (by assumption) ?r95
              case hi95 => (simp only [List.getElem?_toArray, List.getElem?_cons_succ, List.getElem?_cons_zero]; exact rfl)
              case hq95 => exact fun _ _ _ h => h
              case hw95 => rfl
              case hy95 => (intro w hSw; (try dsimp only at hSw); go_simp; try exact rfl)
              simp only [Act.put, List.setIfInBounds_toArray, List.set_cons_zero, List.set_cons_succ]
              refine wpAnyH_take (i := 12) (oi := ?o96) (v := ?v96) ?hi96 (by kernel_rfl) (by kernel_rfl) (by kernel_rfl) ?hq96 (Or.inl ⟨?hw96, ?hy96⟩) (by assumption) ?r96
              case hi96 => (simp only [List.getElem?_toArray, List.getElem?_cons_succ, List.getElem?_cons_zero]; exact rfl)
              case hq96 => exact fun _ _ _ h => h
              case hw96 => rfl
              case hy96 => (intro w hSw; (try dsimp only at hSw); go_simp; try exact rfl)
              simp only [Act.put, List.setIfInBounds_toArray, List.set_cons_zero, List.set_cons_succ]
              refine wpAnyH_take (i := 13) (oi := ?o97) (v := ?v97) ?hi97 (by kernel_rfl) (by kernel_rfl) (by kernel_rfl) ?hq97 (Or.inl ⟨?hw97, ?hy97⟩) (by assumption) ?r97
              case hi97 => (simp only [List.getElem?_toArray, List.getElem?_cons_succ, List.getElem?_cons_zero]; exact rfl)
              case hq97 => exact fun _ _ _ h => h
              case hw97 => rfl
              case hy97 => (intro w hSw; (try dsimp only at hSw); go_simp; try exact rfl)
              simp only [Act.put, List.setIfInBounds_toArray, List.set_cons_zero, List.set_cons_succ]
              refine wpAnyH_take (i := 14) (oi := ?o98) (v := ?v98) ?hi98 (by kernel_rfl) (by kernel_rfl) (by kernel_rfl) ?hq98 (Or.inl ⟨?hw98, ?hy98⟩) (by assumption) ?r98
              case hi98 => (simp only [List.getElem?_toArray, List.getElem?_cons_succ, List.getElem?_cons_zero]; exact rfl)
              case hq98 => exact fun _ _ _ h => h
              case hw98 => rfl
              case hy98 => (intro w hSw; (try dsimp only at hSw); go_simp; try exact rfl)
              simp only [Act.put, List.setIfInBounds_toArray, List.set_cons_zero, List.set_cons_succ]
              refine wpAnyH_take (i := 16) (oi := ?o99) (v := ?v99) ?hi99 (by kernel_rfl) (by kernel_rfl) (by kernel_rfl) ?hq99 (Or.inl ⟨?hw99, ?hy99⟩) (by assumption) ?r99
              case hi99 => (simp only [List.getElem?_toArray, List.getElem?_cons_succ, List.getElem?_cons_zero]; exact rfl)
              case hq99 => exact fun _ _ _ h => h
              case hw99 => rfl
              case hy99 => (intro w hSw; (try dsimp only at hSw); go_simp; try exact rfl)
              simp only [Act.put, List.setIfInBounds_toArray, List.set_cons_zero, List.set_cons_succ]
              refine wpAnyH_ready (rs := [15]) (by kernel_rfl) (by simp) ?_
              refine AllReadyH.cons (o := ?o270) ?hi270 (fun K hK => ?_) AllReadyH.nil
              case hi270 => (simp only [List.getElem?_toArray, List.getElem?_cons_succ, List.getElem?_cons_zero]; exact rfl)
              go_simp
              go_at_call 24
              refine (api.pending D.out).mono ?_
              rintro e wd ⟨rfl, bd⟩
              replace OB := Kept.mk (OB.out.below bd OB.out.lt)
              replace D := api.below D bd
              replace X := Kept.mk (X.out.below bd)
              replace B := step_below B bd
              clear bd
              refine hK.out _ _ X.out.down4 (fun _ => ?_)
              clear hK K
              try simp only [Act.put, List.setIfInBounds_toArray, List.set_cons_zero, List.set_cons_succ]
              refine wpAnyH_ready (rs := [17]) (by kernel_rfl) (by simp) ?_
              refine AllReadyH.cons (o := ?o271) ?hi271 (fun K hK => ?_) AllReadyH.nil
              case hi271 => (simp only [List.getElem?_toArray, List.getElem?_cons_succ, List.getElem?_cons_zero]; exact rfl)
              go_simp
              go_at_call 25
              refine (rpending_any _ _ xb N W.2 X.out).mono ?_
              rintro e wx ⟨rfl, rfl⟩
              refine hK.out _ _ X.out.down4 (fun _ => ?_)
              clear hK K
              try simp only [Act.put, List.setIfInBounds_toArray, List.set_cons_zero, List.set_cons_succ]
              refine wpAnyH_take (i := 18) (oi := ?o100) (v := ?v100) ?hi100 (by kernel_rfl) (by kernel_rfl) (by kernel_rfl) ?hq100 (Or.inl ⟨?hw100, ?hy100⟩) (by assumption) ?r100
              case hi100 => (simp only [List.getElem?_toArray, List.getElem?_cons_succ, List.getElem?_cons_zero]; exact rfl)
              case hq100 => exact fun _ _ _ h => h
              case hw100 => rfl
              case hy100 => (intro w hSw; (try dsimp only at hSw); go_simp; try exact rfl)
              simp only [Act.put, List.setIfInBounds_toArray, List.set_cons_zero, List.set_cons_succ]
              refine wpAnyH_take (i := 19) (oi := ?o101) (v := ?v101) ?hi101 (by kernel_rfl) (by kernel_rfl) (by kernel_rfl) ?hq101 (Or.inl ⟨?hw101, ?hy101⟩) (by assumption) ?r101
              case hi101 => (simp only [List.getElem?_toArray, List.getElem?_cons_succ, List.getElem?_cons_zero]; exact rfl)
              case hq101 => exact fun _ _ _ h => h
              case hw101 => rfl
              case hy101 => (intro w hSw; (try dsimp only at hSw); go_simp; try exact rfl)
              simp only [Act.put, List.setIfInBounds_toArray, List.set_cons_zero, List.set_cons_succ]
              refine wpAnyH_take (i := 20) (oi := ?o102) (v := ?v102) ?hi102 (by kernel_rfl) (by kernel_rfl) (by kernel_rfl) ?hq102 (Or.inl ⟨?hw102, ?hy102⟩) (by assumption) ?r102
              case hi102 => (simp only [List.getElem?_toArray, List.getElem?_cons_succ, List.getElem?_cons_zero]; exact rfl)
              case hq102 => exact fun _ _ _ h => h
              case hw102 => rfl
              case hy102 => (intro w hSw; (try dsimp only at hSw); go_simp; try exact rfl)
              simp only [Act.put, List.setIfInBounds_toArray, List.set_cons_zero, List.set_cons_succ]
              refine wpAnyH_take (i := 21) (oi := ?o103) (v := ?v103) ?hi103 (by kernel_rfl) (by kernel_rfl) (by kernel_rfl) ?hq103 (Or.inl ⟨?hw103, ?hy103⟩) (by assumption) ?r103
              case hi103 => (simp only [List.getElem?_toArray, List.getElem?_cons_succ, List.getElem?_cons_zero]; exact rfl)
              case hq103 => exact fun _ _ _ h => h
              case hw103 => rfl
              case hy103 => (intro w hSw; (try dsimp only at hSw); go_simp; try exact rfl)
              simp only [Act.put, List.setIfInBounds_toArray, List.set_cons_zero, List.set_cons_succ]
              refine wpAnyH_take (i := 23) (oi := ?o104) (v := ?v104) ?hi104 (by kernel_rfl) (by kernel_rfl) (by kernel_rfl) ?hq104 (Or.inl ⟨?hw104, ?hy104⟩) (by assumption) ?r104
              case hi104 => (simp only [List.getElem?_toArray, List.getElem?_cons_succ, List.getElem?_cons_zero]; exact rfl)
              case hq104 => exact fun _ _ _ h => h
              case hw104 => rfl
              case hy104 => (intro w hSw; (try dsimp only at hSw); go_simp; try exact rfl)
              simp only [Act.put, List.setIfInBounds_toArray, List.set_cons_zero, List.set_cons_succ]
              refine wpAnyH_take (i := 24) (oi := ?o105) (v := ?v105) ?hi105 (by kernel_rfl) (by kernel_rfl) (by kernel_rfl) ?hq105 (Or.inl ⟨?hw105, ?hy105⟩) (by assumption) ?r105
              case hi105 => (simp only [List.getElem?_toArray, List.getElem?_cons_succ, List.getElem?_cons_zero]; exact rfl)
              case hq105 => exact fun _ _ _ h => h
              case hw105 => rfl
              case hy105 => (intro w hSw; (try dsimp only at hSw); go_simp; try exact rfl)
              simp only [Act.put, List.setIfInBounds_toArray, List.set_cons_zero, List.set_cons_succ]
              refine wpAnyH_take (i := 25) (oi := ?o106) (v := ?v106) ?hi106 (by kernel_rfl) (by kernel_rfl) (by kernel_rfl) ?hq106 (Or.inl ⟨?hw106, ?hy106⟩) (by assumption) ?r106
              case hi106 => (simp only [List.getElem?_toArray, List.getElem?_cons_succ, List.getElem?_cons_zero]; exact rfl)
              case hq106 => exact fun _ _ _ h => h
              case hw106 => rfl
              case hy106 => (intro w hSw; (try dsimp only at hSw); go_simp; try exact rfl)
              simp only [Act.put, List.setIfInBounds_toArray, List.set_cons_zero, List.set_cons_succ]
              refine wpAnyH_take (i := 26) (oi := ?o107) (v := ?v107) ?hi107 (by kernel_rfl) (by kernel_rfl) (by kernel_rfl) ?hq107 (Or.inl ⟨?hw107, ?hy107⟩) (by assumption) ?r107
              case hi107 => (simp only [List.getElem?_toArray, List.getElem?_cons_succ, List.getElem?_cons_zero]; exact rfl)
              case hq107 => exact fun _ _ _ h => h
              case hw107 => rfl
              case hy107 => (intro w hSw; (try dsimp only at hSw); go_simp; try exact rfl)
              simp only [Act.put, List.setIfInBounds_toArray, List.set_cons_zero, List.set_cons_succ]
              refine wpAnyH_ready (rs := [22]) (by kernel_rfl) (by simp) ?_
              refine AllReadyH.cons (o := ?o272) ?hi272 (fun K hK => ?_) AllReadyH.nil
              case hi272 => (simp only [List.getElem?_toArray, List.getElem?_cons_succ, List.getElem?_cons_zero]; exact rfl)
              go_simp
              go_at_call 26
              refine (api.down D.out).mono ?_
              rintro e we ⟨rfl, bd⟩
              replace OB := Kept.mk (OB.out.below bd OB.out.lt)
              replace D := api.below D bd
              replace X := Kept.mk (X.out.below bd)
              replace B := step_below B bd
              clear bd
              refine hK.out _ _ X.out.down4 (fun _ => ?_)
              clear hK K
              try simp only [Act.put, List.setIfInBounds_toArray, List.set_cons_zero, List.set_cons_succ]
              refine wpAnyH_take (i := 27) (oi := ?o108) (v := ?v108) ?hi108 (by kernel_rfl) (by kernel_rfl) (by kernel_rfl) ?hq108 (Or.inl ⟨?hw108, ?hy108⟩) (by assumption) ?r108
              case hi108 => (simp only [List.getElem?_toArray, List.getElem?_cons_succ, List.getElem?_cons_zero]; exact rfl)
              case hq108 => exact fun _ _ _ h => h
              case hw108 => rfl
              case hy108 => (intro w hSw; (try dsimp only at hSw); go_simp; try exact rfl)
              simp only [Act.put, List.setIfInBounds_toArray, List.set_cons_zero, List.set_cons_succ]
              refine wpAnyH_take (i := 28) (oi := ?o109) (v := ?v109) ?hi109 (by kernel_rfl) (by kernel_rfl) (by kernel_rfl) ?hq109 (Or.inl ⟨?hw109, ?hy109⟩) (by assumption) ?r109
              case hi109 => (simp only [List.getElem?_toArray, List.getElem?_cons_succ, List.getElem?_cons_zero]; exact rfl)
              case hq109 => exact fun _ _ _ h => h
              case hw109 => rfl
              case hy109 => (intro w hSw; (try dsimp only at hSw); go_simp; try exact rfl)
              simp only [Act.put, List.setIfInBounds_toArray, List.set_cons_zero, List.set_cons_succ]
              refine wpAnyH_take (i := 29) (oi := ?o110) (v := ?v110) ?hi110 (by kernel_rfl) (by kernel_rfl) (by kernel_rfl) ?hq110 (Or.inl ⟨?hw110, ?hy110⟩) (by assumption) ?r110
              case hi110 => (simp only [List.getElem?_toArray, List.getElem?_cons_succ, List.getElem?_cons_zero]; exact rfl)
              case hq110 => exact fun _ _ _ h => h
              case hw110 => rfl
              case hy110 => (intro w hSw; (try dsimp only at hSw); go_simp; try exact rfl)
              simp only [Act.put, List.setIfInBounds_toArray, List.set_cons_zero, List.set_cons_succ]
              refine wpAnyH_take (i := 30) (oi := ?o111) (v := ?v111) ?hi111 (by kernel_rfl) (by kernel_rfl) (by kernel_rfl) ?hq111 (Or.inl ⟨?hw111, ?hy111⟩) (by assumption) ?r111
              case hi111 => (simp only [List.getElem?_toArray, List.getElem?_cons_succ, List.getElem?_cons_zero]; exact rfl)
              case hq111 => exact fun _ _ _ h => h
              case hw111 => rfl
              case hy111 => (intro w hSw; (try dsimp only at hSw); go_simp; try exact rfl)
              simp only [Act.put, List.setIfInBounds_toArray, List.set_cons_zero, List.set_cons_succ]
              refine wpAnyH_take (i := 32) (oi := ?o112) (v := ?v112) ?hi112 (by kernel_rfl) (by kernel_rfl) (by kernel_rfl) ?hq112 (Or.inl ⟨?hw112, ?hy112⟩) (by assumption) ?r112
              case hi112 => (simp only [List.getElem?_toArray, List.getElem?_cons_succ, List.getElem?_cons_zero]; exact rfl)
              case hq112 => exact fun _ _ _ h => h
              case hw112 => rfl
              case hy112 => (intro w hSw; (try dsimp only at hSw); go_simp; try exact rfl)
              simp only [Act.put, List.setIfInBounds_toArray, List.set_cons_zero, List.set_cons_succ]
              refine wpAnyH_ready (rs := [31]) (by kernel_rfl) (by simp) ?_
              refine AllReadyH.cons (o := ?o273) ?hi273 (fun K hK => ?_) AllReadyH.nil
              case hi273 => (simp only [List.getElem?_toArray, List.getElem?_cons_succ, List.getElem?_cons_zero]; exact rfl)
              go_simp
              go_at_call 27
              refine (api.len D.out).mono ?_
              rintro e wf ⟨rfl, bd⟩
              replace OB := Kept.mk (OB.out.below bd OB.out.lt)
              replace D := api.below D bd
              replace X := Kept.mk (X.out.below bd)
              replace B := step_below B bd
              clear bd
              refine hK.out _ _ X.out.down4 (fun _ => ?_)
              clear hK K
              try simp only [Act.put, List.setIfInBounds_toArray, List.set_cons_zero, List.set_cons_succ]
              refine wpAnyH_take (i := 33) (oi := ?o113) (v := ?v113) ?hi113 (by kernel_rfl) (by kernel_rfl) (by kernel_rfl) ?hq113 (Or.inl ⟨?hw113, ?hy113⟩) (by assumption) ?r113
              case hi113 => (simp only [List.getElem?_toArray, List.getElem?_cons_succ, List.getElem?_cons_zero]; exact rfl)
              case hq113 => exact fun _ _ _ h => h
              case hw113 => rfl
              case hy113 => (intro w hSw; (try dsimp only at hSw); go_simp; try exact rfl)
              simp only [Act.put, List.setIfInBounds_toArray, List.set_cons_zero, List.set_cons_succ]
              refine wpAnyH_take (i := 34) (oi := ?o114) (v := ?v114) ?hi114 (by kernel_rfl) (by kernel_rfl) (by kernel_rfl) ?hq114 (Or.inl ⟨?hw114, ?hy114⟩) (by assumption) ?r114
              case hi114 => (simp only [List.getElem?_toArray, List.getElem?_cons_succ, List.getElem?_cons_zero]; exact rfl)
              case hq114 => exact fun _ _ _ h => h
              case hw114 => rfl
              case hy114 => (intro w hSw; (try dsimp only at hSw); go_simp; try exact rfl)
              simp only [Act.put, List.setIfInBounds_toArray, List.set_cons_zero, List.set_cons_succ]
              refine wpAnyH_done (by kernel_rfl) ?_ _
              refine NoPanic.normal ?_
              go_wp2
              go_roundw
              case rel => exact ⟨k + 1, _, _, _, by omega, by go_num, D, X, DJ, B, L, M⟩
              case measure => simp [intOf]; omega
            · have hz0 : (kd == 0) = false := by simpa using h0
              by_cases h1 : kd = 1
              · subst h1
                obtain ⟨o0, o1, o2, o3, o4⟩ := op_cells OB.out
                have hr := api.read q D.out
                obtain ⟨RR, hRR⟩ : ∃ r, readD s q = r := ⟨_, rfl⟩
                rw [hRR] at hr
                have HR := Kept.mk hr
                clear hr
                go_wp2_with fail
                refine HR.out.mono ?_
                rintro e wa ⟨A5, c5, F5, rfl, r5, -, -, -, dk, fp⟩
                have R5 := Kept.mk r5
                have LTW := OB.out.lt
                replace OB := Kept.mk (OB.out.bar fp.1 OF.out)
                obtain ⟨X, DJ⟩ := mv_d X DJ fp
                replace OF := off_step OF LTW fp
                replace D := Kept.mk dk
                obtain ⟨B, L⟩ := step_fp B fp L
                clear dk fp LTW
                clear r5 HR o0 o1 o2 o3 o4
                obtain ⟨o0, o1, o2, o3, o4⟩ := op_cells OB.out
                have hr := rread_any _ _ xb N s q X.out
                unfold RReadPost at hr
                rw [hRR] at hr
                have HR := Kept.mk hr
                clear hr hRR
                go_wp2_with fail
                refine HR.out.mono ?_
                rintro e wb ⟨A6, c6, rfl, r6, b6⟩
                have R6 := Kept.mk r6
                replace R5 := Kept.mk (R5.out.below b6)
                replace OB := Kept.mk (OB.out.below b6 OB.out.lt)
                replace D := api.below D b6
                replace X := Kept.mk (X.out.below b6)
                replace B := step_below B b6
                clear r6 HR b6 o0 o1 o2 o3 o4
                generalize RR.1 = ge at *
                generalize RR.2 = gx at *
                generalize gx.length = gl at *
                go_wp2_with fail
                refine (bytes_same A5 A6 gl gl c5 c6 gx wb R5.out R6.out).mono ?_
                rintro e wx ⟨rfl, rfl⟩
                clear R5 R6
                -- what is read, what is told
                obtain ⟨o0, o1, o2, o3, o4⟩ := op_cells OB.out
                have hr := api.read q D.out
                obtain ⟨RR, hRR⟩ : ∃ r, readD s q = r := ⟨_, rfl⟩
                rw [hRR] at hr
                have HR := Kept.mk hr
                clear hr
                go_wp2_with fail
                refine HR.out.mono ?_
                rintro e wa ⟨A5, c5, F5, rfl, r5, -, -, -, dk, fp⟩
                have R5 := Kept.mk r5
                have LTW := OB.out.lt
                replace OB := Kept.mk (OB.out.bar fp.1 OF.out)
                obtain ⟨X, DJ⟩ := mv_d X DJ fp
                replace OF := off_step OF LTW fp
                replace D := Kept.mk dk
                obtain ⟨B, L⟩ := step_fp B fp L
                clear dk fp LTW
                clear r5 HR o0 o1 o2 o3 o4
                obtain ⟨o0, o1, o2, o3, o4⟩ := op_cells OB.out
                have hr := rread_any _ _ xb N s q X.out
                unfold RReadPost at hr
                rw [hRR] at hr
                have HR := Kept.mk hr
                clear hr hRR
                go_wp2_with fail
                refine HR.out.mono ?_
                rintro e wb ⟨A6, c6, rfl, r6, b6⟩
                have R6 := Kept.mk r6
                replace R5 := Kept.mk (R5.out.below b6)
                replace OB := Kept.mk (OB.out.below b6 OB.out.lt)
                replace D := api.below D b6
                replace X := Kept.mk (X.out.below b6)
                replace B := step_below B b6
                clear r6 HR b6 o0 o1 o2 o3 o4
                generalize RR.1 = ge at *
                generalize RR.2 = gx at *
                generalize gx.length = gl at *
                have x4 := X.out.down4
                go_upto_region 31 with (fail)
                refine wp_region_noPanic ?_
                refine wp_region_held_drew (S := fun w' : World => w'.cell? ⟨xb, 4, none⟩ = some (.bool s.down)) (by kernel_rfl) x4 (fun _ => ?_)
                replace R5 := Kept.mk R5.out.drew
                replace R6 := Kept.mk R6.out.drew
                have bd : Below wb.heap.size wb wb.drew := (Below.refl _ _).drew
                replace OB := Kept.mk (OB.out.below bd OB.out.lt)
                replace D := api.below D bd
                replace X := Kept.mk (X.out.below bd)
                replace B := step_below B bd
                clear bd x4
                generalize wb.drew = wc at *
                refine wpAnyH_take (i := 0) (oi := ?o115) (v := ?v115) ?hi115 (by kernel_rfl) (by kernel_rfl) (by kernel_rfl) ?hq115 (Or.inl ⟨?hw115, ?hy115⟩) (by assumption) ?r115
                case hi115 => (simp only [List.getElem?_toArray, List.getElem?_cons_zero]; exact rfl)
                case hq115 => exact fun _ _ _ h => h
                case hw115 => rfl
                case hy115 => (intro w hSw; (try dsimp only at hSw); go_simp; try exact rfl)
                simp only [Act.put, List.setIfInBounds_toArray, List.set_cons_zero, List.set_cons_succ]
                refine wpAnyH_take (i := 1) (oi := ?o116) (v := ?v116) ?hi116 (by kernel_rfl) (by kernel_rfl) (by kernel_rfl) ?hq116 (Or.inl ⟨?hw116, ?hy116⟩) (by assumption) ?r116
                case hi116 => (simp only [List.getElem?_toArray, List.getElem?_cons_succ, List.getElem?_cons_zero]; exact rfl)
                case hq116 => exact fun _ _ _ h => h
                case hw116 => rfl
                case hy116 => (intro w hSw; (try dsimp only at hSw); go_simp; try exact rfl)
                simp only [Act.put, List.setIfInBounds_toArray, List.set_cons_zero, List.set_cons_succ]
                refine wpAnyH_take (i := 2) (oi := ?o117) (v := ?v117) ?hi117 (by kernel_rfl) (by kernel_rfl) (by kernel_rfl) ?hq117 (Or.inl ⟨?hw117, ?hy117⟩) (by assumption) ?r117
                case hi117 => (simp only [List.getElem?_toArray, List.getElem?_cons_succ, List.getElem?_cons_zero]; exact rfl)
                case hq117 => exact fun _ _ _ h => h
                case hw117 => rfl
                case hy117 => (intro w hSw; (try dsimp only at hSw); go_simp; try exact rfl)
                simp only [Act.put, List.setIfInBounds_toArray, List.set_cons_zero, List.set_cons_succ]
                refine wpAnyH_take (i := 3) (oi := ?o118) (v := ?v118) ?hi118 (by kernel_rfl) (by kernel_rfl) (by kernel_rfl) ?hq118 (Or.inl ⟨?hw118, ?hy118⟩) (by assumption) ?r118
                case hi118 => (simp only [List.getElem?_toArray, List.getElem?_cons_succ, List.getElem?_cons_zero]; exact rfl)
                case hq118 => exact fun _ _ _ h => h
                case hw118 => rfl
                case hy118 => (intro w hSw; (try dsimp only at hSw); go_simp; try exact rfl)
                simp only [Act.put, List.setIfInBounds_toArray, List.set_cons_zero, List.set_cons_succ]
                refine wpAnyH_take (i := 4) (oi := ?o119) (v := ?v119) ?hi119 (by kernel_rfl) (by kernel_rfl) (by kernel_rfl) ?hq119 (Or.inl ⟨?hw119, ?hy119⟩) (by assumption) ?r119
                case hi119 => (simp only [List.getElem?_toArray, List.getElem?_cons_succ, List.getElem?_cons_zero]; exact rfl)
                case hq119 => exact fun _ _ _ h => h
                case hw119 => rfl
                case hy119 => (intro w hSw; (try dsimp only at hSw); go_simp; try exact rfl)
                simp only [Act.put, List.setIfInBounds_toArray, List.set_cons_zero, List.set_cons_succ]
                refine wpAnyH_take (i := 5) (oi := ?o120) (v := ?v120) ?hi120 (by kernel_rfl) (by kernel_rfl) (by kernel_rfl) ?hq120 (Or.inl ⟨?hw120, ?hy120⟩) (by assumption) ?r120
                case hi120 => (simp only [List.getElem?_toArray, List.getElem?_cons_succ, List.getElem?_cons_zero]; exact rfl)
                case hq120 => exact fun _ _ _ h => h
                case hw120 => rfl
                case hy120 => (intro w hSw; (try dsimp only at hSw); go_simp; try exact rfl)
                simp only [Act.put, List.setIfInBounds_toArray, List.set_cons_zero, List.set_cons_succ]
                refine wpAnyH_take (i := 6) (oi := ?o121) (v := ?v121) ?hi121 (by kernel_rfl) (by kernel_rfl) (by kernel_rfl) ?hq121 (Or.inl ⟨?hw121, ?hy121⟩) (by assumption) ?r121
                case hi121 => (simp only [List.getElem?_toArray, List.getElem?_cons_succ, List.getElem?_cons_zero]; exact rfl)
                case hq121 => exact fun _ _ _ h => h
                case hw121 => rfl
                case hy121 => (intro w hSw; (try dsimp only at hSw); go_simp; try exact rfl)
                simp only [Act.put, List.setIfInBounds_toArray, List.set_cons_zero, List.set_cons_succ]
                refine wpAnyH_take (i := 7) (oi := ?o122) (v := ?v122) ?hi122 (by kernel_rfl) (by kernel_rfl) (by kernel_rfl) ?hq122 (Or.inl ⟨?hw122, ?hy122⟩) (by assumption) ?r122
                case hi122 => (simp only [List.getElem?_toArray, List.getElem?_cons_succ, List.getElem?_cons_zero]; exact rfl)
                case hq122 => exact fun _ _ _ h => h
                case hw122 => rfl
                case hy122 => (intro w hSw; (try dsimp only at hSw); go_simp; try exact rfl)
                simp only [Act.put, List.setIfInBounds_toArray, List.set_cons_zero, List.set_cons_succ]
                refine wpAnyH_take (i := 8) (oi := ?o123) (v := ?v123) ?hi123 (by kernel_rfl) (by kernel_rfl) (by kernel_rfl) ?hq123 (Or.inl ⟨?hw123, ?hy123⟩) (by assumption) ?r123
                case hi123 => (simp only [List.getElem?_toArray, List.getElem?_cons_succ, List.getElem?_cons_zero]; exact rfl)
                case hq123 => exact fun _ _ _ h => h
                case hw123 => rfl
                case hy123 => (intro w hSw; (try dsimp only at hSw); go_simp; try exact rfl)
                simp only [Act.put, List.setIfInBounds_toArray, List.set_cons_zero, List.set_cons_succ]
                refine wpAnyH_take (i := 9) (oi := ?o124) (v := ?v124) ?hi124 (by kernel_rfl) (by kernel_rfl) (by kernel_rfl) ?hq124 (Or.inl ⟨?hw124, ?hy124⟩) (by assumption) ?r124
                case hi124 => (simp only [List.getElem?_toArray, List.getElem?_cons_succ, List.getElem?_cons_zero]; exact rfl)
                case hq124 => exact fun _ _ _ h => h
                case hw124 => rfl
                case hy124 => (intro w hSw; (try dsimp only at hSw); go_simp; try exact rfl)
                simp only [Act.put, List.setIfInBounds_toArray, List.set_cons_zero, List.set_cons_succ]
                refine wpAnyH_ready (rs := [10]) (by kernel_rfl) (by simp) ?_
                refine AllReadyH.cons (o := ?o274) ?hi274 (fun K hK => ?_) AllReadyH.nil
                case hi274 => (simp only [List.getElem?_toArray, List.getElem?_cons_succ, List.getElem?_cons_zero]; exact rfl)
                go_simp
                go_at_call 17
                refine (bytes_same A5 A6 gl gl c5 c6 gx wc R5.out R6.out).mono ?_
                rintro e wx ⟨rfl, rfl⟩
                refine hK.out _ _ X.out.down4 (fun _ => ?_)
                clear hK K R5 R6
                try simp only [Act.put, List.setIfInBounds_toArray, List.set_cons_zero, List.set_cons_succ]
                refine wpAnyH_take (i := 11) (oi := ?o125) (v := ?v125) ?hi125 (by kernel_rfl) (by kernel_rfl) (by kernel_rfl) ?hq125 (Or.inl ⟨?hw125, ?hy125⟩) (by assumption) ?r125
                case hi125 => (simp only [List.getElem?_toArray, List.getElem?_cons_succ, List.getElem?_cons_zero]; exact rfl)
                case hq125 => exact fun _ _ _ h => h
                case hw125 => rfl
                case hy125 => (intro w hSw; (try dsimp only at hSw); go_simp; try exact rfl)
                simp only [Act.put, List.setIfInBounds_toArray, List.set_cons_zero, List.set_cons_succ]
                refine wpAnyH_take (i := 12) (oi := ?o126) (v := ?v126) ?hi126 (by kernel_rfl) (by kernel_rfl) (by kernel_rfl) ?hq126 (Or.inl ⟨?hw126, ?hy126⟩) (by assumption) ?r126
                case hi126 => (simp only [List.getElem?_toArray, List.getElem?_cons_succ, List.getElem?_cons_zero]; exact rfl)
                case hq126 => exact fun _ _ _ h => h
                case hw126 => rfl
                case hy126 => (intro w hSw; (try dsimp only at hSw); go_simp; try exact rfl)
                simp only [Act.put, List.setIfInBounds_toArray, List.set_cons_zero, List.set_cons_succ]
                refine wpAnyH_take (i := 13) (oi := ?o127) (v := ?v127) ?hi127 (by kernel_rfl) (by kernel_rfl) (by kernel_rfl) ?hq127 (Or.inl ⟨?hw127, ?hy127⟩) (by assumption) ?r127
                case hi127 => (simp only [List.getElem?_toArray, List.getElem?_cons_succ, List.getElem?_cons_zero]; exact rfl)
                case hq127 => exact fun _ _ _ h => h
                case hw127 => rfl
                case hy127 => (intro w hSw; (try dsimp only at hSw); go_simp; try exact rfl)
                simp only [Act.put, List.setIfInBounds_toArray, List.set_cons_zero, List.set_cons_succ]
                refine wpAnyH_take (i := 14) (oi := ?o128) (v := ?v128) ?hi128 (by kernel_rfl) (by kernel_rfl) (by kernel_rfl) ?hq128 (Or.inl ⟨?hw128, ?hy128⟩) (by assumption) ?r128
                case hi128 => (simp only [List.getElem?_toArray, List.getElem?_cons_succ, List.getElem?_cons_zero]; exact rfl)
                case hq128 => exact fun _ _ _ h => h
                case hw128 => rfl
                case hy128 => (intro w hSw; (try dsimp only at hSw); go_simp; try exact rfl)
                simp only [Act.put, List.setIfInBounds_toArray, List.set_cons_zero, List.set_cons_succ]
                refine wpAnyH_take (i := 16) (oi := ?o129) (v := ?v129) ?hi129 (by kernel_rfl) (by kernel_rfl) (by kernel_rfl) ?hq129 (Or.inl ⟨?hw129, ?hy129⟩) (by assumption) ?r129
                case hi129 => (simp only [List.getElem?_toArray, List.getElem?_cons_succ, List.getElem?_cons_zero]; exact rfl)
                case hq129 => exact fun _ _ _ h => h
                case hw129 => rfl
                case hy129 => (intro w hSw; (try dsimp only at hSw); go_simp; try exact rfl)
                simp only [Act.put, List.setIfInBounds_toArray, List.set_cons_zero, List.set_cons_succ]
                refine wpAnyH_ready (rs := [15]) (by kernel_rfl) (by simp) ?_
                refine AllReadyH.cons (o := ?o275) ?hi275 (fun K hK => ?_) AllReadyH.nil
                case hi275 => (simp only [List.getElem?_toArray, List.getElem?_cons_succ, List.getElem?_cons_zero]; exact rfl)
                go_simp
                go_at_call 24
                refine (api.pending D.out).mono ?_
                rintro e wd ⟨rfl, bd⟩
                replace OB := Kept.mk (OB.out.below bd OB.out.lt)
                replace D := api.below D bd
                replace X := Kept.mk (X.out.below bd)
                replace B := step_below B bd
                clear bd
                refine hK.out _ _ X.out.down4 (fun _ => ?_)
                clear hK K
                try simp only [Act.put, List.setIfInBounds_toArray, List.set_cons_zero, List.set_cons_succ]
                refine wpAnyH_ready (rs := [17]) (by kernel_rfl) (by simp) ?_
                refine AllReadyH.cons (o := ?o276) ?hi276 (fun K hK => ?_) AllReadyH.nil
                case hi276 => (simp only [List.getElem?_toArray, List.getElem?_cons_succ, List.getElem?_cons_zero]; exact rfl)
                go_simp
                go_at_call 25
                refine (rpending_any _ _ xb N s X.out).mono ?_
                rintro e wx ⟨rfl, rfl⟩
                refine hK.out _ _ X.out.down4 (fun _ => ?_)
                clear hK K
                try simp only [Act.put, List.setIfInBounds_toArray, List.set_cons_zero, List.set_cons_succ]
                refine wpAnyH_take (i := 18) (oi := ?o130) (v := ?v130) ?hi130 (by kernel_rfl) (by kernel_rfl) (by kernel_rfl) ?hq130 (Or.inl ⟨?hw130, ?hy130⟩) (by assumption) ?r130
                case hi130 => (simp only [List.getElem?_toArray, List.getElem?_cons_succ, List.getElem?_cons_zero]; exact rfl)
                case hq130 => exact fun _ _ _ h => h
                case hw130 => rfl
                case hy130 => (intro w hSw; (try dsimp only at hSw); go_simp; try exact rfl)
                simp only [Act.put, List.setIfInBounds_toArray, List.set_cons_zero, List.set_cons_succ]
                refine wpAnyH_take (i := 19) (oi := ?o131) (v := ?v131) ?hi131 (by kernel_rfl) (by kernel_rfl) (by kernel_rfl) ?hq131 (Or.inl ⟨?hw131, ?hy131⟩) (by assumption) ?r131
                case hi131 => (simp only [List.getElem?_toArray, List.getElem?_cons_succ, List.getElem?_cons_zero]; exact rfl)
                case hq131 => exact fun _ _ _ h => h
                case hw131 => rfl
                case hy131 => (intro w hSw; (try dsimp only at hSw); go_simp; try exact rfl)
                simp only [Act.put, List.setIfInBounds_toArray, List.set_cons_zero, List.set_cons_succ]
                refine wpAnyH_take (i := 20) (oi := ?o132) (v := ?v132) ?hi132 (by kernel_rfl) (by kernel_rfl) (by kernel_rfl) ?hq132 (Or.inl ⟨?hw132, ?hy132⟩) (by assumption) ?r132
                case hi132 => (simp only [List.getElem?_toArray, List.getElem?_cons_succ, List.getElem?_cons_zero]; exact rfl)
                case hq132 => exact fun _ _ _ h => h
                case hw132 => rfl
                case hy132 => (intro w hSw; (try dsimp only at hSw); go_simp; try exact rfl)
                simp only [Act.put, List.setIfInBounds_toArray, List.set_cons_zero, List.set_cons_succ]
                refine wpAnyH_take (i := 21) (oi := ?o133) (v := ?v133) ?hi133 (by kernel_rfl) (by kernel_rfl) (by kernel_rfl) ?hq133 (Or.inl ⟨?hw133, ?hy133⟩) (by assumption) ?r133
                case hi133 => (simp only [List.getElem?_toArray, List.getElem?_cons_succ, List.getElem?_cons_zero]; exact rfl)
                case hq133 => exact fun _ _ _ h => h
                case hw133 => rfl
                case hy133 => (intro w hSw; (try dsimp only at hSw); go_simp; try exact rfl)
                simp only [Act.put, List.setIfInBounds_toArray, List.set_cons_zero, List.set_cons_succ]
                refine wpAnyH_take (i := 23) (oi := ?o134) (v := ?v134) ?hi134 (by kernel_rfl) (by kernel_rfl) (by kernel_rfl) ?hq134 (Or.inl ⟨?hw134, ?hy134⟩) (by assumption) ?r134
                case hi134 => (simp only [List.getElem?_toArray, List.getElem?_cons_succ, List.getElem?_cons_zero]; exact rfl)
                case hq134 => exact fun _ _ _ h => h
                case hw134 => rfl
                case hy134 => (intro w hSw; (try dsimp only at hSw); go_simp; try exact rfl)
                simp only [Act.put, List.setIfInBounds_toArray, List.set_cons_zero, List.set_cons_succ]
                refine wpAnyH_take (i := 24) (oi := ?o135) (v := ?v135) ?hi135 (by kernel_rfl) (by kernel_rfl) (by kernel_rfl) ?hq135 (Or.inl ⟨?hw135, ?hy135⟩) (by assumption) ?r135
                case hi135 => (simp only [List.getElem?_toArray, List.getElem?_cons_succ, List.getElem?_cons_zero]; exact rfl)
                case hq135 => exact fun _ _ _ h => h
                case hw135 => rfl
                case hy135 => (intro w hSw; (try dsimp only at hSw); go_simp; try exact rfl)
                simp only [Act.put, List.setIfInBounds_toArray, List.set_cons_zero, List.set_cons_succ]
                refine wpAnyH_take (i := 25) (oi := ?o136) (v := ?v136) ?hi136 (by kernel_rfl) (by kernel_rfl) (by kernel_rfl) ?hq136 (Or.inl ⟨?hw136, ?hy136⟩) (by assumption) ?r136
                case hi136 => (simp only [List.getElem?_toArray, List.getElem?_cons_succ, List.getElem?_cons_zero]; exact rfl)
                case hq136 => exact fun _ _ _ h => h
                case hw136 => rfl
                case hy136 => (intro w hSw; (try dsimp only at hSw); go_simp; try exact rfl)
                simp only [Act.put, List.setIfInBounds_toArray, List.set_cons_zero, List.set_cons_succ]
                refine wpAnyH_take (i := 26) (oi := ?o137) (v := ?v137) ?hi137 (by kernel_rfl) (by kernel_rfl) (by kernel_rfl) ?hq137 (Or.inl ⟨?hw137, ?hy137⟩) (by assumption) ?r137
                case hi137 => (simp only [List.getElem?_toArray, List.getElem?_cons_succ, List.getElem?_cons_zero]; exact rfl)
                case hq137 => exact fun _ _ _ h => h
                case hw137 => rfl
                case hy137 => (intro w hSw; (try dsimp only at hSw); go_simp; try exact rfl)
                simp only [Act.put, List.setIfInBounds_toArray, List.set_cons_zero, List.set_cons_succ]
                refine wpAnyH_ready (rs := [22]) (by kernel_rfl) (by simp) ?_
                refine AllReadyH.cons (o := ?o277) ?hi277 (fun K hK => ?_) AllReadyH.nil
                case hi277 => (simp only [List.getElem?_toArray, List.getElem?_cons_succ, List.getElem?_cons_zero]; exact rfl)
                go_simp
                go_at_call 26
                refine (api.down D.out).mono ?_
                rintro e we ⟨rfl, bd⟩
                replace OB := Kept.mk (OB.out.below bd OB.out.lt)
                replace D := api.below D bd
                replace X := Kept.mk (X.out.below bd)
                replace B := step_below B bd
                clear bd
                refine hK.out _ _ X.out.down4 (fun _ => ?_)
                clear hK K
                try simp only [Act.put, List.setIfInBounds_toArray, List.set_cons_zero, List.set_cons_succ]
                refine wpAnyH_take (i := 27) (oi := ?o138) (v := ?v138) ?hi138 (by kernel_rfl) (by kernel_rfl) (by kernel_rfl) ?hq138 (Or.inl ⟨?hw138, ?hy138⟩) (by assumption) ?r138
                case hi138 => (simp only [List.getElem?_toArray, List.getElem?_cons_succ, List.getElem?_cons_zero]; exact rfl)
                case hq138 => exact fun _ _ _ h => h
                case hw138 => rfl
                case hy138 => (intro w hSw; (try dsimp only at hSw); go_simp; try exact rfl)
                simp only [Act.put, List.setIfInBounds_toArray, List.set_cons_zero, List.set_cons_succ]
                refine wpAnyH_take (i := 28) (oi := ?o139) (v := ?v139) ?hi139 (by kernel_rfl) (by kernel_rfl) (by kernel_rfl) ?hq139 (Or.inl ⟨?hw139, ?hy139⟩) (by assumption) ?r139
                case hi139 => (simp only [List.getElem?_toArray, List.getElem?_cons_succ, List.getElem?_cons_zero]; exact rfl)
                case hq139 => exact fun _ _ _ h => h
                case hw139 => rfl
                case hy139 => (intro w hSw; (try dsimp only at hSw); go_simp; try exact rfl)
                simp only [Act.put, List.setIfInBounds_toArray, List.set_cons_zero, List.set_cons_succ]
                refine wpAnyH_take (i := 29) (oi := ?o140) (v := ?v140) ?hi140 (by kernel_rfl) (by kernel_rfl) (by kernel_rfl) ?hq140 (Or.inl ⟨?hw140, ?hy140⟩) (by assumption) ?r140
                case hi140 => (simp only [List.getElem?_toArray, List.getElem?_cons_succ, List.getElem?_cons_zero]; exact rfl)
                case hq140 => exact fun _ _ _ h => h
                case hw140 => rfl
                case hy140 => (intro w hSw; (try dsimp only at hSw); go_simp; try exact rfl)
                simp only [Act.put, List.setIfInBounds_toArray, List.set_cons_zero, List.set_cons_succ]
                refine wpAnyH_take (i := 30) (oi := ?o141) (v := ?v141) ?hi141 (by kernel_rfl) (by kernel_rfl) (by kernel_rfl) ?hq141 (Or.inl ⟨?hw141, ?hy141⟩) (by assumption) ?r141
                case hi141 => (simp only [List.getElem?_toArray, List.getElem?_cons_succ, List.getElem?_cons_zero]; exact rfl)
                case hq141 => exact fun _ _ _ h => h
                case hw141 => rfl
                case hy141 => (intro w hSw; (try dsimp only at hSw); go_simp; try exact rfl)
                simp only [Act.put, List.setIfInBounds_toArray, List.set_cons_zero, List.set_cons_succ]
                refine wpAnyH_take (i := 32) (oi := ?o142) (v := ?v142) ?hi142 (by kernel_rfl) (by kernel_rfl) (by kernel_rfl) ?hq142 (Or.inl ⟨?hw142, ?hy142⟩) (by assumption) ?r142
                case hi142 => (simp only [List.getElem?_toArray, List.getElem?_cons_succ, List.getElem?_cons_zero]; exact rfl)
                case hq142 => exact fun _ _ _ h => h
                case hw142 => rfl
                case hy142 => (intro w hSw; (try dsimp only at hSw); go_simp; try exact rfl)
                simp only [Act.put, List.setIfInBounds_toArray, List.set_cons_zero, List.set_cons_succ]
                refine wpAnyH_ready (rs := [31]) (by kernel_rfl) (by simp) ?_
                refine AllReadyH.cons (o := ?o278) ?hi278 (fun K hK => ?_) AllReadyH.nil
                case hi278 => (simp only [List.getElem?_toArray, List.getElem?_cons_succ, List.getElem?_cons_zero]; exact rfl)
                go_simp
                go_at_call 27
                refine (api.len D.out).mono ?_
                rintro e wf ⟨rfl, bd⟩
                replace OB := Kept.mk (OB.out.below bd OB.out.lt)
                replace D := api.below D bd
                replace X := Kept.mk (X.out.below bd)
                replace B := step_below B bd
                clear bd
                refine hK.out _ _ X.out.down4 (fun _ => ?_)
                clear hK K
                try simp only [Act.put, List.setIfInBounds_toArray, List.set_cons_zero, List.set_cons_succ]
                refine wpAnyH_take (i := 33) (oi := ?o143) (v := ?v143) ?hi143 (by kernel_rfl) (by kernel_rfl) (by kernel_rfl) ?hq143 (Or.inl ⟨?hw143, ?hy143⟩) (by assumption) ?r143
                case hi143 => (simp only [List.getElem?_toArray, List.getElem?_cons_succ, List.getElem?_cons_zero]; exact rfl)
                case hq143 => exact fun _ _ _ h => h
                case hw143 => rfl
                case hy143 => (intro w hSw; (try dsimp only at hSw); go_simp; try exact rfl)
                simp only [Act.put, List.setIfInBounds_toArray, List.set_cons_zero, List.set_cons_succ]
                refine wpAnyH_take (i := 34) (oi := ?o144) (v := ?v144) ?hi144 (by kernel_rfl) (by kernel_rfl) (by kernel_rfl) ?hq144 (Or.inl ⟨?hw144, ?hy144⟩) (by assumption) ?r144
                case hi144 => (simp only [List.getElem?_toArray, List.getElem?_cons_succ, List.getElem?_cons_zero]; exact rfl)
                case hq144 => exact fun _ _ _ h => h
                case hw144 => rfl
                case hy144 => (intro w hSw; (try dsimp only at hSw); go_simp; try exact rfl)
                simp only [Act.put, List.setIfInBounds_toArray, List.set_cons_zero, List.set_cons_succ]
                refine wpAnyH_done (by kernel_rfl) ?_ _
                refine NoPanic.normal ?_
                go_wp2
                go_roundw
                case rel => exact ⟨k + 1, _, _, _, by omega, by go_num, D, X, DJ, B, L, M⟩
                case measure => simp [intOf]; omega
              · have hz1 : (kd == 1) = false := by simpa using h1
                by_cases h2 : kd = 2
                · subst h2
                  obtain ⟨o0, o1, o2, o3, o4⟩ := op_cells OB.out
                  obtain ⟨W, hW⟩ : ∃ W, syncD s = W := ⟨_, rfl⟩
                  have hw := api.sync D.out
                  rw [hW] at hw
                  have HW := Kept.mk hw
                  clear hw
                  go_wp2_with fail
                  refine HW.out.mono ?_
                  rintro e w7 ⟨rfl, F7, dk, fp⟩
                  have LTW := OB.out.lt
                  replace OB := Kept.mk (OB.out.bar fp.1 OF.out)
                  obtain ⟨X, DJ⟩ := mv_d X DJ fp
                  replace OF := off_step OF LTW fp
                  replace D := Kept.mk dk
                  obtain ⟨B, L⟩ := step_fp B fp L
                  clear dk fp LTW
                  clear HW o0 o1 o2 o3 o4
                  obtain ⟨o0, o1, o2, o3, o4⟩ := op_cells OB.out
                  have hw := rsync_any _ _ xb N s X.out
                  rw [hW] at hw
                  have HW := Kept.mk hw
                  clear hw hW
                  go_wp2_with fail
                  refine HW.out.mono ?_
                  rintro e w9 ⟨rfl, G9, dk, fp⟩
                  have LTW := OB.out.lt
                  replace OB := Kept.mk (OB.out.bar fp.1 OG.out)
                  obtain ⟨D, DJ⟩ := mv_x api D DJ fp
                  replace OG := off_step OG LTW fp
                  replace X := Kept.mk dk
                  obtain ⟨B, M⟩ := step_fp B fp M
                  clear dk fp LTW
                  clear HW o0 o1 o2 o3 o4
                  generalize W.1 = ee at *
                  -- what is read, what is told
                  obtain ⟨o0, o1, o2, o3, o4⟩ := op_cells OB.out
                  have hr := api.read q D.out
                  obtain ⟨RR, hRR⟩ : ∃ r, readD W.2 q = r := ⟨_, rfl⟩
                  rw [hRR] at hr
                  have HR := Kept.mk hr
                  clear hr
                  go_wp2_with fail
                  refine HR.out.mono ?_
                  rintro e wa ⟨A5, c5, F5, rfl, r5, -, -, -, dk, fp⟩
                  have R5 := Kept.mk r5
                  have LTW := OB.out.lt
                  replace OB := Kept.mk (OB.out.bar fp.1 OF.out)
                  obtain ⟨X, DJ⟩ := mv_d X DJ fp
                  replace OF := off_step OF LTW fp
                  replace D := Kept.mk dk
                  obtain ⟨B, L⟩ := step_fp B fp L
                  clear dk fp LTW
                  clear r5 HR o0 o1 o2 o3 o4
                  obtain ⟨o0, o1, o2, o3, o4⟩ := op_cells OB.out
                  have hr := rread_any _ _ xb N W.2 q X.out
                  unfold RReadPost at hr
                  rw [hRR] at hr
                  have HR := Kept.mk hr
                  clear hr hRR
                  go_wp2_with fail
                  refine HR.out.mono ?_
                  rintro e wb ⟨A6, c6, rfl, r6, b6⟩
                  have R6 := Kept.mk r6
                  replace R5 := Kept.mk (R5.out.below b6)
                  replace OB := Kept.mk (OB.out.below b6 OB.out.lt)
                  replace D := api.below D b6
                  replace X := Kept.mk (X.out.below b6)
                  replace B := step_below B b6
                  clear r6 HR b6 o0 o1 o2 o3 o4
                  generalize RR.1 = ge at *
                  generalize RR.2 = gx at *
                  generalize gx.length = gl at *
                  have x4 := X.out.down4
                  go_upto_region 31 with (fail)
                  refine wp_region_noPanic ?_
                  refine wp_region_held_drew (S := fun w' : World => w'.cell? ⟨xb, 4, none⟩ = some (.bool W.2.down)) (by kernel_rfl) x4 (fun _ => ?_)
                  replace R5 := Kept.mk R5.out.drew
                  replace R6 := Kept.mk R6.out.drew
                  have bd : Below wb.heap.size wb wb.drew := (Below.refl _ _).drew
                  replace OB := Kept.mk (OB.out.below bd OB.out.lt)
                  replace D := api.below D bd
                  replace X := Kept.mk (X.out.below bd)
                  replace B := step_below B bd
                  clear bd x4
                  generalize wb.drew = wc at *
                  refine wpAnyH_take (i := 0) (oi := ?o145) (v := ?v145) ?hi145 (by kernel_rfl) (by kernel_rfl) (by kernel_rfl) ?hq145 (Or.inl ⟨?hw145, ?hy145⟩) (by assumption) ?r145
                  case hi145 => (simp only [List.getElem?_toArray, List.getElem?_cons_zero]; exact rfl)
                  case hq145 => exact fun _ _ _ h => h
                  case hw145 => rfl
                  case hy145 => (intro w hSw; (try dsimp only at hSw); go_simp; try exact rfl)
                  simp only [Act.put, List.setIfInBounds_toArray, List.set_cons_zero, List.set_cons_succ]
                  refine wpAnyH_take (i := 1) (oi := ?o146) (v := ?v146) ?hi146 (by kernel_rfl) (by kernel_rfl) (by kernel_rfl) ?hq146 (Or.inl ⟨?hw146, ?hy146⟩) (by assumption) ?r146
                  case hi146 => (simp only [List.getElem?_toArray, List.getElem?_cons_succ, List.getElem?_cons_zero]; exact rfl)
                  case hq146 => exact fun _ _ _ h => h
                  case hw146 => rfl
                  case hy146 => (intro w hSw; (try dsimp only at hSw); go_simp; try exact rfl)
                  simp only [Act.put, List.setIfInBounds_toArray, List.set_cons_zero, List.set_cons_succ]
                  refine wpAnyH_take (i := 2) (oi := ?o147) (v := ?v147) ?hi147 (by kernel_rfl) (by kernel_rfl) (by kernel_rfl) ?hq147 (Or.inl ⟨?hw147, ?hy147⟩) (by assumption) ?r147
                  case hi147 => (simp only [List.getElem?_toArray, List.getElem?_cons_succ, List.getElem?_cons_zero]; exact rfl)
                  case hq147 => exact fun _ _ _ h => h
                  case hw147 => rfl
                  case hy147 => (intro w hSw; (try dsimp only at hSw); go_simp; try exact rfl)
                  simp only [Act.put, List.setIfInBounds_toArray, List.set_cons_zero, List.set_cons_succ]
                  refine wpAnyH_take (i := 3) (oi := ?o148) (v := ?v148) ?hi148 (by kernel_rfl) (by kernel_rfl) (by kernel_rfl) ?hq148 (Or.inl ⟨?hw148, ?hy148⟩) (by assumption) ?r148
                  case hi148 => (simp only [List.getElem?_toArray, List.getElem?_cons_succ, List.getElem?_cons_zero]; exact rfl)
                  case hq148 => exact fun _ _ _ h => h
                  case hw148 => rfl
                  case hy148 => (intro w hSw; (try dsimp only at hSw); go_simp; try exact rfl)
                  simp only [Act.put, List.setIfInBounds_toArray, List.set_cons_zero, List.set_cons_succ]
                  refine wpAnyH_take (i := 4) (oi := ?o149) (v := ?v149) ?hi149 (by kernel_rfl) (by kernel_rfl) (by kernel_rfl) ?hq149 (Or.inl ⟨?hw149, ?hy149⟩) (by assumption) ?r149
                  case hi149 => (simp only [List.getElem?_toArray, List.getElem?_cons_succ, List.getElem?_cons_zero]; exact rfl)
                  case hq149 => exact fun _ _ _ h => h
                  case hw149 => rfl
                  case hy149 => (intro w hSw; (try dsimp only at hSw); go_simp; try exact rfl)
                  simp only [Act.put, List.setIfInBounds_toArray, List.set_cons_zero, List.set_cons_succ]
                  refine wpAnyH_take (i := 5) (oi := ?o150) (v := ?v150) ?hi150 (by kernel_rfl) (by kernel_rfl) (by kernel_rfl) ?hq150 (Or.inl ⟨?hw150, ?hy150⟩) (by assumption) ?r150
                  case hi150 => (simp only [List.getElem?_toArray, List.getElem?_cons_succ, List.getElem?_cons_zero]; exact rfl)
                  case hq150 => exact fun _ _ _ h => h
                  case hw150 => rfl
                  case hy150 => (intro w hSw; (try dsimp only at hSw); go_simp; try exact rfl)
                  simp only [Act.put, List.setIfInBounds_toArray, List.set_cons_zero, List.set_cons_succ]
                  refine wpAnyH_take (i := 6) (oi := ?o151) (v := ?v151) ?hi151 (by kernel_rfl) (by kernel_rfl) (by kernel_rfl) ?hq151 (Or.inl ⟨?hw151, ?hy151⟩) (by assumption) ?r151
                  case hi151 => (simp only [List.getElem?_toArray, List.getElem?_cons_succ, List.getElem?_cons_zero]; exact rfl)
                  case hq151 => exact fun _ _ _ h => h
                  case hw151 => rfl
                  case hy151 => (intro w hSw; (try dsimp only at hSw); go_simp; try exact rfl)
                  simp only [Act.put, List.setIfInBounds_toArray, List.set_cons_zero, List.set_cons_succ]
                  refine wpAnyH_take (i := 7) (oi := ?o152) (v := ?v152) ?hi152 (by kernel_rfl) (by kernel_rfl) (by kernel_rfl) ?hq152 (Or.inl ⟨?hw152, ?hy152⟩) (by assumption) ?r152
                  case hi152 => (simp only [List.getElem?_toArray, List.getElem?_cons_succ, List.getElem?_cons_zero]; exact rfl)
                  case hq152 => exact fun _ _ _ h => h
                  case hw152 => rfl
                  case hy152 => (intro w hSw; (try dsimp only at hSw); go_simp; try exact rfl)
                  simp only [Act.put, List.setIfInBounds_toArray, List.set_cons_zero, List.set_cons_succ]
                  refine wpAnyH_take (i := 8) (oi := ?o153) (v := ?v153) ?hi153 (by kernel_rfl) (by kernel_rfl) (by kernel_rfl) ?hq153 (Or.inl ⟨?hw153, ?hy153⟩) (by assumption) ?r153
                  case hi153 => (simp only [List.getElem?_toArray, List.getElem?_cons_succ, List.getElem?_cons_zero]; exact rfl)
                  case hq153 => exact fun _ _ _ h => h
                  case hw153 => rfl
                  case hy153 => (intro w hSw; (try dsimp only at hSw); go_simp; try exact rfl)
                  simp only [Act.put, List.setIfInBounds_toArray, List.set_cons_zero, List.set_cons_succ]
                  refine wpAnyH_take (i := 9) (oi := ?o154) (v := ?v154) ?hi154 (by kernel_rfl) (by kernel_rfl) (by kernel_rfl) ?hq154 (Or.inl ⟨?hw154, ?hy154⟩) (by assumption) ?r154
                  case hi154 => (simp only [List.getElem?_toArray, List.getElem?_cons_succ, List.getElem?_cons_zero]; exact rfl)
                  case hq154 => exact fun _ _ _ h => h
                  case hw154 => rfl
                  case hy154 => (intro w hSw; (try dsimp only at hSw); go_simp; try exact rfl)
                  simp only [Act.put, List.setIfInBounds_toArray, List.set_cons_zero, List.set_cons_succ]
                  refine wpAnyH_ready (rs := [10]) (by kernel_rfl) (by simp) ?_
                  refine AllReadyH.cons (o := ?o279) ?hi279 (fun K hK => ?_) AllReadyH.nil
                  case hi279 => (simp only [List.getElem?_toArray, List.getElem?_cons_succ, List.getElem?_cons_zero]; exact rfl)
                  go_simp
                  go_at_call 17
                  refine (bytes_same A5 A6 gl gl c5 c6 gx wc R5.out R6.out).mono ?_
                  rintro e wx ⟨rfl, rfl⟩
                  refine hK.out _ _ X.out.down4 (fun _ => ?_)
                  clear hK K R5 R6
                  try simp only [Act.put, List.setIfInBounds_toArray, List.set_cons_zero, List.set_cons_succ]
                  refine wpAnyH_take (i := 11) (oi := ?o155) (v := ?v155) ?hi155 (by kernel_rfl) (by kernel_rfl) (by kernel_rfl) ?hq155 (Or.inl ⟨?hw155, ?hy155⟩) (by assumption) ?r155
                  case hi155 => (simp only [List.getElem?_toArray, List.getElem?_cons_succ, List.getElem?_cons_zero]; exact rfl)
                  case hq155 => exact fun _ _ _ h => h
                  case hw155 => rfl
                  case hy155 => (intro w hSw; (try dsimp only at hSw); go_simp; try exact rfl)
                  simp only [Act.put, List.setIfInBounds_toArray, List.set_cons_zero, List.set_cons_succ]
                  refine wpAnyH_take (i := 12) (oi := ?o156) (v := ?v156) ?hi156 (by kernel_rfl) (by kernel_rfl) (by kernel_rfl) ?hq156 (Or.inl ⟨?hw156, ?hy156⟩) (by assumption) ?r156
                  case hi156 => (simp only [List.getElem?_toArray, List.getElem?_cons_succ, List.getElem?_cons_zero]; exact rfl)
                  case hq156 => exact fun _ _ _ h => h
                  case hw156 => rfl
                  case hy156 => (intro w hSw; (try dsimp only at hSw); go_simp; try exact rfl)
                  simp only [Act.put, List.setIfInBounds_toArray, List.set_cons_zero, List.set_cons_succ]
                  refine wpAnyH_take (i := 13) (oi := ?o157) (v := ?v157) ?hi157 (by kernel_rfl) (by kernel_rfl) (by kernel_rfl) ?hq157 (Or.inl ⟨?hw157, ?hy157⟩) (by assumption) ?r157
                  case hi157 => (simp only [List.getElem?_toArray, List.getElem?_cons_succ, List.getElem?_cons_zero]; exact rfl)
                  case hq157 => exact fun _ _ _ h => h
                  case hw157 => rfl
                  case hy157 => (intro w hSw; (try dsimp only at hSw); go_simp; try exact rfl)
                  simp only [Act.put, List.setIfInBounds_toArray, List.set_cons_zero, List.set_cons_succ]
                  refine wpAnyH_take (i := 14) (oi := ?o158) (v := ?v158) ?hi158 (by kernel_rfl) (by kernel_rfl) (by kernel_rfl) ?hq158 (Or.inl ⟨?hw158, ?hy158⟩) (by assumption) ?r158
                  case hi158 => (simp only [List.getElem?_toArray, List.getElem?_cons_succ, List.getElem?_cons_zero]; exact rfl)
                  case hq158 => exact fun _ _ _ h => h
                  case hw158 => rfl
                  case hy158 => (intro w hSw; (try dsimp only at hSw); go_simp; try exact rfl)
                  simp only [Act.put, List.setIfInBounds_toArray, List.set_cons_zero, List.set_cons_succ]
                  refine wpAnyH_take (i := 16) (oi := ?o159) (v := ?v159) ?hi159 (by kernel_rfl) (by kernel_rfl) (by kernel_rfl) ?hq159 (Or.inl ⟨?hw159, ?hy159⟩) (by assumption) ?r159
                  case hi159 => (simp only [List.getElem?_toArray, List.getElem?_cons_succ, List.getElem?_cons_zero]; exact rfl)
                  case hq159 => exact fun _ _ _ h => h
                  case hw159 => rfl
                  case hy159 => (intro w hSw; (try dsimp only at hSw); go_simp; try exact rfl)
                  simp only [Act.put, List.setIfInBounds_toArray, List.set_cons_zero, List.set_cons_succ]
                  refine wpAnyH_ready (rs := [15]) (by kernel_rfl) (by simp) ?_
                  refine AllReadyH.cons (o := ?o280) ?hi280 (fun K hK => ?_) AllReadyH.nil
                  case hi280 => (simp only [List.getElem?_toArray, List.getElem?_cons_succ, List.getElem?_cons_zero]; exact rfl)
                  go_simp
                  go_at_call 24
                  refine (api.pending D.out).mono ?_
                  rintro e wd ⟨rfl, bd⟩
                  replace OB := Kept.mk (OB.out.below bd OB.out.lt)
                  replace D := api.below D bd
                  replace X := Kept.mk (X.out.below bd)
                  replace B := step_below B bd
                  clear bd
                  refine hK.out _ _ X.out.down4 (fun _ => ?_)
                  clear hK K
                  try simp only [Act.put, List.setIfInBounds_toArray, List.set_cons_zero, List.set_cons_succ]
                  refine wpAnyH_ready (rs := [17]) (by kernel_rfl) (by simp) ?_
                  refine AllReadyH.cons (o := ?o281) ?hi281 (fun K hK => ?_) AllReadyH.nil
                  case hi281 => (simp only [List.getElem?_toArray, List.getElem?_cons_succ, List.getElem?_cons_zero]; exact rfl)
                  go_simp
                  go_at_call 25
                  refine (rpending_any _ _ xb N W.2 X.out).mono ?_
                  rintro e wx ⟨rfl, rfl⟩
                  refine hK.out _ _ X.out.down4 (fun _ => ?_)
                  clear hK K
                  try simp only [Act.put, List.setIfInBounds_toArray, List.set_cons_zero, List.set_cons_succ]
                  refine wpAnyH_take (i := 18) (oi := ?o160) (v := ?v160) ?hi160 (by kernel_rfl) (by kernel_rfl) (by kernel_rfl) ?hq160 (Or.inl ⟨?hw160, ?hy160⟩) (by assumption) ?r160
                  case hi160 => (simp only [List.getElem?_toArray, List.getElem?_cons_succ, List.getElem?_cons_zero]; exact rfl)
                  case hq160 => exact fun _ _ _ h => h
                  case hw160 => rfl
                  case hy160 => (intro w hSw; (try dsimp only at hSw); go_simp; try exact rfl)
                  simp only [Act.put, List.setIfInBounds_toArray, List.set_cons_zero, List.set_cons_succ]
                  refine wpAnyH_take (i := 19) (oi := ?o161) (v := ?v161) ?hi161 (by kernel_rfl) (by kernel_rfl) (by kernel_rfl) ?hq161 (Or.inl ⟨?hw161, ?hy161⟩) (by assumption) ?r161
                  case hi161 => (simp only [List.getElem?_toArray, List.getElem?_cons_succ, List.getElem?_cons_zero]; exact rfl)
                  case hq161 => exact fun _ _ _ h => h
                  case hw161 => rfl
                  case hy161 => (intro w hSw; (try dsimp only at hSw); go_simp; try exact rfl)
                  simp only [Act.put, List.setIfInBounds_toArray, List.set_cons_zero, List.set_cons_succ]
                  refine wpAnyH_take (i := 20) (oi := ?o162) (v := ?v162) ?hi162 (by kernel_rfl) (by kernel_rfl) (by kernel_rfl) ?hq162 (Or.inl ⟨?hw162, ?hy162⟩) (by assumption) ?r162
                  case hi162 => (simp only [List.getElem?_toArray, List.getElem?_cons_succ, List.getElem?_cons_zero]; exact rfl)
                  case hq162 => exact fun _ _ _ h => h
                  case hw162 => rfl
                  case hy162 => (intro w hSw; (try dsimp only at hSw); go_simp; try exact rfl)
                  simp only [Act.put, List.setIfInBounds_toArray, List.set_cons_zero, List.set_cons_succ]
                  refine wpAnyH_take (i := 21) (oi := ?o163) (v := ?v163) ?hi163 (by kernel_rfl) (by kernel_rfl) (by kernel_rfl) ?hq163 (Or.inl ⟨?hw163, ?hy163⟩) (by assumption) ?r163
                  case hi163 => (simp only [List.getElem?_toArray, List.getElem?_cons_succ, List.getElem?_cons_zero]; exact rfl)
                  case hq163 => exact fun _ _ _ h => h
                  case hw163 => rfl
                  case hy163 => (intro w hSw; (try dsimp only at hSw); go_simp; try exact rfl)
                  simp only [Act.put, List.setIfInBounds_toArray, List.set_cons_zero, List.set_cons_succ]
                  refine wpAnyH_take (i := 23) (oi := ?o164) (v := ?v164) ?hi164 (by kernel_rfl) (by kernel_rfl) (by kernel_rfl) ?hq164 (Or.inl ⟨?hw164, ?hy164⟩) (by assumption) ?r164
                  case hi164 => (simp only [List.getElem?_toArray, List.getElem?_cons_succ, List.getElem?_cons_zero]; exact rfl)
                  case hq164 => exact fun _ _ _ h => h
                  case hw164 => rfl
                  case hy164 => (intro w hSw; (try dsimp only at hSw); go_simp; try exact rfl)
                  simp only [Act.put, List.setIfInBounds_toArray, List.set_cons_zero, List.set_cons_succ]
                  refine wpAnyH_take (i := 24) (oi := ?o165) (v := ?v165) ?hi165 (by kernel_rfl) (by kernel_rfl) (by kernel_rfl) ?hq165 (Or.inl ⟨?hw165, ?hy165⟩) (by assumption) ?r165
                  case hi165 => (simp only [List.getElem?_toArray, List.getElem?_cons_succ, List.getElem?_cons_zero]; exact rfl)
                  case hq165 => exact fun _ _ _ h => h
                  case hw165 => rfl
                  case hy165 => (intro w hSw; (try dsimp only at hSw); go_simp; try exact rfl)
                  simp only [Act.put, List.setIfInBounds_toArray, List.set_cons_zero, List.set_cons_succ]
                  refine wpAnyH_take (i := 25) (oi := ?o166) (v := ?v166) ?hi166 (by kernel_rfl) (by kernel_rfl) (by kernel_rfl) ?hq166 (Or.inl ⟨?hw166, ?hy166⟩) (by assumption) ?r166
                  case hi166 => (simp only [List.getElem?_toArray, List.getElem?_cons_succ, List.getElem?_cons_zero]; exact rfl)
                  case hq166 => exact fun _ _ _ h => h
                  case hw166 => rfl
                  case hy166 => (intro w hSw; (try dsimp only at hSw); go_simp; try exact rfl)
                  simp only [Act.put, List.setIfInBounds_toArray, List.set_cons_zero, List.set_cons_succ]
                  refine wpAnyH_take (i := 26) (oi := ?o167) (v := ?v167) ?hi167 (by kernel_rfl) (by kernel_rfl) (by kernel_rfl) ?hq167 (Or.inl ⟨?hw167, ?hy167⟩) (by assumption) ?r167
                  case hi167 => (simp only [List.getElem?_toArray, List.getElem?_cons_succ, List.getElem?_cons_zero]; exact rfl)
                  case hq167 => exact fun _ _ _ h => h
                  case hw167 => rfl
                  case hy167 => (intro w hSw; (try dsimp only at hSw); go_simp; try exact rfl)
                  simp only [Act.put, List.setIfInBounds_toArray, List.set_cons_zero, List.set_cons_succ]
                  refine wpAnyH_ready (rs := [22]) (by kernel_rfl) (by simp) ?_
                  refine AllReadyH.cons (o := ?o282) ?hi282 (fun K hK => ?_) AllReadyH.nil
                  case hi282 => (simp only [List.getElem?_toArray, List.getElem?_cons_succ, List.getElem?_cons_zero]; exact rfl)
                  go_simp
                  go_at_call 26
                  refine (api.down D.out).mono ?_
                  rintro e we ⟨rfl, bd⟩
                  replace OB := Kept.mk (OB.out.below bd OB.out.lt)
                  replace D := api.below D bd
                  replace X := Kept.mk (X.out.below bd)
                  replace B := step_below B bd
                  clear bd
                  refine hK.out _ _ X.out.down4 (fun _ => ?_)
                  clear hK K
                  try simp only [Act.put, List.setIfInBounds_toArray, List.set_cons_zero, List.set_cons_succ]
                  refine wpAnyH_take (i := 27) (oi := ?o168) (v := ?v168) ?hi168 (by kernel_rfl) (by kernel_rfl) (by kernel_rfl) ?hq168 (Or.inl ⟨?hw168, ?hy168⟩) (by assumption) ?r168
                  case hi168 => (simp only [List.getElem?_toArray, List.getElem?_cons_succ, List.getElem?_cons_zero]; exact rfl)
                  case hq168 => exact fun _ _ _ h => h
                  case hw168 => rfl
                  case hy168 => (intro w hSw; (try dsimp only at hSw); go_simp; try exact rfl)
                  simp only [Act.put, List.setIfInBounds_toArray, List.set_cons_zero, List.set_cons_succ]
                  refine wpAnyH_take (i := 28) (oi := ?o169) (v := ?v169) ?hi169 (by kernel_rfl) (by kernel_rfl) (by kernel_rfl) ?hq169 (Or.inl ⟨?hw169, ?hy169⟩) (by assumption) ?r169
                  case hi169 => (simp only [List.getElem?_toArray, List.getElem?_cons_succ, List.getElem?_cons_zero]; exact rfl)
                  case hq169 => exact fun _ _ _ h => h
                  case hw169 => rfl
                  case hy169 => (intro w hSw; (try dsimp only at hSw); go_simp; try exact rfl)
                  simp only [Act.put, List.setIfInBounds_toArray, List.set_cons_zero, List.set_cons_succ]
                  refine wpAnyH_take (i := 29) (oi := ?o170) (v := ?v170) ?hi170 (by kernel_rfl) (by kernel_rfl) (by kernel_rfl) ?hq170 (Or.inl ⟨?hw170, ?hy170⟩) (by assumption) ?r170
                  case hi170 => (simp only [List.getElem?_toArray, List.getElem?_cons_succ, List.getElem?_cons_zero]; exact rfl)
                  case hq170 => exact fun _ _ _ h => h
                  case hw170 => rfl
                  case hy170 => (intro w hSw; (try dsimp only at hSw); go_simp; try exact rfl)
                  simp only [Act.put, List.setIfInBounds_toArray, List.set_cons_zero, List.set_cons_succ]
                  refine wpAnyH_take (i := 30) (oi := ?o171) (v := ?v171) ?hi171 (by kernel_rfl) (by kernel_rfl) (by kernel_rfl) ?hq171 (Or.inl ⟨?hw171, ?hy171⟩) (by assumption) ?r171
                  case hi171 => (simp only [List.getElem?_toArray, List.getElem?_cons_succ, List.getElem?_cons_zero]; exact rfl)
                  case hq171 => exact fun _ _ _ h => h
                  case hw171 => rfl
                  case hy171 => (intro w hSw; (try dsimp only at hSw); go_simp; try exact rfl)
                  simp only [Act.put, List.setIfInBounds_toArray, List.set_cons_zero, List.set_cons_succ]
                  refine wpAnyH_take (i := 32) (oi := ?o172) (v := ?v172) ?hi172 (by kernel_rfl) (by kernel_rfl) (by kernel_rfl) ?hq172 (Or.inl ⟨?hw172, ?hy172⟩) (by assumption) ?r172
                  case hi172 => (simp only [List.getElem?_toArray, List.getElem?_cons_succ, List.getElem?_cons_zero]; exact rfl)
                  case hq172 => exact fun _ _ _ h => h
                  case hw172 => rfl
                  case hy172 => (intro w hSw; (try dsimp only at hSw); go_simp; try exact rfl)
                  simp only [Act.put, List.setIfInBounds_toArray, List.set_cons_zero, List.set_cons_succ]
                  refine wpAnyH_ready (rs := [31]) (by kernel_rfl) (by simp) ?_
                  refine AllReadyH.cons (o := ?o283) ?hi283 (fun K hK => ?_) AllReadyH.nil
                  case hi283 => (simp only [List.getElem?_toArray, List.getElem?_cons_succ, List.getElem?_cons_zero]; exact rfl)
                  go_simp
                  go_at_call 27
                  refine (api.len D.out).mono ?_
                  rintro e wf ⟨rfl, bd⟩
                  replace OB := Kept.mk (OB.out.below bd OB.out.lt)
                  replace D := api.below D bd
                  replace X := Kept.mk (X.out.below bd)
                  replace B := step_below B bd
                  clear bd
                  refine hK.out _ _ X.out.down4 (fun _ => ?_)
                  clear hK K
                  try simp only [Act.put, List.setIfInBounds_toArray, List.set_cons_zero, List.set_cons_succ]
                  refine wpAnyH_take (i := 33) (oi := ?o173) (v := ?v173) ?hi173 (by kernel_rfl) (by kernel_rfl) (by kernel_rfl) ?hq173 (Or.inl ⟨?hw173, ?hy173⟩) (by assumption) ?r173
                  case hi173 => (simp only [List.getElem?_toArray, List.getElem?_cons_succ, List.getElem?_cons_zero]; exact rfl)
                  case hq173 => exact fun _ _ _ h => h
                  case hw173 => rfl
                  case hy173 => (intro w hSw; (try dsimp only at hSw); go_simp; try exact rfl)
                  simp only [Act.put, List.setIfInBounds_toArray, List.set_cons_zero, List.set_cons_succ]
                  refine wpAnyH_take (i := 34) (oi := ?o174) (v := ?v174) ?hi174 (by kernel_rfl) (by kernel_rfl) (by kernel_rfl) ?hq174 (Or.inl ⟨?hw174, ?hy174⟩) (by assumption) ?r174
                  case hi174 => (simp only [List.getElem?_toArray, List.getElem?_cons_succ, List.getElem?_cons_zero]; exact rfl)
                  case hq174 => exact fun _ _ _ h => h
                  case hw174 => rfl
                  case hy174 => (intro w hSw; (try dsimp only at hSw); go_simp; try exact rfl)
                  simp only [Act.put, List.setIfInBounds_toArray, List.set_cons_zero, List.set_cons_succ]
                  refine wpAnyH_done (by kernel_rfl) ?_ _
                  refine NoPanic.normal ?_
                  go_wp2
                  go_roundw
                  case rel => exact ⟨k + 1, _, _, _, by omega, by go_num, D, X, DJ, B, L, M⟩
                  case measure => simp [intOf]; omega
                · have hz2 : (kd == 2) = false := by simpa using h2
                  by_cases h3 : kd = 3
                  · subst h3
                    obtain ⟨o0, o1, o2, o3, o4⟩ := op_cells OB.out
                    go_wp2_with fail
                    refine (api.fuse z D.out hz).mono ?_
                    rintro e w7 ⟨rfl, F7, dk, fp⟩
                    have LTW := OB.out.lt
                    replace OB := Kept.mk (OB.out.bar fp.1 OF.out)
                    obtain ⟨X, DJ⟩ := mv_d X DJ fp
                    replace OF := off_step OF LTW fp
                    replace D := Kept.mk dk
                    obtain ⟨B, L⟩ := step_fp B fp L
                    clear dk fp LTW
                    clear o0 o1 o2 o3 o4
                    obtain ⟨o0, o1, o2, o3, o4⟩ := op_cells OB.out
                    go_wp2_with fail
                    refine (rfuse_any _ _ xb N s z X.out hz).mono ?_
                    rintro e w9 ⟨rfl, dk, fp⟩
                    have LTW := OB.out.lt
                    replace OB := Kept.mk (OB.out.bar fp.1 OG.out)
                    obtain ⟨D, DJ⟩ := mv_x api D DJ fp
                    replace OG := off_step OG LTW fp
                    replace X := Kept.mk dk
                    obtain ⟨B, M⟩ := step_fp B fp M
                    clear dk fp LTW
                    clear o0 o1 o2 o3 o4
                    obtain ⟨W, hW⟩ : ∃ W, fuseD s z = W := ⟨_, rfl⟩
                    rw [hW] at D X
                    clear hW
                    -- what is read, what is told
                    obtain ⟨o0, o1, o2, o3, o4⟩ := op_cells OB.out
                    have hr := api.read q D.out
                    obtain ⟨RR, hRR⟩ : ∃ r, readD W q = r := ⟨_, rfl⟩
                    rw [hRR] at hr
                    have HR := Kept.mk hr
                    clear hr
                    go_wp2_with fail
                    refine HR.out.mono ?_
                    rintro e wa ⟨A5, c5, F5, rfl, r5, -, -, -, dk, fp⟩
                    have R5 := Kept.mk r5
                    have LTW := OB.out.lt
                    replace OB := Kept.mk (OB.out.bar fp.1 OF.out)
                    obtain ⟨X, DJ⟩ := mv_d X DJ fp
                    replace OF := off_step OF LTW fp
                    replace D := Kept.mk dk
                    obtain ⟨B, L⟩ := step_fp B fp L
                    clear dk fp LTW
                    clear r5 HR o0 o1 o2 o3 o4
                    obtain ⟨o0, o1, o2, o3, o4⟩ := op_cells OB.out
                    have hr := rread_any _ _ xb N W q X.out
                    unfold RReadPost at hr
                    rw [hRR] at hr
                    have HR := Kept.mk hr
                    clear hr hRR
                    go_wp2_with fail
                    refine HR.out.mono ?_
                    rintro e wb ⟨A6, c6, rfl, r6, b6⟩
                    have R6 := Kept.mk r6
                    replace R5 := Kept.mk (R5.out.below b6)
                    replace OB := Kept.mk (OB.out.below b6 OB.out.lt)
                    replace D := api.below D b6
                    replace X := Kept.mk (X.out.below b6)
                    replace B := step_below B b6
                    clear r6 HR b6 o0 o1 o2 o3 o4
                    generalize RR.1 = ge at *
                    generalize RR.2 = gx at *
                    generalize gx.length = gl at *
                    have x4 := X.out.down4
                    go_upto_region 31 with (fail)
                    refine wp_region_noPanic ?_
                    refine wp_region_held_drew (S := fun w' : World => w'.cell? ⟨xb, 4, none⟩ = some (.bool W.down)) (by kernel_rfl) x4 (fun _ => ?_)
                    replace R5 := Kept.mk R5.out.drew
                    replace R6 := Kept.mk R6.out.drew
                    have bd : Below wb.heap.size wb wb.drew := (Below.refl _ _).drew
                    replace OB := Kept.mk (OB.out.below bd OB.out.lt)
                    replace D := api.below D bd
                    replace X := Kept.mk (X.out.below bd)
                    replace B := step_below B bd
                    clear bd x4
                    generalize wb.drew = wc at *
                    refine wpAnyH_take (i := 0) (oi := ?o175) (v := ?v175) ?hi175 (by kernel_rfl) (by kernel_rfl) (by kernel_rfl) ?hq175 (Or.inl ⟨?hw175, ?hy175⟩) (by assumption) ?r175
                    case hi175 => (simp only [List.getElem?_toArray, List.getElem?_cons_zero]; exact rfl)
                    case hq175 => exact fun _ _ _ h => h
                    case hw175 => rfl
                    case hy175 => (intro w hSw; (try dsimp only at hSw); go_simp; try exact rfl)
                    simp only [Act.put, List.setIfInBounds_toArray, List.set_cons_zero, List.set_cons_succ]
                    refine wpAnyH_take (i := 1) (oi := ?o176) (v := ?v176) ?hi176 (by kernel_rfl) (by kernel_rfl) (by kernel_rfl) ?hq176 (Or.inl ⟨?hw176, ?hy176⟩) (by assumption) ?r176
                    case hi176 => (simp only [List.getElem?_toArray, List.getElem?_cons_succ, List.getElem?_cons_zero]; exact rfl)
                    case hq176 => exact fun _ _ _ h => h
                    case hw176 => rfl
                    case hy176 => (intro w hSw; (try dsimp only at hSw); go_simp; try exact rfl)
                    simp only [Act.put, List.setIfInBounds_toArray, List.set_cons_zero, List.set_cons_succ]
                    refine wpAnyH_take (i := 2) (oi := ?o177) (v := ?v177) ?hi177 (by kernel_rfl) (by kernel_rfl) (by kernel_rfl) ?hq177 (Or.inl ⟨?hw177, ?hy177⟩) (by assumption) ?r177
                    case hi177 => (simp only [List.getElem?_toArray, List.getElem?_cons_succ, List.getElem?_cons_zero]; exact rfl)
                    case hq177 => exact fun _ _ _ h => h
                    case hw177 => rfl
                    case hy177 => (intro w hSw; (try dsimp only at hSw); go_simp; try exact rfl)
                    simp only [Act.put, List.setIfInBounds_toArray, List.set_cons_zero, List.set_cons_succ]
                    refine wpAnyH_take (i := 3) (oi := ?o178) (v := ?v178) ?hi178 (by kernel_rfl) (by kernel_rfl) (by kernel_rfl) ?hq178 (Or.inl ⟨?hw178, ?hy178⟩) (by assumption) ?r178
                    case hi178 => (simp only [List.getElem?_toArray, List.getElem?_cons_succ, List.getElem?_cons_zero]; exact rfl)
                    case hq178 => exact fun _ _ _ h => h
                    case hw178 => rfl
                    case hy178 => (intro w hSw; (try dsimp only at hSw); go_simp; try exact rfl)
                    simp only [Act.put, List.setIfInBounds_toArray, List.set_cons_zero, List.set_cons_succ]
                    refine wpAnyH_take (i := 4) (oi := ?o179) (v := ?v179) ?hi179 (by kernel_rfl) (by kernel_rfl) (by kernel_rfl) ?hq179 (Or.inl ⟨?hw179, ?hy179⟩) (by assumption) ?r179
                    case hi179 => (simp only [List.getElem?_toArray, List.getElem?_cons_succ, List.getElem?_cons_zero]; exact rfl)
                    case hq179 => exact fun _ _ _ h => h
                    case hw179 => rfl
                    case hy179 => (intro w hSw; (try dsimp only at hSw); go_simp; try exact rfl)
                    simp only [Act.put, List.setIfInBounds_toArray, List.set_cons_zero, List.set_cons_succ]
                    refine wpAnyH_take (i := 5) (oi := ?o180) (v := ?v180) ?hi180 (by kernel_rfl) (by kernel_rfl) (by kernel_rfl) ?hq180 (Or.inl ⟨?hw180, ?hy180⟩) (by assumption) ?r180
                    case hi180 => (simp only [List.getElem?_toArray, List.getElem?_cons_succ, List.getElem?_cons_zero]; exact rfl)
                    case hq180 => exact fun _ _ _ h => h
                    case hw180 => rfl
                    case hy180 => (intro w hSw; (try dsimp only at hSw); go_simp; try exact rfl)
                    simp only [Act.put, List.setIfInBounds_toArray, List.set_cons_zero, List.set_cons_succ]
                    refine wpAnyH_take (i := 6) (oi := ?o181) (v := ?v181) ?hi181 (by kernel_rfl) (by kernel_rfl) (by kernel_rfl) ?hq181 (Or.inl ⟨?hw181, ?hy181⟩) (by assumption) ?r181
                    case hi181 => (simp only [List.getElem?_toArray, List.getElem?_cons_succ, List.getElem?_cons_zero]; exact rfl)
                    case hq181 => exact fun _ _ _ h => h
                    case hw181 => rfl
                    case hy181 => (intro w hSw; (try dsimp only at hSw); go_simp; try exact rfl)
                    simp only [Act.put, List.setIfInBounds_toArray, List.set_cons_zero, List.set_cons_succ]
                    refine wpAnyH_take (i := 7) (oi := ?o182) (v := ?v182) ?hi182 (by kernel_rfl) (by kernel_rfl) (by kernel_rfl) ?hq182 (Or.inl ⟨?hw182, ?hy182⟩) (by assumption) ?r182
                    case hi182 => (simp only [List.getElem?_toArray, List.getElem?_cons_succ, List.getElem?_cons_zero]; exact rfl)
                    case hq182 => exact fun _ _ _ h => h
                    case hw182 => rfl
                    case hy182 => (intro w hSw; (try dsimp only at hSw); go_simp; try exact rfl)
                    simp only [Act.put, List.setIfInBounds_toArray, List.set_cons_zero, List.set_cons_succ]
                    refine wpAnyH_take (i := 8) (oi := ?o183) (v := ?v183) ?hi183 (by kernel_rfl) (by kernel_rfl) (by kernel_rfl) ?hq183 (Or.inl ⟨?hw183, ?hy183⟩) (by assumption) ?r183
                    case hi183 => (simp only [List.getElem?_toArray, List.getElem?_cons_succ, List.getElem?_cons_zero]; exact rfl)
                    case hq183 => exact fun _ _ _ h => h
                    case hw183 => rfl
                    case hy183 => (intro w hSw; (try dsimp only at hSw); go_simp; try exact rfl)
                    simp only [Act.put, List.setIfInBounds_toArray, List.set_cons_zero, List.set_cons_succ]
                    refine wpAnyH_take (i := 9) (oi := ?o184) (v := ?v184) ?hi184 (by kernel_rfl) (by kernel_rfl) (by kernel_rfl) ?hq184 (Or.inl ⟨?hw184, ?hy184⟩) (by assumption) ?r184
                    case hi184 => (simp only [List.getElem?_toArray, List.getElem?_cons_succ, List.getElem?_cons_zero]; exact rfl)
                    case hq184 => exact fun _ _ _ h => h
                    case hw184 => rfl
                    case hy184 => (intro w hSw; (try dsimp only at hSw); go_simp; try exact rfl)
                    simp only [Act.put, List.setIfInBounds_toArray, List.set_cons_zero, List.set_cons_succ]
                    refine wpAnyH_ready (rs := [10]) (by kernel_rfl) (by simp) ?_
                    refine AllReadyH.cons (o := ?o284) ?hi284 (fun K hK => ?_) AllReadyH.nil
                    case hi284 => (simp only [List.getElem?_toArray, List.getElem?_cons_succ, List.getElem?_cons_zero]; exact rfl)
                    go_simp
                    go_at_call 17
                    refine (bytes_same A5 A6 gl gl c5 c6 gx wc R5.out R6.out).mono ?_
                    rintro e wx ⟨rfl, rfl⟩
                    refine hK.out _ _ X.out.down4 (fun _ => ?_)
                    clear hK K R5 R6
                    try simp only [Act.put, List.setIfInBounds_toArray, List.set_cons_zero, List.set_cons_succ]
                    refine wpAnyH_take (i := 11) (oi := ?o185) (v := ?v185) ?hi185 (by kernel_rfl) (by kernel_rfl) (by kernel_rfl) ?hq185 (Or.inl ⟨?hw185, ?hy185⟩) (by assumption) ?r185
                    case hi185 => (simp only [List.getElem?_toArray, List.getElem?_cons_succ, List.getElem?_cons_zero]; exact rfl)
                    case hq185 => exact fun _ _ _ h => h
                    case hw185 => rfl
                    case hy185 => (intro w hSw; (try dsimp only at hSw); go_simp; try exact rfl)
                    simp only [Act.put, List.setIfInBounds_toArray, List.set_cons_zero, List.set_cons_succ]
                    refine wpAnyH_take (i := 12) (oi := ?o186) (v := ?v186) ?hi186 (by kernel_rfl) (by kernel_rfl) (by kernel_rfl) ?hq186 (Or.inl ⟨?hw186, ?hy186⟩) (by assumption) ?r186
                    case hi186 => (simp only [List.getElem?_toArray, List.getElem?_cons_succ, List.getElem?_cons_zero]; exact rfl)
                    case hq186 => exact fun _ _ _ h => h
                    case hw186 => rfl
                    case hy186 => (intro w hSw; (try dsimp only at hSw); go_simp; try exact rfl)
                    simp only [Act.put, List.setIfInBounds_toArray, List.set_cons_zero, List.set_cons_succ]
                    refine wpAnyH_take (i := 13) (oi := ?o187) (v := ?v187) ?hi187 (by kernel_rfl) (by kernel_rfl) (by kernel_rfl) ?hq187 (Or.inl ⟨?hw187, ?hy187⟩) (by assumption) ?r187
                    case hi187 => (simp only [List.getElem?_toArray, List.getElem?_cons_succ, List.getElem?_cons_zero]; exact rfl)
                    case hq187 => exact fun _ _ _ h => h
                    case hw187 => rfl
                    case hy187 => (intro w hSw; (try dsimp only at hSw); go_simp; try exact rfl)
                    simp only [Act.put, List.setIfInBounds_toArray, List.set_cons_zero, List.set_cons_succ]
                    refine wpAnyH_take (i := 14) (oi := ?o188) (v := ?v188) ?hi188 (by kernel_rfl) (by kernel_rfl) (by kernel_rfl) ?hq188 (Or.inl ⟨?hw188, ?hy188⟩) (by assumption) ?r188
                    case hi188 => (simp only [List.getElem?_toArray, List.getElem?_cons_succ, List.getElem?_cons_zero]; exact rfl)
                    case hq188 => exact fun _ _ _ h => h
                    case hw188 => rfl
                    case hy188 => (intro w hSw; (try dsimp only at hSw); go_simp; try exact rfl)
                    simp only [Act.put, List.setIfInBounds_toArray, List.set_cons_zero, List.set_cons_succ]
                    refine wpAnyH_take (i := 16) (oi := ?o189) (v := ?v189) ?hi189 (by kernel_rfl) (by kernel_rfl) (by kernel_rfl) ?hq189 (Or.inl ⟨?hw189, ?hy189⟩) (by assumption) ?r189
                    case hi189 => (simp only [List.getElem?_toArray, List.getElem?_cons_succ, List.getElem?_cons_zero]; exact rfl)
                    case hq189 => exact fun _ _ _ h => h
                    case hw189 => rfl
                    case hy189 => (intro w hSw; (try dsimp only at hSw); go_simp; try exact rfl)
                    simp only [Act.put, List.setIfInBounds_toArray, List.set_cons_zero, List.set_cons_succ]
                    refine wpAnyH_ready (rs := [15]) (by kernel_rfl) (by simp) ?_
                    refine AllReadyH.cons (o := ?o285) ?hi285 (fun K hK => ?_) AllReadyH.nil
                    case hi285 => (simp only [List.getElem?_toArray, List.getElem?_cons_succ, List.getElem?_cons_zero]; exact rfl)
                    go_simp
                    go_at_call 24
                    refine (api.pending D.out).mono ?_
                    rintro e wd ⟨rfl, bd⟩
                    replace OB := Kept.mk (OB.out.below bd OB.out.lt)
                    replace D := api.below D bd
                    replace X := Kept.mk (X.out.below bd)
                    replace B := step_below B bd
                    clear bd
                    refine hK.out _ _ X.out.down4 (fun _ => ?_)
                    clear hK K
                    try simp only [Act.put, List.setIfInBounds_toArray, List.set_cons_zero, List.set_cons_succ]
                    refine wpAnyH_ready (rs := [17]) (by kernel_rfl) (by simp) ?_
                    refine AllReadyH.cons (o := ?o286) ?hi286 (fun K hK => ?_) AllReadyH.nil
                    case hi286 => (simp only [List.getElem?_toArray, List.getElem?_cons_succ, List.getElem?_cons_zero]; exact rfl)
                    go_simp
                    go_at_call 25
                    refine (rpending_any _ _ xb N W X.out).mono ?_
                    rintro e wx ⟨rfl, rfl⟩
                    refine hK.out _ _ X.out.down4 (fun _ => ?_)
                    clear hK K
                    try simp only [Act.put, List.setIfInBounds_toArray, List.set_cons_zero, List.set_cons_succ]
                    refine wpAnyH_take (i := 18) (oi := ?o190) (v := ?v190) ?hi190 (by kernel_rfl) (by kernel_rfl) (by kernel_rfl) ?hq190 (Or.inl ⟨?hw190, ?hy190⟩) (by assumption) ?r190
                    case hi190 => (simp only [List.getElem?_toArray, List.getElem?_cons_succ, List.getElem?_cons_zero]; exact rfl)
                    case hq190 => exact fun _ _ _ h => h
                    case hw190 => rfl
                    case hy190 => (intro w hSw; (try dsimp only at hSw); go_simp; try exact rfl)
                    simp only [Act.put, List.setIfInBounds_toArray, List.set_cons_zero, List.set_cons_succ]
                    refine wpAnyH_take (i := 19) (oi := ?o191) (v := ?v191) ?hi191 (by kernel_rfl) (by kernel_rfl) (by kernel_rfl) ?hq191 (Or.inl ⟨?hw191, ?hy191⟩) (by assumption) ?r191
                    case hi191 => (simp only [List.getElem?_toArray, List.getElem?_cons_succ, List.getElem?_cons_zero]; exact rfl)
                    case hq191 => exact fun _ _ _ h => h
                    case hw191 => rfl
                    case hy191 => (intro w hSw; (try dsimp only at hSw); go_simp; try exact rfl)
                    simp only [Act.put, List.setIfInBounds_toArray, List.set_cons_zero, List.set_cons_succ]
                    refine wpAnyH_take (i := 20) (oi := ?o192) (v := ?v192) ?hi192 (by kernel_rfl) (by kernel_rfl) (by kernel_rfl) ?hq192 (Or.inl ⟨?hw192, ?hy192⟩) (by assumption) ?r192
                    case hi192 => (simp only [List.getElem?_toArray, List.getElem?_cons_succ, List.getElem?_cons_zero]; exact rfl)
                    case hq192 => exact fun _ _ _ h => h
                    case hw192 => rfl
                    case hy192 => (intro w hSw; (try dsimp only at hSw); go_simp; try exact rfl)
                    simp only [Act.put, List.setIfInBounds_toArray, List.set_cons_zero, List.set_cons_succ]
                    refine wpAnyH_take (i := 21) (oi := ?o193) (v := ?v193) ?hi193 (by kernel_rfl) (by kernel_rfl) (by kernel_rfl) ?hq193 (Or.inl ⟨?hw193, ?hy193⟩) (by assumption) ?r193
                    case hi193 => (simp only [List.getElem?_toArray, List.getElem?_cons_succ, List.getElem?_cons_zero]; exact rfl)
                    case hq193 => exact fun _ _ _ h => h
                    case hw193 => rfl
                    case hy193 => (intro w hSw; (try dsimp only at hSw); go_simp; try exact rfl)
                    simp only [Act.put, List.setIfInBounds_toArray, List.set_cons_zero, List.set_cons_succ]
                    refine wpAnyH_take (i := 23) (oi := ?o194) (v := ?v194) ?hi194 (by kernel_rfl) (by kernel_rfl) (by kernel_rfl) ?hq194 (Or.inl ⟨?hw194, ?hy194⟩) (by assumption) ?r194
                    case hi194 => (simp only [List.getElem?_toArray, List.getElem?_cons_succ, List.getElem?_cons_zero]; exact rfl)
                    case hq194 => exact fun _ _ _ h => h
                    case hw194 => rfl
                    case hy194 => (intro w hSw; (try dsimp only at hSw); go_simp; try exact rfl)
                    simp only [Act.put, List.setIfInBounds_toArray, List.set_cons_zero, List.set_cons_succ]
                    refine wpAnyH_take (i := 24) (oi := ?o195) (v := ?v195) ?hi195 (by kernel_rfl) (by kernel_rfl) (by kernel_rfl) ?hq195 (Or.inl ⟨?hw195, ?hy195⟩) (by assumption) ?r195
                    case hi195 => (simp only [List.getElem?_toArray, List.getElem?_cons_succ, List.getElem?_cons_zero]; exact rfl)
                    case hq195 => exact fun _ _ _ h => h
                    case hw195 => rfl
                    case hy195 => (intro w hSw; (try dsimp only at hSw); go_simp; try exact rfl)
                    simp only [Act.put, List.setIfInBounds_toArray, List.set_cons_zero, List.set_cons_succ]
                    refine wpAnyH_take (i := 25) (oi := ?o196) (v := ?v196) ?hi196 (by kernel_rfl) (by kernel_rfl) (by kernel_rfl) ?hq196 (Or.inl ⟨?hw196, ?hy196⟩) (by assumption) ?r196
                    case hi196 => (simp only [List.getElem?_toArray, List.getElem?_cons_succ, List.getElem?_cons_zero]; exact rfl)
                    case hq196 => exact fun _ _ _ h => h
                    case hw196 => rfl
                    case hy196 => (intro w hSw; (try dsimp only at hSw); go_simp; try exact rfl)
                    simp only [Act.put, List.setIfInBounds_toArray, List.set_cons_zero, List.set_cons_succ]
                    refine wpAnyH_take (i := 26) (oi := ?o197) (v := ?v197) ?hi197 (by kernel_rfl) (by kernel_rfl) (by kernel_rfl) ?hq197 (Or.inl ⟨?hw197, ?hy197⟩) (by assumption) ?r197
                    case hi197 => (simp only [List.getElem?_toArray, List.getElem?_cons_succ, List.getElem?_cons_zero]; exact rfl)
                    case hq197 => exact fun _ _ _ h => h
                    case hw197 => rfl
                    case hy197 => (intro w hSw; (try dsimp only at hSw); go_simp; try exact rfl)
                    simp only [Act.put, List.setIfInBounds_toArray, List.set_cons_zero, List.set_cons_succ]
                    refine wpAnyH_ready (rs := [22]) (by kernel_rfl) (by simp) ?_
                    refine AllReadyH.cons (o := ?o287) ?hi287 (fun K hK => ?_) AllReadyH.nil
                    case hi287 => (simp only [List.getElem?_toArray, List.getElem?_cons_succ, List.getElem?_cons_zero]; exact rfl)
                    go_simp
                    go_at_call 26
                    refine (api.down D.out).mono ?_
                    rintro e we ⟨rfl, bd⟩
                    replace OB := Kept.mk (OB.out.below bd OB.out.lt)
                    replace D := api.below D bd
                    replace X := Kept.mk (X.out.below bd)
                    replace B := step_below B bd
                    clear bd
                    refine hK.out _ _ X.out.down4 (fun _ => ?_)
                    clear hK K
                    try simp only [Act.put, List.setIfInBounds_toArray, List.set_cons_zero, List.set_cons_succ]
                    refine wpAnyH_take (i := 27) (oi := ?o198) (v := ?v198) ?hi198 (by kernel_rfl) (by kernel_rfl) (by kernel_rfl) ?hq198 (Or.inl ⟨?hw198, ?hy198⟩) (by assumption) ?r198
                    case hi198 => (simp only [List.getElem?_toArray, List.getElem?_cons_succ, List.getElem?_cons_zero]; exact rfl)
                    case hq198 => exact fun _ _ _ h => h
                    case hw198 => rfl
                    case hy198 => (intro w hSw; (try dsimp only at hSw); go_simp; try exact rfl)
                    simp only [Act.put, List.setIfInBounds_toArray, List.set_cons_zero, List.set_cons_succ]
                    refine wpAnyH_take (i := 28) (oi := ?o199) (v := ?v199) ?hi199 (by kernel_rfl) (by kernel_rfl) (by kernel_rfl) ?hq199 (Or.inl ⟨?hw199, ?hy199⟩) (by assumption) ?r199
                    case hi199 => (simp only [List.getElem?_toArray, List.getElem?_cons_succ, List.getElem?_cons_zero]; exact rfl)
                    case hq199 => exact fun _ _ _ h => h
                    case hw199 => rfl
                    case hy199 => (intro w hSw; (try dsimp only at hSw); go_simp; try exact rfl)
                    simp only [Act.put, List.setIfInBounds_toArray, List.set_cons_zero, List.set_cons_succ]
                    refine wpAnyH_take (i := 29) (oi := ?o200) (v := ?v200) ?hi200 (by kernel_rfl) (by kernel_rfl) (by kernel_rfl) ?hq200 (Or.inl ⟨?hw200, ?hy200⟩) (by assumption) ?r200
                    case hi200 => (simp only [List.getElem?_toArray, List.getElem?_cons_succ, List.getElem?_cons_zero]; exact rfl)
                    case hq200 => exact fun _ _ _ h => h
                    case hw200 => rfl
                    case hy200 => (intro w hSw; (try dsimp only at hSw); go_simp; try exact rfl)
                    simp only [Act.put, List.setIfInBounds_toArray, List.set_cons_zero, List.set_cons_succ]
                    refine wpAnyH_take (i := 30) (oi := ?o201) (v := ?v201) ?hi201 (by kernel_rfl) (by kernel_rfl) (by kernel_rfl) ?hq201 (Or.inl ⟨?hw201, ?hy201⟩) (by assumption) ?r201
                    case hi201 => (simp only [List.getElem?_toArray, List.getElem?_cons_succ, List.getElem?_cons_zero]; exact rfl)
                    case hq201 => exact fun _ _ _ h => h
                    case hw201 => rfl
                    case hy201 => (intro w hSw; (try dsimp only at hSw); go_simp; try exact rfl)
                    simp only [Act.put, List.setIfInBounds_toArray, List.set_cons_zero, List.set_cons_succ]
                    refine wpAnyH_take (i := 32) (oi := ?o202) (v := ?v202) ?hi202 (by kernel_rfl) (by kernel_rfl) (by kernel_rfl) ?hq202 (Or.inl ⟨?hw202, ?hy202⟩) (by assumption) ?r202
                    case hi202 => (simp only [List.getElem?_toArray, List.getElem?_cons_succ, List.getElem?_cons_zero]; exact rfl)
                    case hq202 => exact fun _ _ _ h => h
                    case hw202 => rfl
                    case hy202 => (intro w hSw; (try dsimp only at hSw); go_simp; try exact rfl)
                    simp only [Act.put, List.setIfInBounds_toArray, List.set_cons_zero, List.set_cons_succ]
                    refine wpAnyH_ready (rs := [31]) (by kernel_rfl) (by simp) ?_
                    refine AllReadyH.cons (o := ?o288) ?hi288 (fun K hK => ?_) AllReadyH.nil
                    case hi288 => (simp only [List.getElem?_toArray, List.getElem?_cons_succ, List.getElem?_cons_zero]; exact rfl)
                    go_simp
                    go_at_call 27
                    refine (api.len D.out).mono ?_
                    rintro e wf ⟨rfl, bd⟩
                    replace OB := Kept.mk (OB.out.below bd OB.out.lt)
                    replace D := api.below D bd
                    replace X := Kept.mk (X.out.below bd)
                    replace B := step_below B bd
                    clear bd
                    refine hK.out _ _ X.out.down4 (fun _ => ?_)
                    clear hK K
                    try simp only [Act.put, List.setIfInBounds_toArray, List.set_cons_zero, List.set_cons_succ]
                    refine wpAnyH_take (i := 33) (oi := ?o203) (v := ?v203) ?hi203 (by kernel_rfl) (by kernel_rfl) (by kernel_rfl) ?hq203 (Or.inl ⟨?hw203, ?hy203⟩) (by assumption) ?r203
                    case hi203 => (simp only [List.getElem?_toArray, List.getElem?_cons_succ, List.getElem?_cons_zero]; exact rfl)
                    case hq203 => exact fun _ _ _ h => h
                    case hw203 => rfl
                    case hy203 => (intro w hSw; (try dsimp only at hSw); go_simp; try exact rfl)
                    simp only [Act.put, List.setIfInBounds_toArray, List.set_cons_zero, List.set_cons_succ]
                    refine wpAnyH_take (i := 34) (oi := ?o204) (v := ?v204) ?hi204 (by kernel_rfl) (by kernel_rfl) (by kernel_rfl) ?hq204 (Or.inl ⟨?hw204, ?hy204⟩) (by assumption) ?r204
                    case hi204 => (simp only [List.getElem?_toArray, List.getElem?_cons_succ, List.getElem?_cons_zero]; exact rfl)
                    case hq204 => exact fun _ _ _ h => h
                    case hw204 => rfl
                    case hy204 => (intro w hSw; (try dsimp only at hSw); go_simp; try exact rfl)
                    simp only [Act.put, List.setIfInBounds_toArray, List.set_cons_zero, List.set_cons_succ]
                    refine wpAnyH_done (by kernel_rfl) ?_ _
                    refine NoPanic.normal ?_
                    go_wp2
                    go_roundw
                    case rel => exact ⟨k + 1, _, _, _, by omega, by go_num, D, X, DJ, B, L, M⟩
                    case measure => simp [intOf]; omega
                  · have hz3 : (kd == 3) = false := by simpa using h3
                    by_cases h4 : kd = 4
                    · subst h4
                      obtain ⟨o0, o1, o2, o3, o4⟩ := op_cells OB.out
                      go_wp2_with fail
                      refine (api.crash D.out (KR.out.below B.out) (KR.out.off L.out) hkl hkc).mono ?_
                      rintro e w7 ⟨rfl, F7, dk, fp⟩
                      have LTW := OB.out.lt
                      replace OB := Kept.mk (OB.out.bar fp.1 OF.out)
                      obtain ⟨X, DJ⟩ := mv_d X DJ fp
                      replace OF := off_step OF LTW fp
                      replace D := Kept.mk dk
                      obtain ⟨B, L⟩ := step_fp B fp L
                      clear dk fp LTW
                      clear o0 o1 o2 o3 o4
                      obtain ⟨o0, o1, o2, o3, o4⟩ := op_cells OB.out
                      go_wp2_with fail
                      refine (rcrash_any _ _ xb N s ka kl kc bs X.out (KR.out.below B.out) (KR.out.off M.out)).mono ?_
                      rintro e w9 ⟨rfl, G9, dk, fp⟩
                      have LTW := OB.out.lt
                      replace OB := Kept.mk (OB.out.bar fp.1 OG.out)
                      obtain ⟨D, DJ⟩ := mv_x api D DJ fp
                      replace OG := off_step OG LTW fp
                      replace X := Kept.mk dk
                      obtain ⟨B, M⟩ := step_fp B fp M
                      clear dk fp LTW
                      clear o0 o1 o2 o3 o4
                      obtain ⟨W, hW⟩ : ∃ W, crashD s bs = W := ⟨_, rfl⟩
                      rw [hW] at D X
                      clear hW
                      -- what is read, what is told
                      obtain ⟨o0, o1, o2, o3, o4⟩ := op_cells OB.out
                      have hr := api.read q D.out
                      obtain ⟨RR, hRR⟩ : ∃ r, readD W q = r := ⟨_, rfl⟩
                      rw [hRR] at hr
                      have HR := Kept.mk hr
                      clear hr
                      go_wp2_with fail
                      refine HR.out.mono ?_
                      rintro e wa ⟨A5, c5, F5, rfl, r5, -, -, -, dk, fp⟩
                      have R5 := Kept.mk r5
                      have LTW := OB.out.lt
                      replace OB := Kept.mk (OB.out.bar fp.1 OF.out)
                      obtain ⟨X, DJ⟩ := mv_d X DJ fp
                      replace OF := off_step OF LTW fp
                      replace D := Kept.mk dk
                      obtain ⟨B, L⟩ := step_fp B fp L
                      clear dk fp LTW
                      clear r5 HR o0 o1 o2 o3 o4
                      obtain ⟨o0, o1, o2, o3, o4⟩ := op_cells OB.out
                      have hr := rread_any _ _ xb N W q X.out
                      unfold RReadPost at hr
                      rw [hRR] at hr
                      have HR := Kept.mk hr
                      clear hr hRR
                      go_wp2_with fail
                      refine HR.out.mono ?_
                      rintro e wb ⟨A6, c6, rfl, r6, b6⟩
                      have R6 := Kept.mk r6
                      replace R5 := Kept.mk (R5.out.below b6)
                      replace OB := Kept.mk (OB.out.below b6 OB.out.lt)
                      replace D := api.below D b6
                      replace X := Kept.mk (X.out.below b6)
                      replace B := step_below B b6
                      clear r6 HR b6 o0 o1 o2 o3 o4
                      generalize RR.1 = ge at *
                      generalize RR.2 = gx at *
                      generalize gx.length = gl at *
                      have x4 := X.out.down4
                      go_upto_region 31 with (fail)
                      refine wp_region_noPanic ?_
                      refine wp_region_held_drew (S := fun w' : World => w'.cell? ⟨xb, 4, none⟩ = some (.bool W.down)) (by kernel_rfl) x4 (fun _ => ?_)
                      replace R5 := Kept.mk R5.out.drew
                      replace R6 := Kept.mk R6.out.drew
                      have bd : Below wb.heap.size wb wb.drew := (Below.refl _ _).drew
                      replace OB := Kept.mk (OB.out.below bd OB.out.lt)
                      replace D := api.below D bd
                      replace X := Kept.mk (X.out.below bd)
                      replace B := step_below B bd
                      clear bd x4
                      generalize wb.drew = wc at *
                      refine wpAnyH_take (i := 0) (oi := ?o205) (v := ?v205) ?hi205 (by kernel_rfl) (by kernel_rfl) (by kernel_rfl) ?hq205 (Or.inl ⟨?hw205, ?hy205⟩) (by assumption) ?r205
                      case hi205 => (simp only [List.getElem?_toArray, List.getElem?_cons_zero]; exact rfl)
                      case hq205 => exact fun _ _ _ h => h
                      case hw205 => rfl
                      case hy205 => (intro w hSw; (try dsimp only at hSw); go_simp; try exact rfl)
                      simp only [Act.put, List.setIfInBounds_toArray, List.set_cons_zero, List.set_cons_succ]
                      refine wpAnyH_take (i := 1) (oi := ?o206) (v := ?v206) ?hi206 (by kernel_rfl) (by kernel_rfl) (by kernel_rfl) ?hq206 (Or.inl ⟨?hw206, ?hy206⟩) (by assumption) ?r206
                      case hi206 => (simp only [List.getElem?_toArray, List.getElem?_cons_succ, List.getElem?_cons_zero]; exact rfl)
                      case hq206 => exact fun _ _ _ h => h
                      case hw206 => rfl
                      case hy206 => (intro w hSw; (try dsimp only at hSw); go_simp; try exact rfl)
                      simp only [Act.put, List.setIfInBounds_toArray, List.set_cons_zero, List.set_cons_succ]
                      refine wpAnyH_take (i := 2) (oi := ?o207) (v := ?v207) ?hi207 (by kernel_rfl) (by kernel_rfl) (by kernel_rfl) ?hq207 (Or.inl ⟨?hw207, ?hy207⟩) (by assumption) ?r207
                      case hi207 => (simp only [List.getElem?_toArray, List.getElem?_cons_succ, List.getElem?_cons_zero]; exact rfl)
                      case hq207 => exact fun _ _ _ h => h
                      case hw207 => rfl
                      case hy207 => (intro w hSw; (try dsimp only at hSw); go_simp; try exact rfl)
                      simp only [Act.put, List.setIfInBounds_toArray, List.set_cons_zero, List.set_cons_succ]
                      refine wpAnyH_take (i := 3) (oi := ?o208) (v := ?v208) ?hi208 (by kernel_rfl) (by kernel_rfl) (by kernel_rfl) ?hq208 (Or.inl ⟨?hw208, ?hy208⟩) (by assumption) ?r208
                      case hi208 => (simp only [List.getElem?_toArray, List.getElem?_cons_succ, List.getElem?_cons_zero]; exact rfl)
                      case hq208 => exact fun _ _ _ h => h
                      case hw208 => rfl
                      case hy208 => (intro w hSw; (try dsimp only at hSw); go_simp; try exact rfl)
                      simp only [Act.put, List.setIfInBounds_toArray, List.set_cons_zero, List.set_cons_succ]
                      refine wpAnyH_take (i := 4) (oi := ?o209) (v := ?v209) ?hi209 (by kernel_rfl) (by kernel_rfl) (by kernel_rfl) ?hq209 (Or.inl ⟨?hw209, ?hy209⟩) (by assumption) ?r209
                      case hi209 => (simp only [List.getElem?_toArray, List.getElem?_cons_succ, List.getElem?_cons_zero]; exact rfl)
                      case hq209 => exact fun _ _ _ h => h
                      case hw209 => rfl
                      case hy209 => (intro w hSw; (try dsimp only at hSw); go_simp; try exact rfl)
                      simp only [Act.put, List.setIfInBounds_toArray, List.set_cons_zero, List.set_cons_succ]
                      refine wpAnyH_take (i := 5) (oi := ?o210) (v := ?v210) ?hi210 (by kernel_rfl) (by kernel_rfl) (by kernel_rfl) ?hq210 (Or.inl ⟨?hw210, ?hy210⟩) (by assumption) ?r210
                      case hi210 => (simp only [List.getElem?_toArray, List.getElem?_cons_succ, List.getElem?_cons_zero]; exact rfl)
                      case hq210 => exact fun _ _ _ h => h
                      case hw210 => rfl
                      case hy210 => (intro w hSw; (try dsimp only at hSw); go_simp; try exact rfl)
                      simp only [Act.put, List.setIfInBounds_toArray, List.set_cons_zero, List.set_cons_succ]
                      refine wpAnyH_take (i := 6) (oi := ?o211) (v := ?v211) ?hi211 (by kernel_rfl) (by kernel_rfl) (by kernel_rfl) ?hq211 (Or.inl ⟨?hw211, ?hy211⟩) (by assumption) ?r211
                      case hi211 => (simp only [List.getElem?_toArray, List.getElem?_cons_succ, List.getElem?_cons_zero]; exact rfl)
                      case hq211 => exact fun _ _ _ h => h
                      case hw211 => rfl
                      case hy211 => (intro w hSw; (try dsimp only at hSw); go_simp; try exact rfl)
                      simp only [Act.put, List.setIfInBounds_toArray, List.set_cons_zero, List.set_cons_succ]
                      refine wpAnyH_take (i := 7) (oi := ?o212) (v := ?v212) ?hi212 (by kernel_rfl) (by kernel_rfl) (by kernel_rfl) ?hq212 (Or.inl ⟨?hw212, ?hy212⟩) (by assumption) ?r212
                      case hi212 => (simp only [List.getElem?_toArray, List.getElem?_cons_succ, List.getElem?_cons_zero]; exact rfl)
                      case hq212 => exact fun _ _ _ h => h
                      case hw212 => rfl
                      case hy212 => (intro w hSw; (try dsimp only at hSw); go_simp; try exact rfl)
                      simp only [Act.put, List.setIfInBounds_toArray, List.set_cons_zero, List.set_cons_succ]
                      refine wpAnyH_take (i := 8) (oi := ?o213) (v := ?v213) ?hi213 (by kernel_rfl) (by kernel_rfl) (by kernel_rfl) ?hq213 (Or.inl ⟨?hw213, ?hy213⟩) (by assumption) ?r213
                      case hi213 => (simp only [List.getElem?_toArray, List.getElem?_cons_succ, List.getElem?_cons_zero]; exact rfl)
                      case hq213 => exact fun _ _ _ h => h
                      case hw213 => rfl
                      case hy213 => (intro w hSw; (try dsimp only at hSw); go_simp; try exact rfl)
                      simp only [Act.put, List.setIfInBounds_toArray, List.set_cons_zero, List.set_cons_succ]
                      refine wpAnyH_take (i := 9) (oi := ?o214) (v := ?v214) ?hi214 (by kernel_rfl) (by kernel_rfl) (by kernel_rfl) ?hq214 (Or.inl ⟨?hw214, ?hy214⟩) (by assumption) ?r214
                      case hi214 => (simp only [List.getElem?_toArray, List.getElem?_cons_succ, List.getElem?_cons_zero]; exact rfl)
                      case hq214 => exact fun _ _ _ h => h
                      case hw214 => rfl
                      case hy214 => (intro w hSw; (try dsimp only at hSw); go_simp; try exact rfl)
                      simp only [Act.put, List.setIfInBounds_toArray, List.set_cons_zero, List.set_cons_succ]
                      refine wpAnyH_ready (rs := [10]) (by kernel_rfl) (by simp) ?_
                      refine AllReadyH.cons (o := ?o289) ?hi289 (fun K hK => ?_) AllReadyH.nil
                      case hi289 => (simp only [List.getElem?_toArray, List.getElem?_cons_succ, List.getElem?_cons_zero]; exact rfl)
                      go_simp
                      go_at_call 17
                      refine (bytes_same A5 A6 gl gl c5 c6 gx wc R5.out R6.out).mono ?_
                      rintro e wx ⟨rfl, rfl⟩
                      refine hK.out _ _ X.out.down4 (fun _ => ?_)
                      clear hK K R5 R6
                      try simp only [Act.put, List.setIfInBounds_toArray, List.set_cons_zero, List.set_cons_succ]
                      refine wpAnyH_take (i := 11) (oi := ?o215) (v := ?v215) ?hi215 (by kernel_rfl) (by kernel_rfl) (by kernel_rfl) ?hq215 (Or.inl ⟨?hw215, ?hy215⟩) (by assumption) ?r215
                      case hi215 => (simp only [List.getElem?_toArray, List.getElem?_cons_succ, List.getElem?_cons_zero]; exact rfl)
                      case hq215 => exact fun _ _ _ h => h
                      case hw215 => rfl
                      case hy215 => (intro w hSw; (try dsimp only at hSw); go_simp; try exact rfl)
                      simp only [Act.put, List.setIfInBounds_toArray, List.set_cons_zero, List.set_cons_succ]
                      refine wpAnyH_take (i := 12) (oi := ?o216) (v := ?v216) ?hi216 (by kernel_rfl) (by kernel_rfl) (by kernel_rfl) ?hq216 (Or.inl ⟨?hw216, ?hy216⟩) (by assumption) ?r216
                      case hi216 => (simp only [List.getElem?_toArray, List.getElem?_cons_succ, List.getElem?_cons_zero]; exact rfl)
                      case hq216 => exact fun _ _ _ h => h
                      case hw216 => rfl
                      case hy216 => (intro w hSw; (try dsimp only at hSw); go_simp; try exact rfl)
                      simp only [Act.put, List.setIfInBounds_toArray, List.set_cons_zero, List.set_cons_succ]
                      refine wpAnyH_take (i := 13) (oi := ?o217) (v := ?v217) ?hi217 (by kernel_rfl) (by kernel_rfl) (by kernel_rfl) ?hq217 (Or.inl ⟨?hw217, ?hy217⟩) (by assumption) ?r217
                      case hi217 => (simp only [List.getElem?_toArray, List.getElem?_cons_succ, List.getElem?_cons_zero]; exact rfl)
                      case hq217 => exact fun _ _ _ h => h
                      case hw217 => rfl
                      case hy217 => (intro w hSw; (try dsimp only at hSw); go_simp; try exact rfl)
                      simp only [Act.put, List.setIfInBounds_toArray, List.set_cons_zero, List.set_cons_succ]
                      refine wpAnyH_take (i := 14) (oi := ?o218) (v := ?v218) ?hi218 (by kernel_rfl) (by kernel_rfl) (by kernel_rfl) ?hq218 (Or.inl ⟨?hw218, ?hy218⟩) (by assumption) ?r218
                      case hi218 => (simp only [List.getElem?_toArray, List.getElem?_cons_succ, List.getElem?_cons_zero]; exact rfl)
                      case hq218 => exact fun _ _ _ h => h
                      case hw218 => rfl
                      case hy218 => (intro w hSw; (try dsimp only at hSw); go_simp; try exact rfl)
                      simp only [Act.put, List.setIfInBounds_toArray, List.set_cons_zero, List.set_cons_succ]
                      refine wpAnyH_take (i := 16) (oi := ?o219) (v := ?v219) ?hi219 (by kernel_rfl) (by kernel_rfl) (by kernel_rfl) ?hq219 (Or.inl ⟨?hw219, ?hy219⟩) (by assumption) ?r219
                      case hi219 => (simp only [List.getElem?_toArray, List.getElem?_cons_succ, List.getElem?_cons_zero]; exact rfl)
                      case hq219 => exact fun _ _ _ h => h
                      case hw219 => rfl
                      case hy219 => (intro w hSw; (try dsimp only at hSw); go_simp; try exact rfl)
                      simp only [Act.put, List.setIfInBounds_toArray, List.set_cons_zero, List.set_cons_succ]
                      refine wpAnyH_ready (rs := [15]) (by kernel_rfl) (by simp) ?_
                      refine AllReadyH.cons (o := ?o290) ?hi290 (fun K hK => ?_) AllReadyH.nil
                      case hi290 => (simp only [List.getElem?_toArray, List.getElem?_cons_succ, List.getElem?_cons_zero]; exact rfl)
                      go_simp
                      go_at_call 24
                      refine (api.pending D.out).mono ?_
                      rintro e wd ⟨rfl, bd⟩
                      replace OB := Kept.mk (OB.out.below bd OB.out.lt)
                      replace D := api.below D bd
                      replace X := Kept.mk (X.out.below bd)
                      replace B := step_below B bd
                      clear bd
                      refine hK.out _ _ X.out.down4 (fun _ => ?_)
                      clear hK K
                      try simp only [Act.put, List.setIfInBounds_toArray, List.set_cons_zero, List.set_cons_succ]
                      refine wpAnyH_ready (rs := [17]) (by kernel_rfl) (by simp) ?_
                      refine AllReadyH.cons (o := ?o291) ?hi291 (fun K hK => ?_) AllReadyH.nil
                      case hi291 => (simp only [List.getElem?_toArray, List.getElem?_cons_succ, List.getElem?_cons_zero]; exact rfl)
                      go_simp
                      go_at_call 25
                      refine (rpending_any _ _ xb N W X.out).mono ?_
                      rintro e wx ⟨rfl, rfl⟩
                      refine hK.out _ _ X.out.down4 (fun _ => ?_)
                      clear hK K
                      try simp only [Act.put, List.setIfInBounds_toArray, List.set_cons_zero, List.set_cons_succ]
                      refine wpAnyH_take (i := 18) (oi := ?o220) (v := ?v220) ?hi220 (by kernel_rfl) (by kernel_rfl) (by kernel_rfl) ?hq220 (Or.inl ⟨?hw220, ?hy220⟩) (by assumption) ?r220
                      case hi220 => (simp only [List.getElem?_toArray, List.getElem?_cons_succ, List.getElem?_cons_zero]; exact rfl)
                      case hq220 => exact fun _ _ _ h => h
                      case hw220 => rfl
                      case hy220 => (intro w hSw; (try dsimp only at hSw); go_simp; try exact rfl)
                      simp only [Act.put, List.setIfInBounds_toArray, List.set_cons_zero, List.set_cons_succ]
                      refine wpAnyH_take (i := 19) (oi := ?o221) (v := ?v221) ?hi221 (by kernel_rfl) (by kernel_rfl) (by kernel_rfl) ?hq221 (Or.inl ⟨?hw221, ?hy221⟩) (by assumption) ?r221
                      case hi221 => (simp only [List.getElem?_toArray, List.getElem?_cons_succ, List.getElem?_cons_zero]; exact rfl)
                      case hq221 => exact fun _ _ _ h => h
                      case hw221 => rfl
                      case hy221 => (intro w hSw; (try dsimp only at hSw); go_simp; try exact rfl)
                      simp only [Act.put, List.setIfInBounds_toArray, List.set_cons_zero, List.set_cons_succ]
                      refine wpAnyH_take (i := 20) (oi := ?o222) (v := ?v222) ?hi222 (by kernel_rfl) (by kernel_rfl) (by kernel_rfl) ?hq222 (Or.inl ⟨?hw222, ?hy222⟩) (by assumption) ?r222
                      case hi222 => (simp only [List.getElem?_toArray, List.getElem?_cons_succ, List.getElem?_cons_zero]; exact rfl)
                      case hq222 => exact fun _ _ _ h => h
                      case hw222 => rfl
                      case hy222 => (intro w hSw; (try dsimp only at hSw); go_simp; try exact rfl)
                      simp only [Act.put, List.setIfInBounds_toArray, List.set_cons_zero, List.set_cons_succ]
                      refine wpAnyH_take (i := 21) (oi := ?o223) (v := ?v223) ?hi223 (by kernel_rfl) (by kernel_rfl) (by kernel_rfl) ?hq223 (Or.inl ⟨?hw223, ?hy223⟩) (by assumption) ?r223
                      case hi223 => (simp only [List.getElem?_toArray, List.getElem?_cons_succ, List.getElem?_cons_zero]; exact rfl)
                      case hq223 => exact fun _ _ _ h => h
                      case hw223 => rfl
                      case hy223 => (intro w hSw; (try dsimp only at hSw); go_simp; try exact rfl)
                      simp only [Act.put, List.setIfInBounds_toArray, List.set_cons_zero, List.set_cons_succ]
                      refine wpAnyH_take (i := 23) (oi := ?o224) (v := ?v224) ?hi224 (by kernel_rfl) (by kernel_rfl) (by kernel_rfl) ?hq224 (Or.inl ⟨?hw224, ?hy224⟩) (by assumption) ?r224
                      case hi224 => (simp only [List.getElem?_toArray, List.getElem?_cons_succ, List.getElem?_cons_zero]; exact rfl)
                      case hq224 => exact fun _ _ _ h => h
                      case hw224 => rfl
                      case hy224 => (intro w hSw; (try dsimp only at hSw); go_simp; try exact rfl)
                      simp only [Act.put, List.setIfInBounds_toArray, List.set_cons_zero, List.set_cons_succ]
                      refine wpAnyH_take (i := 24) (oi := ?o225) (v := ?v225) ?hi225 (by kernel_rfl) (by kernel_rfl) (by kernel_rfl) ?hq225 (Or.inl ⟨?hw225, ?hy225⟩) (by assumption) ?r225
                      case hi225 => (simp only [List.getElem?_toArray, List.getElem?_cons_succ, List.getElem?_cons_zero]; exact rfl)
                      case hq225 => exact fun _ _ _ h => h
                      case hw225 => rfl
                      case hy225 => (intro w hSw; (try dsimp only at hSw); go_simp; try exact rfl)
                      simp only [Act.put, List.setIfInBounds_toArray, List.set_cons_zero, List.set_cons_succ]
                      refine wpAnyH_take (i := 25) (oi := ?o226) (v := ?v226) ?hi226 (by kernel_rfl) (by kernel_rfl) (by kernel_rfl) ?hq226 (Or.inl ⟨?hw226, ?hy226⟩) (by assumption) ?r226
                      case hi226 => (simp only [List.getElem?_toArray, List.getElem?_cons_succ, List.getElem?_cons_zero]; exact rfl)
                      case hq226 => exact fun _ _ _ h => h
                      case hw226 => rfl
                      case hy226 => (intro w hSw; (try dsimp only at hSw); go_simp; try exact rfl)
                      simp only [Act.put, List.setIfInBounds_toArray, List.set_cons_zero, List.set_cons_succ]
                      refine wpAnyH_take (i := 26) (oi := ?o227) (v := ?v227) ?hi227 (by kernel_rfl) (by kernel_rfl) (by kernel_rfl) ?hq227 (Or.inl ⟨?hw227, ?hy227⟩) (by assumption) ?r227
                      case hi227 => (simp only [List.getElem?_toArray, List.getElem?_cons_succ, List.getElem?_cons_zero]; exact rfl)
                      case hq227 => exact fun _ _ _ h => h
                      case hw227 => rfl
                      case hy227 => (intro w hSw; (try dsimp only at hSw); go_simp; try exact rfl)
                      simp only [Act.put, List.setIfInBounds_toArray, List.set_cons_zero, List.set_cons_succ]
                      refine wpAnyH_ready (rs := [22]) (by kernel_rfl) (by simp) ?_
                      refine AllReadyH.cons (o := ?o292) ?hi292 (fun K hK => ?_) AllReadyH.nil
                      case hi292 => (simp only [List.getElem?_toArray, List.getElem?_cons_succ, List.getElem?_cons_zero]; exact rfl)
                      go_simp
                      go_at_call 26
                      refine (api.down D.out).mono ?_
                      rintro e we ⟨rfl, bd⟩
                      replace OB := Kept.mk (OB.out.below bd OB.out.lt)
                      replace D := api.below D bd
                      replace X := Kept.mk (X.out.below bd)
                      replace B := step_below B bd
                      clear bd
                      refine hK.out _ _ X.out.down4 (fun _ => ?_)
                      clear hK K
                      try simp only [Act.put, List.setIfInBounds_toArray, List.set_cons_zero, List.set_cons_succ]
                      refine wpAnyH_take (i := 27) (oi := ?o228) (v := ?v228) ?hi228 (by kernel_rfl) (by kernel_rfl) (by kernel_rfl) ?hq228 (Or.inl ⟨?hw228, ?hy228⟩) (by assumption) ?r228
                      case hi228 => (simp only [List.getElem?_toArray, List.getElem?_cons_succ, List.getElem?_cons_zero]; exact rfl)
                      case hq228 => exact fun _ _ _ h => h
                      case hw228 => rfl
                      case hy228 => (intro w hSw; (try dsimp only at hSw); go_simp; try exact rfl)
                      simp only [Act.put, List.setIfInBounds_toArray, List.set_cons_zero, List.set_cons_succ]
                      refine wpAnyH_take (i := 28) (oi := ?o229) (v := ?v229) ?hi229 (by kernel_rfl) (by kernel_rfl) (by kernel_rfl) ?hq229 (Or.inl ⟨?hw229, ?hy229⟩) (by assumption) ?r229
                      case hi229 => (simp only [List.getElem?_toArray, List.getElem?_cons_succ, List.getElem?_cons_zero]; exact rfl)
                      case hq229 => exact fun _ _ _ h => h
                      case hw229 => rfl
                      case hy229 => (intro w hSw; (try dsimp only at hSw); go_simp; try exact rfl)
                      simp only [Act.put, List.setIfInBounds_toArray, List.set_cons_zero, List.set_cons_succ]
                      refine wpAnyH_take (i := 29) (oi := ?o230) (v := ?v230) ?hi230 (by kernel_rfl) (by kernel_rfl) (by kernel_rfl) ?hq230 (Or.inl ⟨?hw230, ?hy230⟩) (by assumption) ?r230
                      case hi230 => (simp only [List.getElem?_toArray, List.getElem?_cons_succ, List.getElem?_cons_zero]; exact rfl)
                      case hq230 => exact fun _ _ _ h => h
                      case hw230 => rfl
                      case hy230 => (intro w hSw; (try dsimp only at hSw); go_simp; try exact rfl)
                      simp only [Act.put, List.setIfInBounds_toArray, List.set_cons_zero, List.set_cons_succ]
                      refine wpAnyH_take (i := 30) (oi := ?o231) (v := ?v231) ?hi231 (by kernel_rfl) (by kernel_rfl) (by kernel_rfl) ?hq231 (Or.inl ⟨?hw231, ?hy231⟩) (by assumption) ?r231
                      case hi231 => (simp only [List.getElem?_toArray, List.getElem?_cons_succ, List.getElem?_cons_zero]; exact rfl)
                      case hq231 => exact fun _ _ _ h => h
                      case hw231 => rfl
                      case hy231 => (intro w hSw; (try dsimp only at hSw); go_simp; try exact rfl)
                      simp only [Act.put, List.setIfInBounds_toArray, List.set_cons_zero, List.set_cons_succ]
                      refine wpAnyH_take (i := 32) (oi := ?o232) (v := ?v232) ?hi232 (by kernel_rfl) (by kernel_rfl) (by kernel_rfl) ?hq232 (Or.inl ⟨?hw232, ?hy232⟩) (by assumption) ?r232
                      case hi232 => (simp only [List.getElem?_toArray, List.getElem?_cons_succ, List.getElem?_cons_zero]; exact rfl)
                      case hq232 => exact fun _ _ _ h => h
                      case hw232 => rfl
                      case hy232 => (intro w hSw; (try dsimp only at hSw); go_simp; try exact rfl)
                      simp only [Act.put, List.setIfInBounds_toArray, List.set_cons_zero, List.set_cons_succ]
                      refine wpAnyH_ready (rs := [31]) (by kernel_rfl) (by simp) ?_
                      refine AllReadyH.cons (o := ?o293) ?hi293 (fun K hK => ?_) AllReadyH.nil
                      case hi293 => (simp only [List.getElem?_toArray, List.getElem?_cons_succ, List.getElem?_cons_zero]; exact rfl)
                      go_simp
                      go_at_call 27
                      refine (api.len D.out).mono ?_
                      rintro e wf ⟨rfl, bd⟩
                      replace OB := Kept.mk (OB.out.below bd OB.out.lt)
                      replace D := api.below D bd
                      replace X := Kept.mk (X.out.below bd)
                      replace B := step_below B bd
                      clear bd
                      refine hK.out _ _ X.out.down4 (fun _ => ?_)
                      clear hK K
                      try simp only [Act.put, List.setIfInBounds_toArray, List.set_cons_zero, List.set_cons_succ]
                      refine wpAnyH_take (i := 33) (oi := ?o233) (v := ?v233) ?hi233 (by kernel_rfl) (by kernel_rfl) (by kernel_rfl) ?hq233 (Or.inl ⟨?hw233, ?hy233⟩) (by assumption) ?r233
                      case hi233 => (simp only [List.getElem?_toArray, List.getElem?_cons_succ, List.getElem?_cons_zero]; exact rfl)
                      case hq233 => exact fun _ _ _ h => h
                      case hw233 => rfl
                      case hy233 => (intro w hSw; (try dsimp only at hSw); go_simp; try exact rfl)
                      simp only [Act.put, List.setIfInBounds_toArray, List.set_cons_zero, List.set_cons_succ]
                      refine wpAnyH_take (i := 34) (oi := ?o234) (v := ?v234) ?hi234 (by kernel_rfl) (by kernel_rfl) (by kernel_rfl) ?hq234 (Or.inl ⟨?hw234, ?hy234⟩) (by assumption) ?r234
                      case hi234 => (simp only [List.getElem?_toArray, List.getElem?_cons_succ, List.getElem?_cons_zero]; exact rfl)
                      case hq234 => exact fun _ _ _ h => h
                      case hw234 => rfl
                      case hy234 => (intro w hSw; (try dsimp only at hSw); go_simp; try exact rfl)
                      simp only [Act.put, List.setIfInBounds_toArray, List.set_cons_zero, List.set_cons_succ]
                      refine wpAnyH_done (by kernel_rfl) ?_ _
                      refine NoPanic.normal ?_
                      go_wp2
                      go_roundw
                      case rel => exact ⟨k + 1, _, _, _, by omega, by go_num, D, X, DJ, B, L, M⟩
                      case measure => simp [intOf]; omega
                    · have hz4 : (kd == 4) = false := by simpa using h4
                      obtain ⟨o0, o1, o2, o3, o4⟩ := op_cells OB.out
                      go_upto_region 29 with (fail)
                      clear o0 o1 o2 o3 o4
                      -- what is read, what is told
                      obtain ⟨o0, o1, o2, o3, o4⟩ := op_cells OB.out
                      have hr := api.read q D.out
                      obtain ⟨RR, hRR⟩ : ∃ r, readD s q = r := ⟨_, rfl⟩
                      rw [hRR] at hr
                      have HR := Kept.mk hr
                      clear hr
                      go_wp2_with fail
                      refine HR.out.mono ?_
                      rintro e wa ⟨A5, c5, F5, rfl, r5, -, -, -, dk, fp⟩
                      have R5 := Kept.mk r5
                      have LTW := OB.out.lt
                      replace OB := Kept.mk (OB.out.bar fp.1 OF.out)
                      obtain ⟨X, DJ⟩ := mv_d X DJ fp
                      replace OF := off_step OF LTW fp
                      replace D := Kept.mk dk
                      obtain ⟨B, L⟩ := step_fp B fp L
                      clear dk fp LTW
                      clear r5 HR o0 o1 o2 o3 o4
                      obtain ⟨o0, o1, o2, o3, o4⟩ := op_cells OB.out
                      have hr := rread_any _ _ xb N s q X.out
                      unfold RReadPost at hr
                      rw [hRR] at hr
                      have HR := Kept.mk hr
                      clear hr hRR
                      go_wp2_with fail
                      refine HR.out.mono ?_
                      rintro e wb ⟨A6, c6, rfl, r6, b6⟩
                      have R6 := Kept.mk r6
                      replace R5 := Kept.mk (R5.out.below b6)
                      replace OB := Kept.mk (OB.out.below b6 OB.out.lt)
                      replace D := api.below D b6
                      replace X := Kept.mk (X.out.below b6)
                      replace B := step_below B b6
                      clear r6 HR b6 o0 o1 o2 o3 o4
                      generalize RR.1 = ge at *
                      generalize RR.2 = gx at *
                      generalize gx.length = gl at *
                      have x4 := X.out.down4
                      go_upto_region 31 with (fail)
                      refine wp_region_noPanic ?_
                      refine wp_region_held_drew (S := fun w' : World => w'.cell? ⟨xb, 4, none⟩ = some (.bool s.down)) (by kernel_rfl) x4 (fun _ => ?_)
                      replace R5 := Kept.mk R5.out.drew
                      replace R6 := Kept.mk R6.out.drew
                      have bd : Below wb.heap.size wb wb.drew := (Below.refl _ _).drew
                      replace OB := Kept.mk (OB.out.below bd OB.out.lt)
                      replace D := api.below D bd
                      replace X := Kept.mk (X.out.below bd)
                      replace B := step_below B bd
                      clear bd x4
                      generalize wb.drew = wc at *
                      refine wpAnyH_take (i := 0) (oi := ?o235) (v := ?v235) ?hi235 (by kernel_rfl) (by kernel_rfl) (by kernel_rfl) ?hq235 (Or.inl ⟨?hw235, ?hy235⟩) (by assumption) ?r235
                      case hi235 => (simp only [List.getElem?_toArray, List.getElem?_cons_zero]; exact rfl)
                      case hq235 => exact fun _ _ _ h => h
                      case hw235 => rfl
                      case hy235 => (intro w hSw; (try dsimp only at hSw); go_simp; try exact rfl)
                      simp only [Act.put, List.setIfInBounds_toArray, List.set_cons_zero, List.set_cons_succ]
                      refine wpAnyH_take (i := 1) (oi := ?o236) (v := ?v236) ?hi236 (by kernel_rfl) (by kernel_rfl) (by kernel_rfl) ?hq236 (Or.inl ⟨?hw236, ?hy236⟩) (by assumption) ?r236
                      case hi236 => (simp only [List.getElem?_toArray, List.getElem?_cons_succ, List.getElem?_cons_zero]; exact rfl)
                      case hq236 => exact fun _ _ _ h => h
                      case hw236 => rfl
                      case hy236 => (intro w hSw; (try dsimp only at hSw); go_simp; try exact rfl)
                      simp only [Act.put, List.setIfInBounds_toArray, List.set_cons_zero, List.set_cons_succ]
                      refine wpAnyH_take (i := 2) (oi := ?o237) (v := ?v237) ?hi237 (by kernel_rfl) (by kernel_rfl) (by kernel_rfl) ?hq237 (Or.inl ⟨?hw237, ?hy237⟩) (by assumption) ?r237
                      case hi237 => (simp only [List.getElem?_toArray, List.getElem?_cons_succ, List.getElem?_cons_zero]; exact rfl)
                      case hq237 => exact fun _ _ _ h => h
                      case hw237 => rfl
                      case hy237 => (intro w hSw; (try dsimp only at hSw); go_simp; try exact rfl)
                      simp only [Act.put, List.setIfInBounds_toArray, List.set_cons_zero, List.set_cons_succ]
                      refine wpAnyH_take (i := 3) (oi := ?o238) (v := ?v238) ?hi238 (by kernel_rfl) (by kernel_rfl) (by kernel_rfl) ?hq238 (Or.inl ⟨?hw238, ?hy238⟩) (by assumption) ?r238
                      case hi238 => (simp only [List.getElem?_toArray, List.getElem?_cons_succ, List.getElem?_cons_zero]; exact rfl)
                      case hq238 => exact fun _ _ _ h => h
                      case hw238 => rfl
                      case hy238 => (intro w hSw; (try dsimp only at hSw); go_simp; try exact rfl)
                      simp only [Act.put, List.setIfInBounds_toArray, List.set_cons_zero, List.set_cons_succ]
                      refine wpAnyH_take (i := 4) (oi := ?o239) (v := ?v239) ?hi239 (by kernel_rfl) (by kernel_rfl) (by kernel_rfl) ?hq239 (Or.inl ⟨?hw239, ?hy239⟩) (by assumption) ?r239
                      case hi239 => (simp only [List.getElem?_toArray, List.getElem?_cons_succ, List.getElem?_cons_zero]; exact rfl)
                      case hq239 => exact fun _ _ _ h => h
                      case hw239 => rfl
                      case hy239 => (intro w hSw; (try dsimp only at hSw); go_simp; try exact rfl)
                      simp only [Act.put, List.setIfInBounds_toArray, List.set_cons_zero, List.set_cons_succ]
                      refine wpAnyH_take (i := 5) (oi := ?o240) (v := ?v240) ?hi240 (by kernel_rfl) (by kernel_rfl) (by kernel_rfl) ?hq240 (Or.inl ⟨?hw240, ?hy240⟩) (by assumption) ?r240
                      case hi240 => (simp only [List.getElem?_toArray, List.getElem?_cons_succ, List.getElem?_cons_zero]; exact rfl)
                      case hq240 => exact fun _ _ _ h => h
                      case hw240 => rfl
                      case hy240 => (intro w hSw; (try dsimp only at hSw); go_simp; try exact rfl)
                      simp only [Act.put, List.setIfInBounds_toArray, List.set_cons_zero, List.set_cons_succ]
                      refine wpAnyH_take (i := 6) (oi := ?o241) (v := ?v241) ?hi241 (by kernel_rfl) (by kernel_rfl) (by kernel_rfl) ?hq241 (Or.inl ⟨?hw241, ?hy241⟩) (by assumption) ?r241
                      case hi241 => (simp only [List.getElem?_toArray, List.getElem?_cons_succ, List.getElem?_cons_zero]; exact rfl)
                      case hq241 => exact fun _ _ _ h => h
                      case hw241 => rfl
                      case hy241 => (intro w hSw; (try dsimp only at hSw); go_simp; try exact rfl)
                      simp only [Act.put, List.setIfInBounds_toArray, List.set_cons_zero, List.set_cons_succ]
                      refine wpAnyH_take (i := 7) (oi := ?o242) (v := ?v242) ?hi242 (by kernel_rfl) (by kernel_rfl) (by kernel_rfl) ?hq242 (Or.inl ⟨?hw242, ?hy242⟩) (by assumption) ?r242
                      case hi242 => (simp only [List.getElem?_toArray, List.getElem?_cons_succ, List.getElem?_cons_zero]; exact rfl)
                      case hq242 => exact fun _ _ _ h => h
                      case hw242 => rfl
                      case hy242 => (intro w hSw; (try dsimp only at hSw); go_simp; try exact rfl)
                      simp only [Act.put, List.setIfInBounds_toArray, List.set_cons_zero, List.set_cons_succ]
                      refine wpAnyH_take (i := 8) (oi := ?o243) (v := ?v243) ?hi243 (by kernel_rfl) (by kernel_rfl) (by kernel_rfl) ?hq243 (Or.inl ⟨?hw243, ?hy243⟩) (by assumption) ?r243
                      case hi243 => (simp only [List.getElem?_toArray, List.getElem?_cons_succ, List.getElem?_cons_zero]; exact rfl)
                      case hq243 => exact fun _ _ _ h => h
                      case hw243 => rfl
                      case hy243 => (intro w hSw; (try dsimp only at hSw); go_simp; try exact rfl)
                      simp only [Act.put, List.setIfInBounds_toArray, List.set_cons_zero, List.set_cons_succ]
                      refine wpAnyH_take (i := 9) (oi := ?o244) (v := ?v244) ?hi244 (by kernel_rfl) (by kernel_rfl) (by kernel_rfl) ?hq244 (Or.inl ⟨?hw244, ?hy244⟩) (by assumption) ?r244
                      case hi244 => (simp only [List.getElem?_toArray, List.getElem?_cons_succ, List.getElem?_cons_zero]; exact rfl)
                      case hq244 => exact fun _ _ _ h => h
                      case hw244 => rfl
                      case hy244 => (intro w hSw; (try dsimp only at hSw); go_simp; try exact rfl)
                      simp only [Act.put, List.setIfInBounds_toArray, List.set_cons_zero, List.set_cons_succ]
                      refine wpAnyH_ready (rs := [10]) (by kernel_rfl) (by simp) ?_
                      refine AllReadyH.cons (o := ?o294) ?hi294 (fun K hK => ?_) AllReadyH.nil
                      case hi294 => (simp only [List.getElem?_toArray, List.getElem?_cons_succ, List.getElem?_cons_zero]; exact rfl)
                      go_simp
                      go_at_call 17
                      refine (bytes_same A5 A6 gl gl c5 c6 gx wc R5.out R6.out).mono ?_
                      rintro e wx ⟨rfl, rfl⟩
                      refine hK.out _ _ X.out.down4 (fun _ => ?_)
                      clear hK K R5 R6
                      try simp only [Act.put, List.setIfInBounds_toArray, List.set_cons_zero, List.set_cons_succ]
                      refine wpAnyH_take (i := 11) (oi := ?o245) (v := ?v245) ?hi245 (by kernel_rfl) (by kernel_rfl) (by kernel_rfl) ?hq245 (Or.inl ⟨?hw245, ?hy245⟩) (by assumption) ?r245
                      case hi245 => (simp only [List.getElem?_toArray, List.getElem?_cons_succ, List.getElem?_cons_zero]; exact rfl)
                      case hq245 => exact fun _ _ _ h => h
                      case hw245 => rfl
                      case hy245 => (intro w hSw; (try dsimp only at hSw); go_simp; try exact rfl)
                      simp only [Act.put, List.setIfInBounds_toArray, List.set_cons_zero, List.set_cons_succ]
                      refine wpAnyH_take (i := 12) (oi := ?o246) (v := ?v246) ?hi246 (by kernel_rfl) (by kernel_rfl) (by kernel_rfl) ?hq246 (Or.inl ⟨?hw246, ?hy246⟩) (by assumption) ?r246
                      case hi246 => (simp only [List.getElem?_toArray, List.getElem?_cons_succ, List.getElem?_cons_zero]; exact rfl)
                      case hq246 => exact fun _ _ _ h => h
                      case hw246 => rfl
                      case hy246 => (intro w hSw; (try dsimp only at hSw); go_simp; try exact rfl)
                      simp only [Act.put, List.setIfInBounds_toArray, List.set_cons_zero, List.set_cons_succ]
                      refine wpAnyH_take (i := 13) (oi := ?o247) (v := ?v247) ?hi247 (by kernel_rfl) (by kernel_rfl) (by kernel_rfl) ?hq247 (Or.inl ⟨?hw247, ?hy247⟩) (by assumption) ?r247
                      case hi247 => (simp only [List.getElem?_toArray, List.getElem?_cons_succ, List.getElem?_cons_zero]; exact rfl)
                      case hq247 => exact fun _ _ _ h => h
                      case hw247 => rfl
                      case hy247 => (intro w hSw; (try dsimp only at hSw); go_simp; try exact rfl)
                      simp only [Act.put, List.setIfInBounds_toArray, List.set_cons_zero, List.set_cons_succ]
                      refine wpAnyH_take (i := 14) (oi := ?o248) (v := ?v248) ?hi248 (by kernel_rfl) (by kernel_rfl) (by kernel_rfl) ?hq248 (Or.inl ⟨?hw248, ?hy248⟩) (by assumption) ?r248
                      case hi248 => (simp only [List.getElem?_toArray, List.getElem?_cons_succ, List.getElem?_cons_zero]; exact rfl)
                      case hq248 => exact fun _ _ _ h => h
                      case hw248 => rfl
                      case hy248 => (intro w hSw; (try dsimp only at hSw); go_simp; try exact rfl)
                      simp only [Act.put, List.setIfInBounds_toArray, List.set_cons_zero, List.set_cons_succ]
                      refine wpAnyH_take (i := 16) (oi := ?o249) (v := ?v249) ?hi249 (by kernel_rfl) (by kernel_rfl) (by kernel_rfl) ?hq249 (Or.inl ⟨?hw249, ?hy249⟩) (by assumption) ?r249
                      case hi249 => (simp only [List.getElem?_toArray, List.getElem?_cons_succ, List.getElem?_cons_zero]; exact rfl)
                      case hq249 => exact fun _ _ _ h => h
                      case hw249 => rfl
                      case hy249 => (intro w hSw; (try dsimp only at hSw); go_simp; try exact rfl)
                      simp only [Act.put, List.setIfInBounds_toArray, List.set_cons_zero, List.set_cons_succ]
                      refine wpAnyH_ready (rs := [15]) (by kernel_rfl) (by simp) ?_
                      refine AllReadyH.cons (o := ?o295) ?hi295 (fun K hK => ?_) AllReadyH.nil
                      case hi295 => (simp only [List.getElem?_toArray, List.getElem?_cons_succ, List.getElem?_cons_zero]; exact rfl)
                      go_simp
                      go_at_call 24
                      refine (api.pending D.out).mono ?_
                      rintro e wd ⟨rfl, bd⟩
                      replace OB := Kept.mk (OB.out.below bd OB.out.lt)
                      replace D := api.below D bd
                      replace X := Kept.mk (X.out.below bd)
                      replace B := step_below B bd
                      clear bd
                      refine hK.out _ _ X.out.down4 (fun _ => ?_)
                      clear hK K
                      try simp only [Act.put, List.setIfInBounds_toArray, List.set_cons_zero, List.set_cons_succ]
                      refine wpAnyH_ready (rs := [17]) (by kernel_rfl) (by simp) ?_
                      refine AllReadyH.cons (o := ?o296) ?hi296 (fun K hK => ?_) AllReadyH.nil
                      case hi296 => (simp only [List.getElem?_toArray, List.getElem?_cons_succ, List.getElem?_cons_zero]; exact rfl)
                      go_simp
                      go_at_call 25
                      refine (rpending_any _ _ xb N s X.out).mono ?_
                      rintro e wx ⟨rfl, rfl⟩
                      refine hK.out _ _ X.out.down4 (fun _ => ?_)
                      clear hK K
                      try simp only [Act.put, List.setIfInBounds_toArray, List.set_cons_zero, List.set_cons_succ]
                      refine wpAnyH_take (i := 18) (oi := ?o250) (v := ?v250) ?hi250 (by kernel_rfl) (by kernel_rfl) (by kernel_rfl) ?hq250 (Or.inl ⟨?hw250, ?hy250⟩) (by assumption) ?r250
                      case hi250 => (simp only [List.getElem?_toArray, List.getElem?_cons_succ, List.getElem?_cons_zero]; exact rfl)
                      case hq250 => exact fun _ _ _ h => h
                      case hw250 => rfl
                      case hy250 => (intro w hSw; (try dsimp only at hSw); go_simp; try exact rfl)
                      simp only [Act.put, List.setIfInBounds_toArray, List.set_cons_zero, List.set_cons_succ]
                      refine wpAnyH_take (i := 19) (oi := ?o251) (v := ?v251) ?hi251 (by kernel_rfl) (by kernel_rfl) (by kernel_rfl) ?hq251 (Or.inl ⟨?hw251, ?hy251⟩) (by assumption) ?r251
                      case hi251 => (simp only [List.getElem?_toArray, List.getElem?_cons_succ, List.getElem?_cons_zero]; exact rfl)
                      case hq251 => exact fun _ _ _ h => h
                      case hw251 => rfl
                      case hy251 => (intro w hSw; (try dsimp only at hSw); go_simp; try exact rfl)
                      simp only [Act.put, List.setIfInBounds_toArray, List.set_cons_zero, List.set_cons_succ]
                      refine wpAnyH_take (i := 20) (oi := ?o252) (v := ?v252) ?hi252 (by kernel_rfl) (by kernel_rfl) (by kernel_rfl) ?hq252 (Or.inl ⟨?hw252, ?hy252⟩) (by assumption) ?r252
                      case hi252 => (simp only [List.getElem?_toArray, List.getElem?_cons_succ, List.getElem?_cons_zero]; exact rfl)
                      case hq252 => exact fun _ _ _ h => h
                      case hw252 => rfl
                      case hy252 => (intro w hSw; (try dsimp only at hSw); go_simp; try exact rfl)
                      simp only [Act.put, List.setIfInBounds_toArray, List.set_cons_zero, List.set_cons_succ]
                      refine wpAnyH_take (i := 21) (oi := ?o253) (v := ?v253) ?hi253 (by kernel_rfl) (by kernel_rfl) (by kernel_rfl) ?hq253 (Or.inl ⟨?hw253, ?hy253⟩) (by assumption) ?r253
                      case hi253 => (simp only [List.getElem?_toArray, List.getElem?_cons_succ, List.getElem?_cons_zero]; exact rfl)
                      case hq253 => exact fun _ _ _ h => h
                      case hw253 => rfl
                      case hy253 => (intro w hSw; (try dsimp only at hSw); go_simp; try exact rfl)
                      simp only [Act.put, List.setIfInBounds_toArray, List.set_cons_zero, List.set_cons_succ]
                      refine wpAnyH_take (i := 23) (oi := ?o254) (v := ?v254) ?hi254 (by kernel_rfl) (by kernel_rfl) (by kernel_rfl) ?hq254 (Or.inl ⟨?hw254, ?hy254⟩) (by assumption) ?r254
                      case hi254 => (simp only [List.getElem?_toArray, List.getElem?_cons_succ, List.getElem?_cons_zero]; exact rfl)
                      case hq254 => exact fun _ _ _ h => h
                      case hw254 => rfl
                      case hy254 => (intro w hSw; (try dsimp only at hSw); go_simp; try exact rfl)
                      simp only [Act.put, List.setIfInBounds_toArray, List.set_cons_zero, List.set_cons_succ]
                      refine wpAnyH_take (i := 24) (oi := ?o255) (v := ?v255) ?hi255 (by kernel_rfl) (by kernel_rfl) (by kernel_rfl) ?hq255 (Or.inl ⟨?hw255, ?hy255⟩) (by assumption) ?r255
                      case hi255 => (simp only [List.getElem?_toArray, List.getElem?_cons_succ, List.getElem?_cons_zero]; exact rfl)
                      case hq255 => exact fun _ _ _ h => h
                      case hw255 => rfl
                      case hy255 => (intro w hSw; (try dsimp only at hSw); go_simp; try exact rfl)
                      simp only [Act.put, List.setIfInBounds_toArray, List.set_cons_zero, List.set_cons_succ]
                      refine wpAnyH_take (i := 25) (oi := ?o256) (v := ?v256) ?hi256 (by kernel_rfl) (by kernel_rfl) (by kernel_rfl) ?hq256 (Or.inl ⟨?hw256, ?hy256⟩) (by assumption) ?r256
                      case hi256 => (simp only [List.getElem?_toArray, List.getElem?_cons_succ, List.getElem?_cons_zero]; exact rfl)
                      case hq256 => exact fun _ _ _ h => h
                      case hw256 => rfl
                      case hy256 => (intro w hSw; (try dsimp only at hSw); go_simp; try exact rfl)
                      simp only [Act.put, List.setIfInBounds_toArray, List.set_cons_zero, List.set_cons_succ]
                      refine wpAnyH_take (i := 26) (oi := ?o257) (v := ?v257) ?hi257 (by kernel_rfl) (by kernel_rfl) (by kernel_rfl) ?hq257 (Or.inl ⟨?hw257, ?hy257⟩) (by assumption) ?r257
                      case hi257 => (simp only [List.getElem?_toArray, List.getElem?_cons_succ, List.getElem?_cons_zero]; exact rfl)
                      case hq257 => exact fun _ _ _ h => h
                      case hw257 => rfl
                      case hy257 => (intro w hSw; (try dsimp only at hSw); go_simp; try exact rfl)
                      simp only [Act.put, List.setIfInBounds_toArray, List.set_cons_zero, List.set_cons_succ]
                      refine wpAnyH_ready (rs := [22]) (by kernel_rfl) (by simp) ?_
                      refine AllReadyH.cons (o := ?o297) ?hi297 (fun K hK => ?_) AllReadyH.nil
                      case hi297 => (simp only [List.getElem?_toArray, List.getElem?_cons_succ, List.getElem?_cons_zero]; exact rfl)
                      go_simp
                      go_at_call 26
                      refine (api.down D.out).mono ?_
                      rintro e we ⟨rfl, bd⟩
                      replace OB := Kept.mk (OB.out.below bd OB.out.lt)
                      replace D := api.below D bd
                      replace X := Kept.mk (X.out.below bd)
                      replace B := step_below B bd
                      clear bd
                      refine hK.out _ _ X.out.down4 (fun _ => ?_)
                      clear hK K
                      try simp only [Act.put, List.setIfInBounds_toArray, List.set_cons_zero, List.set_cons_succ]
                      refine wpAnyH_take (i := 27) (oi := ?o258) (v := ?v258) ?hi258 (by kernel_rfl) (by kernel_rfl) (by kernel_rfl) ?hq258 (Or.inl ⟨?hw258, ?hy258⟩) (by assumption) ?r258
                      case hi258 => (simp only [List.getElem?_toArray, List.getElem?_cons_succ, List.getElem?_cons_zero]; exact rfl)
                      case hq258 => exact fun _ _ _ h => h
                      case hw258 => rfl
                      case hy258 => (intro w hSw; (try dsimp only at hSw); go_simp; try exact rfl)
                      simp only [Act.put, List.setIfInBounds_toArray, List.set_cons_zero, List.set_cons_succ]
                      refine wpAnyH_take (i := 28) (oi := ?o259) (v := ?v259) ?hi259 (by kernel_rfl) (by kernel_rfl) (by kernel_rfl) ?hq259 (Or.inl ⟨?hw259, ?hy259⟩) (by assumption) ?r259
                      case hi259 => (simp only [List.getElem?_toArray, List.getElem?_cons_succ, List.getElem?_cons_zero]; exact rfl)
                      case hq259 => exact fun _ _ _ h => h
                      case hw259 => rfl
                      case hy259 => (intro w hSw; (try dsimp only at hSw); go_simp; try exact rfl)
                      simp only [Act.put, List.setIfInBounds_toArray, List.set_cons_zero, List.set_cons_succ]
                      refine wpAnyH_take (i := 29) (oi := ?o260) (v := ?v260) ?hi260 (by kernel_rfl) (by kernel_rfl) (by kernel_rfl) ?hq260 (Or.inl ⟨?hw260, ?hy260⟩) (by assumption) ?r260
                      case hi260 => (simp only [List.getElem?_toArray, List.getElem?_cons_succ, List.getElem?_cons_zero]; exact rfl)
                      case hq260 => exact fun _ _ _ h => h
                      case hw260 => rfl
                      case hy260 => (intro w hSw; (try dsimp only at hSw); go_simp; try exact rfl)
                      simp only [Act.put, List.setIfInBounds_toArray, List.set_cons_zero, List.set_cons_succ]
                      refine wpAnyH_take (i := 30) (oi := ?o261) (v := ?v261) ?hi261 (by kernel_rfl) (by kernel_rfl) (by kernel_rfl) ?hq261 (Or.inl ⟨?hw261, ?hy261⟩) (by assumption) ?r261
                      case hi261 => (simp only [List.getElem?_toArray, List.getElem?_cons_succ, List.getElem?_cons_zero]; exact rfl)
                      case hq261 => exact fun _ _ _ h => h
                      case hw261 => rfl
                      case hy261 => (intro w hSw; (try dsimp only at hSw); go_simp; try exact rfl)
                      simp only [Act.put, List.setIfInBounds_toArray, List.set_cons_zero, List.set_cons_succ]
                      refine wpAnyH_take (i := 32) (oi := ?o262) (v := ?v262) ?hi262 (by kernel_rfl) (by kernel_rfl) (by kernel_rfl) ?hq262 (Or.inl ⟨?hw262, ?hy262⟩) (by assumption) ?r262
                      case hi262 => (simp only [List.getElem?_toArray, List.getElem?_cons_succ, List.getElem?_cons_zero]; exact rfl)
                      case hq262 => exact fun _ _ _ h => h
                      case hw262 => rfl
                      case hy262 => (intro w hSw; (try dsimp only at hSw); go_simp; try exact rfl)
                      simp only [Act.put, List.setIfInBounds_toArray, List.set_cons_zero, List.set_cons_succ]
                      refine wpAnyH_ready (rs := [31]) (by kernel_rfl) (by simp) ?_
                      refine AllReadyH.cons (o := ?o298) ?hi298 (fun K hK => ?_) AllReadyH.nil
                      case hi298 => (simp only [List.getElem?_toArray, List.getElem?_cons_succ, List.getElem?_cons_zero]; exact rfl)
                      go_simp
                      go_at_call 27
                      refine (api.len D.out).mono ?_
                      rintro e wf ⟨rfl, bd⟩
                      replace OB := Kept.mk (OB.out.below bd OB.out.lt)
                      replace D := api.below D bd
                      replace X := Kept.mk (X.out.below bd)
                      replace B := step_below B bd
                      clear bd
                      refine hK.out _ _ X.out.down4 (fun _ => ?_)
                      clear hK K
                      try simp only [Act.put, List.setIfInBounds_toArray, List.set_cons_zero, List.set_cons_succ]
                      refine wpAnyH_take (i := 33) (oi := ?o263) (v := ?v263) ?hi263 (by kernel_rfl) (by kernel_rfl) (by kernel_rfl) ?hq263 (Or.inl ⟨?hw263, ?hy263⟩) (by assumption) ?r263
                      case hi263 => (simp only [List.getElem?_toArray, List.getElem?_cons_succ, List.getElem?_cons_zero]; exact rfl)
                      case hq263 => exact fun _ _ _ h => h
                      case hw263 => rfl
                      case hy263 => (intro w hSw; (try dsimp only at hSw); go_simp; try exact rfl)
                      simp only [Act.put, List.setIfInBounds_toArray, List.set_cons_zero, List.set_cons_succ]
                      refine wpAnyH_take (i := 34) (oi := ?o264) (v := ?v264) ?hi264 (by kernel_rfl) (by kernel_rfl) (by kernel_rfl) ?hq264 (Or.inl ⟨?hw264, ?hy264⟩) (by assumption) ?r264
                      case hi264 => (simp only [List.getElem?_toArray, List.getElem?_cons_succ, List.getElem?_cons_zero]; exact rfl)
                      case hq264 => exact fun _ _ _ h => h
                      case hw264 => rfl
                      case hy264 => (intro w hSw; (try dsimp only at hSw); go_simp; try exact rfl)
                      simp only [Act.put, List.setIfInBounds_toArray, List.set_cons_zero, List.set_cons_succ]
                      refine wpAnyH_done (by kernel_rfl) ?_ _
                      refine NoPanic.normal ?_
                      go_wp2
                      go_roundw
                      case rel => exact ⟨k + 1, _, _, _, by omega, by go_num, D, X, DJ, B, L, M⟩
                      case measure => simp [intOf]; omega
          · have hkn' : ¬ (k : Int) < len := by omega
            go_wp2_with fail
            refine (first_any api wr).mono ?_
            rintro e w9 ⟨rfl, b9⟩
            replace B := step_below B b9
            go_wp2
            go_ret
            exact ⟨rfl, B.out⟩
      · have hbad : ¬ (1 ≤ n ∧ n ≤ 8192) := by omega
        have hb3 : n ≤ 300 ∨ 8192 < n := by omega
        rcases hb3 with hb3 | hb3
        · have hb4 : n < 1 := by omega
          have hb5 : ¬ 300 < n := by omega
          clear hbig hok
          go_wp2_with fail
          refine (api.bad w1 n hbad).mono ?_
          rintro e w2 ⟨rfl, b2⟩
          replace B := step_below B b2
          go_wp2_with fail
          refine (rnew_bad w2 n hbad).mono ?_
          rintro e w3 ⟨rfl, rfl⟩
          clear hbad
          go_wp2_with fail
          refine wp_loop_rounds 1 ?_
          rw [rounds_succ]
          go_wp2_with fail
          refine (first_any api w2).mono ?_
          rintro e w9 ⟨rfl, b9⟩
          replace B := step_below B b9
          go_wp2
          go_ret
          exact ⟨rfl, B.out⟩
        · have hb4 : 300 < n := by omega
          have hb5 : ¬ n ≤ 8192 := by omega
          clear hbig hok
          go_wp2_with fail
          refine (api.bad w1 n hbad).mono ?_
          rintro e w2 ⟨rfl, b2⟩
          replace B := step_below B b2
          go_wp2_with fail
          refine (rnew_bad w2 n hbad).mono ?_
          rintro e w3 ⟨rfl, rfl⟩
          clear hbad
          go_wp2_with fail
          refine wp_loop_rounds 1 ?_
          rw [rounds_succ]
          go_wp2_with fail
          refine (first_any api w2).mono ?_
          rintro e w9 ⟨rfl, b9⟩
          replace B := step_below B b9
          go_wp2
          go_ret
          exact ⟨rfl, B.out⟩
end
end Go.Proofs.Ytgjmnefninmoiaa.Disk
