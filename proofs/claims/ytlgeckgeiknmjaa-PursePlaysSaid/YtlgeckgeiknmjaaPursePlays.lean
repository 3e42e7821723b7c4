/-
  The law PursePlays, walked.
-/
import Derived.Test.YtlgeckgeiknmjaaPurseTotals
import Derived.Test.YtlgeckgeiknmjaaPurseRefNew
namespace Go.Proofs.Ytlgeckgeiknmjaa.Purse
open Go.RowKit Go.Proofs.Ytlgeckgeiknmjaa.Sha Go.Proofs.Ytlgeckgeiknmjaa.Num

theorem Pr.lts {w : World} {F : List Nat} {p : Nat} {s : PS} (h : Pr w F p s) : ∀ k ∈ F, k < w.heap.size := h.2.lts
theorem Pr.keep {w w' : World} {F G : List Nat} {p : Nat} {s : PS} (h : Pr w F p s) (b : Bar G w w') (j : Disj F G) : Pr w' F p s := ⟨h.1, h.2.keep b j⟩
theorem Pr.below {w w' : World} {F : List Nat} {p : Nat} {s : PS} (h : Kept (Pr w F p s)) (b : Below w.heap.size w w') : Kept (Pr w' F p s) := ⟨h.out.keep (barOf b []) (fun _ _ => by simp)⟩
theorem Pr.drewN {w : World} {F : List Nat} {p : Nat} {s : PS} (h : Pr w F p s) (q : Nat) : Pr (w.drewN q) F p s := h.keep (barOf (below_drewN (Below.refl _ _) q) []) (fun _ _ => by simp)
theorem op_cells {w : World} {O : Nat} {kd a b c n : Int} (h : Blk w O 34 #[.int .i64 kd, .int .i64 a, .int .i64 b, .int .i64 c, .int .i64 n]) :
    w.cell? ⟨O, 0, none⟩ = some (.int .i64 kd) ∧ w.cell? ⟨O, 1, none⟩ = some (.int .i64 a) ∧ w.cell? ⟨O, 2, none⟩ = some (.int .i64 b) ∧ w.cell? ⟨O, 3, none⟩ = some (.int .i64 c) ∧ w.cell? ⟨O, 4, none⟩ = some (.int .i64 n) :=
  ⟨h.cell 0, h.cell 1, h.cell 2, h.cell 3, h.cell 4⟩
set_option maxRecDepth 100000 in
set_option maxHeartbeats 4000000 in
theorem plays_walk (A : Option Addr) (len cap : Nat) (X : Nat → List Int) (A2 : Option Addr) (len2 cap2 : Nat) (Y : Nat → OpP) (w : World) (hr : Rwi w A len X) (hlen : len ≤ 9223372036854775807) (ho : Ops w A2 len2 Y) : Calls Try.prog 3 #[.slice A len cap, .slice A2 len2 cap2] w (Holds w) := by
  have HR := Kept.mk hr
  have HO := Kept.mk ho
  clear hr ho
  go_enter Try.func3, Try.ntmps3
  go_wp2_with fail
  refine (first_any w).mono ?_
  rintro e w1 ⟨rfl, b1⟩
  have B := Kept.mk b1
  have FW := Kept.mk (few_any A len cap X w1 (HR.out.below b1) hlen)
  have N1 := Kept.mk (new_any A len cap X w1 (HR.out.below b1))
  clear b1
  go_wp2_with fail
  refine FW.out.mono ?_
  rintro e w2 ⟨t, rfl, ht, rfl⟩
  cases t with
  | false =>
    go_wp2_with fail
    refine (first_any w1).mono ?_
    rintro e w3 ⟨rfl, b3⟩
    replace B := step_below B b3
    go_wp2
    go_ret
    exact ⟨rfl, B.out⟩
  | true =>
    clear ht FW
    by_cases h300 : 300 < len2
    · have h300' : 300 < (len2 : Int) := by omega
      go_wp2_with fail
      refine (first_any w1).mono ?_
      rintro e w3 ⟨rfl, b3⟩
      replace B := step_below B b3
      go_wp2
      go_ret
      exact ⟨rfl, B.out⟩
    · have h300' : ¬ 300 < (len2 : Int) := by omega
      go_wp2_with fail
      refine N1.out.mono ?_
      rintro e w2 (⟨bad, rfl, b2⟩ | ⟨ok, p, F, rfl, hp, fp⟩)
      · replace B := step_below B b2
        have N2 := Kept.mk (rnew_any A len cap X w2 (HR.out.below B.out))
        have BAD := Kept.mk bad
        clear N1 b2 bad
        go_wp2_with fail
        refine N2.out.mono ?_
        rintro e w4 (⟨-, rfl, b4⟩ | ⟨ok, -⟩)
        · replace B := step_below B b4
          clear N2 b4
          go_wp2
          go_loop [9] (fun i => i = .int .i64 0) (fun _ => 0)
          case atStart => rfl
          case round =>
            subst hrel
            go_wp2_with fail
            refine (first_any w4).mono ?_
            rintro e w3 ⟨rfl, b3⟩
            replace B := step_below B b3
            go_wp2
            go_ret
            exact ⟨rfl, B.out⟩
        · exact absurd ok BAD.out
      · obtain ⟨B, L⟩ := step_fp B fp (none_least _)
        have P := Kept.mk hp
        have OK := Kept.mk ok
        have N2 := Kept.mk (rnew_any A len cap X w2 (HR.out.below B.out))
        clear N1 fp hp ok
        go_wp2_with fail
        refine N2.out.mono ?_
        rintro e w4 (⟨bad, -⟩ | ⟨-, xb, G, rfl, hx, fp⟩)
        · exact absurd OK.out bad
        · have DJ : Kept (Disj F G) := ⟨(Disj.new (n := w2.heap.size) (fun g hg => by rcases fp.2 g hg with h | h; · simp at h
                                                                                      · exact h) (fun g hg => P.out.lts g hg)).symm⟩
          replace P : Kept (Pc w4 F p (newP len X)) := ⟨P.out.keep fp.1 (fun _ _ => by simp)⟩
          have C := Kept.mk hx
          obtain ⟨B, M⟩ := step_fp B fp (none_least _)
          clear N2 fp hx
          go_wp2
          go_loopw [9] (fun i wr => ∃ (k : Nat) (F G : List Nat) (s : PS), k ≤ len2 ∧ i = .int .i64 k ∧ Kept (Pc wr F p s) ∧ Kept (Pr wr G xb s) ∧ Kept (Disj F G) ∧ Kept (Below w.heap.size w wr) ∧ Kept (∀ k ∈ F, w.heap.size ≤ k) ∧ Kept (∀ k ∈ G, w.heap.size ≤ k)) (fun i _ => len2 - (Go.RowKit.intOf i).toNat)
          case atStart => exact ⟨0, F, G, _, by omega, rfl, P, C, DJ, B, L, M⟩
          case round =>
            clear P C DJ B L M
            obtain ⟨k, F, G, s, hk, rfl, P, C, DJ, B, L, M⟩ := hrel
            by_cases hkn : k < len2
            · have hkn' : (k : Int) < len2 := by omega
              obtain ⟨bb, oo, rfl, OP⟩ := Ops.at_ HO k hkn
              obtain ⟨y0, y1, y2, y3, y4⟩ := OP.later B
              obtain ⟨kd, ya, yb, yc, yn, hY⟩ : ∃ kd ya yb yc yn, Y k = ⟨kd, ya, yb, yc, yn⟩ := ⟨_, _, _, _, _, rfl⟩
              rw [hY] at y0 y1 y2 y3 y4
              simp only at y0 y1 y2 y3 y4
              clear OP hY
              go_upto_region 13 with (fail)
              have ob : Blk (wr.alloc (.cells #[.int .i64 kd, .int .i64 ya, .int .i64 yb, .int .i64 yc, .int .i64 yn] 34)) wr.heap.size 34 #[.int .i64 kd, .int .i64 ya, .int .i64 yb, .int .i64 yc, .int .i64 yn] := Blk.new _ _ _
              have OF : Kept (wr.heap.size ∉ F) := ⟨fun hm => by have := P.out.lts _ hm; omega⟩
              have OG : Kept (wr.heap.size ∉ G) := ⟨fun hm => by have := C.out.lts _ hm; omega⟩
              have b4 : Below wr.heap.size wr (wr.alloc (.cells #[.int .i64 kd, .int .i64 ya, .int .i64 yb, .int .i64 yc, .int .i64 yn] 34)) := (Below.refl _ _).alloc (Nat.le_refl _) _
              replace P := Pc.below P b4
              replace C := Pr.below C b4
              replace B := step_below B b4
              obtain ⟨O, hO⟩ : ∃ O, wr.heap.size = O := ⟨_, rfl⟩
              rw [hO] at ob OF OG ⊢
              have OB := Kept.mk ob
              clear ob b4 hO y0 y1 y2 y3 y4
              generalize wr.alloc (.cells #[.int .i64 kd, .int .i64 ya, .int .i64 yb, .int .i64 yc, .int .i64 yn] 34) = w5 at *
              by_cases h0 : kd = 0
              · subst h0
                obtain ⟨o0, o1, o2, o3, o4⟩ := op_cells OB.out
                go_upto_region 16 with (fail)
                refine wp_region_noPanic ?_
                refine wp_region_held_drew (S := fun w' : World => w'.cell? ⟨O, 0, none⟩ = some (.int .i64 0) ∧ w'.cell? ⟨O, 1, none⟩ = some (.int .i64 ya) ∧ w'.cell? ⟨O, 2, none⟩ = some (.int .i64 yb) ∧ w'.cell? ⟨O, 3, none⟩ = some (.int .i64 yc) ∧ w'.cell? ⟨O, 4, none⟩ = some (.int .i64 yn)) (by kernel_rfl) ⟨o0, o1, o2, o3, o4⟩ (fun hHeld => ?_)
                have bd : Below w5.heap.size w5 w5.drew := (Below.refl _ _).drew
                replace OB := Kept.mk (OB.out.below bd OB.out.lt)
                replace P := Pc.below P bd
                replace C := Pr.below C bd
                replace B := step_below B bd
                clear bd o0 o1 o2 o3 o4
                generalize w5.drew = w6 at *
                refine wpAnyH_take (i := 0) (oi := ?o1) (v := ?v1) ?hi1 (by kernel_rfl) (by kernel_rfl) (by kernel_rfl) ?hq1 (Or.inl ⟨?hw1, ?hy1⟩) (by assumption) ?r1
                case hi1 => (simp only [List.getElem?_toArray, List.getElem?_cons_zero]; exact rfl)
                case hq1 => exact fun _ _ _ h => h
                case hw1 => rfl
                case hy1 => (intro w hSw; (try dsimp only at hSw); go_simp; try exact rfl)
                simp only [Act.put, List.setIfInBounds_toArray, List.set_cons_zero, List.set_cons_succ]
                refine wpAnyH_take (i := 1) (oi := ?o2) (v := ?v2) ?hi2 (by kernel_rfl) (by kernel_rfl) (by kernel_rfl) ?hq2 (Or.inl ⟨?hw2, ?hy2⟩) (by assumption) ?r2
                case hi2 => (simp only [List.getElem?_toArray, List.getElem?_cons_succ, List.getElem?_cons_zero]; exact rfl)
                case hq2 => exact fun _ _ _ h => h
                case hw2 => rfl
                case hy2 => (intro w hSw; (try dsimp only at hSw); go_simp; try exact rfl)
                simp only [Act.put, List.setIfInBounds_toArray, List.set_cons_zero, List.set_cons_succ]
                refine wpAnyH_take (i := 2) (oi := ?o3) (v := ?v3) ?hi3 (by kernel_rfl) (by kernel_rfl) (by kernel_rfl) ?hq3 (Or.inl ⟨?hw3, ?hy3⟩) (by assumption) ?r3
                case hi3 => (simp only [List.getElem?_toArray, List.getElem?_cons_succ, List.getElem?_cons_zero]; exact rfl)
                case hq3 => exact fun _ _ _ h => h
                case hw3 => rfl
                case hy3 => (intro w hSw; (try dsimp only at hSw); go_simp; try exact rfl)
                simp only [Act.put, List.setIfInBounds_toArray, List.set_cons_zero, List.set_cons_succ]
                refine wpAnyH_take (i := 3) (oi := ?o4) (v := ?v4) ?hi4 (by kernel_rfl) (by kernel_rfl) (by kernel_rfl) ?hq4 (Or.inl ⟨?hw4, ?hy4⟩) (by assumption) ?r4
                case hi4 => (simp only [List.getElem?_toArray, List.getElem?_cons_succ, List.getElem?_cons_zero]; exact rfl)
                case hq4 => exact fun _ _ _ h => h
                case hw4 => rfl
                case hy4 => (intro w hSw; (try dsimp only at hSw); go_simp; try exact rfl)
                simp only [Act.put, List.setIfInBounds_toArray, List.set_cons_zero, List.set_cons_succ]
                refine wpAnyH_take (i := 4) (oi := ?o5) (v := ?v5) ?hi5 (by kernel_rfl) (by kernel_rfl) (by kernel_rfl) ?hq5 (Or.inl ⟨?hw5, ?hy5⟩) (by assumption) ?r5
                case hi5 => (simp only [List.getElem?_toArray, List.getElem?_cons_succ, List.getElem?_cons_zero]; exact rfl)
                case hq5 => exact fun _ _ _ h => h
                case hw5 => rfl
                case hy5 => (intro w hSw; (try dsimp only at hSw); go_simp; try exact rfl)
                simp only [Act.put, List.setIfInBounds_toArray, List.set_cons_zero, List.set_cons_succ]
                refine wpAnyH_take (i := 5) (oi := ?o6) (v := ?v6) ?hi6 (by kernel_rfl) (by kernel_rfl) (by kernel_rfl) ?hq6 (Or.inl ⟨?hw6, ?hy6⟩) (by assumption) ?r6
                case hi6 => (simp only [List.getElem?_toArray, List.getElem?_cons_succ, List.getElem?_cons_zero]; exact rfl)
                case hq6 => exact fun _ _ _ h => h
                case hw6 => rfl
                case hy6 => (intro w hSw; (try dsimp only at hSw); go_simp; try exact rfl)
                simp only [Act.put, List.setIfInBounds_toArray, List.set_cons_zero, List.set_cons_succ]
                refine wpAnyH_take (i := 6) (oi := ?o7) (v := ?v7) ?hi7 (by kernel_rfl) (by kernel_rfl) (by kernel_rfl) ?hq7 (Or.inl ⟨?hw7, ?hy7⟩) (by assumption) ?r7
                case hi7 => (simp only [List.getElem?_toArray, List.getElem?_cons_succ, List.getElem?_cons_zero]; exact rfl)
                case hq7 => exact fun _ _ _ h => h
                case hw7 => rfl
                case hy7 => (intro w hSw; (try dsimp only at hSw); go_simp; try exact rfl)
                simp only [Act.put, List.setIfInBounds_toArray, List.set_cons_zero, List.set_cons_succ]
                refine wpAnyH_take (i := 8) (oi := ?o8) (v := ?v8) ?hi8 (by kernel_rfl) (by kernel_rfl) (by kernel_rfl) ?hq8 (Or.inl ⟨?hw8, ?hy8⟩) (by assumption) ?r8
                case hi8 => (simp only [List.getElem?_toArray, List.getElem?_cons_succ, List.getElem?_cons_zero]; exact rfl)
                case hq8 => exact fun _ _ _ h => h
                case hw8 => rfl
                case hy8 => (intro w hSw; (try dsimp only at hSw); go_simp; try exact rfl)
                simp only [Act.put, List.setIfInBounds_toArray, List.set_cons_zero, List.set_cons_succ]
                refine wpAnyH_take (i := 9) (oi := ?o9) (v := ?v9) ?hi9 (by kernel_rfl) (by kernel_rfl) (by kernel_rfl) ?hq9 (Or.inl ⟨?hw9, ?hy9⟩) (by assumption) ?r9
                case hi9 => (simp only [List.getElem?_toArray, List.getElem?_cons_succ, List.getElem?_cons_zero]; exact rfl)
                case hq9 => exact fun _ _ _ h => h
                case hw9 => rfl
                case hy9 => (intro w hSw; (try dsimp only at hSw); go_simp; try exact rfl)
                simp only [Act.put, List.setIfInBounds_toArray, List.set_cons_zero, List.set_cons_succ]
                refine wpAnyH_take (i := 10) (oi := ?o10) (v := ?v10) ?hi10 (by kernel_rfl) (by kernel_rfl) (by kernel_rfl) ?hq10 (Or.inl ⟨?hw10, ?hy10⟩) (by assumption) ?r10
                case hi10 => (simp only [List.getElem?_toArray, List.getElem?_cons_succ, List.getElem?_cons_zero]; exact rfl)
                case hq10 => exact fun _ _ _ h => h
                case hw10 => rfl
                case hy10 => (intro w hSw; (try dsimp only at hSw); go_simp; try exact rfl)
                simp only [Act.put, List.setIfInBounds_toArray, List.set_cons_zero, List.set_cons_succ]
                refine wpAnyH_take (i := 11) (oi := ?o11) (v := ?v11) ?hi11 (by kernel_rfl) (by kernel_rfl) (by kernel_rfl) ?hq11 (Or.inl ⟨?hw11, ?hy11⟩) (by assumption) ?r11
                case hi11 => (simp only [List.getElem?_toArray, List.getElem?_cons_succ, List.getElem?_cons_zero]; exact rfl)
                case hq11 => exact fun _ _ _ h => h
                case hw11 => rfl
                case hy11 => (intro w hSw; (try dsimp only at hSw); go_simp; try exact rfl)
                simp only [Act.put, List.setIfInBounds_toArray, List.set_cons_zero, List.set_cons_succ]
                refine wpAnyH_take (i := 12) (oi := ?o12) (v := ?v12) ?hi12 (by kernel_rfl) (by kernel_rfl) (by kernel_rfl) ?hq12 (Or.inl ⟨?hw12, ?hy12⟩) (by assumption) ?r12
                case hi12 => (simp only [List.getElem?_toArray, List.getElem?_cons_succ, List.getElem?_cons_zero]; exact rfl)
                case hq12 => exact fun _ _ _ h => h
                case hw12 => rfl
                case hy12 => (intro w hSw; (try dsimp only at hSw); go_simp; try exact rfl)
                simp only [Act.put, List.setIfInBounds_toArray, List.set_cons_zero, List.set_cons_succ]
                refine wpAnyH_take (i := 13) (oi := ?o13) (v := ?v13) ?hi13 (by kernel_rfl) (by kernel_rfl) (by kernel_rfl) ?hq13 (Or.inl ⟨?hw13, ?hy13⟩) (by assumption) ?r13
                case hi13 => (simp only [List.getElem?_toArray, List.getElem?_cons_succ, List.getElem?_cons_zero]; exact rfl)
                case hq13 => exact fun _ _ _ h => h
                case hw13 => rfl
                case hy13 => (intro w hSw; (try dsimp only at hSw); go_simp; try exact rfl)
                simp only [Act.put, List.setIfInBounds_toArray, List.set_cons_zero, List.set_cons_succ]
                refine wpAnyH_take (i := 14) (oi := ?o14) (v := ?v14) ?hi14 (by kernel_rfl) (by kernel_rfl) (by kernel_rfl) ?hq14 (Or.inl ⟨?hw14, ?hy14⟩) (by assumption) ?r14
                case hi14 => (simp only [List.getElem?_toArray, List.getElem?_cons_succ, List.getElem?_cons_zero]; exact rfl)
                case hq14 => exact fun _ _ _ h => h
                case hw14 => rfl
                case hy14 => (intro w hSw; (try dsimp only at hSw); go_simp; try exact rfl)
                simp only [Act.put, List.setIfInBounds_toArray, List.set_cons_zero, List.set_cons_succ]
                have MV := Kept.mk (give_any ya yc yn P.out)
                obtain ⟨R, hR⟩ : ∃ R, giveP s ya yc yn = R := ⟨_, rfl⟩
                rw [hR] at MV
                have CLT := Kept.mk C.out.lts
                refine wpAnyH_ready (rs := [7]) (by kernel_rfl) (by simp) ?_
                refine AllReadyH.cons (o := ?o53) ?hi53 (fun K hK => ?_) AllReadyH.nil
                case hi53 => (simp only [List.getElem?_toArray, List.getElem?_cons_succ, List.getElem?_cons_zero]; exact rfl)
                go_simp
                go_at_call 11
                refine MV.out.mono ?_
                rintro e w7 ⟨rfl, F2, hp, fp⟩
                have LTW := OB.out.lt
                replace OB := Kept.mk (OB.out.bar fp.1 OF.out)
                replace C : Kept (Pr w7 G xb s) := ⟨C.out.keep fp.1 DJ.out.symm⟩
                replace DJ : Kept (Disj F2 G) := ⟨DJ.out.step fp CLT.out⟩
                replace OF : Kept (O ∉ F2) := ⟨fun hm => by
                  rcases fp.2 O hm with h1 | h1
                  · exact OF.out h1
                  · omega⟩
                obtain ⟨B, L⟩ := step_fp B fp L
                replace P := Kept.mk hp
                have RV := Kept.mk (rgive_any ya yc yn C.out)
                rw [hR] at RV
                have PLT := Kept.mk P.out.lts
                clear fp hp MV CLT LTW hHeld
                refine hK.out _ _ (op_cells OB.out) (fun _ => ?_)
                clear hK K
                try simp only [Act.put, List.setIfInBounds_toArray, List.set_cons_zero, List.set_cons_succ]
                refine wpAnyH_ready (rs := [15]) (by kernel_rfl) (by simp) ?_
                refine AllReadyH.cons (o := ?o54) ?hi54 (fun K hK => ?_) AllReadyH.nil
                case hi54 => (simp only [List.getElem?_toArray, List.getElem?_cons_succ, List.getElem?_cons_zero]; exact rfl)
                go_simp
                go_at_call 12
                refine RV.out.mono ?_
                rintro e w8 ⟨rfl, G2, hx, fp⟩
                have LTW := OB.out.lt
                replace OB := Kept.mk (OB.out.bar fp.1 OG.out)
                replace P : Kept (Pc w8 F2 p R.2) := ⟨P.out.keep fp.1 DJ.out⟩
                replace DJ : Kept (Disj F2 G2) := ⟨(DJ.out.symm.step fp PLT.out).symm⟩
                replace OG : Kept (O ∉ G2) := ⟨fun hm => by
                  rcases fp.2 O hm with h1 | h1
                  · exact OG.out h1
                  · omega⟩
                obtain ⟨B, M⟩ := step_fp B fp M
                replace C := Kept.mk hx
                clear fp hx RV PLT LTW hR
                refine hK.out _ _ (op_cells OB.out) (fun _ => ?_)
                clear hK K
                try simp only [Act.put, List.setIfInBounds_toArray, List.set_cons_zero, List.set_cons_succ]
                refine wpAnyH_take (i := 16) (oi := ?o15) (v := ?v15) ?hi15 (by kernel_rfl) (by kernel_rfl) (by kernel_rfl) ?hq15 (Or.inl ⟨?hw15, ?hy15⟩) (by assumption) ?r15
                case hi15 => (simp only [List.getElem?_toArray, List.getElem?_cons_succ, List.getElem?_cons_zero]; exact rfl)
                case hq15 => exact fun _ _ _ h => h
                case hw15 => rfl
                case hy15 => (intro w hSw; (try dsimp only at hSw); go_simp; try exact rfl)
                simp only [Act.put, List.setIfInBounds_toArray, List.set_cons_zero, List.set_cons_succ]
                refine wpAnyH_take (i := 17) (oi := ?o16) (v := ?v16) ?hi16 (by kernel_rfl) (by kernel_rfl) (by kernel_rfl) ?hq16 (Or.inl ⟨?hw16, ?hy16⟩) (by assumption) ?r16
                case hi16 => (simp only [List.getElem?_toArray, List.getElem?_cons_succ, List.getElem?_cons_zero]; exact rfl)
                case hq16 => exact fun _ _ _ h => h
                case hw16 => rfl
                case hy16 => (intro w hSw; (try dsimp only at hSw); go_simp; try exact rfl)
                simp only [Act.put, List.setIfInBounds_toArray, List.set_cons_zero, List.set_cons_succ]
                refine wpAnyH_done (by kernel_rfl) ?_ _
                refine NoPanic.normal ?_
                obtain ⟨re, S⟩ := R
                simp only at P C
                -- what each has, what is told
                have h1 := Kept.mk (fun q => has_any (P.out.drewN q) ya yc)
                have h2 := Kept.mk (fun q => rhas_any (C.out.drewN q) ya yc)
                have h3 := Kept.mk (fun q => has_any (P.out.drewN q) yb yc)
                have h4 := Kept.mk (fun q => rhas_any (C.out.drewN q) yb yc)
                have h5 := Kept.mk (fun q => total_any (P.out.drewN q) yc)
                have h6 := Kept.mk (fun q => rtotal_any (C.out.drewN q) yc)
                obtain ⟨o0, o1, o2, o3, o4⟩ := op_cells OB.out
                generalize hasP S ya yc = va at *
                generalize hasP S yb yc = vb at *
                generalize totP S yc = vt at *
                go_upto_region 21 with (fail)
                go_quiet ((first | (go_at_call 17; with_reducible exact Calls.quiet_of_same (still_of (h1.out _))) | (go_at_call 18; with_reducible exact Calls.quiet_of_same (still_of (h2.out _))) | (go_at_call 17; with_reducible exact Calls.quiet_of_same (still_of (h3.out _))) | (go_at_call 18; with_reducible exact Calls.quiet_of_same (still_of (h4.out _))) | (go_at_call 19; with_reducible exact Calls.quiet_of_same (still_of (h5.out _))) | (go_at_call 20; with_reducible exact Calls.quiet_of_same (still_of (h6.out _)))))
                replace P : Kept (Pc (w8.drewN nq) F2 p S) := ⟨P.out.drewN _⟩
                replace C : Kept (Pr (w8.drewN nq) G2 xb S) := ⟨C.out.drewN _⟩
                replace B : Kept (Below w.heap.size w (w8.drewN nq)) := ⟨below_drewN B.out _⟩
                clear h1 h2 h3 h4 h5 h6 o0 o1 o2 o3 o4 OB OF OG
                generalize w8.drewN nq = w9 at *
                go_wp2
                go_roundw
                case rel => exact ⟨k + 1, F2, G2, _, by omega, by go_num, P, C, DJ, B, L, M⟩
                case measure => simp [Go.RowKit.intOf]; omega
              · by_cases h1 : kd = 1
                · subst h1
                  obtain ⟨o0, o1, o2, o3, o4⟩ := op_cells OB.out
                  go_upto_region 18 with (fail)
                  refine wp_region_noPanic ?_
                  refine wp_region_held_drew (S := fun w' : World => w'.cell? ⟨O, 0, none⟩ = some (.int .i64 1) ∧ w'.cell? ⟨O, 1, none⟩ = some (.int .i64 ya) ∧ w'.cell? ⟨O, 2, none⟩ = some (.int .i64 yb) ∧ w'.cell? ⟨O, 3, none⟩ = some (.int .i64 yc) ∧ w'.cell? ⟨O, 4, none⟩ = some (.int .i64 yn)) (by kernel_rfl) ⟨o0, o1, o2, o3, o4⟩ (fun hHeld => ?_)
                  have bd : Below w5.heap.size w5 w5.drew := (Below.refl _ _).drew
                  replace OB := Kept.mk (OB.out.below bd OB.out.lt)
                  replace P := Pc.below P bd
                  replace C := Pr.below C bd
                  replace B := step_below B bd
                  clear bd o0 o1 o2 o3 o4
                  generalize w5.drew = w6 at *
                  refine wpAnyH_take (i := 0) (oi := ?o17) (v := ?v17) ?hi17 (by kernel_rfl) (by kernel_rfl) (by kernel_rfl) ?hq17 (Or.inl ⟨?hw17, ?hy17⟩) (by assumption) ?r17
                  case hi17 => (simp only [List.getElem?_toArray, List.getElem?_cons_zero]; exact rfl)
                  case hq17 => exact fun _ _ _ h => h
                  case hw17 => rfl
                  case hy17 => (intro w hSw; (try dsimp only at hSw); go_simp; try exact rfl)
                  simp only [Act.put, List.setIfInBounds_toArray, List.set_cons_zero, List.set_cons_succ]
                  refine wpAnyH_take (i := 1) (oi := ?o18) (v := ?v18) ?hi18 (by kernel_rfl) (by kernel_rfl) (by kernel_rfl) ?hq18 (Or.inl ⟨?hw18, ?hy18⟩) (by assumption) ?r18
                  case hi18 => (simp only [List.getElem?_toArray, List.getElem?_cons_succ, List.getElem?_cons_zero]; exact rfl)
                  case hq18 => exact fun _ _ _ h => h
                  case hw18 => rfl
                  case hy18 => (intro w hSw; (try dsimp only at hSw); go_simp; try exact rfl)
                  simp only [Act.put, List.setIfInBounds_toArray, List.set_cons_zero, List.set_cons_succ]
                  refine wpAnyH_take (i := 2) (oi := ?o19) (v := ?v19) ?hi19 (by kernel_rfl) (by kernel_rfl) (by kernel_rfl) ?hq19 (Or.inl ⟨?hw19, ?hy19⟩) (by assumption) ?r19
                  case hi19 => (simp only [List.getElem?_toArray, List.getElem?_cons_succ, List.getElem?_cons_zero]; exact rfl)
                  case hq19 => exact fun _ _ _ h => h
                  case hw19 => rfl
                  case hy19 => (intro w hSw; (try dsimp only at hSw); go_simp; try exact rfl)
                  simp only [Act.put, List.setIfInBounds_toArray, List.set_cons_zero, List.set_cons_succ]
                  refine wpAnyH_take (i := 3) (oi := ?o20) (v := ?v20) ?hi20 (by kernel_rfl) (by kernel_rfl) (by kernel_rfl) ?hq20 (Or.inl ⟨?hw20, ?hy20⟩) (by assumption) ?r20
                  case hi20 => (simp only [List.getElem?_toArray, List.getElem?_cons_succ, List.getElem?_cons_zero]; exact rfl)
                  case hq20 => exact fun _ _ _ h => h
                  case hw20 => rfl
                  case hy20 => (intro w hSw; (try dsimp only at hSw); go_simp; try exact rfl)
                  simp only [Act.put, List.setIfInBounds_toArray, List.set_cons_zero, List.set_cons_succ]
                  refine wpAnyH_take (i := 4) (oi := ?o21) (v := ?v21) ?hi21 (by kernel_rfl) (by kernel_rfl) (by kernel_rfl) ?hq21 (Or.inl ⟨?hw21, ?hy21⟩) (by assumption) ?r21
                  case hi21 => (simp only [List.getElem?_toArray, List.getElem?_cons_succ, List.getElem?_cons_zero]; exact rfl)
                  case hq21 => exact fun _ _ _ h => h
                  case hw21 => rfl
                  case hy21 => (intro w hSw; (try dsimp only at hSw); go_simp; try exact rfl)
                  simp only [Act.put, List.setIfInBounds_toArray, List.set_cons_zero, List.set_cons_succ]
                  refine wpAnyH_take (i := 5) (oi := ?o22) (v := ?v22) ?hi22 (by kernel_rfl) (by kernel_rfl) (by kernel_rfl) ?hq22 (Or.inl ⟨?hw22, ?hy22⟩) (by assumption) ?r22
                  case hi22 => (simp only [List.getElem?_toArray, List.getElem?_cons_succ, List.getElem?_cons_zero]; exact rfl)
                  case hq22 => exact fun _ _ _ h => h
                  case hw22 => rfl
                  case hy22 => (intro w hSw; (try dsimp only at hSw); go_simp; try exact rfl)
                  simp only [Act.put, List.setIfInBounds_toArray, List.set_cons_zero, List.set_cons_succ]
                  refine wpAnyH_take (i := 6) (oi := ?o23) (v := ?v23) ?hi23 (by kernel_rfl) (by kernel_rfl) (by kernel_rfl) ?hq23 (Or.inl ⟨?hw23, ?hy23⟩) (by assumption) ?r23
                  case hi23 => (simp only [List.getElem?_toArray, List.getElem?_cons_succ, List.getElem?_cons_zero]; exact rfl)
                  case hq23 => exact fun _ _ _ h => h
                  case hw23 => rfl
                  case hy23 => (intro w hSw; (try dsimp only at hSw); go_simp; try exact rfl)
                  simp only [Act.put, List.setIfInBounds_toArray, List.set_cons_zero, List.set_cons_succ]
                  refine wpAnyH_take (i := 8) (oi := ?o24) (v := ?v24) ?hi24 (by kernel_rfl) (by kernel_rfl) (by kernel_rfl) ?hq24 (Or.inl ⟨?hw24, ?hy24⟩) (by assumption) ?r24
                  case hi24 => (simp only [List.getElem?_toArray, List.getElem?_cons_succ, List.getElem?_cons_zero]; exact rfl)
                  case hq24 => exact fun _ _ _ h => h
                  case hw24 => rfl
                  case hy24 => (intro w hSw; (try dsimp only at hSw); go_simp; try exact rfl)
                  simp only [Act.put, List.setIfInBounds_toArray, List.set_cons_zero, List.set_cons_succ]
                  refine wpAnyH_take (i := 9) (oi := ?o25) (v := ?v25) ?hi25 (by kernel_rfl) (by kernel_rfl) (by kernel_rfl) ?hq25 (Or.inl ⟨?hw25, ?hy25⟩) (by assumption) ?r25
                  case hi25 => (simp only [List.getElem?_toArray, List.getElem?_cons_succ, List.getElem?_cons_zero]; exact rfl)
                  case hq25 => exact fun _ _ _ h => h
                  case hw25 => rfl
                  case hy25 => (intro w hSw; (try dsimp only at hSw); go_simp; try exact rfl)
                  simp only [Act.put, List.setIfInBounds_toArray, List.set_cons_zero, List.set_cons_succ]
                  refine wpAnyH_take (i := 10) (oi := ?o26) (v := ?v26) ?hi26 (by kernel_rfl) (by kernel_rfl) (by kernel_rfl) ?hq26 (Or.inl ⟨?hw26, ?hy26⟩) (by assumption) ?r26
                  case hi26 => (simp only [List.getElem?_toArray, List.getElem?_cons_succ, List.getElem?_cons_zero]; exact rfl)
                  case hq26 => exact fun _ _ _ h => h
                  case hw26 => rfl
                  case hy26 => (intro w hSw; (try dsimp only at hSw); go_simp; try exact rfl)
                  simp only [Act.put, List.setIfInBounds_toArray, List.set_cons_zero, List.set_cons_succ]
                  refine wpAnyH_take (i := 11) (oi := ?o27) (v := ?v27) ?hi27 (by kernel_rfl) (by kernel_rfl) (by kernel_rfl) ?hq27 (Or.inl ⟨?hw27, ?hy27⟩) (by assumption) ?r27
                  case hi27 => (simp only [List.getElem?_toArray, List.getElem?_cons_succ, List.getElem?_cons_zero]; exact rfl)
                  case hq27 => exact fun _ _ _ h => h
                  case hw27 => rfl
                  case hy27 => (intro w hSw; (try dsimp only at hSw); go_simp; try exact rfl)
                  simp only [Act.put, List.setIfInBounds_toArray, List.set_cons_zero, List.set_cons_succ]
                  refine wpAnyH_take (i := 12) (oi := ?o28) (v := ?v28) ?hi28 (by kernel_rfl) (by kernel_rfl) (by kernel_rfl) ?hq28 (Or.inl ⟨?hw28, ?hy28⟩) (by assumption) ?r28
                  case hi28 => (simp only [List.getElem?_toArray, List.getElem?_cons_succ, List.getElem?_cons_zero]; exact rfl)
                  case hq28 => exact fun _ _ _ h => h
                  case hw28 => rfl
                  case hy28 => (intro w hSw; (try dsimp only at hSw); go_simp; try exact rfl)
                  simp only [Act.put, List.setIfInBounds_toArray, List.set_cons_zero, List.set_cons_succ]
                  refine wpAnyH_take (i := 13) (oi := ?o29) (v := ?v29) ?hi29 (by kernel_rfl) (by kernel_rfl) (by kernel_rfl) ?hq29 (Or.inl ⟨?hw29, ?hy29⟩) (by assumption) ?r29
                  case hi29 => (simp only [List.getElem?_toArray, List.getElem?_cons_succ, List.getElem?_cons_zero]; exact rfl)
                  case hq29 => exact fun _ _ _ h => h
                  case hw29 => rfl
                  case hy29 => (intro w hSw; (try dsimp only at hSw); go_simp; try exact rfl)
                  simp only [Act.put, List.setIfInBounds_toArray, List.set_cons_zero, List.set_cons_succ]
                  refine wpAnyH_take (i := 14) (oi := ?o30) (v := ?v30) ?hi30 (by kernel_rfl) (by kernel_rfl) (by kernel_rfl) ?hq30 (Or.inl ⟨?hw30, ?hy30⟩) (by assumption) ?r30
                  case hi30 => (simp only [List.getElem?_toArray, List.getElem?_cons_succ, List.getElem?_cons_zero]; exact rfl)
                  case hq30 => exact fun _ _ _ h => h
                  case hw30 => rfl
                  case hy30 => (intro w hSw; (try dsimp only at hSw); go_simp; try exact rfl)
                  simp only [Act.put, List.setIfInBounds_toArray, List.set_cons_zero, List.set_cons_succ]
                  have MV := Kept.mk (take_any ya yc yn P.out)
                  obtain ⟨R, hR⟩ : ∃ R, takeP s ya yc yn = R := ⟨_, rfl⟩
                  rw [hR] at MV
                  have CLT := Kept.mk C.out.lts
                  refine wpAnyH_ready (rs := [7]) (by kernel_rfl) (by simp) ?_
                  refine AllReadyH.cons (o := ?o55) ?hi55 (fun K hK => ?_) AllReadyH.nil
                  case hi55 => (simp only [List.getElem?_toArray, List.getElem?_cons_succ, List.getElem?_cons_zero]; exact rfl)
                  go_simp
                  go_at_call 13
                  refine MV.out.mono ?_
                  rintro e w7 ⟨rfl, F2, hp, fp⟩
                  have LTW := OB.out.lt
                  replace OB := Kept.mk (OB.out.bar fp.1 OF.out)
                  replace C : Kept (Pr w7 G xb s) := ⟨C.out.keep fp.1 DJ.out.symm⟩
                  replace DJ : Kept (Disj F2 G) := ⟨DJ.out.step fp CLT.out⟩
                  replace OF : Kept (O ∉ F2) := ⟨fun hm => by
                    rcases fp.2 O hm with h1 | h1
                    · exact OF.out h1
                    · omega⟩
                  obtain ⟨B, L⟩ := step_fp B fp L
                  replace P := Kept.mk hp
                  have RV := Kept.mk (rtake_any ya yc yn C.out)
                  rw [hR] at RV
                  have PLT := Kept.mk P.out.lts
                  clear fp hp MV CLT LTW hHeld
                  refine hK.out _ _ (op_cells OB.out) (fun _ => ?_)
                  clear hK K
                  try simp only [Act.put, List.setIfInBounds_toArray, List.set_cons_zero, List.set_cons_succ]
                  refine wpAnyH_ready (rs := [15]) (by kernel_rfl) (by simp) ?_
                  refine AllReadyH.cons (o := ?o56) ?hi56 (fun K hK => ?_) AllReadyH.nil
                  case hi56 => (simp only [List.getElem?_toArray, List.getElem?_cons_succ, List.getElem?_cons_zero]; exact rfl)
                  go_simp
                  go_at_call 14
                  refine RV.out.mono ?_
                  rintro e w8 ⟨rfl, G2, hx, fp⟩
                  have LTW := OB.out.lt
                  replace OB := Kept.mk (OB.out.bar fp.1 OG.out)
                  replace P : Kept (Pc w8 F2 p R.2) := ⟨P.out.keep fp.1 DJ.out⟩
                  replace DJ : Kept (Disj F2 G2) := ⟨(DJ.out.symm.step fp PLT.out).symm⟩
                  replace OG : Kept (O ∉ G2) := ⟨fun hm => by
                    rcases fp.2 O hm with h1 | h1
                    · exact OG.out h1
                    · omega⟩
                  obtain ⟨B, M⟩ := step_fp B fp M
                  replace C := Kept.mk hx
                  clear fp hx RV PLT LTW hR
                  refine hK.out _ _ (op_cells OB.out) (fun _ => ?_)
                  clear hK K
                  try simp only [Act.put, List.setIfInBounds_toArray, List.set_cons_zero, List.set_cons_succ]
                  refine wpAnyH_take (i := 16) (oi := ?o31) (v := ?v31) ?hi31 (by kernel_rfl) (by kernel_rfl) (by kernel_rfl) ?hq31 (Or.inl ⟨?hw31, ?hy31⟩) (by assumption) ?r31
                  case hi31 => (simp only [List.getElem?_toArray, List.getElem?_cons_succ, List.getElem?_cons_zero]; exact rfl)
                  case hq31 => exact fun _ _ _ h => h
                  case hw31 => rfl
                  case hy31 => (intro w hSw; (try dsimp only at hSw); go_simp; try exact rfl)
                  simp only [Act.put, List.setIfInBounds_toArray, List.set_cons_zero, List.set_cons_succ]
                  refine wpAnyH_take (i := 17) (oi := ?o32) (v := ?v32) ?hi32 (by kernel_rfl) (by kernel_rfl) (by kernel_rfl) ?hq32 (Or.inl ⟨?hw32, ?hy32⟩) (by assumption) ?r32
                  case hi32 => (simp only [List.getElem?_toArray, List.getElem?_cons_succ, List.getElem?_cons_zero]; exact rfl)
                  case hq32 => exact fun _ _ _ h => h
                  case hw32 => rfl
                  case hy32 => (intro w hSw; (try dsimp only at hSw); go_simp; try exact rfl)
                  simp only [Act.put, List.setIfInBounds_toArray, List.set_cons_zero, List.set_cons_succ]
                  refine wpAnyH_done (by kernel_rfl) ?_ _
                  refine NoPanic.normal ?_
                  obtain ⟨re, S⟩ := R
                  simp only at P C
                  -- what each has, what is told
                  have h1 := Kept.mk (fun q => has_any (P.out.drewN q) ya yc)
                  have h2 := Kept.mk (fun q => rhas_any (C.out.drewN q) ya yc)
                  have h3 := Kept.mk (fun q => has_any (P.out.drewN q) yb yc)
                  have h4 := Kept.mk (fun q => rhas_any (C.out.drewN q) yb yc)
                  have h5 := Kept.mk (fun q => total_any (P.out.drewN q) yc)
                  have h6 := Kept.mk (fun q => rtotal_any (C.out.drewN q) yc)
                  obtain ⟨o0, o1, o2, o3, o4⟩ := op_cells OB.out
                  generalize hasP S ya yc = va at *
                  generalize hasP S yb yc = vb at *
                  generalize totP S yc = vt at *
                  go_upto_region 21 with (fail)
                  go_quiet ((first | (go_at_call 17; with_reducible exact Calls.quiet_of_same (still_of (h1.out _))) | (go_at_call 18; with_reducible exact Calls.quiet_of_same (still_of (h2.out _))) | (go_at_call 17; with_reducible exact Calls.quiet_of_same (still_of (h3.out _))) | (go_at_call 18; with_reducible exact Calls.quiet_of_same (still_of (h4.out _))) | (go_at_call 19; with_reducible exact Calls.quiet_of_same (still_of (h5.out _))) | (go_at_call 20; with_reducible exact Calls.quiet_of_same (still_of (h6.out _)))))
                  replace P : Kept (Pc (w8.drewN nq) F2 p S) := ⟨P.out.drewN _⟩
                  replace C : Kept (Pr (w8.drewN nq) G2 xb S) := ⟨C.out.drewN _⟩
                  replace B : Kept (Below w.heap.size w (w8.drewN nq)) := ⟨below_drewN B.out _⟩
                  clear h1 h2 h3 h4 h5 h6 o0 o1 o2 o3 o4 OB OF OG
                  generalize w8.drewN nq = w9 at *
                  go_wp2
                  go_roundw
                  case rel => exact ⟨k + 1, F2, G2, _, by omega, by go_num, P, C, DJ, B, L, M⟩
                  case measure => simp [Go.RowKit.intOf]; omega
                · by_cases h2 : kd = 2
                  · subst h2
                    obtain ⟨o0, o1, o2, o3, o4⟩ := op_cells OB.out
                    go_upto_region 20 with (fail)
                    refine wp_region_noPanic ?_
                    refine wp_region_held_drew (S := fun w' : World => w'.cell? ⟨O, 0, none⟩ = some (.int .i64 2) ∧ w'.cell? ⟨O, 1, none⟩ = some (.int .i64 ya) ∧ w'.cell? ⟨O, 2, none⟩ = some (.int .i64 yb) ∧ w'.cell? ⟨O, 3, none⟩ = some (.int .i64 yc) ∧ w'.cell? ⟨O, 4, none⟩ = some (.int .i64 yn)) (by kernel_rfl) ⟨o0, o1, o2, o3, o4⟩ (fun hHeld => ?_)
                    have bd : Below w5.heap.size w5 w5.drew := (Below.refl _ _).drew
                    replace OB := Kept.mk (OB.out.below bd OB.out.lt)
                    replace P := Pc.below P bd
                    replace C := Pr.below C bd
                    replace B := step_below B bd
                    clear bd o0 o1 o2 o3 o4
                    generalize w5.drew = w6 at *
                    refine wpAnyH_take (i := 0) (oi := ?o33) (v := ?v33) ?hi33 (by kernel_rfl) (by kernel_rfl) (by kernel_rfl) ?hq33 (Or.inl ⟨?hw33, ?hy33⟩) (by assumption) ?r33
                    case hi33 => (simp only [List.getElem?_toArray, List.getElem?_cons_zero]; exact rfl)
                    case hq33 => exact fun _ _ _ h => h
                    case hw33 => rfl
                    case hy33 => (intro w hSw; (try dsimp only at hSw); go_simp; try exact rfl)
                    simp only [Act.put, List.setIfInBounds_toArray, List.set_cons_zero, List.set_cons_succ]
                    refine wpAnyH_take (i := 1) (oi := ?o34) (v := ?v34) ?hi34 (by kernel_rfl) (by kernel_rfl) (by kernel_rfl) ?hq34 (Or.inl ⟨?hw34, ?hy34⟩) (by assumption) ?r34
                    case hi34 => (simp only [List.getElem?_toArray, List.getElem?_cons_succ, List.getElem?_cons_zero]; exact rfl)
                    case hq34 => exact fun _ _ _ h => h
                    case hw34 => rfl
                    case hy34 => (intro w hSw; (try dsimp only at hSw); go_simp; try exact rfl)
                    simp only [Act.put, List.setIfInBounds_toArray, List.set_cons_zero, List.set_cons_succ]
                    refine wpAnyH_take (i := 2) (oi := ?o35) (v := ?v35) ?hi35 (by kernel_rfl) (by kernel_rfl) (by kernel_rfl) ?hq35 (Or.inl ⟨?hw35, ?hy35⟩) (by assumption) ?r35
                    case hi35 => (simp only [List.getElem?_toArray, List.getElem?_cons_succ, List.getElem?_cons_zero]; exact rfl)
                    case hq35 => exact fun _ _ _ h => h
                    case hw35 => rfl
                    case hy35 => (intro w hSw; (try dsimp only at hSw); go_simp; try exact rfl)
                    simp only [Act.put, List.setIfInBounds_toArray, List.set_cons_zero, List.set_cons_succ]
                    refine wpAnyH_take (i := 3) (oi := ?o36) (v := ?v36) ?hi36 (by kernel_rfl) (by kernel_rfl) (by kernel_rfl) ?hq36 (Or.inl ⟨?hw36, ?hy36⟩) (by assumption) ?r36
                    case hi36 => (simp only [List.getElem?_toArray, List.getElem?_cons_succ, List.getElem?_cons_zero]; exact rfl)
                    case hq36 => exact fun _ _ _ h => h
                    case hw36 => rfl
                    case hy36 => (intro w hSw; (try dsimp only at hSw); go_simp; try exact rfl)
                    simp only [Act.put, List.setIfInBounds_toArray, List.set_cons_zero, List.set_cons_succ]
                    refine wpAnyH_take (i := 4) (oi := ?o37) (v := ?v37) ?hi37 (by kernel_rfl) (by kernel_rfl) (by kernel_rfl) ?hq37 (Or.inl ⟨?hw37, ?hy37⟩) (by assumption) ?r37
                    case hi37 => (simp only [List.getElem?_toArray, List.getElem?_cons_succ, List.getElem?_cons_zero]; exact rfl)
                    case hq37 => exact fun _ _ _ h => h
                    case hw37 => rfl
                    case hy37 => (intro w hSw; (try dsimp only at hSw); go_simp; try exact rfl)
                    simp only [Act.put, List.setIfInBounds_toArray, List.set_cons_zero, List.set_cons_succ]
                    refine wpAnyH_take (i := 5) (oi := ?o38) (v := ?v38) ?hi38 (by kernel_rfl) (by kernel_rfl) (by kernel_rfl) ?hq38 (Or.inl ⟨?hw38, ?hy38⟩) (by assumption) ?r38
                    case hi38 => (simp only [List.getElem?_toArray, List.getElem?_cons_succ, List.getElem?_cons_zero]; exact rfl)
                    case hq38 => exact fun _ _ _ h => h
                    case hw38 => rfl
                    case hy38 => (intro w hSw; (try dsimp only at hSw); go_simp; try exact rfl)
                    simp only [Act.put, List.setIfInBounds_toArray, List.set_cons_zero, List.set_cons_succ]
                    refine wpAnyH_take (i := 6) (oi := ?o39) (v := ?v39) ?hi39 (by kernel_rfl) (by kernel_rfl) (by kernel_rfl) ?hq39 (Or.inl ⟨?hw39, ?hy39⟩) (by assumption) ?r39
                    case hi39 => (simp only [List.getElem?_toArray, List.getElem?_cons_succ, List.getElem?_cons_zero]; exact rfl)
                    case hq39 => exact fun _ _ _ h => h
                    case hw39 => rfl
                    case hy39 => (intro w hSw; (try dsimp only at hSw); go_simp; try exact rfl)
                    simp only [Act.put, List.setIfInBounds_toArray, List.set_cons_zero, List.set_cons_succ]
                    refine wpAnyH_take (i := 7) (oi := ?o40) (v := ?v40) ?hi40 (by kernel_rfl) (by kernel_rfl) (by kernel_rfl) ?hq40 (Or.inl ⟨?hw40, ?hy40⟩) (by assumption) ?r40
                    case hi40 => (simp only [List.getElem?_toArray, List.getElem?_cons_succ, List.getElem?_cons_zero]; exact rfl)
                    case hq40 => exact fun _ _ _ h => h
                    case hw40 => rfl
                    case hy40 => (intro w hSw; (try dsimp only at hSw); go_simp; try exact rfl)
                    simp only [Act.put, List.setIfInBounds_toArray, List.set_cons_zero, List.set_cons_succ]
                    refine wpAnyH_take (i := 8) (oi := ?o41) (v := ?v41) ?hi41 (by kernel_rfl) (by kernel_rfl) (by kernel_rfl) ?hq41 (Or.inl ⟨?hw41, ?hy41⟩) (by assumption) ?r41
                    case hi41 => (simp only [List.getElem?_toArray, List.getElem?_cons_succ, List.getElem?_cons_zero]; exact rfl)
                    case hq41 => exact fun _ _ _ h => h
                    case hw41 => rfl
                    case hy41 => (intro w hSw; (try dsimp only at hSw); go_simp; try exact rfl)
                    simp only [Act.put, List.setIfInBounds_toArray, List.set_cons_zero, List.set_cons_succ]
                    refine wpAnyH_take (i := 10) (oi := ?o42) (v := ?v42) ?hi42 (by kernel_rfl) (by kernel_rfl) (by kernel_rfl) ?hq42 (Or.inl ⟨?hw42, ?hy42⟩) (by assumption) ?r42
                    case hi42 => (simp only [List.getElem?_toArray, List.getElem?_cons_succ, List.getElem?_cons_zero]; exact rfl)
                    case hq42 => exact fun _ _ _ h => h
                    case hw42 => rfl
                    case hy42 => (intro w hSw; (try dsimp only at hSw); go_simp; try exact rfl)
                    simp only [Act.put, List.setIfInBounds_toArray, List.set_cons_zero, List.set_cons_succ]
                    refine wpAnyH_take (i := 11) (oi := ?o43) (v := ?v43) ?hi43 (by kernel_rfl) (by kernel_rfl) (by kernel_rfl) ?hq43 (Or.inl ⟨?hw43, ?hy43⟩) (by assumption) ?r43
                    case hi43 => (simp only [List.getElem?_toArray, List.getElem?_cons_succ, List.getElem?_cons_zero]; exact rfl)
                    case hq43 => exact fun _ _ _ h => h
                    case hw43 => rfl
                    case hy43 => (intro w hSw; (try dsimp only at hSw); go_simp; try exact rfl)
                    simp only [Act.put, List.setIfInBounds_toArray, List.set_cons_zero, List.set_cons_succ]
                    refine wpAnyH_take (i := 12) (oi := ?o44) (v := ?v44) ?hi44 (by kernel_rfl) (by kernel_rfl) (by kernel_rfl) ?hq44 (Or.inl ⟨?hw44, ?hy44⟩) (by assumption) ?r44
                    case hi44 => (simp only [List.getElem?_toArray, List.getElem?_cons_succ, List.getElem?_cons_zero]; exact rfl)
                    case hq44 => exact fun _ _ _ h => h
                    case hw44 => rfl
                    case hy44 => (intro w hSw; (try dsimp only at hSw); go_simp; try exact rfl)
                    simp only [Act.put, List.setIfInBounds_toArray, List.set_cons_zero, List.set_cons_succ]
                    refine wpAnyH_take (i := 13) (oi := ?o45) (v := ?v45) ?hi45 (by kernel_rfl) (by kernel_rfl) (by kernel_rfl) ?hq45 (Or.inl ⟨?hw45, ?hy45⟩) (by assumption) ?r45
                    case hi45 => (simp only [List.getElem?_toArray, List.getElem?_cons_succ, List.getElem?_cons_zero]; exact rfl)
                    case hq45 => exact fun _ _ _ h => h
                    case hw45 => rfl
                    case hy45 => (intro w hSw; (try dsimp only at hSw); go_simp; try exact rfl)
                    simp only [Act.put, List.setIfInBounds_toArray, List.set_cons_zero, List.set_cons_succ]
                    refine wpAnyH_take (i := 14) (oi := ?o46) (v := ?v46) ?hi46 (by kernel_rfl) (by kernel_rfl) (by kernel_rfl) ?hq46 (Or.inl ⟨?hw46, ?hy46⟩) (by assumption) ?r46
                    case hi46 => (simp only [List.getElem?_toArray, List.getElem?_cons_succ, List.getElem?_cons_zero]; exact rfl)
                    case hq46 => exact fun _ _ _ h => h
                    case hw46 => rfl
                    case hy46 => (intro w hSw; (try dsimp only at hSw); go_simp; try exact rfl)
                    simp only [Act.put, List.setIfInBounds_toArray, List.set_cons_zero, List.set_cons_succ]
                    refine wpAnyH_take (i := 15) (oi := ?o47) (v := ?v47) ?hi47 (by kernel_rfl) (by kernel_rfl) (by kernel_rfl) ?hq47 (Or.inl ⟨?hw47, ?hy47⟩) (by assumption) ?r47
                    case hi47 => (simp only [List.getElem?_toArray, List.getElem?_cons_succ, List.getElem?_cons_zero]; exact rfl)
                    case hq47 => exact fun _ _ _ h => h
                    case hw47 => rfl
                    case hy47 => (intro w hSw; (try dsimp only at hSw); go_simp; try exact rfl)
                    simp only [Act.put, List.setIfInBounds_toArray, List.set_cons_zero, List.set_cons_succ]
                    refine wpAnyH_take (i := 16) (oi := ?o48) (v := ?v48) ?hi48 (by kernel_rfl) (by kernel_rfl) (by kernel_rfl) ?hq48 (Or.inl ⟨?hw48, ?hy48⟩) (by assumption) ?r48
                    case hi48 => (simp only [List.getElem?_toArray, List.getElem?_cons_succ, List.getElem?_cons_zero]; exact rfl)
                    case hq48 => exact fun _ _ _ h => h
                    case hw48 => rfl
                    case hy48 => (intro w hSw; (try dsimp only at hSw); go_simp; try exact rfl)
                    simp only [Act.put, List.setIfInBounds_toArray, List.set_cons_zero, List.set_cons_succ]
                    refine wpAnyH_take (i := 17) (oi := ?o49) (v := ?v49) ?hi49 (by kernel_rfl) (by kernel_rfl) (by kernel_rfl) ?hq49 (Or.inl ⟨?hw49, ?hy49⟩) (by assumption) ?r49
                    case hi49 => (simp only [List.getElem?_toArray, List.getElem?_cons_succ, List.getElem?_cons_zero]; exact rfl)
                    case hq49 => exact fun _ _ _ h => h
                    case hw49 => rfl
                    case hy49 => (intro w hSw; (try dsimp only at hSw); go_simp; try exact rfl)
                    simp only [Act.put, List.setIfInBounds_toArray, List.set_cons_zero, List.set_cons_succ]
                    refine wpAnyH_take (i := 18) (oi := ?o50) (v := ?v50) ?hi50 (by kernel_rfl) (by kernel_rfl) (by kernel_rfl) ?hq50 (Or.inl ⟨?hw50, ?hy50⟩) (by assumption) ?r50
                    case hi50 => (simp only [List.getElem?_toArray, List.getElem?_cons_succ, List.getElem?_cons_zero]; exact rfl)
                    case hq50 => exact fun _ _ _ h => h
                    case hw50 => rfl
                    case hy50 => (intro w hSw; (try dsimp only at hSw); go_simp; try exact rfl)
                    simp only [Act.put, List.setIfInBounds_toArray, List.set_cons_zero, List.set_cons_succ]
                    have MV := Kept.mk (move_any ya yb yc yn P.out)
                    obtain ⟨R, hR⟩ : ∃ R, moveP s ya yb yc yn = R := ⟨_, rfl⟩
                    rw [hR] at MV
                    have CLT := Kept.mk C.out.lts
                    refine wpAnyH_ready (rs := [9]) (by kernel_rfl) (by simp) ?_
                    refine AllReadyH.cons (o := ?o57) ?hi57 (fun K hK => ?_) AllReadyH.nil
                    case hi57 => (simp only [List.getElem?_toArray, List.getElem?_cons_succ, List.getElem?_cons_zero]; exact rfl)
                    go_simp
                    go_at_call 15
                    refine MV.out.mono ?_
                    rintro e w7 ⟨rfl, F2, hp, fp⟩
                    have LTW := OB.out.lt
                    replace OB := Kept.mk (OB.out.bar fp.1 OF.out)
                    replace C : Kept (Pr w7 G xb s) := ⟨C.out.keep fp.1 DJ.out.symm⟩
                    replace DJ : Kept (Disj F2 G) := ⟨DJ.out.step fp CLT.out⟩
                    replace OF : Kept (O ∉ F2) := ⟨fun hm => by
                      rcases fp.2 O hm with h1 | h1
                      · exact OF.out h1
                      · omega⟩
                    obtain ⟨B, L⟩ := step_fp B fp L
                    replace P := Kept.mk hp
                    have RV := Kept.mk (rmove_any ya yb yc yn C.out)
                    rw [hR] at RV
                    have PLT := Kept.mk P.out.lts
                    clear fp hp MV CLT LTW hHeld
                    refine hK.out _ _ (op_cells OB.out) (fun _ => ?_)
                    clear hK K
                    try simp only [Act.put, List.setIfInBounds_toArray, List.set_cons_zero, List.set_cons_succ]
                    refine wpAnyH_ready (rs := [19]) (by kernel_rfl) (by simp) ?_
                    refine AllReadyH.cons (o := ?o58) ?hi58 (fun K hK => ?_) AllReadyH.nil
                    case hi58 => (simp only [List.getElem?_toArray, List.getElem?_cons_succ, List.getElem?_cons_zero]; exact rfl)
                    go_simp
                    go_at_call 16
                    refine RV.out.mono ?_
                    rintro e w8 ⟨rfl, G2, hx, fp⟩
                    have LTW := OB.out.lt
                    replace OB := Kept.mk (OB.out.bar fp.1 OG.out)
                    replace P : Kept (Pc w8 F2 p R.2) := ⟨P.out.keep fp.1 DJ.out⟩
                    replace DJ : Kept (Disj F2 G2) := ⟨(DJ.out.symm.step fp PLT.out).symm⟩
                    replace OG : Kept (O ∉ G2) := ⟨fun hm => by
                      rcases fp.2 O hm with h1 | h1
                      · exact OG.out h1
                      · omega⟩
                    obtain ⟨B, M⟩ := step_fp B fp M
                    replace C := Kept.mk hx
                    clear fp hx RV PLT LTW hR
                    refine hK.out _ _ (op_cells OB.out) (fun _ => ?_)
                    clear hK K
                    try simp only [Act.put, List.setIfInBounds_toArray, List.set_cons_zero, List.set_cons_succ]
                    refine wpAnyH_take (i := 20) (oi := ?o51) (v := ?v51) ?hi51 (by kernel_rfl) (by kernel_rfl) (by kernel_rfl) ?hq51 (Or.inl ⟨?hw51, ?hy51⟩) (by assumption) ?r51
                    case hi51 => (simp only [List.getElem?_toArray, List.getElem?_cons_succ, List.getElem?_cons_zero]; exact rfl)
                    case hq51 => exact fun _ _ _ h => h
                    case hw51 => rfl
                    case hy51 => (intro w hSw; (try dsimp only at hSw); go_simp; try exact rfl)
                    simp only [Act.put, List.setIfInBounds_toArray, List.set_cons_zero, List.set_cons_succ]
                    refine wpAnyH_take (i := 21) (oi := ?o52) (v := ?v52) ?hi52 (by kernel_rfl) (by kernel_rfl) (by kernel_rfl) ?hq52 (Or.inl ⟨?hw52, ?hy52⟩) (by assumption) ?r52
                    case hi52 => (simp only [List.getElem?_toArray, List.getElem?_cons_succ, List.getElem?_cons_zero]; exact rfl)
                    case hq52 => exact fun _ _ _ h => h
                    case hw52 => rfl
                    case hy52 => (intro w hSw; (try dsimp only at hSw); go_simp; try exact rfl)
                    simp only [Act.put, List.setIfInBounds_toArray, List.set_cons_zero, List.set_cons_succ]
                    refine wpAnyH_done (by kernel_rfl) ?_ _
                    refine NoPanic.normal ?_
                    obtain ⟨re, S⟩ := R
                    simp only at P C
                    -- what each has, what is told
                    have h1 := Kept.mk (fun q => has_any (P.out.drewN q) ya yc)
                    have h2 := Kept.mk (fun q => rhas_any (C.out.drewN q) ya yc)
                    have h3 := Kept.mk (fun q => has_any (P.out.drewN q) yb yc)
                    have h4 := Kept.mk (fun q => rhas_any (C.out.drewN q) yb yc)
                    have h5 := Kept.mk (fun q => total_any (P.out.drewN q) yc)
                    have h6 := Kept.mk (fun q => rtotal_any (C.out.drewN q) yc)
                    obtain ⟨o0, o1, o2, o3, o4⟩ := op_cells OB.out
                    generalize hasP S ya yc = va at *
                    generalize hasP S yb yc = vb at *
                    generalize totP S yc = vt at *
                    go_upto_region 21 with (fail)
                    go_quiet ((first | (go_at_call 17; with_reducible exact Calls.quiet_of_same (still_of (h1.out _))) | (go_at_call 18; with_reducible exact Calls.quiet_of_same (still_of (h2.out _))) | (go_at_call 17; with_reducible exact Calls.quiet_of_same (still_of (h3.out _))) | (go_at_call 18; with_reducible exact Calls.quiet_of_same (still_of (h4.out _))) | (go_at_call 19; with_reducible exact Calls.quiet_of_same (still_of (h5.out _))) | (go_at_call 20; with_reducible exact Calls.quiet_of_same (still_of (h6.out _)))))
                    replace P : Kept (Pc (w8.drewN nq) F2 p S) := ⟨P.out.drewN _⟩
                    replace C : Kept (Pr (w8.drewN nq) G2 xb S) := ⟨C.out.drewN _⟩
                    replace B : Kept (Below w.heap.size w (w8.drewN nq)) := ⟨below_drewN B.out _⟩
                    clear h1 h2 h3 h4 h5 h6 o0 o1 o2 o3 o4 OB OF OG
                    generalize w8.drewN nq = w9 at *
                    go_wp2
                    go_roundw
                    case rel => exact ⟨k + 1, F2, G2, _, by omega, by go_num, P, C, DJ, B, L, M⟩
                    case measure => simp [Go.RowKit.intOf]; omega
                  · have hd0 : (kd == 0) = false := beq_eq_false_iff_ne.2 h0
                    have hd1 : (kd == 1) = false := beq_eq_false_iff_ne.2 h1
                    have hd2 : (kd == 2) = false := beq_eq_false_iff_ne.2 h2
                    clear h0 h1 h2
                    -- what each has, what is told
                    have h1 := Kept.mk (fun q => has_any (P.out.drewN q) ya yc)
                    have h2 := Kept.mk (fun q => rhas_any (C.out.drewN q) ya yc)
                    have h3 := Kept.mk (fun q => has_any (P.out.drewN q) yb yc)
                    have h4 := Kept.mk (fun q => rhas_any (C.out.drewN q) yb yc)
                    have h5 := Kept.mk (fun q => total_any (P.out.drewN q) yc)
                    have h6 := Kept.mk (fun q => rtotal_any (C.out.drewN q) yc)
                    obtain ⟨o0, o1, o2, o3, o4⟩ := op_cells OB.out
                    generalize hasP s ya yc = va at *
                    generalize hasP s yb yc = vb at *
                    generalize totP s yc = vt at *
                    go_upto_region 21 with (fail)
                    go_quiet ((first | (go_at_call 17; with_reducible exact Calls.quiet_of_same (still_of (h1.out _))) | (go_at_call 18; with_reducible exact Calls.quiet_of_same (still_of (h2.out _))) | (go_at_call 17; with_reducible exact Calls.quiet_of_same (still_of (h3.out _))) | (go_at_call 18; with_reducible exact Calls.quiet_of_same (still_of (h4.out _))) | (go_at_call 19; with_reducible exact Calls.quiet_of_same (still_of (h5.out _))) | (go_at_call 20; with_reducible exact Calls.quiet_of_same (still_of (h6.out _)))))
                    replace P : Kept (Pc (w5.drewN nq) F p s) := ⟨P.out.drewN _⟩
                    replace C : Kept (Pr (w5.drewN nq) G xb s) := ⟨C.out.drewN _⟩
                    replace B : Kept (Below w.heap.size w (w5.drewN nq)) := ⟨below_drewN B.out _⟩
                    clear h1 h2 h3 h4 h5 h6 o0 o1 o2 o3 o4 OB OF OG
                    generalize w5.drewN nq = w9 at *
                    go_wp2
                    go_roundw
                    case rel => exact ⟨k + 1, F, G, _, by omega, by go_num, P, C, DJ, B, L, M⟩
                    case measure => simp [Go.RowKit.intOf]; omega
            · have hkn' : ¬ (k : Int) < len2 := by omega
              go_wp2_with fail
              refine (first_any wr).mono ?_
              rintro e w8 ⟨rfl, b8⟩
              replace B := step_below B b8
              go_wp2
              go_ret
              exact ⟨rfl, B.out⟩
end Go.Proofs.Ytlgeckgeiknmjaa.Purse
