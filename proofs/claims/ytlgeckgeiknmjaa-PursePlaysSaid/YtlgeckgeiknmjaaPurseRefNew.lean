/-
  The document's own NewPurse.
-/
import Derived.Test.YtlgeckgeiknmjaaPurseRef3
import Derived.Test.YtlgeckgeiknmjaaAppI
namespace Go.Proofs.Ytlgeckgeiknmjaa.Purse
open Go.RowKit Go.Proofs.Ytlgeckgeiknmjaa.Sha Go.Proofs.Ytlgeckgeiknmjaa.Num

theorem rpurse_T : 50 ≠ 41 ∧ 50 ≠ 3 := by decide
theorem info_rowr : (Try.prog.info? 41).map (fun i => (i.zero, i.size, i.bytes)) = some (some (.slice none 0 0), 1, 24) := by kernel_rfl
theorem own_more' {w : World} {b b' size : Nat} {e : TypeId} {v : Value} {n : Nat} {xs : List Value} (h : w.ownsRow b e size v n xs) (hb : b' ≤ b) : w.ownsRow b' e size v n xs := by
  refine ⟨h.1, h.2.imp id ?_⟩
  rintro ⟨g, cap, cur, hv, hg, r⟩
  exact ⟨g, cap, cur, hv, Nat.le_trans hb hg, r⟩
set_option maxRecDepth 100000 in
set_option maxHeartbeats 2000000 in
theorem rnew_any (A : Option Addr) (n cap : Nat) (X : Nat → List Int) (w : World) (hr : Rwi w A n X) :
    Calls Try.prog 10 #[.slice A n cap] w (NewPost Pr w n X) := by
  have HR := Kept.mk hr
  clear hr
  have NO : ¬ newOk n X → Kept (∀ w', Below w.heap.size w w' → NewPost Pr w n X (.returned (.tuple #[.pointer none, .int .i64 1])) w') := fun h => ⟨fun _ b => .inl ⟨h, rfl, b⟩⟩
  by_cases h2 : n < 2
  · have N1 := NO (fun h => by have := h.1.1; omega)
    have h2' : (n : Int) < 2 := by omega
    clear NO
    go_enter Try.func10, Try.ntmps10
    go_wp2
    go_ret2
    exact N1.out _ (Below.refl _ _)
  · by_cases h16 : 16 < n
    · have N1 := NO (fun h => by have := h.1.2; omega)
      have h16' : 16 < (n : Int) := by omega
      have h2' : ¬ (n : Int) < 2 := by omega
      clear NO
      go_enter Try.func10, Try.ntmps10
      go_wp2
      go_ret2
      exact N1.out _ (Below.refl _ _)
    · have h16' : ¬ 16 < (n : Int) := by omega
      have h2' : ¬ (n : Int) < 2 := by omega
      obtain ⟨b0, o0, A0, l0, c0, rfl, x0, hl0, hc0, r0⟩ := HR.out.row 0 (by omega)
      have hL0 := Kept.mk r0.1
      clear r0
      rw [Nat.add_zero] at x0
      by_cases hl1 : l0 < 1
      · have N1 := NO (fun h => by have := h.2.1.1; have := hL0.out; omega)
        have hl1' : (l0 : Int) < 1 := by omega
        clear NO
        go_enter Try.func10, Try.ntmps10
        go_wp2
        go_ret2
        exact N1.out _ (Below.refl _ _)
      · by_cases hl4 : 4 < l0
        · have N1 := NO (fun h => by have := h.2.1.2; have := hL0.out; omega)
          have hl1' : ¬ (l0 : Int) < 1 := by omega
          have hl4' : 4 < (l0 : Int) := by omega
          clear NO
          go_enter Try.func10, Try.ntmps10
          go_wp2
          go_ret2
          exact N1.out _ (Below.refl _ _)
        · have hl1' : ¬ (l0 : Int) < 1 := by omega
          have hl4' : ¬ 4 < (l0 : Int) := by omega
          obtain ⟨N, hN⟩ : ∃ N, w.heap.size = N := ⟨_, rfl⟩
          have G0 := Kept.mk (Gp.start (N := N) (L := X) (V := fun _ => .slice none 0 0) rpurse_T (Blk.new_at w 50 #[.slice none 0 0] N hN.symm) (Nat.le_refl _))
          have B0 : Kept (Below N w (w.alloc (.cells #[.slice none 0 0] 50))) := ⟨(Below.refl _ _).alloc (by omega) _⟩
          have HN := Kept.mk hN
          have NK := Kept.mk NO
          clear NO
          go_enter Try.func10, Try.ntmps10
          go_wp2
          clear hN
          generalize w.alloc (.cells #[.slice none 0 0] 50) = w2 at *
          go_loopw [5] (fun i wr => ∃ (k : Nat) (v : Value) (V : Nat → Value), k ≤ n ∧ i = .int .i64 k ∧ Kept (∀ r, r < k → (X r).length = l0) ∧ Kept (Gp 50 wr N N k X v V) ∧ Kept (Below N w wr)) (fun i _ => n - (Go.RowKit.intOf i).toNat)
          case atStart => exact ⟨0, _, _, by omega, rfl, ⟨fun r hr => absurd hr (Nat.not_lt_zero _)⟩, G0, B0⟩
          case round =>
            clear G0 B0
            obtain ⟨k, v, V, hk, rfl, HL, G, B⟩ := hrel
            have x0w : wr.cell? ⟨b0, o0, none⟩ = some (.slice A0 l0 c0) := by rw [B.out.cell (by have := World.block_lt_of_cell? _ _ x0; rw [HN.out] at this; exact this)]; exact x0
            by_cases hkn : k < n
            · have hkn' : (k : Int) < n := by omega
              obtain ⟨b9, o9, Ak, lk, ck, hA, xw, hlk, hck, rk⟩ := HR.out.row k hkn
              injection hA with hA
              injection hA with e1 e2
              subst e1 e2
              have hLk := Kept.mk rk.1
              have RK := Kept.mk rk
              have xk : wr.cell? ⟨b0, o0 + k, none⟩ = some (.slice Ak lk ck) := by rw [B.out.cell (by have := World.block_lt_of_cell? _ _ xw; rw [HN.out] at this; exact this)]; exact xw
              clear rk xw
              by_cases hlen : lk = l0
              · subst hlen
                go_wp2
                go_quiet (fail)
                have bq : Below wr.heap.size wr (wr.drewN nq) := below_drewN (Below.refl _ _) _
                have G2 := Kept.mk (G.out.below bq)
                have B2 : Kept (Below N w (wr.drewN nq)) := ⟨below_drewN B.out _⟩
                have xk2 : (wr.drewN nq).cell? ⟨b0, o0 + k, none⟩ = some (.slice Ak lk ck) := xk
                clear G B bq xk x0w
                generalize wr.drewN nq = w3 at *
                go_wp2
                obtain ⟨Av, cv, hv⟩ := own_shape G2.out.hv
                subst hv
                refine wp_region_noPanic ?_
                refine wp_region_U 14 (S := fun w' : World => w'.cell? ⟨N, 0, none⟩ = some (.slice Av k cv) ∧ w'.cell? ⟨b0, o0 + k, none⟩ = some (.slice Ak lk ck)) (by kernel_rfl) ⟨G2.out.p0, xk2⟩ (fun hS0 => ?_)
                have bd : Below w3.heap.size w3 w3.drew := (Below.refl _ _).drew
                have G3 := Kept.mk (G2.out.below bd)
                have B3 : Kept (Below N w w3.drew) := ⟨B2.out.drew⟩
                have RI := Kept.mk (RK.out.below (w' := w3.drew) (by rw [HN.out]; exact B3.out))
                have NN : N ≤ w3.drew.heap.size := by have := G3.out.hp.lt; omega
                have LB : b0 < w3.drew.heap.size := World.block_lt_of_cell? _ _ hS0.2
                clear G2 B2 bd xk2
                generalize w3.drew = w4 at *
                refine wpAnyU_take (i := 0) (oi := ?o1) (v := ?v1) ?hi1 (by kernel_rfl) (by kernel_rfl) (by kernel_rfl) (by kernel_rfl) ?hq1 (Or.inl ⟨?hw1, ?hy1⟩) (by assumption) ?r1
                case hi1 => (simp only [List.getElem?_toArray, List.getElem?_cons_zero]; exact rfl)
                case hq1 => exact fun _ _ _ h => h
                case hw1 => rfl
                case hy1 => (intro w hSw; (try dsimp only at hSw); go_simp; try exact rfl)
                simp only [Act.put, List.setIfInBounds_toArray, List.set_cons_zero, List.set_cons_succ]
                refine wpAnyU_take (i := 1) (oi := ?o2) (v := ?v2) ?hi2 (by kernel_rfl) (by kernel_rfl) (by kernel_rfl) (by kernel_rfl) ?hq2 (Or.inl ⟨?hw2, ?hy2⟩) (by assumption) ?r2
                case hi2 => (simp only [List.getElem?_toArray, List.getElem?_cons_succ, List.getElem?_cons_zero]; exact rfl)
                case hq2 => exact fun _ _ _ h => h
                case hw2 => rfl
                case hy2 => (intro w hSw; (try dsimp only at hSw); go_simp; try exact rfl)
                simp only [Act.put, List.setIfInBounds_toArray, List.set_cons_zero, List.set_cons_succ]
                refine wpAnyU_take (i := 2) (oi := ?o3) (v := ?v3) ?hi3 (by kernel_rfl) (by kernel_rfl) (by kernel_rfl) (by kernel_rfl) ?hq3 (Or.inl ⟨?hw3, ?hy3⟩) (by assumption) ?r3
                case hi3 => (simp only [List.getElem?_toArray, List.getElem?_cons_succ, List.getElem?_cons_zero]; exact rfl)
                case hq3 => exact fun _ _ _ h => h
                case hw3 => rfl
                case hy3 => (intro w hSw; (try dsimp only at hSw); go_simp; try exact rfl)
                simp only [Act.put, List.setIfInBounds_toArray, List.set_cons_zero, List.set_cons_succ]
                refine wpAnyU_take (i := 3) (oi := ?o4) (v := ?v4) ?hi4 (by kernel_rfl) (by kernel_rfl) (by kernel_rfl) (by kernel_rfl) ?hq4 (Or.inl ⟨?hw4, ?hy4⟩) (by assumption) ?r4
                case hi4 => (simp only [List.getElem?_toArray, List.getElem?_cons_succ, List.getElem?_cons_zero]; exact rfl)
                case hq4 => exact fun _ _ _ h => h
                case hw4 => rfl
                case hy4 => (intro w hSw; (try dsimp only at hSw); go_simp; try exact rfl)
                simp only [Act.put, List.setIfInBounds_toArray, List.set_cons_zero, List.set_cons_succ]
                refine wpAnyU_take (i := 4) (oi := ?o5) (v := ?v5) ?hi5 (by kernel_rfl) (by kernel_rfl) (by kernel_rfl) (by kernel_rfl) ?hq5 (Or.inl ⟨?hw5, ?hy5⟩) (by assumption) ?r5
                case hi5 => (simp only [List.getElem?_toArray, List.getElem?_cons_succ, List.getElem?_cons_zero]; exact rfl)
                case hq5 => exact fun _ _ _ h => h
                case hw5 => rfl
                case hy5 => (intro w hSw; (try dsimp only at hSw); go_simp; try exact rfl)
                simp only [Act.put, List.setIfInBounds_toArray, List.set_cons_zero, List.set_cons_succ]
                refine wpAnyU_take (i := 5) (oi := ?o6) (v := ?v6) ?hi6 (by kernel_rfl) (by kernel_rfl) (by kernel_rfl) (by kernel_rfl) ?hq6 (Or.inl ⟨?hw6, ?hy6⟩) (by assumption) ?r6
                case hi6 => (simp only [List.getElem?_toArray, List.getElem?_cons_succ, List.getElem?_cons_zero]; exact rfl)
                case hq6 => exact fun _ _ _ h => h
                case hw6 => rfl
                case hy6 => (intro w hSw; (try dsimp only at hSw); go_simp; try exact rfl)
                simp only [Act.put, List.setIfInBounds_toArray, List.set_cons_zero, List.set_cons_succ]
                refine wpAnyU_take (i := 6) (oi := ?o7) (v := ?v7) ?hi7 (by kernel_rfl) (by kernel_rfl) (by kernel_rfl) (by kernel_rfl) ?hq7 (Or.inl ⟨?hw7, ?hy7⟩) (by assumption) ?r7
                case hi7 => (simp only [List.getElem?_toArray, List.getElem?_cons_succ, List.getElem?_cons_zero]; exact rfl)
                case hq7 => exact fun _ _ _ h => h
                case hw7 => rfl
                case hy7 => (intro w hSw; (try dsimp only at hSw); go_simp; try exact rfl)
                simp only [Act.put, List.setIfInBounds_toArray, List.set_cons_zero, List.set_cons_succ]
                refine wpAnyU_take (i := 7) (oi := ?o8) (v := ?v8) ?hi8 (by kernel_rfl) (by kernel_rfl) (by kernel_rfl) (by kernel_rfl) ?hq8 (Or.inl ⟨?hw8, ?hy8⟩) (by assumption) ?r8
                case hi8 => (simp only [List.getElem?_toArray, List.getElem?_cons_succ, List.getElem?_cons_zero]; exact rfl)
                case hq8 => exact fun _ _ _ h => h
                case hw8 => rfl
                case hy8 => (intro w hSw; (try dsimp only at hSw); go_simp; try exact rfl)
                simp only [Act.put, List.setIfInBounds_toArray, List.set_cons_zero, List.set_cons_succ]
                refine wpAnyU_take (i := 8) (oi := ?o9) (v := ?v9) ?hi9 (by kernel_rfl) (by kernel_rfl) (by kernel_rfl) (by kernel_rfl) ?hq9 (Or.inl ⟨?hw9, ?hy9⟩) (by assumption) ?r9
                case hi9 => (simp only [List.getElem?_toArray, List.getElem?_cons_succ, List.getElem?_cons_zero]; exact rfl)
                case hq9 => exact fun _ _ _ h => h
                case hw9 => rfl
                case hy9 => (intro w hSw; (try dsimp only at hSw); go_simp; try exact rfl)
                simp only [Act.put, List.setIfInBounds_toArray, List.set_cons_zero, List.set_cons_succ]
                refine wpAnyU_ready (rs := [9]) (by kernel_rfl) (by simp) ?_
                refine AllReadyU.cons (o := ?o10) ?hi10 (fun K hK => ?_) AllReadyU.nil
                case hi10 => (simp only [List.getElem?_toArray, List.getElem?_cons_succ, List.getElem?_cons_zero]; exact rfl)
                go_simp
                go_at_call 25
                refine (copyi_any Ak lk ck (X k) w4 RI.out (by omega)).mono ?_
                rintro e w5 ⟨u, rfl, hown, bel⟩
                obtain ⟨Au, cu, hu⟩ := own_shape hown
                subst hu
                have G5 := Kept.mk (G3.out.below bel)
                have z5 : w5.cell? ⟨b0, o0 + k, none⟩ = some (.slice Ak lk ck) := by rw [bel.cell (by simpa using LB)]; exact hS0.2
                refine hK.out _ _ (fun _ => ⟨G5.out.p0, z5⟩) (fun _ => ?_)
                clear hK K hS0
                try simp only [Act.put, List.setIfInBounds_toArray, List.set_cons_zero, List.set_cons_succ]
                refine wpAnyU_ready (rs := [10]) (by kernel_rfl) (by simp) ?_
                refine AllReadyU.cons (o := ?o11) ?hi11 (fun K hK => ?_) AllReadyU.nil
                case hi11 => (simp only [List.getElem?_toArray, List.getElem?_cons_succ, List.getElem?_cons_zero]; exact rfl)
                go_simp
                have ba : Below w5.heap.size w5 (w5.alloc (.cells #[.slice Au lk cu] 41)) := (Below.refl _ _).alloc (Nat.le_refl _) _
                have cB : (w5.alloc (.cells #[.slice Au lk cu] 41)).cell? ⟨w5.heap.size, 0, none⟩ = some (.slice Au lk cu) := (Blk.new w5 41 #[.slice Au lk cu]).cell 0
                have G6 := Kept.mk (G5.out.below ba)
                have O6 := Kept.mk (own_keep hown (barOf ba []) (by simp))
                have b46 : Kept (Below w4.heap.size w4 (w5.alloc (.cells #[.slice Au lk cu] 41))) := ⟨bel.trans (ba.mono bel.size)⟩
                have z6 : (w5.alloc (.cells #[.slice Au lk cu] 41)).cell? ⟨b0, o0 + k, none⟩ = some (.slice Ak lk ck) := by rw [ba.cell (by have := bel.size; simp; omega)]; exact z5
                refine hK.out _ _ (fun _ => ⟨G6.out.p0, z6⟩) (fun _ => ?_)
                clear hK K G5 z5 hown bel ba
                try simp only [Act.put, List.setIfInBounds_toArray, List.set_cons_zero, List.set_cons_succ]
                generalize w5.alloc (.cells #[.slice Au lk cu] 41) = w6 at *
                generalize w5.heap.size = gB at *
                obtain ⟨iu, hi, hz0, hz1, hz2⟩ := info_parts info_rowr
                have N6 : N ≤ w6.heap.size := by have := b46.out.size; omega
                refine wpAnyU_ready (rs := [11]) (by kernel_rfl) (by simp) ?_
                refine AllReadyU.cons (o := ?o15) ?hi15 (fun K hK => ?_) AllReadyU.nil
                case hi15 => (simp only [List.getElem?_toArray, List.getElem?_cons_succ, List.getElem?_cons_zero]; exact rfl)
                refine step_append_lies _ (by rfl) _ _ _ (by rfl) N 41 iu _ 1 24 Try.underlying22 hi hz0 hz1 hz2 rfl (by omega) (.slice Av k cv) k ((List.range k).map V) (by rfl) G6.out.hv
                  ⟨gB, 0, none⟩ 1 1 [.slice Au lk cu] (by rfl) (by rfl) (fun j u hj => by
                    match j, hj with
                    | 0, hj => simp at hj; subst hj; exact cB) (by simp [Value.oneCell']) (by omega) (by unfold maxLen; omega) (by omega) N6 w6.heap.size rfl ?_
                intro gg cg w7 hown1 hgrow hat hlt1
                have G8 := Kept.mk (G3.out.pushed (L' := X) (l := X k) (v' := .slice (some ⟨gg, 0, none⟩) (k + 1) cg) b46.out (own_more' (by rw [hLk.out]; exact O6.out) NN) (fun q hq => (O6.out.lt q hq).1) hgrow hown1 (fun _ _ => rfl) rfl)
                have hp7 := G6.out.hp.grown hgrow (fun e => G6.out.far e.symm)
                have b67 := own_below G6.out.hv hgrow N6
                have B8 : Kept (Below N w (w7.setCell ⟨N, 0, none⟩ (.slice (some ⟨gg, 0, none⟩) (k + 1) cg))) := ⟨((B3.out.trans (b46.out.mono NN)).trans b67).setCell (Nat.le_refl _) _⟩
                have z7 : w7.cell? ⟨b0, o0 + k, none⟩ = some (.slice Ak lk ck) := by rw [b67.cell (by have := World.block_lt_of_cell? _ _ x0; rw [HN.out] at this; exact this)]; exact z6
                have c7 := hp7.cell 0
                have f7 := hp7.frozen 0
                have c7' : w7.cell? ⟨N, 0, none⟩ = some (.slice Av k cv) := c7
                clear hown1 hgrow hat hlt1 hp7 G3 B3 G6 b46 z6 cB O6 N6 c7 b67
                refine hK.out _ _ (fun _ => ⟨c7', z7⟩) (fun _ => ?_)
                clear hK K
                try simp only [Act.put, List.setIfInBounds_toArray, List.set_cons_zero, List.set_cons_succ]
                refine wpAnyU_ready (rs := [12]) (by kernel_rfl) (by simp) ?_
                refine AllReadyU.cons (o := ?o12) ?hi12 (fun K hK => ?_) AllReadyU.nil
                case hi12 => (simp only [List.getElem?_toArray, List.getElem?_cons_succ, List.getElem?_cons_zero]; exact rfl)
                go_simp
                refine hK.out _ _ (fun _ => ⟨c7', z7⟩) (fun _ => ?_)
                clear hK K
                try simp only [Act.put, List.setIfInBounds_toArray, List.set_cons_zero, List.set_cons_succ]
                refine wpAnyU_ready (rs := [13]) (by kernel_rfl) (by simp) ?_
                refine AllReadyU.cons (o := ?o13) ?hi13 (fun K hK => ?_) AllReadyU.nil
                case hi13 => (simp only [List.getElem?_toArray, List.getElem?_cons_succ, List.getElem?_cons_zero]; exact rfl)
                go_simp
                refine hK.out _ _ (fun _ => ⟨c7', z7⟩) (fun _ => ?_)
                clear hK K
                try simp only [Act.put, List.setIfInBounds_toArray, List.set_cons_zero, List.set_cons_succ]
                refine wpAnyU_ready (rs := [14]) (by kernel_rfl) (by simp) ?_
                refine AllReadyU.cons (o := ?o14) ?hi14 (fun K hK => ?_) AllReadyU.nil
                case hi14 => (simp only [List.getElem?_toArray, List.getElem?_cons_succ, List.getElem?_cons_zero]; exact rfl)
                go_simp
                refine hK.out _ _ (fun h => absurd rfl h) (fun _ => ?_)
                clear hK K
                try simp only [Act.put, List.setIfInBounds_toArray, List.set_cons_zero, List.set_cons_succ]
                refine wpAnyU_done (by kernel_rfl) ?_ _
                refine NoPanic.normal ?_
                clear c7' z7 f7
                go_wp2
                go_roundw
                case rel => exact ⟨k + 1, _, _, by omega, by go_num, ⟨fun r hr => by
                  by_cases e : r = k
                  · subst e; exact hLk.out
                  · exact HL.out r (by omega)⟩, G8, B8⟩
                case measure => simp [Go.RowKit.intOf]; omega
              · have hne : ¬ (lk : Int) = l0 := by omega
                have N1 := NK.out (fun h => hlen (by rw [← hLk.out, ← hL0.out]; exact h.2.2.1 k hkn))
                go_wp2
                go_quiet (fail)
                have B2 : Kept (Below N w (wr.drewN nq)) := ⟨below_drewN B.out _⟩
                go_wp2
                go_ret2
                exact N1.out _ (by rw [HN.out]; exact B2.out)
            · have hkn' : ¬ (k : Int) < n := by omega
              obtain rfl : k = n := by omega
              go_wp2
              obtain ⟨wo, rfl⟩ : ∃ wo : World, wo = wr := ⟨_, rfl⟩
              go_loopw [6] (fun i wr => ∃ b : Nat, b ≤ l0 ∧ i = .int .i64 b ∧ Kept (∀ a, a < b → sumE (col X k a) = 0) ∧ Kept (Gp 50 wr N N k X v V) ∧ Kept (Below N w wr)) (fun i _ => l0 - (Go.RowKit.intOf i).toNat)
              case atStart => exact ⟨0, by omega, rfl, ⟨fun a ha => absurd ha (Nat.not_lt_zero _)⟩, G, B⟩
              case round =>
                clear G B x0w
                obtain ⟨b, hb, rfl, HS, G, B⟩ := hrel
                have x0w : wr.cell? ⟨b0, o0, none⟩ = some (.slice A0 l0 c0) := by rw [B.out.cell (by have := World.block_lt_of_cell? _ _ x0; rw [HN.out] at this; exact this)]; exact x0
                by_cases hbn : b < l0
                · have hbn' : (b : Int) < l0 := by omega
                  go_wp2
                  obtain ⟨wi, hwi⟩ : ∃ wi : World, wi = wr := ⟨_, rfl⟩
                  subst hwi
                  go_loopw [7, 8] (fun l i wr => ∃ (q : Nat) (u : Value), q ≤ k ∧ u = l ∧ i = .int .i64 q ∧ Kept (wr.ownsRow N 3 1 u q (Sha.ints .i64 (col X q b))) ∧ Kept (∀ r, r < k → Apart (V r) u) ∧ Kept (Gp 50 wr N N k X v V) ∧ Kept (Below N w wr)) (fun _ i _ => k - (Go.RowKit.intOf i).toNat)
                  case atStart => exact ⟨0, _, by omega, rfl, rfl, ⟨World.ownsRow_nil _ _ _ _⟩, ⟨fun r _ g _ he => by simp [Value.ownBlock] at he⟩, G, B⟩
                  case round =>
                    clear G B x0w
                    obtain ⟨q, u, hq, rfl, rfl, HO, AP, G, B⟩ := hrel
                    by_cases hqk : q < k
                    · have hqk' : (q : Int) < k := by omega
                      obtain ⟨b9, o9, Ak, lk, ck, hA, xw, hlk, hck, rk⟩ := HR.out.row q hqk
                      injection hA with hA
                      injection hA with e1 e2
                      subst e1 e2
                      obtain rfl : lk = l0 := by rw [← rk.1]; exact HL.out q hqk
                      have xq : wr.cell? ⟨b0, o0 + q, none⟩ = some (.slice Ak lk ck) := by rw [B.out.cell (by have := World.block_lt_of_cell? _ _ xw; rw [HN.out] at this; exact this)]; exact xw
                      obtain ⟨Q, h3⟩ := rk.below (w' := wr) (by rw [HN.out]; exact B.out)
                      obtain ⟨bk, ok, rfl, hcl⟩ := h3.resolve_left (by omega)
                      have xe := hcl b hbn
                      obtain ⟨x, hx⟩ : ∃ x, at_ (X q) b = x := ⟨_, rfl⟩
                      rw [hx] at xe
                      have HX := Kept.mk hx
                      have NN : N ≤ wr.heap.size := by have := G.out.hp.lt; omega
                      have OA := Kept.mk (HO.out.alloc (.cells #[.int .i64 x] 3))
                      have RX : Kept (Ri (wr.alloc (.cells #[.int .i64 x] 3)) (some ⟨wr.heap.size, 0, none⟩) 1 [x]) := ⟨Ri.blk (Blk.new wr 3 #[.int .i64 x]) rfl⟩
                      have GA := Kept.mk (G.out.below ((Below.refl _ wr).alloc (Nat.le_refl _) (.cells #[.int .i64 x] 3)))
                      have BA : Kept (Below N w (wr.alloc (.cells #[.int .i64 x] 3))) := ⟨B.out.alloc NN _⟩
                      have h2q : q + 1 ≤ 4294967296 := by omega
                      clear xw Q h3 hcl hx rk
                      go_wp2_with ((with_reducible refine sel 88 ?_); refine wpList_append_ri rfl (.tmp 79) (.tmp 87) 41 rfl N 3 Try.underlying41 info_int u q (Sha.ints .i64 (col X q b)) rfl OA.out (some ⟨wr.heap.size, 0, none⟩) 1 1 [x] rfl RX.out h2q (by simp; omega) ?_; intro v' w' ho hg hat)
                      have O2 : Kept (w'.ownsRow N 3 1 v' (q + 1) (Sha.ints .i64 (col X (q + 1) b))) := ⟨by rw [col_succ, HX.out, ints_append]; exact ho.out⟩
                      have bo := own_below OA.out hg (by simp; omega)
                      have B2 : Kept (Below N w w') := ⟨BA.out.trans bo⟩
                      have G2 : Kept (Gp 50 w' N N k X v V) := ⟨GA.out.grownI HO.out hg AP.out⟩
                      have AP2 : Kept (∀ r, r < k → Apart (V r) v') := ⟨G.out.apartI AP.out hat⟩
                      clear bo
                      go_roundw
                      case rel => exact ⟨q + 1, _, by omega, rfl, by go_num, O2, AP2, G2, B2⟩
                      case measure => simp [Go.RowKit.intOf]; omega
                    · have hqk' : ¬ (q : Int) < k := by omega
                      obtain rfl : q = k := by omega
                      obtain ⟨A1, c1, hu, hi⟩ := own_ints HO.out
                      subst hu
                      have HI := Kept.mk hi
                      clear hi
                      cases hs : (sumGo 0 (col X q b)).isSome with
                      | true =>
                        have hz : sumE (col X q b) = 0 := by simp [sumE, hs, bit]
                        have S1 := Kept.mk (rsum_any A1 q c1 (col X q b) wr HI.out)
                        rw [hz] at S1
                        have HZ := Kept.mk hz
                        clear hs hz
                        generalize sumN (col X q b) = sn at *
                        go_wp2_with (go_at_call 26; refine S1.out.mono ?_; rintro e w' ⟨rfl, rfl⟩)
                        go_roundw
                        case rel => exact ⟨b + 1, by omega, by go_num, ⟨fun a ha => by
                          by_cases e : a = b
                          · subst e; exact HZ.out
                          · exact HS.out a (by omega)⟩, G, B⟩
                        case measure => simp [Go.RowKit.intOf]; omega
                      | false =>
                        have hz : sumE (col X q b) = 1 := by simp [sumE, hs, bit]
                        have S1 := Kept.mk (rsum_any A1 q c1 (col X q b) wr HI.out)
                        rw [hz] at S1
                        have N1 := NK.out (fun h => by have := h.2.2.2 b (by rw [hL0.out]; exact hbn); omega)
                        clear hs hz
                        generalize sumN (col X q b) = sn at *
                        go_wp2_with (go_at_call 26; refine S1.out.mono ?_; rintro e w' ⟨rfl, rfl⟩)
                        go_ret2
                        exact N1.out _ (by rw [HN.out]; exact B.out)
                · have hbn' : ¬ (b : Int) < l0 := by omega
                  obtain rfl : b = l0 := by omega
                  have ok : newOk k X := ⟨⟨by omega, by omega⟩, ⟨by have := hL0.out; omega, by have := hL0.out; omega⟩, fun r hr => by rw [HL.out r hr, hL0.out], fun a ha => HS.out a (by rw [← hL0.out]; exact ha)⟩
                  obtain ⟨F, m1, m2⟩ := G.out.mx (m := b) (by omega) (by omega) (fun a ha => HL.out a ha)
                  have M1 := Kept.mk (show Pr wr F N (newP k X) from ⟨ok.wf, by
                    show Mx _ wr F N k (X 0).length _
                    rw [hL0.out]
                    exact m1⟩)
                  have M2 := Kept.mk m2
                  have OK := Kept.mk ok
                  clear m1 m2 ok
                  go_wp2
                  go_ret2
                  exact .inr ⟨OK.out, N, F, rfl, M1.out, barOf (by rw [HN.out]; exact B.out) [], fun q hq => .inr (by rw [HN.out]; exact M2.out q hq)⟩
end Go.Proofs.Ytlgeckgeiknmjaa.Purse
