/-
  Parts laid together: LedgerC3.
-/
import Derived.Test.YtjjonbpgggldmaaGreatPart19
import Derived.Test.YtjjonbpgggldmaaGreatPart8
import Derived.Test.YtjjonbpgggldmaaGreatPart26
import Derived.Test.YtjjonbpgggldmaaGreatPart17
import Derived.Test.YtjjonbpgggldmaaGreatPart28

namespace Go.Proofs.YtjjonbpgggldmaaGreat.Ledger
open Go.RowKit Go.Proofs.YtjjonbpgggldmaaGreat.Num Go.Proofs.YtjjonbpgggldmaaGreat.Sha Go.Proofs.YtjjonbpgggldmaaGreat.Purse Go.Proofs.YtjjonbpgggldmaaGreat.Escrow Go.Proofs.YtjjonbpgggldmaaGreat.Wire Go.Proofs.YtjjonbpgggldmaaGreat.Req

section
variable {w : World} {t x b q : Nat} {F G : List Nat} {v d : Value} {s : LS}
theorem move_same {s : PS} {i j a n : Int} (h : (moveP s i j a n).1 ≠ 0) : (moveP s i j a n).2 = s := by
  unfold moveP at h ⊢
  split
  · rename_i h4
    rw [if_pos h4] at h
    split
    · rfl
    · rename_i h5
      rw [if_neg h5] at h
      split
      · rfl
      · rename_i h6
        rw [if_neg h6] at h
        exact absurd rfl h
  · rfl
/-- behind a call of the purse's -/
theorem Lk.purse {w0 w1 w2 : World} {G' : List Nat} {p' : PS} (h : Lp w1 t x b q G v d s) (B : Below w0.heap.size w0 w1) (hp : Pc w2 G' q p') (fp : Fp G G' w1 w2) :
    ∃ F', Lk w2 t F' x ⟨s.cap, ⟨p', s.b.l⟩, s.clock, s.e⟩ ∧ Fp (t :: lf x b G v d) (t :: F') w0 w2 := by
  obtain ⟨k1, k2⟩ := h.pk.purse hp fp
  obtain ⟨k3, k4⟩ := h.book (b' := ⟨p', s.b.l⟩) k1 k2
  exact ⟨_, ⟨b, q, G', v, d, k3, rfl⟩, Fp.trans ⟨barOf B _, fun _ hk => .inl hk⟩ k4⟩
/-- behind a call of the book's -/
theorem Lk.booked {w0 w1 w2 : World} {F' : List Nat} {b' : BS} (h : Lp w1 t x b q G v d s) (B : Below w0.heap.size w0 w1) (hk : Ct t w2 F' b q b') (fp : Fp (fk t b G v) F' w1 w2) :
    ∃ F', Lk w2 t F' x ⟨s.cap, b', s.clock, s.e⟩ ∧ Fp (t :: lf x b G v d) (t :: F') w0 w2 := by
  obtain ⟨G', v', k1, rfl⟩ := hk
  obtain ⟨k3, k4⟩ := h.book (b' := b') k1 fp
  exact ⟨_, ⟨b, q, G', v', d, k3, rfl⟩, Fp.trans ⟨barOf B _, fun _ hk => .inl hk⟩ k4⟩
set_option maxRecDepth 100000 in
set_option maxHeartbeats 2000000 in
theorem transfer_any (party : Int) (r : RV) (h : Lp w t x b q G v d s) : Calls Tryz.prog 100 #[.pointer (some ⟨x, 0, none⟩), .int .i64 party, rqv r] w (StepPost w t (lf x b G v d) x (.int .i64 (transL s party r).1) ⟨s.cap, (transL s party r).2, s.clock, s.e⟩) := by
  obtain ⟨kind, dst, asset, amount, id, due, hash, sec⟩ := r
  unfold rqv
  dsimp only
  obtain ⟨N, hN⟩ : ∃ N, w.heap.size = N := ⟨_, rfl⟩
  have b0 : Below w.heap.size w (w.alloc (.cells #[.int .i64 kind, .int .i64 dst, .int .i64 asset, .int .i64 amount, .int .i64 id, .int .i64 due, .string (strOfNums hash), .string (strOfNums sec)] 65)) := (Below.refl _ _).alloc (Nat.le_refl _) _
  have X : Kept (Blk (w.alloc (.cells #[.int .i64 kind, .int .i64 dst, .int .i64 asset, .int .i64 amount, .int .i64 id, .int .i64 due, .string (strOfNums hash), .string (strOfNums sec)] 65)) N 65 #[.int .i64 kind, .int .i64 dst, .int .i64 asset, .int .i64 amount, .int .i64 id, .int .i64 due, .string (strOfNums hash), .string (strOfNums sec)]) := ⟨Blk.new_at w _ _ N hN.symm⟩
  have B := Kept.mk b0
  have NX : Kept (N ∉ t :: lf x b G v d) := ⟨fun hm => by have := h.lts N hm; omega⟩
  have L := Kept.mk (h.below b0)
  by_cases h0 : amount = 0
  · subst h0
    rw [show transL s party ⟨kind, dst, asset, 0, id, due, hash, sec⟩ = (1, s.b) from if_pos rfl]
    clear h b0
    go_enter Tryz.func100, Tryz.ntmps100
    go_upto_region 1 with (fail)
    generalize (w.alloc (.cells #[.int .i64 kind, .int .i64 dst, .int .i64 asset, .int .i64 0, .int .i64 id, .int .i64 due, .string (strOfNums hash), .string (strOfNums sec)] 65)) = w1 at *
    have x3 := X.out.cell 3
    go_wp2
    go_ret
    exact ⟨rfl, _, ⟨b, q, G, v, d, L.out, rfl⟩, barOf B.out _, fun _ hk => .inl hk⟩
  · have h0' : (amount == 0) = false := beq_eq_false_iff_ne.2 h0
    rw [show transL s party ⟨kind, dst, asset, amount, id, due, hash, sec⟩ = ((moveP s.b.p party dst asset amount).1, ⟨(moveP s.b.p party dst asset amount).2, s.b.l⟩) from if_neg h0]
    clear h b0
    dsimp only
    go_enter Tryz.func100, Tryz.ntmps100
    go_upto_region 1 with (fail)
    generalize (w.alloc (.cells #[.int .i64 kind, .int .i64 dst, .int .i64 asset, .int .i64 amount, .int .i64 id, .int .i64 due, .string (strOfNums hash), .string (strOfNums sec)] 65)) = w1 at *
    have x3 := X.out.cell 3
    go_upto_region 3 with (fail)
    clear x3
    have CS : ∀ {u : World}, Lp u t x b q G v d s → Blk u N 65 #[.int .i64 kind, .int .i64 dst, .int .i64 asset, .int .i64 amount, .int .i64 id, .int .i64 due, .string (strOfNums hash), .string (strOfNums sec)] → u.cell? ⟨x, 0, none⟩ = some (.pointer (some ⟨b, 0, none⟩)) ∧ u.cell? ⟨N, 1, none⟩ = some (.int .i64 dst) ∧ u.cell? ⟨N, 2, none⟩ = some (.int .i64 asset) ∧ u.cell? ⟨N, 3, none⟩ = some (.int .i64 amount) := fun h k => ⟨h.c0, k.cell 1, k.cell 2, k.cell 3⟩
    refine wp_region_noPanic ?_
    refine wp_region_held_drew (S := fun u : World => u.cell? ⟨x, 0, none⟩ = some (.pointer (some ⟨b, 0, none⟩)) ∧ u.cell? ⟨N, 1, none⟩ = some (.int .i64 dst) ∧ u.cell? ⟨N, 2, none⟩ = some (.int .i64 asset) ∧ u.cell? ⟨N, 3, none⟩ = some (.int .i64 amount)) (by kernel_rfl) (CS (L.out.below (Below.refl _ _).drew) X.out.drew) (fun _ => ?_)
    replace L := Kept.mk (L.out.below (Below.refl _ w1).drew); replace X := Kept.mk X.out.drew; replace B := Kept.mk B.out.drew
    generalize w1.drew = w2 at *
    have KP := Kept.mk (cpurse_any L.out.pk)
    refine wpAnyH_take (i := 0) (oi := ?o1) (v := ?v1) ?hi1 (by kernel_rfl) (by kernel_rfl) (by kernel_rfl) ?hq1 (Or.inl ⟨?hw1, ?hy1⟩) (by assumption) ?r1
    case hi1 => (simp only [List.getElem?_toArray, List.getElem?_cons_zero]; exact rfl)
    case hq1 => exact fun _ _ _ h => h
    case hw1 => rfl
    case hy1 => (intro w hSw; (try dsimp only at hSw); go_simp; try exact rfl)
    simp only [Act.put, List.setIfInBounds_toArray, List.set_cons_zero, List.set_cons_succ]
    refine wpAnyH_take (i := 1) (oi := ?o2) (v := ?v2) ?hi2 (by kernel_rfl) (by kernel_rfl) (by kernel_rfl) ?hq2 (Or.inl ⟨?hw2, ?hy2⟩) (by assumption) ?r2
    case hi2 => (simp only [List.getElem?_toArray, List.getElem?_cons_succ, List.getElem?_cons_zero]; exact rfl)
    case hq2 => exact fun _ _ _ h => h
    case hw2 => rfl
    case hy2 => (intro w hSw; (try dsimp only at hSw); go_simp; try exact rfl)
    simp only [Act.put, List.setIfInBounds_toArray, List.set_cons_zero, List.set_cons_succ]
    refine wpAnyH_take (i := 2) (oi := ?o3) (v := ?v3) ?hi3 (by kernel_rfl) (by kernel_rfl) (by kernel_rfl) ?hq3 (Or.inl ⟨?hw3, ?hy3⟩) (by assumption) ?r3
    case hi3 => (simp only [List.getElem?_toArray, List.getElem?_cons_succ, List.getElem?_cons_zero]; exact rfl)
    case hq3 => exact fun _ _ _ h => h
    case hw3 => rfl
    case hy3 => (intro w hSw; (try dsimp only at hSw); go_simp; try exact rfl)
    simp only [Act.put, List.setIfInBounds_toArray, List.set_cons_zero, List.set_cons_succ]
    refine wpAnyH_take (i := 3) (oi := ?o4) (v := ?v4) ?hi4 (by kernel_rfl) (by kernel_rfl) (by kernel_rfl) ?hq4 (Or.inl ⟨?hw4, ?hy4⟩) (by assumption) ?r4
    case hi4 => (simp only [List.getElem?_toArray, List.getElem?_cons_succ, List.getElem?_cons_zero]; exact rfl)
    case hq4 => exact fun _ _ _ h => h
    case hw4 => rfl
    case hy4 => (intro w hSw; (try dsimp only at hSw); go_simp; try exact rfl)
    simp only [Act.put, List.setIfInBounds_toArray, List.set_cons_zero, List.set_cons_succ]
    refine wpAnyH_take (i := 5) (oi := ?o5) (v := ?v5) ?hi5 (by kernel_rfl) (by kernel_rfl) (by kernel_rfl) ?hq5 (Or.inl ⟨?hw5, ?hy5⟩) (by assumption) ?r5
    case hi5 => (simp only [List.getElem?_toArray, List.getElem?_cons_succ, List.getElem?_cons_zero]; exact rfl)
    case hq5 => exact fun _ _ _ h => h
    case hw5 => rfl
    case hy5 => (intro w hSw; (try dsimp only at hSw); go_simp; try exact rfl)
    simp only [Act.put, List.setIfInBounds_toArray, List.set_cons_zero, List.set_cons_succ]
    refine wpAnyH_take (i := 6) (oi := ?o6) (v := ?v6) ?hi6 (by kernel_rfl) (by kernel_rfl) (by kernel_rfl) ?hq6 (Or.inl ⟨?hw6, ?hy6⟩) (by assumption) ?r6
    case hi6 => (simp only [List.getElem?_toArray, List.getElem?_cons_succ, List.getElem?_cons_zero]; exact rfl)
    case hq6 => exact fun _ _ _ h => h
    case hw6 => rfl
    case hy6 => (intro w hSw; (try dsimp only at hSw); go_simp; try exact rfl)
    simp only [Act.put, List.setIfInBounds_toArray, List.set_cons_zero, List.set_cons_succ]
    refine wpAnyH_take (i := 7) (oi := ?o7) (v := ?v7) ?hi7 (by kernel_rfl) (by kernel_rfl) (by kernel_rfl) ?hq7 (Or.inl ⟨?hw7, ?hy7⟩) (by assumption) ?r7
    case hi7 => (simp only [List.getElem?_toArray, List.getElem?_cons_succ, List.getElem?_cons_zero]; exact rfl)
    case hq7 => exact fun _ _ _ h => h
    case hw7 => rfl
    case hy7 => (intro w hSw; (try dsimp only at hSw); go_simp; try exact rfl)
    simp only [Act.put, List.setIfInBounds_toArray, List.set_cons_zero, List.set_cons_succ]
    refine wpAnyH_take (i := 8) (oi := ?o8) (v := ?v8) ?hi8 (by kernel_rfl) (by kernel_rfl) (by kernel_rfl) ?hq8 (Or.inl ⟨?hw8, ?hy8⟩) (by assumption) ?r8
    case hi8 => (simp only [List.getElem?_toArray, List.getElem?_cons_succ, List.getElem?_cons_zero]; exact rfl)
    case hq8 => exact fun _ _ _ h => h
    case hw8 => rfl
    case hy8 => (intro w hSw; (try dsimp only at hSw); go_simp; try exact rfl)
    simp only [Act.put, List.setIfInBounds_toArray, List.set_cons_zero, List.set_cons_succ]
    refine wpAnyH_take (i := 9) (oi := ?o9) (v := ?v9) ?hi9 (by kernel_rfl) (by kernel_rfl) (by kernel_rfl) ?hq9 (Or.inl ⟨?hw9, ?hy9⟩) (by assumption) ?r9
    case hi9 => (simp only [List.getElem?_toArray, List.getElem?_cons_succ, List.getElem?_cons_zero]; exact rfl)
    case hq9 => exact fun _ _ _ h => h
    case hw9 => rfl
    case hy9 => (intro w hSw; (try dsimp only at hSw); go_simp; try exact rfl)
    simp only [Act.put, List.setIfInBounds_toArray, List.set_cons_zero, List.set_cons_succ]
    refine wpAnyH_take (i := 10) (oi := ?o10) (v := ?v10) ?hi10 (by kernel_rfl) (by kernel_rfl) (by kernel_rfl) ?hq10 (Or.inl ⟨?hw10, ?hy10⟩) (by assumption) ?r10
    case hi10 => (simp only [List.getElem?_toArray, List.getElem?_cons_succ, List.getElem?_cons_zero]; exact rfl)
    case hq10 => exact fun _ _ _ h => h
    case hw10 => rfl
    case hy10 => (intro w hSw; (try dsimp only at hSw); go_simp; try exact rfl)
    simp only [Act.put, List.setIfInBounds_toArray, List.set_cons_zero, List.set_cons_succ]
    refine wpAnyH_take (i := 11) (oi := ?o11) (v := ?v11) ?hi11 (by kernel_rfl) (by kernel_rfl) (by kernel_rfl) ?hq11 (Or.inl ⟨?hw11, ?hy11⟩) (by assumption) ?r11
    case hi11 => (simp only [List.getElem?_toArray, List.getElem?_cons_succ, List.getElem?_cons_zero]; exact rfl)
    case hq11 => exact fun _ _ _ h => h
    case hw11 => rfl
    case hy11 => (intro w hSw; (try dsimp only at hSw); go_simp; try exact rfl)
    simp only [Act.put, List.setIfInBounds_toArray, List.set_cons_zero, List.set_cons_succ]
    refine wpAnyH_ready (rs := [4]) (by kernel_rfl) (by simp) ?_
    refine AllReadyH.cons (o := ?o64) ?hi64 (fun K hK => ?_) AllReadyH.nil
    case hi64 => (simp only [List.getElem?_toArray, List.getElem?_cons_succ, List.getElem?_cons_zero]; exact rfl)
    go_simp
    go_at_call 97
    refine KP.out.mono ?_
    rintro e w3 ⟨rfl, rfl⟩
    refine hK.out _ _ (CS L.out X.out) (fun _ => ?_)
    have KM := Kept.mk (move_any party dst asset amount L.out.pk.pc)
    unfold Purse.StepPost at KM
    clear hK K KP
    refine wpAnyH_ready (rs := [12]) (by kernel_rfl) (by simp) ?_
    refine AllReadyH.cons (o := ?o65) ?hi65 (fun K hK => ?_) AllReadyH.nil
    case hi65 => (simp only [List.getElem?_toArray, List.getElem?_cons_succ, List.getElem?_cons_zero]; exact rfl)
    go_simp
    go_at_call 122
    refine KM.out.mono ?_
    rintro e w4 ⟨rfl, G', hp, fp⟩
    have XG : Kept (N ∉ G) := ⟨fun hm => NX.out (by simp [lf, hm])⟩
    have XX : Kept (x ∉ G) := ⟨fun hm => L.out.xB (fk_mem.2 (.inr (.inr (.inr hm))))⟩
    have LK := Kept.mk (Lk.purse L.out B.out hp fp)
    have L4 : w4.cell? ⟨x, 0, none⟩ = some (.pointer (some ⟨b, 0, none⟩)) := (L.out.blk.bar fp.1 XX.out).cell 0
    have X4 := X.out.bar fp.1 XG.out
    refine hK.out _ _ ⟨L4, X4.cell 1, X4.cell 2, X4.cell 3⟩ (fun _ => ?_)
    clear hK K KM hp fp L4 X4 CS
    refine wpAnyH_take (i := 13) (oi := ?o12) (v := ?v12) ?hi12 (by kernel_rfl) (by kernel_rfl) (by kernel_rfl) ?hq12 (Or.inl ⟨?hw12, ?hy12⟩) (by assumption) ?r12
    case hi12 => (simp only [List.getElem?_toArray, List.getElem?_cons_succ, List.getElem?_cons_zero]; exact rfl)
    case hq12 => exact fun _ _ _ h => h
    case hw12 => rfl
    case hy12 => (intro w hSw; (try dsimp only at hSw); go_simp; try exact rfl)
    simp only [Act.put, List.setIfInBounds_toArray, List.set_cons_zero, List.set_cons_succ]
    refine wpAnyH_done (by kernel_rfl) ?_ _
    refine NoPanic.normal ?_
    go_wp2
    go_ret
    exact ⟨rfl, LK.out⟩
set_option maxRecDepth 100000 in
set_option maxHeartbeats 2000000 in
theorem do_any (party : Int) (r : RV) (W : WL s) (hr : r.ok) (hk : r.kind = 1 ∨ r.kind = 2 ∨ r.kind = 3 ∨ r.kind = 4) (h : Lp w t x b q G v d s) : Calls Tryz.prog 76 #[.pointer (some ⟨x, 0, none⟩), .int .i64 party, rqv r] w (StepPost w t (lf x b G v d) x (.tuple #[.int .i64 (doL s party r).1.1, .int .i64 (doL s party r).1.2]) ⟨s.cap, (doL s party r).2, s.clock, s.e⟩) := by
  obtain ⟨kind, dst, asset, amount, id, due, hash, sec⟩ := r
  unfold rqv
  dsimp only
  obtain ⟨N, hN⟩ : ∃ N, w.heap.size = N := ⟨_, rfl⟩
  have b0 : Below w.heap.size w (w.alloc (.cells #[.int .i64 kind, .int .i64 dst, .int .i64 asset, .int .i64 amount, .int .i64 id, .int .i64 due, .string (strOfNums hash), .string (strOfNums sec)] 65)) := (Below.refl _ _).alloc (Nat.le_refl _) _
  have X : Kept (Blk (w.alloc (.cells #[.int .i64 kind, .int .i64 dst, .int .i64 asset, .int .i64 amount, .int .i64 id, .int .i64 due, .string (strOfNums hash), .string (strOfNums sec)] 65)) N 65 #[.int .i64 kind, .int .i64 dst, .int .i64 asset, .int .i64 amount, .int .i64 id, .int .i64 due, .string (strOfNums hash), .string (strOfNums sec)]) := ⟨Blk.new_at w _ _ N hN.symm⟩
  have B := Kept.mk b0
  have NX : Kept (N ∉ t :: lf x b G v d) := ⟨fun hm => by have := h.lts N hm; omega⟩
  have L := Kept.mk (h.below b0)
  dsimp only at hk hr
  have HB : Kept (Bytes hash ∧ Bytes sec) := ⟨hr⟩
  have HL : Kept (s.b.l.length ≤ 100000) := ⟨by have := W.locks; have := W.len; omega⟩
  have HH : Kept (∀ k, k < s.b.l.length → Bytes (atE s.b.l k).hash) := ⟨fun k hk => (W.wb.each k hk).2.2.2.2.2.1⟩
  rcases hk with rfl | rfl | rfl | rfl
  · clear h b0
    rw [show doL s party ⟨1, dst, asset, amount, id, due, hash, sec⟩ = ((0, (transL s party ⟨1, dst, asset, amount, id, due, hash, sec⟩).1), (transL s party ⟨1, dst, asset, amount, id, due, hash, sec⟩).2) from if_pos rfl]
    dsimp only
    go_enter Tryz.func76, Tryz.ntmps76
    go_upto_region 1 with (fail)
    generalize (w.alloc (.cells #[.int .i64 1, .int .i64 dst, .int .i64 asset, .int .i64 amount, .int .i64 id, .int .i64 due, .string (strOfNums hash), .string (strOfNums sec)] 65)) = w1 at *
    have x0 := X.out.cell 0; have x1 := X.out.cell 1; have x2 := X.out.cell 2; have x3 := X.out.cell 3; have x4 := X.out.cell 4; have x5 := X.out.cell 5; have x6 := X.out.cell 6; have x7 := X.out.cell 7
    have KT := transfer_any party ⟨1, dst, asset, amount, id, due, hash, sec⟩ L.out
    unfold StepPost rqv at KT
    dsimp only at KT
    have KT2 := Kept.mk KT
    clear KT
    go_wp2_with fail
    refine KT2.out.mono ?_
    rintro e w2 ⟨rfl, F', hk, fp⟩
    have LK := Kept.mk hk; have FP := Kept.mk (Fp.trans (F := t :: lf x b G v d) (F' := t :: lf x b G v d) ⟨barOf B.out _, fun _ hk => .inl hk⟩ fp)
    clear KT2 hk fp x0 x1 x2 x3 x4 x5 x6 x7
    go_wp2
    go_ret2
    exact ⟨rfl, F', LK.out, FP.out⟩
  · clear h b0
    rw [show doL s party ⟨2, dst, asset, amount, id, due, hash, sec⟩ = lockB s.b party dst asset amount hash due s.clock from by simp [doL]]
    go_enter Tryz.func76, Tryz.ntmps76
    go_upto_region 1 with (fail)
    generalize (w.alloc (.cells #[.int .i64 2, .int .i64 dst, .int .i64 asset, .int .i64 amount, .int .i64 id, .int .i64 due, .string (strOfNums hash), .string (strOfNums sec)] 65)) = w1 at *
    have x0 := X.out.cell 0; have x1 := X.out.cell 1; have x2 := X.out.cell 2; have x3 := X.out.cell 3; have x4 := X.out.cell 4; have x5 := X.out.cell 5; have x6 := X.out.cell 6; have x7 := X.out.cell 7
    go_upto_region 5 with (fail)
    clear x0 x1 x2 x3 x4 x5 x6 x7
    have CS : ∀ {u : World}, Lp u t x b q G v d s → Blk u N 65 #[.int .i64 2, .int .i64 dst, .int .i64 asset, .int .i64 amount, .int .i64 id, .int .i64 due, .string (strOfNums hash), .string (strOfNums sec)] → u.cell? ⟨x, 0, none⟩ = some (.pointer (some ⟨b, 0, none⟩)) ∧ u.cell? ⟨x, 2, none⟩ = some (.int .i64 s.clock) ∧ u.cell? ⟨N, 1, none⟩ = some (.int .i64 dst) ∧ u.cell? ⟨N, 2, none⟩ = some (.int .i64 asset) ∧ u.cell? ⟨N, 3, none⟩ = some (.int .i64 amount) ∧ u.cell? ⟨N, 5, none⟩ = some (.int .i64 due) ∧ u.cell? ⟨N, 6, none⟩ = some (.string (strOfNums hash)) := fun h k => ⟨h.c0, h.c2, k.cell 1, k.cell 2, k.cell 3, k.cell 5, k.cell 6⟩
    refine wp_region_noPanic ?_
    refine wp_region_held_drew (S := fun u : World => u.cell? ⟨x, 0, none⟩ = some (.pointer (some ⟨b, 0, none⟩)) ∧ u.cell? ⟨x, 2, none⟩ = some (.int .i64 s.clock) ∧ u.cell? ⟨N, 1, none⟩ = some (.int .i64 dst) ∧ u.cell? ⟨N, 2, none⟩ = some (.int .i64 asset) ∧ u.cell? ⟨N, 3, none⟩ = some (.int .i64 amount) ∧ u.cell? ⟨N, 5, none⟩ = some (.int .i64 due) ∧ u.cell? ⟨N, 6, none⟩ = some (.string (strOfNums hash))) (by kernel_rfl) (CS (L.out.below (Below.refl _ _).drew) X.out.drew) (fun _ => ?_)
    replace L := Kept.mk (L.out.below (Below.refl _ w1).drew); replace X := Kept.mk X.out.drew; replace B := Kept.mk B.out.drew
    generalize w1.drew = w2 at *
    have KM := Kept.mk (clock_any ⟨G, v, L.out.pk, rfl⟩ party dst asset amount hash due s.clock HL.out)
    unfold LockPost at KM
    refine wpAnyH_take (i := 0) (oi := ?o13) (v := ?v13) ?hi13 (by kernel_rfl) (by kernel_rfl) (by kernel_rfl) ?hq13 (Or.inl ⟨?hw13, ?hy13⟩) (by assumption) ?r13
    case hi13 => (simp only [List.getElem?_toArray, List.getElem?_cons_zero]; exact rfl)
    case hq13 => exact fun _ _ _ h => h
    case hw13 => rfl
    case hy13 => (intro w hSw; (try dsimp only at hSw); go_simp; try exact rfl)
    simp only [Act.put, List.setIfInBounds_toArray, List.set_cons_zero, List.set_cons_succ]
    refine wpAnyH_take (i := 1) (oi := ?o14) (v := ?v14) ?hi14 (by kernel_rfl) (by kernel_rfl) (by kernel_rfl) ?hq14 (Or.inl ⟨?hw14, ?hy14⟩) (by assumption) ?r14
    case hi14 => (simp only [List.getElem?_toArray, List.getElem?_cons_succ, List.getElem?_cons_zero]; exact rfl)
    case hq14 => exact fun _ _ _ h => h
    case hw14 => rfl
    case hy14 => (intro w hSw; (try dsimp only at hSw); go_simp; try exact rfl)
    simp only [Act.put, List.setIfInBounds_toArray, List.set_cons_zero, List.set_cons_succ]
    refine wpAnyH_take (i := 2) (oi := ?o15) (v := ?v15) ?hi15 (by kernel_rfl) (by kernel_rfl) (by kernel_rfl) ?hq15 (Or.inl ⟨?hw15, ?hy15⟩) (by assumption) ?r15
    case hi15 => (simp only [List.getElem?_toArray, List.getElem?_cons_succ, List.getElem?_cons_zero]; exact rfl)
    case hq15 => exact fun _ _ _ h => h
    case hw15 => rfl
    case hy15 => (intro w hSw; (try dsimp only at hSw); go_simp; try exact rfl)
    simp only [Act.put, List.setIfInBounds_toArray, List.set_cons_zero, List.set_cons_succ]
    refine wpAnyH_take (i := 3) (oi := ?o16) (v := ?v16) ?hi16 (by kernel_rfl) (by kernel_rfl) (by kernel_rfl) ?hq16 (Or.inl ⟨?hw16, ?hy16⟩) (by assumption) ?r16
    case hi16 => (simp only [List.getElem?_toArray, List.getElem?_cons_succ, List.getElem?_cons_zero]; exact rfl)
    case hq16 => exact fun _ _ _ h => h
    case hw16 => rfl
    case hy16 => (intro w hSw; (try dsimp only at hSw); go_simp; try exact rfl)
    simp only [Act.put, List.setIfInBounds_toArray, List.set_cons_zero, List.set_cons_succ]
    refine wpAnyH_take (i := 4) (oi := ?o17) (v := ?v17) ?hi17 (by kernel_rfl) (by kernel_rfl) (by kernel_rfl) ?hq17 (Or.inl ⟨?hw17, ?hy17⟩) (by assumption) ?r17
    case hi17 => (simp only [List.getElem?_toArray, List.getElem?_cons_succ, List.getElem?_cons_zero]; exact rfl)
    case hq17 => exact fun _ _ _ h => h
    case hw17 => rfl
    case hy17 => (intro w hSw; (try dsimp only at hSw); go_simp; try exact rfl)
    simp only [Act.put, List.setIfInBounds_toArray, List.set_cons_zero, List.set_cons_succ]
    refine wpAnyH_take (i := 5) (oi := ?o18) (v := ?v18) ?hi18 (by kernel_rfl) (by kernel_rfl) (by kernel_rfl) ?hq18 (Or.inl ⟨?hw18, ?hy18⟩) (by assumption) ?r18
    case hi18 => (simp only [List.getElem?_toArray, List.getElem?_cons_succ, List.getElem?_cons_zero]; exact rfl)
    case hq18 => exact fun _ _ _ h => h
    case hw18 => rfl
    case hy18 => (intro w hSw; (try dsimp only at hSw); go_simp; try exact rfl)
    simp only [Act.put, List.setIfInBounds_toArray, List.set_cons_zero, List.set_cons_succ]
    refine wpAnyH_take (i := 6) (oi := ?o19) (v := ?v19) ?hi19 (by kernel_rfl) (by kernel_rfl) (by kernel_rfl) ?hq19 (Or.inl ⟨?hw19, ?hy19⟩) (by assumption) ?r19
    case hi19 => (simp only [List.getElem?_toArray, List.getElem?_cons_succ, List.getElem?_cons_zero]; exact rfl)
    case hq19 => exact fun _ _ _ h => h
    case hw19 => rfl
    case hy19 => (intro w hSw; (try dsimp only at hSw); go_simp; try exact rfl)
    simp only [Act.put, List.setIfInBounds_toArray, List.set_cons_zero, List.set_cons_succ]
    refine wpAnyH_take (i := 7) (oi := ?o20) (v := ?v20) ?hi20 (by kernel_rfl) (by kernel_rfl) (by kernel_rfl) ?hq20 (Or.inl ⟨?hw20, ?hy20⟩) (by assumption) ?r20
    case hi20 => (simp only [List.getElem?_toArray, List.getElem?_cons_succ, List.getElem?_cons_zero]; exact rfl)
    case hq20 => exact fun _ _ _ h => h
    case hw20 => rfl
    case hy20 => (intro w hSw; (try dsimp only at hSw); go_simp; try exact rfl)
    simp only [Act.put, List.setIfInBounds_toArray, List.set_cons_zero, List.set_cons_succ]
    refine wpAnyH_take (i := 8) (oi := ?o21) (v := ?v21) ?hi21 (by kernel_rfl) (by kernel_rfl) (by kernel_rfl) ?hq21 (Or.inl ⟨?hw21, ?hy21⟩) (by assumption) ?r21
    case hi21 => (simp only [List.getElem?_toArray, List.getElem?_cons_succ, List.getElem?_cons_zero]; exact rfl)
    case hq21 => exact fun _ _ _ h => h
    case hw21 => rfl
    case hy21 => (intro w hSw; (try dsimp only at hSw); go_simp; try exact rfl)
    simp only [Act.put, List.setIfInBounds_toArray, List.set_cons_zero, List.set_cons_succ]
    refine wpAnyH_take (i := 9) (oi := ?o22) (v := ?v22) ?hi22 (by kernel_rfl) (by kernel_rfl) (by kernel_rfl) ?hq22 (Or.inl ⟨?hw22, ?hy22⟩) (by assumption) ?r22
    case hi22 => (simp only [List.getElem?_toArray, List.getElem?_cons_succ, List.getElem?_cons_zero]; exact rfl)
    case hq22 => exact fun _ _ _ h => h
    case hw22 => rfl
    case hy22 => (intro w hSw; (try dsimp only at hSw); go_simp; try exact rfl)
    simp only [Act.put, List.setIfInBounds_toArray, List.set_cons_zero, List.set_cons_succ]
    refine wpAnyH_take (i := 10) (oi := ?o23) (v := ?v23) ?hi23 (by kernel_rfl) (by kernel_rfl) (by kernel_rfl) ?hq23 (Or.inl ⟨?hw23, ?hy23⟩) (by assumption) ?r23
    case hi23 => (simp only [List.getElem?_toArray, List.getElem?_cons_succ, List.getElem?_cons_zero]; exact rfl)
    case hq23 => exact fun _ _ _ h => h
    case hw23 => rfl
    case hy23 => (intro w hSw; (try dsimp only at hSw); go_simp; try exact rfl)
    simp only [Act.put, List.setIfInBounds_toArray, List.set_cons_zero, List.set_cons_succ]
    refine wpAnyH_take (i := 11) (oi := ?o24) (v := ?v24) ?hi24 (by kernel_rfl) (by kernel_rfl) (by kernel_rfl) ?hq24 (Or.inl ⟨?hw24, ?hy24⟩) (by assumption) ?r24
    case hi24 => (simp only [List.getElem?_toArray, List.getElem?_cons_succ, List.getElem?_cons_zero]; exact rfl)
    case hq24 => exact fun _ _ _ h => h
    case hw24 => rfl
    case hy24 => (intro w hSw; (try dsimp only at hSw); go_simp; try exact rfl)
    simp only [Act.put, List.setIfInBounds_toArray, List.set_cons_zero, List.set_cons_succ]
    refine wpAnyH_take (i := 12) (oi := ?o25) (v := ?v25) ?hi25 (by kernel_rfl) (by kernel_rfl) (by kernel_rfl) ?hq25 (Or.inl ⟨?hw25, ?hy25⟩) (by assumption) ?r25
    case hi25 => (simp only [List.getElem?_toArray, List.getElem?_cons_succ, List.getElem?_cons_zero]; exact rfl)
    case hq25 => exact fun _ _ _ h => h
    case hw25 => rfl
    case hy25 => (intro w hSw; (try dsimp only at hSw); go_simp; try exact rfl)
    simp only [Act.put, List.setIfInBounds_toArray, List.set_cons_zero, List.set_cons_succ]
    refine wpAnyH_take (i := 13) (oi := ?o26) (v := ?v26) ?hi26 (by kernel_rfl) (by kernel_rfl) (by kernel_rfl) ?hq26 (Or.inl ⟨?hw26, ?hy26⟩) (by assumption) ?r26
    case hi26 => (simp only [List.getElem?_toArray, List.getElem?_cons_succ, List.getElem?_cons_zero]; exact rfl)
    case hq26 => exact fun _ _ _ h => h
    case hw26 => rfl
    case hy26 => (intro w hSw; (try dsimp only at hSw); go_simp; try exact rfl)
    simp only [Act.put, List.setIfInBounds_toArray, List.set_cons_zero, List.set_cons_succ]
    refine wpAnyH_take (i := 14) (oi := ?o27) (v := ?v27) ?hi27 (by kernel_rfl) (by kernel_rfl) (by kernel_rfl) ?hq27 (Or.inl ⟨?hw27, ?hy27⟩) (by assumption) ?r27
    case hi27 => (simp only [List.getElem?_toArray, List.getElem?_cons_succ, List.getElem?_cons_zero]; exact rfl)
    case hq27 => exact fun _ _ _ h => h
    case hw27 => rfl
    case hy27 => (intro w hSw; (try dsimp only at hSw); go_simp; try exact rfl)
    simp only [Act.put, List.setIfInBounds_toArray, List.set_cons_zero, List.set_cons_succ]
    refine wpAnyH_take (i := 15) (oi := ?o28) (v := ?v28) ?hi28 (by kernel_rfl) (by kernel_rfl) (by kernel_rfl) ?hq28 (Or.inl ⟨?hw28, ?hy28⟩) (by assumption) ?r28
    case hi28 => (simp only [List.getElem?_toArray, List.getElem?_cons_succ, List.getElem?_cons_zero]; exact rfl)
    case hq28 => exact fun _ _ _ h => h
    case hw28 => rfl
    case hy28 => (intro w hSw; (try dsimp only at hSw); go_simp; try exact rfl)
    simp only [Act.put, List.setIfInBounds_toArray, List.set_cons_zero, List.set_cons_succ]
    refine wpAnyH_take (i := 16) (oi := ?o29) (v := ?v29) ?hi29 (by kernel_rfl) (by kernel_rfl) (by kernel_rfl) ?hq29 (Or.inl ⟨?hw29, ?hy29⟩) (by assumption) ?r29
    case hi29 => (simp only [List.getElem?_toArray, List.getElem?_cons_succ, List.getElem?_cons_zero]; exact rfl)
    case hq29 => exact fun _ _ _ h => h
    case hw29 => rfl
    case hy29 => (intro w hSw; (try dsimp only at hSw); go_simp; try exact rfl)
    simp only [Act.put, List.setIfInBounds_toArray, List.set_cons_zero, List.set_cons_succ]
    refine wpAnyH_take (i := 17) (oi := ?o30) (v := ?v30) ?hi30 (by kernel_rfl) (by kernel_rfl) (by kernel_rfl) ?hq30 (Or.inl ⟨?hw30, ?hy30⟩) (by assumption) ?r30
    case hi30 => (simp only [List.getElem?_toArray, List.getElem?_cons_succ, List.getElem?_cons_zero]; exact rfl)
    case hq30 => exact fun _ _ _ h => h
    case hw30 => rfl
    case hy30 => (intro w hSw; (try dsimp only at hSw); go_simp; try exact rfl)
    simp only [Act.put, List.setIfInBounds_toArray, List.set_cons_zero, List.set_cons_succ]
    refine wpAnyH_take (i := 18) (oi := ?o31) (v := ?v31) ?hi31 (by kernel_rfl) (by kernel_rfl) (by kernel_rfl) ?hq31 (Or.inl ⟨?hw31, ?hy31⟩) (by assumption) ?r31
    case hi31 => (simp only [List.getElem?_toArray, List.getElem?_cons_succ, List.getElem?_cons_zero]; exact rfl)
    case hq31 => exact fun _ _ _ h => h
    case hw31 => rfl
    case hy31 => (intro w hSw; (try dsimp only at hSw); go_simp; try exact rfl)
    simp only [Act.put, List.setIfInBounds_toArray, List.set_cons_zero, List.set_cons_succ]
    refine wpAnyH_ready (rs := [19]) (by kernel_rfl) (by simp) ?_
    refine AllReadyH.cons (o := ?o66) ?hi66 (fun K hK => ?_) AllReadyH.nil
    case hi66 => (simp only [List.getElem?_toArray, List.getElem?_cons_succ, List.getElem?_cons_zero]; exact rfl)
    go_simp
    go_at_call 101
    refine KM.out.mono ?_
    rintro e w4 ⟨rfl, F', hp, fp⟩
    have XG : Kept (N ∉ fk t b G v) := ⟨fun hm => NX.out (lf_mem.2 (.inr (.inr hm)))⟩
    have LK := Kept.mk (Lk.booked L.out B.out hp fp)
    have L4 := L.out.blk.bar fp.1 L.out.xB
    have X4 := X.out.bar fp.1 XG.out
    refine hK.out _ _ ⟨L4.cell 0, L4.cell 2, X4.cell 1, X4.cell 2, X4.cell 3, X4.cell 5, X4.cell 6⟩ (fun _ => ?_)
    clear hK K KM hp fp L4 X4 CS
    refine wpAnyH_take (i := 20) (oi := ?o32) (v := ?v32) ?hi32 (by kernel_rfl) (by kernel_rfl) (by kernel_rfl) ?hq32 (Or.inl ⟨?hw32, ?hy32⟩) (by assumption) ?r32
    case hi32 => (simp only [List.getElem?_toArray, List.getElem?_cons_succ, List.getElem?_cons_zero]; exact rfl)
    case hq32 => exact fun _ _ _ h => h
    case hw32 => rfl
    case hy32 => (intro w hSw; (try dsimp only at hSw); go_simp; try exact rfl)
    simp only [Act.put, List.setIfInBounds_toArray, List.set_cons_zero, List.set_cons_succ]
    refine wpAnyH_take (i := 21) (oi := ?o33) (v := ?v33) ?hi33 (by kernel_rfl) (by kernel_rfl) (by kernel_rfl) ?hq33 (Or.inl ⟨?hw33, ?hy33⟩) (by assumption) ?r33
    case hi33 => (simp only [List.getElem?_toArray, List.getElem?_cons_succ, List.getElem?_cons_zero]; exact rfl)
    case hq33 => exact fun _ _ _ h => h
    case hw33 => rfl
    case hy33 => (intro w hSw; (try dsimp only at hSw); go_simp; try exact rfl)
    simp only [Act.put, List.setIfInBounds_toArray, List.set_cons_zero, List.set_cons_succ]
    refine wpAnyH_take (i := 22) (oi := ?o34) (v := ?v34) ?hi34 (by kernel_rfl) (by kernel_rfl) (by kernel_rfl) ?hq34 (Or.inl ⟨?hw34, ?hy34⟩) (by assumption) ?r34
    case hi34 => (simp only [List.getElem?_toArray, List.getElem?_cons_succ, List.getElem?_cons_zero]; exact rfl)
    case hq34 => exact fun _ _ _ h => h
    case hw34 => rfl
    case hy34 => (intro w hSw; (try dsimp only at hSw); go_simp; try exact rfl)
    simp only [Act.put, List.setIfInBounds_toArray, List.set_cons_zero, List.set_cons_succ]
    refine wpAnyH_take (i := 23) (oi := ?o35) (v := ?v35) ?hi35 (by kernel_rfl) (by kernel_rfl) (by kernel_rfl) ?hq35 (Or.inl ⟨?hw35, ?hy35⟩) (by assumption) ?r35
    case hi35 => (simp only [List.getElem?_toArray, List.getElem?_cons_succ, List.getElem?_cons_zero]; exact rfl)
    case hq35 => exact fun _ _ _ h => h
    case hw35 => rfl
    case hy35 => (intro w hSw; (try dsimp only at hSw); go_simp; try exact rfl)
    simp only [Act.put, List.setIfInBounds_toArray, List.set_cons_zero, List.set_cons_succ]
    refine wpAnyH_done (by kernel_rfl) ?_ _
    refine NoPanic.normal ?_
    go_wp2
    go_ret2
    exact ⟨rfl, LK.out⟩
  · clear h b0
    rw [show doL s party ⟨3, dst, asset, amount, id, due, hash, sec⟩ = ((0, (claimB s.b party id sec s.clock).1), (claimB s.b party id sec s.clock).2) from by simp [doL]]
    go_enter Tryz.func76, Tryz.ntmps76
    go_upto_region 1 with (fail)
    generalize (w.alloc (.cells #[.int .i64 3, .int .i64 dst, .int .i64 asset, .int .i64 amount, .int .i64 id, .int .i64 due, .string (strOfNums hash), .string (strOfNums sec)] 65)) = w1 at *
    have x0 := X.out.cell 0; have x1 := X.out.cell 1; have x2 := X.out.cell 2; have x3 := X.out.cell 3; have x4 := X.out.cell 4; have x5 := X.out.cell 5; have x6 := X.out.cell 6; have x7 := X.out.cell 7
    go_upto_region 7 with (fail)
    clear x0 x1 x2 x3 x4 x5 x6 x7
    have CS : ∀ {u : World}, Lp u t x b q G v d s → Blk u N 65 #[.int .i64 3, .int .i64 dst, .int .i64 asset, .int .i64 amount, .int .i64 id, .int .i64 due, .string (strOfNums hash), .string (strOfNums sec)] → u.cell? ⟨x, 0, none⟩ = some (.pointer (some ⟨b, 0, none⟩)) ∧ u.cell? ⟨x, 2, none⟩ = some (.int .i64 s.clock) ∧ u.cell? ⟨N, 4, none⟩ = some (.int .i64 id) ∧ u.cell? ⟨N, 7, none⟩ = some (.string (strOfNums sec)) := fun h k => ⟨h.c0, h.c2, k.cell 4, k.cell 7⟩
    refine wp_region_noPanic ?_
    refine wp_region_held_drew (S := fun u : World => u.cell? ⟨x, 0, none⟩ = some (.pointer (some ⟨b, 0, none⟩)) ∧ u.cell? ⟨x, 2, none⟩ = some (.int .i64 s.clock) ∧ u.cell? ⟨N, 4, none⟩ = some (.int .i64 id) ∧ u.cell? ⟨N, 7, none⟩ = some (.string (strOfNums sec))) (by kernel_rfl) (CS (L.out.below (Below.refl _ _).drew) X.out.drew) (fun _ => ?_)
    replace L := Kept.mk (L.out.below (Below.refl _ w1).drew); replace X := Kept.mk X.out.drew; replace B := Kept.mk B.out.drew
    generalize w1.drew = w2 at *
    have KM := Kept.mk (cclaim_any ⟨G, v, L.out.pk, rfl⟩ party id sec s.clock HB.out.2 HH.out)
    unfold BookPost at KM
    refine wpAnyH_take (i := 0) (oi := ?o36) (v := ?v36) ?hi36 (by kernel_rfl) (by kernel_rfl) (by kernel_rfl) ?hq36 (Or.inl ⟨?hw36, ?hy36⟩) (by assumption) ?r36
    case hi36 => (simp only [List.getElem?_toArray, List.getElem?_cons_zero]; exact rfl)
    case hq36 => exact fun _ _ _ h => h
    case hw36 => rfl
    case hy36 => (intro w hSw; (try dsimp only at hSw); go_simp; try exact rfl)
    simp only [Act.put, List.setIfInBounds_toArray, List.set_cons_zero, List.set_cons_succ]
    refine wpAnyH_take (i := 1) (oi := ?o37) (v := ?v37) ?hi37 (by kernel_rfl) (by kernel_rfl) (by kernel_rfl) ?hq37 (Or.inl ⟨?hw37, ?hy37⟩) (by assumption) ?r37
    case hi37 => (simp only [List.getElem?_toArray, List.getElem?_cons_succ, List.getElem?_cons_zero]; exact rfl)
    case hq37 => exact fun _ _ _ h => h
    case hw37 => rfl
    case hy37 => (intro w hSw; (try dsimp only at hSw); go_simp; try exact rfl)
    simp only [Act.put, List.setIfInBounds_toArray, List.set_cons_zero, List.set_cons_succ]
    refine wpAnyH_take (i := 2) (oi := ?o38) (v := ?v38) ?hi38 (by kernel_rfl) (by kernel_rfl) (by kernel_rfl) ?hq38 (Or.inl ⟨?hw38, ?hy38⟩) (by assumption) ?r38
    case hi38 => (simp only [List.getElem?_toArray, List.getElem?_cons_succ, List.getElem?_cons_zero]; exact rfl)
    case hq38 => exact fun _ _ _ h => h
    case hw38 => rfl
    case hy38 => (intro w hSw; (try dsimp only at hSw); go_simp; try exact rfl)
    simp only [Act.put, List.setIfInBounds_toArray, List.set_cons_zero, List.set_cons_succ]
    refine wpAnyH_take (i := 3) (oi := ?o39) (v := ?v39) ?hi39 (by kernel_rfl) (by kernel_rfl) (by kernel_rfl) ?hq39 (Or.inl ⟨?hw39, ?hy39⟩) (by assumption) ?r39
    case hi39 => (simp only [List.getElem?_toArray, List.getElem?_cons_succ, List.getElem?_cons_zero]; exact rfl)
    case hq39 => exact fun _ _ _ h => h
    case hw39 => rfl
    case hy39 => (intro w hSw; (try dsimp only at hSw); go_simp; try exact rfl)
    simp only [Act.put, List.setIfInBounds_toArray, List.set_cons_zero, List.set_cons_succ]
    refine wpAnyH_take (i := 4) (oi := ?o40) (v := ?v40) ?hi40 (by kernel_rfl) (by kernel_rfl) (by kernel_rfl) ?hq40 (Or.inl ⟨?hw40, ?hy40⟩) (by assumption) ?r40
    case hi40 => (simp only [List.getElem?_toArray, List.getElem?_cons_succ, List.getElem?_cons_zero]; exact rfl)
    case hq40 => exact fun _ _ _ h => h
    case hw40 => rfl
    case hy40 => (intro w hSw; (try dsimp only at hSw); go_simp; try exact rfl)
    simp only [Act.put, List.setIfInBounds_toArray, List.set_cons_zero, List.set_cons_succ]
    refine wpAnyH_take (i := 5) (oi := ?o41) (v := ?v41) ?hi41 (by kernel_rfl) (by kernel_rfl) (by kernel_rfl) ?hq41 (Or.inl ⟨?hw41, ?hy41⟩) (by assumption) ?r41
    case hi41 => (simp only [List.getElem?_toArray, List.getElem?_cons_succ, List.getElem?_cons_zero]; exact rfl)
    case hq41 => exact fun _ _ _ h => h
    case hw41 => rfl
    case hy41 => (intro w hSw; (try dsimp only at hSw); go_simp; try exact rfl)
    simp only [Act.put, List.setIfInBounds_toArray, List.set_cons_zero, List.set_cons_succ]
    refine wpAnyH_take (i := 6) (oi := ?o42) (v := ?v42) ?hi42 (by kernel_rfl) (by kernel_rfl) (by kernel_rfl) ?hq42 (Or.inl ⟨?hw42, ?hy42⟩) (by assumption) ?r42
    case hi42 => (simp only [List.getElem?_toArray, List.getElem?_cons_succ, List.getElem?_cons_zero]; exact rfl)
    case hq42 => exact fun _ _ _ h => h
    case hw42 => rfl
    case hy42 => (intro w hSw; (try dsimp only at hSw); go_simp; try exact rfl)
    simp only [Act.put, List.setIfInBounds_toArray, List.set_cons_zero, List.set_cons_succ]
    refine wpAnyH_take (i := 7) (oi := ?o43) (v := ?v43) ?hi43 (by kernel_rfl) (by kernel_rfl) (by kernel_rfl) ?hq43 (Or.inl ⟨?hw43, ?hy43⟩) (by assumption) ?r43
    case hi43 => (simp only [List.getElem?_toArray, List.getElem?_cons_succ, List.getElem?_cons_zero]; exact rfl)
    case hq43 => exact fun _ _ _ h => h
    case hw43 => rfl
    case hy43 => (intro w hSw; (try dsimp only at hSw); go_simp; try exact rfl)
    simp only [Act.put, List.setIfInBounds_toArray, List.set_cons_zero, List.set_cons_succ]
    refine wpAnyH_take (i := 8) (oi := ?o44) (v := ?v44) ?hi44 (by kernel_rfl) (by kernel_rfl) (by kernel_rfl) ?hq44 (Or.inl ⟨?hw44, ?hy44⟩) (by assumption) ?r44
    case hi44 => (simp only [List.getElem?_toArray, List.getElem?_cons_succ, List.getElem?_cons_zero]; exact rfl)
    case hq44 => exact fun _ _ _ h => h
    case hw44 => rfl
    case hy44 => (intro w hSw; (try dsimp only at hSw); go_simp; try exact rfl)
    simp only [Act.put, List.setIfInBounds_toArray, List.set_cons_zero, List.set_cons_succ]
    refine wpAnyH_take (i := 9) (oi := ?o45) (v := ?v45) ?hi45 (by kernel_rfl) (by kernel_rfl) (by kernel_rfl) ?hq45 (Or.inl ⟨?hw45, ?hy45⟩) (by assumption) ?r45
    case hi45 => (simp only [List.getElem?_toArray, List.getElem?_cons_succ, List.getElem?_cons_zero]; exact rfl)
    case hq45 => exact fun _ _ _ h => h
    case hw45 => rfl
    case hy45 => (intro w hSw; (try dsimp only at hSw); go_simp; try exact rfl)
    simp only [Act.put, List.setIfInBounds_toArray, List.set_cons_zero, List.set_cons_succ]
    refine wpAnyH_take (i := 10) (oi := ?o46) (v := ?v46) ?hi46 (by kernel_rfl) (by kernel_rfl) (by kernel_rfl) ?hq46 (Or.inl ⟨?hw46, ?hy46⟩) (by assumption) ?r46
    case hi46 => (simp only [List.getElem?_toArray, List.getElem?_cons_succ, List.getElem?_cons_zero]; exact rfl)
    case hq46 => exact fun _ _ _ h => h
    case hw46 => rfl
    case hy46 => (intro w hSw; (try dsimp only at hSw); go_simp; try exact rfl)
    simp only [Act.put, List.setIfInBounds_toArray, List.set_cons_zero, List.set_cons_succ]
    refine wpAnyH_take (i := 11) (oi := ?o47) (v := ?v47) ?hi47 (by kernel_rfl) (by kernel_rfl) (by kernel_rfl) ?hq47 (Or.inl ⟨?hw47, ?hy47⟩) (by assumption) ?r47
    case hi47 => (simp only [List.getElem?_toArray, List.getElem?_cons_succ, List.getElem?_cons_zero]; exact rfl)
    case hq47 => exact fun _ _ _ h => h
    case hw47 => rfl
    case hy47 => (intro w hSw; (try dsimp only at hSw); go_simp; try exact rfl)
    simp only [Act.put, List.setIfInBounds_toArray, List.set_cons_zero, List.set_cons_succ]
    refine wpAnyH_take (i := 12) (oi := ?o48) (v := ?v48) ?hi48 (by kernel_rfl) (by kernel_rfl) (by kernel_rfl) ?hq48 (Or.inl ⟨?hw48, ?hy48⟩) (by assumption) ?r48
    case hi48 => (simp only [List.getElem?_toArray, List.getElem?_cons_succ, List.getElem?_cons_zero]; exact rfl)
    case hq48 => exact fun _ _ _ h => h
    case hw48 => rfl
    case hy48 => (intro w hSw; (try dsimp only at hSw); go_simp; try exact rfl)
    simp only [Act.put, List.setIfInBounds_toArray, List.set_cons_zero, List.set_cons_succ]
    refine wpAnyH_ready (rs := [13]) (by kernel_rfl) (by simp) ?_
    refine AllReadyH.cons (o := ?o67) ?hi67 (fun K hK => ?_) AllReadyH.nil
    case hi67 => (simp only [List.getElem?_toArray, List.getElem?_cons_succ, List.getElem?_cons_zero]; exact rfl)
    go_simp
    go_at_call 102
    refine KM.out.mono ?_
    rintro e w4 ⟨rfl, F', hp, fp⟩
    have XG : Kept (N ∉ fk t b G v) := ⟨fun hm => NX.out (lf_mem.2 (.inr (.inr hm)))⟩
    have LK := Kept.mk (Lk.booked L.out B.out hp fp)
    have L4 := L.out.blk.bar fp.1 L.out.xB
    have X4 := X.out.bar fp.1 XG.out
    refine hK.out _ _ ⟨L4.cell 0, L4.cell 2, X4.cell 4, X4.cell 7⟩ (fun _ => ?_)
    clear hK K KM hp fp L4 X4 CS
    refine wpAnyH_take (i := 14) (oi := ?o49) (v := ?v49) ?hi49 (by kernel_rfl) (by kernel_rfl) (by kernel_rfl) ?hq49 (Or.inl ⟨?hw49, ?hy49⟩) (by assumption) ?r49
    case hi49 => (simp only [List.getElem?_toArray, List.getElem?_cons_succ, List.getElem?_cons_zero]; exact rfl)
    case hq49 => exact fun _ _ _ h => h
    case hw49 => rfl
    case hy49 => (intro w hSw; (try dsimp only at hSw); go_simp; try exact rfl)
    simp only [Act.put, List.setIfInBounds_toArray, List.set_cons_zero, List.set_cons_succ]
    refine wpAnyH_take (i := 15) (oi := ?o50) (v := ?v50) ?hi50 (by kernel_rfl) (by kernel_rfl) (by kernel_rfl) ?hq50 (Or.inl ⟨?hw50, ?hy50⟩) (by assumption) ?r50
    case hi50 => (simp only [List.getElem?_toArray, List.getElem?_cons_succ, List.getElem?_cons_zero]; exact rfl)
    case hq50 => exact fun _ _ _ h => h
    case hw50 => rfl
    case hy50 => (intro w hSw; (try dsimp only at hSw); go_simp; try exact rfl)
    simp only [Act.put, List.setIfInBounds_toArray, List.set_cons_zero, List.set_cons_succ]
    refine wpAnyH_done (by kernel_rfl) ?_ _
    refine NoPanic.normal ?_
    go_wp2
    go_ret2
    exact ⟨rfl, LK.out⟩
  · clear h b0
    rw [show doL s party ⟨4, dst, asset, amount, id, due, hash, sec⟩ = ((0, (refundB s.b party id s.clock).1), (refundB s.b party id s.clock).2) from by simp [doL]]
    go_enter Tryz.func76, Tryz.ntmps76
    go_upto_region 1 with (fail)
    generalize (w.alloc (.cells #[.int .i64 4, .int .i64 dst, .int .i64 asset, .int .i64 amount, .int .i64 id, .int .i64 due, .string (strOfNums hash), .string (strOfNums sec)] 65)) = w1 at *
    have x0 := X.out.cell 0; have x1 := X.out.cell 1; have x2 := X.out.cell 2; have x3 := X.out.cell 3; have x4 := X.out.cell 4; have x5 := X.out.cell 5; have x6 := X.out.cell 6; have x7 := X.out.cell 7
    go_upto_region 8 with (fail)
    clear x0 x1 x2 x3 x4 x5 x6 x7
    have CS : ∀ {u : World}, Lp u t x b q G v d s → Blk u N 65 #[.int .i64 4, .int .i64 dst, .int .i64 asset, .int .i64 amount, .int .i64 id, .int .i64 due, .string (strOfNums hash), .string (strOfNums sec)] → u.cell? ⟨x, 0, none⟩ = some (.pointer (some ⟨b, 0, none⟩)) ∧ u.cell? ⟨x, 2, none⟩ = some (.int .i64 s.clock) ∧ u.cell? ⟨N, 4, none⟩ = some (.int .i64 id) := fun h k => ⟨h.c0, h.c2, k.cell 4⟩
    refine wp_region_noPanic ?_
    refine wp_region_held_drew (S := fun u : World => u.cell? ⟨x, 0, none⟩ = some (.pointer (some ⟨b, 0, none⟩)) ∧ u.cell? ⟨x, 2, none⟩ = some (.int .i64 s.clock) ∧ u.cell? ⟨N, 4, none⟩ = some (.int .i64 id)) (by kernel_rfl) (CS (L.out.below (Below.refl _ _).drew) X.out.drew) (fun _ => ?_)
    replace L := Kept.mk (L.out.below (Below.refl _ w1).drew); replace X := Kept.mk X.out.drew; replace B := Kept.mk B.out.drew
    generalize w1.drew = w2 at *
    have KM := Kept.mk (crefund_any ⟨G, v, L.out.pk, rfl⟩ party id s.clock)
    unfold BookPost at KM
    refine wpAnyH_take (i := 0) (oi := ?o51) (v := ?v51) ?hi51 (by kernel_rfl) (by kernel_rfl) (by kernel_rfl) ?hq51 (Or.inl ⟨?hw51, ?hy51⟩) (by assumption) ?r51
    case hi51 => (simp only [List.getElem?_toArray, List.getElem?_cons_zero]; exact rfl)
    case hq51 => exact fun _ _ _ h => h
    case hw51 => rfl
    case hy51 => (intro w hSw; (try dsimp only at hSw); go_simp; try exact rfl)
    simp only [Act.put, List.setIfInBounds_toArray, List.set_cons_zero, List.set_cons_succ]
    refine wpAnyH_take (i := 1) (oi := ?o52) (v := ?v52) ?hi52 (by kernel_rfl) (by kernel_rfl) (by kernel_rfl) ?hq52 (Or.inl ⟨?hw52, ?hy52⟩) (by assumption) ?r52
    case hi52 => (simp only [List.getElem?_toArray, List.getElem?_cons_succ, List.getElem?_cons_zero]; exact rfl)
    case hq52 => exact fun _ _ _ h => h
    case hw52 => rfl
    case hy52 => (intro w hSw; (try dsimp only at hSw); go_simp; try exact rfl)
    simp only [Act.put, List.setIfInBounds_toArray, List.set_cons_zero, List.set_cons_succ]
    refine wpAnyH_take (i := 2) (oi := ?o53) (v := ?v53) ?hi53 (by kernel_rfl) (by kernel_rfl) (by kernel_rfl) ?hq53 (Or.inl ⟨?hw53, ?hy53⟩) (by assumption) ?r53
    case hi53 => (simp only [List.getElem?_toArray, List.getElem?_cons_succ, List.getElem?_cons_zero]; exact rfl)
    case hq53 => exact fun _ _ _ h => h
    case hw53 => rfl
    case hy53 => (intro w hSw; (try dsimp only at hSw); go_simp; try exact rfl)
    simp only [Act.put, List.setIfInBounds_toArray, List.set_cons_zero, List.set_cons_succ]
    refine wpAnyH_take (i := 3) (oi := ?o54) (v := ?v54) ?hi54 (by kernel_rfl) (by kernel_rfl) (by kernel_rfl) ?hq54 (Or.inl ⟨?hw54, ?hy54⟩) (by assumption) ?r54
    case hi54 => (simp only [List.getElem?_toArray, List.getElem?_cons_succ, List.getElem?_cons_zero]; exact rfl)
    case hq54 => exact fun _ _ _ h => h
    case hw54 => rfl
    case hy54 => (intro w hSw; (try dsimp only at hSw); go_simp; try exact rfl)
    simp only [Act.put, List.setIfInBounds_toArray, List.set_cons_zero, List.set_cons_succ]
    refine wpAnyH_take (i := 4) (oi := ?o55) (v := ?v55) ?hi55 (by kernel_rfl) (by kernel_rfl) (by kernel_rfl) ?hq55 (Or.inl ⟨?hw55, ?hy55⟩) (by assumption) ?r55
    case hi55 => (simp only [List.getElem?_toArray, List.getElem?_cons_succ, List.getElem?_cons_zero]; exact rfl)
    case hq55 => exact fun _ _ _ h => h
    case hw55 => rfl
    case hy55 => (intro w hSw; (try dsimp only at hSw); go_simp; try exact rfl)
    simp only [Act.put, List.setIfInBounds_toArray, List.set_cons_zero, List.set_cons_succ]
    refine wpAnyH_take (i := 5) (oi := ?o56) (v := ?v56) ?hi56 (by kernel_rfl) (by kernel_rfl) (by kernel_rfl) ?hq56 (Or.inl ⟨?hw56, ?hy56⟩) (by assumption) ?r56
    case hi56 => (simp only [List.getElem?_toArray, List.getElem?_cons_succ, List.getElem?_cons_zero]; exact rfl)
    case hq56 => exact fun _ _ _ h => h
    case hw56 => rfl
    case hy56 => (intro w hSw; (try dsimp only at hSw); go_simp; try exact rfl)
    simp only [Act.put, List.setIfInBounds_toArray, List.set_cons_zero, List.set_cons_succ]
    refine wpAnyH_take (i := 6) (oi := ?o57) (v := ?v57) ?hi57 (by kernel_rfl) (by kernel_rfl) (by kernel_rfl) ?hq57 (Or.inl ⟨?hw57, ?hy57⟩) (by assumption) ?r57
    case hi57 => (simp only [List.getElem?_toArray, List.getElem?_cons_succ, List.getElem?_cons_zero]; exact rfl)
    case hq57 => exact fun _ _ _ h => h
    case hw57 => rfl
    case hy57 => (intro w hSw; (try dsimp only at hSw); go_simp; try exact rfl)
    simp only [Act.put, List.setIfInBounds_toArray, List.set_cons_zero, List.set_cons_succ]
    refine wpAnyH_take (i := 7) (oi := ?o58) (v := ?v58) ?hi58 (by kernel_rfl) (by kernel_rfl) (by kernel_rfl) ?hq58 (Or.inl ⟨?hw58, ?hy58⟩) (by assumption) ?r58
    case hi58 => (simp only [List.getElem?_toArray, List.getElem?_cons_succ, List.getElem?_cons_zero]; exact rfl)
    case hq58 => exact fun _ _ _ h => h
    case hw58 => rfl
    case hy58 => (intro w hSw; (try dsimp only at hSw); go_simp; try exact rfl)
    simp only [Act.put, List.setIfInBounds_toArray, List.set_cons_zero, List.set_cons_succ]
    refine wpAnyH_take (i := 8) (oi := ?o59) (v := ?v59) ?hi59 (by kernel_rfl) (by kernel_rfl) (by kernel_rfl) ?hq59 (Or.inl ⟨?hw59, ?hy59⟩) (by assumption) ?r59
    case hi59 => (simp only [List.getElem?_toArray, List.getElem?_cons_succ, List.getElem?_cons_zero]; exact rfl)
    case hq59 => exact fun _ _ _ h => h
    case hw59 => rfl
    case hy59 => (intro w hSw; (try dsimp only at hSw); go_simp; try exact rfl)
    simp only [Act.put, List.setIfInBounds_toArray, List.set_cons_zero, List.set_cons_succ]
    refine wpAnyH_take (i := 9) (oi := ?o60) (v := ?v60) ?hi60 (by kernel_rfl) (by kernel_rfl) (by kernel_rfl) ?hq60 (Or.inl ⟨?hw60, ?hy60⟩) (by assumption) ?r60
    case hi60 => (simp only [List.getElem?_toArray, List.getElem?_cons_succ, List.getElem?_cons_zero]; exact rfl)
    case hq60 => exact fun _ _ _ h => h
    case hw60 => rfl
    case hy60 => (intro w hSw; (try dsimp only at hSw); go_simp; try exact rfl)
    simp only [Act.put, List.setIfInBounds_toArray, List.set_cons_zero, List.set_cons_succ]
    refine wpAnyH_take (i := 10) (oi := ?o61) (v := ?v61) ?hi61 (by kernel_rfl) (by kernel_rfl) (by kernel_rfl) ?hq61 (Or.inl ⟨?hw61, ?hy61⟩) (by assumption) ?r61
    case hi61 => (simp only [List.getElem?_toArray, List.getElem?_cons_succ, List.getElem?_cons_zero]; exact rfl)
    case hq61 => exact fun _ _ _ h => h
    case hw61 => rfl
    case hy61 => (intro w hSw; (try dsimp only at hSw); go_simp; try exact rfl)
    simp only [Act.put, List.setIfInBounds_toArray, List.set_cons_zero, List.set_cons_succ]
    refine wpAnyH_ready (rs := [11]) (by kernel_rfl) (by simp) ?_
    refine AllReadyH.cons (o := ?o68) ?hi68 (fun K hK => ?_) AllReadyH.nil
    case hi68 => (simp only [List.getElem?_toArray, List.getElem?_cons_succ, List.getElem?_cons_zero]; exact rfl)
    go_simp
    go_at_call 103
    refine KM.out.mono ?_
    rintro e w4 ⟨rfl, F', hp, fp⟩
    have XG : Kept (N ∉ fk t b G v) := ⟨fun hm => NX.out (lf_mem.2 (.inr (.inr hm)))⟩
    have LK := Kept.mk (Lk.booked L.out B.out hp fp)
    have L4 := L.out.blk.bar fp.1 L.out.xB
    have X4 := X.out.bar fp.1 XG.out
    refine hK.out _ _ ⟨L4.cell 0, L4.cell 2, X4.cell 4⟩ (fun _ => ?_)
    clear hK K KM hp fp L4 X4 CS
    refine wpAnyH_take (i := 12) (oi := ?o62) (v := ?v62) ?hi62 (by kernel_rfl) (by kernel_rfl) (by kernel_rfl) ?hq62 (Or.inl ⟨?hw62, ?hy62⟩) (by assumption) ?r62
    case hi62 => (simp only [List.getElem?_toArray, List.getElem?_cons_succ, List.getElem?_cons_zero]; exact rfl)
    case hq62 => exact fun _ _ _ h => h
    case hw62 => rfl
    case hy62 => (intro w hSw; (try dsimp only at hSw); go_simp; try exact rfl)
    simp only [Act.put, List.setIfInBounds_toArray, List.set_cons_zero, List.set_cons_succ]
    refine wpAnyH_take (i := 13) (oi := ?o63) (v := ?v63) ?hi63 (by kernel_rfl) (by kernel_rfl) (by kernel_rfl) ?hq63 (Or.inl ⟨?hw63, ?hy63⟩) (by assumption) ?r63
    case hi63 => (simp only [List.getElem?_toArray, List.getElem?_cons_succ, List.getElem?_cons_zero]; exact rfl)
    case hq63 => exact fun _ _ _ h => h
    case hw63 => rfl
    case hy63 => (intro w hSw; (try dsimp only at hSw); go_simp; try exact rfl)
    simp only [Act.put, List.setIfInBounds_toArray, List.set_cons_zero, List.set_cons_succ]
    refine wpAnyH_done (by kernel_rfl) ?_ _
    refine NoPanic.normal ?_
    go_wp2
    go_ret2
    exact ⟨rfl, LK.out⟩
end
end Go.Proofs.YtjjonbpgggldmaaGreat.Ledger
