/-
  Parts laid together: LedgerC3.
-/
import Derived.Test.YtchcgoabogcabaaGreatPart19
import Derived.Test.YtchcgoabogcabaaGreatPart8
import Derived.Test.YtchcgoabogcabaaGreatPart26
import Derived.Test.YtchcgoabogcabaaGreatPart17
import Derived.Test.YtchcgoabogcabaaGreatPart28

namespace Go.Proofs.YtchcgoabogcabaaGreat.Ledger
open Go.RowKit Go.Proofs.YtchcgoabogcabaaGreat.Num Go.Proofs.YtchcgoabogcabaaGreat.Sha Go.Proofs.YtchcgoabogcabaaGreat.Purse Go.Proofs.YtchcgoabogcabaaGreat.Escrow Go.Proofs.YtchcgoabogcabaaGreat.Wire Go.Proofs.YtchcgoabogcabaaGreat.Req

section
variable {w : World} {t x b q : Nat} {F G : List Nat} {v d : Value} {s : LS}
theorem move_same {s : PS} {i j a n : Int} (h : (moveP s i j a n).1 ≠ 0) : (moveP s i j a n).2 = s := by
  unfold moveP at h ⊢
  split
  · rename_i h4
    rw [if_pos h4] at h
    split
    · rfl
    · rename_i h5
      rw [if_neg h5] at h
      split
      · rfl
      · rename_i h6
        rw [if_neg h6] at h
        exact absurd rfl h
  · rfl
/-- behind a call of the purse's -/
theorem Lk.purse {w0 w1 w2 : World} {G' : List Nat} {p' : PS} (h : Lp w1 t x b q G v d s) (B : Below w0.heap.size w0 w1) (hp : Pc w2 G' q p') (fp : Fp G G' w1 w2) :
    ∃ F', Lk w2 t F' x ⟨s.cap, ⟨p', s.b.l⟩, s.clock, s.e⟩ ∧ Fp (t :: lf x b G v d) (t :: F') w0 w2 := by
  obtain ⟨k1, k2⟩ := h.pk.purse hp fp
  obtain ⟨k3, k4⟩ := h.book (b' := ⟨p', s.b.l⟩) k1 k2
  exact ⟨_, ⟨b, q, G', v, d, k3, rfl⟩, Fp.trans ⟨barOf B _, fun _ hk => .inl hk⟩ k4⟩
/-- behind a call of the book's -/
theorem Lk.booked {w0 w1 w2 : World} {F' : List Nat} {b' : BS} (h : Lp w1 t x b q G v d s) (B : Below w0.heap.size w0 w1) (hk : Ct t w2 F' b q b') (fp : Fp (fk t b G v) F' w1 w2) :
    ∃ F', Lk w2 t F' x ⟨s.cap, b', s.clock, s.e⟩ ∧ Fp (t :: lf x b G v d) (t :: F') w0 w2 := by
  obtain ⟨G', v', k1, rfl⟩ := hk
  obtain ⟨k3, k4⟩ := h.book (b' := b') k1 fp
  exact ⟨_, ⟨b, q, G', v', d, k3, rfl⟩, Fp.trans ⟨barOf B _, fun _ hk => .inl hk⟩ k4⟩
set_option maxRecDepth 100000 in
set_option maxHeartbeats 2000000 in
theorem transfer_any (party : Int) (r : RV) (h : Lp w t x b q G v d s) : Calls Tryz.prog 97 #[.pointer (some ⟨x, 0, none⟩), .int .i64 party, rqv r] w (StepPost w t (lf x b G v d) x (.int .i64 (transL s party r).1) ⟨s.cap, (transL s party r).2, s.clock, s.e⟩) := by
  obtain ⟨kind, dst, asset, amount, id, due, hash, sec⟩ := r
  unfold rqv
  dsimp only
  obtain ⟨N, hN⟩ : ∃ N, w.heap.size = N := ⟨_, rfl⟩
  have b0 : Below w.heap.size w (w.alloc (.cells #[.int .i64 kind, .int .i64 dst, .int .i64 asset, .int .i64 amount, .int .i64 id, .int .i64 due, .string (strOfNums hash), .string (strOfNums sec)] 65)) := (Below.refl _ _).alloc (Nat.le_refl _) _
  have X : Kept (Blk (w.alloc (.cells #[.int .i64 kind, .int .i64 dst, .int .i64 asset, .int .i64 amount, .int .i64 id, .int .i64 due, .string (strOfNums hash), .string (strOfNums sec)] 65)) N 65 #[.int .i64 kind, .int .i64 dst, .int .i64 asset, .int .i64 amount, .int .i64 id, .int .i64 due, .string (strOfNums hash), .string (strOfNums sec)]) := ⟨Blk.new_at w _ _ N hN.symm⟩
  have B := Kept.mk b0
  have NX : Kept (N ∉ t :: lf x b G v d) := ⟨fun hm => by have := h.lts N hm; omega⟩
  have L := Kept.mk (h.below b0)
  by_cases h0 : amount = 0
  · subst h0
    rw [show transL s party ⟨kind, dst, asset, 0, id, due, hash, sec⟩ = (1, s.b) from if_pos rfl]
    clear h b0
    go_enter Tryz.func97, Tryz.ntmps97
    go_upto_region 1 with (fail)
    generalize (w.alloc (.cells #[.int .i64 kind, .int .i64 dst, .int .i64 asset, .int .i64 0, .int .i64 id, .int .i64 due, .string (strOfNums hash), .string (strOfNums sec)] 65)) = w1 at *
    have x3 := X.out.cell 3
    go_wp2
    go_ret
    exact ⟨rfl, _, ⟨b, q, G, v, d, L.out, rfl⟩, barOf B.out _, fun _ hk => .inl hk⟩
  · have h0' : (amount == 0) = false := beq_eq_false_iff_ne.2 h0
    rw [show transL s party ⟨kind, dst, asset, amount, id, due, hash, sec⟩ = ((moveP s.b.p party dst asset amount).1, ⟨(moveP s.b.p party dst asset amount).2, s.b.l⟩) from if_neg h0]
    clear h b0
    dsimp only
    go_enter Tryz.func97, Tryz.ntmps97
    go_upto_region 1 with (fail)
    generalize (w.alloc (.cells #[.int .i64 kind, .int .i64 dst, .int .i64 asset, .int .i64 amount, .int .i64 id, .int .i64 due, .string (strOfNums hash), .string (strOfNums sec)] 65)) = w1 at *
    have x3 := X.out.cell 3
    go_upto_region 3 with (fail)
    clear x3
    have CS : ∀ {u : World}, Lp u t x b q G v d s → Blk u N 65 #[.int .i64 kind, .int .i64 dst, .int .i64 asset, .int .i64 amount, .int .i64 id, .int .i64 due, .string (strOfNums hash), .string (strOfNums sec)] → u.cell? ⟨x, 0, none⟩ = some (.pointer (some ⟨b, 0, none⟩)) ∧ u.cell? ⟨N, 1, none⟩ = some (.int .i64 dst) ∧ u.cell? ⟨N, 2, none⟩ = some (.int .i64 asset) ∧ u.cell? ⟨N, 3, none⟩ = some (.int .i64 amount) := fun h k => ⟨h.c0, k.cell 1, k.cell 2, k.cell 3⟩
    refine wp_region_noPanic ?_
    refine wp_region_held_drew (S := fun u : World => u.cell? ⟨x, 0, none⟩ = some (.pointer (some ⟨b, 0, none⟩)) ∧ u.cell? ⟨N, 1, none⟩ = some (.int .i64 dst) ∧ u.cell? ⟨N, 2, none⟩ = some (.int .i64 asset) ∧ u.cell? ⟨N, 3, none⟩ = some (.int .i64 amount)) (by kernel_rfl) (CS (L.out.below (Below.refl _ _).drew) X.out.drew) (fun _ => ?_)
    replace L := Kept.mk (L.out.below (Below.refl _ w1).drew); replace X := Kept.mk X.out.drew; replace B := Kept.mk B.out.drew
    generalize w1.drew = w2 at *
    have KP := Kept.mk (cpurse_any L.out.pk)
    refine wpAnyH_take (i := 0) (oi := ?o64) (v := ?v64) ?hi64 (by kernel_rfl) (by kernel_rfl) (by kernel_rfl) ?hq64 (Or.inl ⟨?hw64, ?hy64⟩) (by assumption) ?r64
    case hi64 => (simp only [List.getElem?_toArray, List.getElem?_cons_zero]; exact rfl)
    case hq64 => exact fun _ _ _ h => h
    case hw64 => rfl
    case hy64 => (intro w hSw; (try dsimp only at hSw); go_simp; try exact rfl)
    simp only [Act.put, List.setIfInBounds_toArray, List.set_cons_zero, List.set_cons_succ]
    refine wpAnyH_take (i := 1) (oi := ?o65) (v := ?v65) ?hi65 (by kernel_rfl) (by kernel_rfl) (by kernel_rfl) ?hq65 (Or.inl ⟨?hw65, ?hy65⟩) (by assumption) ?r65
    case hi65 => (simp only [List.getElem?_toArray, List.getElem?_cons_succ, List.getElem?_cons_zero]; exact rfl)
    case hq65 => exact fun _ _ _ h => h
    case hw65 => rfl
    case hy65 => (intro w hSw; (try dsimp only at hSw); go_simp; try exact rfl)
    simp only [Act.put, List.setIfInBounds_toArray, List.set_cons_zero, List.set_cons_succ]
    refine wpAnyH_take (i := 2) (oi := ?o66) (v := ?v66) ?hi66 (by kernel_rfl) (by kernel_rfl) (by kernel_rfl) ?hq66 (Or.inl ⟨?hw66, ?hy66⟩) (by assumption) ?r66
    case hi66 => (simp only [List.getElem?_toArray, List.getElem?_cons_succ, List.getElem?_cons_zero]; exact rfl)
    case hq66 => exact fun _ _ _ h => h
    case hw66 => rfl
    case hy66 => (intro w hSw; (try dsimp only at hSw); go_simp; try exact rfl)
    simp only [Act.put, List.setIfInBounds_toArray, List.set_cons_zero, List.set_cons_succ]
    refine wpAnyH_take (i := 3) (oi := ?o67) (v := ?v67) ?hi67 (by kernel_rfl) (by kernel_rfl) (by kernel_rfl) ?hq67 (Or.inl ⟨?hw67, ?hy67⟩) (by assumption) ?r67
    case hi67 => (simp only [List.getElem?_toArray, List.getElem?_cons_succ, List.getElem?_cons_zero]; exact rfl)
    case hq67 => exact fun _ _ _ h => h
    case hw67 => rfl
    case hy67 => (intro w hSw; (try dsimp only at hSw); go_simp; try exact rfl)
    simp only [Act.put, List.setIfInBounds_toArray, List.set_cons_zero, List.set_cons_succ]
    refine wpAnyH_take (i := 5) (oi := ?o68) (v := ?v68) ?hi68 (by kernel_rfl) (by kernel_rfl) (by kernel_rfl) ?hq68 (Or.inl ⟨?hw68, ?hy68⟩) (by assumption) ?r68
    case hi68 => (simp only [List.getElem?_toArray, List.getElem?_cons_succ, List.getElem?_cons_zero]; exact rfl)
    case hq68 => exact fun _ _ _ h => h
    case hw68 => rfl
    case hy68 => (intro w hSw; (try dsimp only at hSw); go_simp; try exact rfl)
    simp only [Act.put, List.setIfInBounds_toArray, List.set_cons_zero, List.set_cons_succ]
    refine wpAnyH_take (i := 6) (oi := ?o69) (v := ?v69) ?hi69 (by kernel_rfl) (by kernel_rfl) (by kernel_rfl) ?hq69 (Or.inl ⟨?hw69, ?hy69⟩) (by assumption) ?r69
    case hi69 => (simp only [List.getElem?_toArray, List.getElem?_cons_succ, List.getElem?_cons_zero]; exact rfl)
    case hq69 => exact fun _ _ _ h => h
    case hw69 => rfl
    case hy69 => (intro w hSw; (try dsimp only at hSw); go_simp; try exact rfl)
    simp only [Act.put, List.setIfInBounds_toArray, List.set_cons_zero, List.set_cons_succ]
    refine wpAnyH_take (i := 7) (oi := ?o70) (v := ?v70) ?hi70 (by kernel_rfl) (by kernel_rfl) (by kernel_rfl) ?hq70 (Or.inl ⟨?hw70, ?hy70⟩) (by assumption) ?r70
    case hi70 => (simp only [List.getElem?_toArray, List.getElem?_cons_succ, List.getElem?_cons_zero]; exact rfl)
    case hq70 => exact fun _ _ _ h => h
    case hw70 => rfl
    case hy70 => (intro w hSw; (try dsimp only at hSw); go_simp; try exact rfl)
    simp only [Act.put, List.setIfInBounds_toArray, List.set_cons_zero, List.set_cons_succ]
    refine wpAnyH_take (i := 8) (oi := ?o71) (v := ?v71) ?hi71 (by kernel_rfl) (by kernel_rfl) (by kernel_rfl) ?hq71 (Or.inl ⟨?hw71, ?hy71⟩) (by assumption) ?r71
    case hi71 => (simp only [List.getElem?_toArray, List.getElem?_cons_succ, List.getElem?_cons_zero]; exact rfl)
    case hq71 => exact fun _ _ _ h => h
    case hw71 => rfl
    case hy71 => (intro w hSw; (try dsimp only at hSw); go_simp; try exact rfl)
    simp only [Act.put, List.setIfInBounds_toArray, List.set_cons_zero, List.set_cons_succ]
    refine wpAnyH_take (i := 9) (oi := ?o72) (v := ?v72) ?hi72 (by kernel_rfl) (by kernel_rfl) (by kernel_rfl) ?hq72 (Or.inl ⟨?hw72, ?hy72⟩) (by assumption) ?r72
    case hi72 => (simp only [List.getElem?_toArray, List.getElem?_cons_succ, List.getElem?_cons_zero]; exact rfl)
    case hq72 => exact fun _ _ _ h => h
    case hw72 => rfl
    case hy72 => (intro w hSw; (try dsimp only at hSw); go_simp; try exact rfl)
    simp only [Act.put, List.setIfInBounds_toArray, List.set_cons_zero, List.set_cons_succ]
    refine wpAnyH_take (i := 10) (oi := ?o73) (v := ?v73) ?hi73 (by kernel_rfl) (by kernel_rfl) (by kernel_rfl) ?hq73 (Or.inl ⟨?hw73, ?hy73⟩) (by assumption) ?r73
    case hi73 => (simp only [List.getElem?_toArray, List.getElem?_cons_succ, List.getElem?_cons_zero]; exact rfl)
    case hq73 => exact fun _ _ _ h => h
    case hw73 => rfl
    case hy73 => (intro w hSw; (try dsimp only at hSw); go_simp; try exact rfl)
    simp only [Act.put, List.setIfInBounds_toArray, List.set_cons_zero, List.set_cons_succ]
    refine wpAnyH_take (i := 11) (oi := ?o74) (v := ?v74) ?hi74 (by kernel_rfl) (by kernel_rfl) (by kernel_rfl) ?hq74 (Or.inl ⟨?hw74, ?hy74⟩) (by assumption) ?r74
    case hi74 => (simp only [List.getElem?_toArray, List.getElem?_cons_succ, List.getElem?_cons_zero]; exact rfl)
    case hq74 => exact fun _ _ _ h => h
    case hw74 => rfl
    case hy74 => (intro w hSw; (try dsimp only at hSw); go_simp; try exact rfl)
    simp only [Act.put, List.setIfInBounds_toArray, List.set_cons_zero, List.set_cons_succ]
    refine wpAnyH_ready (rs := [4]) (by kernel_rfl) (by simp) ?_
    refine AllReadyH.cons (o := ?o127) ?hi127 (fun K hK => ?_) AllReadyH.nil
    case hi127 => (simp only [List.getElem?_toArray, List.getElem?_cons_succ, List.getElem?_cons_zero]; exact rfl)
    go_simp
    go_at_call 94
    refine KP.out.mono ?_
    rintro e w3 ⟨rfl, rfl⟩
    refine hK.out _ _ (CS L.out X.out) (fun _ => ?_)
    have KM := Kept.mk (move_any party dst asset amount L.out.pk.pc)
    unfold Purse.StepPost at KM
    clear hK K KP
    refine wpAnyH_ready (rs := [12]) (by kernel_rfl) (by simp) ?_
    refine AllReadyH.cons (o := ?o128) ?hi128 (fun K hK => ?_) AllReadyH.nil
    case hi128 => (simp only [List.getElem?_toArray, List.getElem?_cons_succ, List.getElem?_cons_zero]; exact rfl)
    go_simp
    go_at_call 119
    refine KM.out.mono ?_
    rintro e w4 ⟨rfl, G', hp, fp⟩
    have XG : Kept (N ∉ G) := ⟨fun hm => NX.out (by simp [lf, hm])⟩
    have XX : Kept (x ∉ G) := ⟨fun hm => L.out.xB (fk_mem.2 (.inr (.inr (.inr hm))))⟩
    have LK := Kept.mk (Lk.purse L.out B.out hp fp)
    have L4 : w4.cell? ⟨x, 0, none⟩ = some (.pointer (some ⟨b, 0, none⟩)) := (L.out.blk.bar fp.1 XX.out).cell 0
    have X4 := X.out.bar fp.1 XG.out
    refine hK.out _ _ ⟨L4, X4.cell 1, X4.cell 2, X4.cell 3⟩ (fun _ => ?_)
    clear hK K KM hp fp L4 X4 CS
    refine wpAnyH_take (i := 13) (oi := ?o75) (v := ?v75) ?hi75 (by kernel_rfl) (by kernel_rfl) (by kernel_rfl) ?hq75 (Or.inl ⟨?hw75, ?hy75⟩) (by assumption) ?r75
    case hi75 => (simp only [List.getElem?_toArray, List.getElem?_cons_succ, List.getElem?_cons_zero]; exact rfl)
    case hq75 => exact fun _ _ _ h => h
    case hw75 => rfl
    case hy75 => (intro w hSw; (try dsimp only at hSw); go_simp; try exact rfl)
    simp only [Act.put, List.setIfInBounds_toArray, List.set_cons_zero, List.set_cons_succ]
    refine wpAnyH_done (by kernel_rfl) ?_ _
    refine NoPanic.normal ?_
    go_wp2
    go_ret
    exact ⟨rfl, LK.out⟩
set_option maxRecDepth 100000 in
set_option maxHeartbeats 2000000 in
theorem do_any (party : Int) (r : RV) (W : WL s) (hr : r.ok) (hk : r.kind = 1 ∨ r.kind = 2 ∨ r.kind = 3 ∨ r.kind = 4) (h : Lp w t x b q G v d s) : Calls Tryz.prog 73 #[.pointer (some ⟨x, 0, none⟩), .int .i64 party, rqv r] w (StepPost w t (lf x b G v d) x (.tuple #[.int .i64 (doL s party r).1.1, .int .i64 (doL s party r).1.2]) ⟨s.cap, (doL s party r).2, s.clock, s.e⟩) := by
  obtain ⟨kind, dst, asset, amount, id, due, hash, sec⟩ := r
  unfold rqv
  dsimp only
  obtain ⟨N, hN⟩ : ∃ N, w.heap.size = N := ⟨_, rfl⟩
  have b0 : Below w.heap.size w (w.alloc (.cells #[.int .i64 kind, .int .i64 dst, .int .i64 asset, .int .i64 amount, .int .i64 id, .int .i64 due, .string (strOfNums hash), .string (strOfNums sec)] 65)) := (Below.refl _ _).alloc (Nat.le_refl _) _
  have X : Kept (Blk (w.alloc (.cells #[.int .i64 kind, .int .i64 dst, .int .i64 asset, .int .i64 amount, .int .i64 id, .int .i64 due, .string (strOfNums hash), .string (strOfNums sec)] 65)) N 65 #[.int .i64 kind, .int .i64 dst, .int .i64 asset, .int .i64 amount, .int .i64 id, .int .i64 due, .string (strOfNums hash), .string (strOfNums sec)]) := ⟨Blk.new_at w _ _ N hN.symm⟩
  have B := Kept.mk b0
  have NX : Kept (N ∉ t :: lf x b G v d) := ⟨fun hm => by have := h.lts N hm; omega⟩
  have L := Kept.mk (h.below b0)
  dsimp only at hk hr
  have HB : Kept (Bytes hash ∧ Bytes sec) := ⟨hr⟩
  have HL : Kept (s.b.l.length ≤ 100000) := ⟨by have := W.locks; have := W.len; omega⟩
  have HH : Kept (∀ k, k < s.b.l.length → Bytes (atE s.b.l k).hash) := ⟨fun k hk => (W.wb.each k hk).2.2.2.2.2.1⟩
  rcases hk with rfl | rfl | rfl | rfl
  · clear h b0
    rw [show doL s party ⟨1, dst, asset, amount, id, due, hash, sec⟩ = ((0, (transL s party ⟨1, dst, asset, amount, id, due, hash, sec⟩).1), (transL s party ⟨1, dst, asset, amount, id, due, hash, sec⟩).2) from if_pos rfl]
    dsimp only
    go_enter Tryz.func73, Tryz.ntmps73
    go_upto_region 1 with (fail)
    generalize (w.alloc (.cells #[.int .i64 1, .int .i64 dst, .int .i64 asset, .int .i64 amount, .int .i64 id, .int .i64 due, .string (strOfNums hash), .string (strOfNums sec)] 65)) = w1 at *
    have x0 := X.out.cell 0; have x1 := X.out.cell 1; have x2 := X.out.cell 2; have x3 := X.out.cell 3; have x4 := X.out.cell 4; have x5 := X.out.cell 5; have x6 := X.out.cell 6; have x7 := X.out.cell 7
    have KT := transfer_any party ⟨1, dst, asset, amount, id, due, hash, sec⟩ L.out
    unfold StepPost rqv at KT
    dsimp only at KT
    have KT2 := Kept.mk KT
    clear KT
    go_wp2_with fail
    refine KT2.out.mono ?_
    rintro e w2 ⟨rfl, F', hk, fp⟩
    have LK := Kept.mk hk; have FP := Kept.mk (Fp.trans (F := t :: lf x b G v d) (F' := t :: lf x b G v d) ⟨barOf B.out _, fun _ hk => .inl hk⟩ fp)
    clear KT2 hk fp x0 x1 x2 x3 x4 x5 x6 x7
    go_wp2
    go_ret2
    exact ⟨rfl, F', LK.out, FP.out⟩
  · clear h b0
    rw [show doL s party ⟨2, dst, asset, amount, id, due, hash, sec⟩ = lockB s.b party dst asset amount hash due s.clock from by simp [doL]]
    go_enter Tryz.func73, Tryz.ntmps73
    go_upto_region 1 with (fail)
    generalize (w.alloc (.cells #[.int .i64 2, .int .i64 dst, .int .i64 asset, .int .i64 amount, .int .i64 id, .int .i64 due, .string (strOfNums hash), .string (strOfNums sec)] 65)) = w1 at *
    have x0 := X.out.cell 0; have x1 := X.out.cell 1; have x2 := X.out.cell 2; have x3 := X.out.cell 3; have x4 := X.out.cell 4; have x5 := X.out.cell 5; have x6 := X.out.cell 6; have x7 := X.out.cell 7
    go_upto_region 5 with (fail)
    clear x0 x1 x2 x3 x4 x5 x6 x7
    have CS : ∀ {u : World}, Lp u t x b q G v d s → Blk u N 65 #[.int .i64 2, .int .i64 dst, .int .i64 asset, .int .i64 amount, .int .i64 id, .int .i64 due, .string (strOfNums hash), .string (strOfNums sec)] → u.cell? ⟨x, 0, none⟩ = some (.pointer (some ⟨b, 0, none⟩)) ∧ u.cell? ⟨x, 2, none⟩ = some (.int .i64 s.clock) ∧ u.cell? ⟨N, 1, none⟩ = some (.int .i64 dst) ∧ u.cell? ⟨N, 2, none⟩ = some (.int .i64 asset) ∧ u.cell? ⟨N, 3, none⟩ = some (.int .i64 amount) ∧ u.cell? ⟨N, 5, none⟩ = some (.int .i64 due) ∧ u.cell? ⟨N, 6, none⟩ = some (.string (strOfNums hash)) := fun h k => ⟨h.c0, h.c2, k.cell 1, k.cell 2, k.cell 3, k.cell 5, k.cell 6⟩
    refine wp_region_noPanic ?_
    refine wp_region_held_drew (S := fun u : World => u.cell? ⟨x, 0, none⟩ = some (.pointer (some ⟨b, 0, none⟩)) ∧ u.cell? ⟨x, 2, none⟩ = some (.int .i64 s.clock) ∧ u.cell? ⟨N, 1, none⟩ = some (.int .i64 dst) ∧ u.cell? ⟨N, 2, none⟩ = some (.int .i64 asset) ∧ u.cell? ⟨N, 3, none⟩ = some (.int .i64 amount) ∧ u.cell? ⟨N, 5, none⟩ = some (.int .i64 due) ∧ u.cell? ⟨N, 6, none⟩ = some (.string (strOfNums hash))) (by kernel_rfl) (CS (L.out.below (Below.refl _ _).drew) X.out.drew) (fun _ => ?_)
    replace L := Kept.mk (L.out.below (Below.refl _ w1).drew); replace X := Kept.mk X.out.drew; replace B := Kept.mk B.out.drew
    generalize w1.drew = w2 at *
    have KM := Kept.mk (clock_any ⟨G, v, L.out.pk, rfl⟩ party dst asset amount hash due s.clock HL.out)
    unfold LockPost at KM
    refine wpAnyH_take (i := 0) (oi := ?o76) (v := ?v76) ?hi76 (by kernel_rfl) (by kernel_rfl) (by kernel_rfl) ?hq76 (Or.inl ⟨?hw76, ?hy76⟩) (by assumption) ?r76
    case hi76 => (simp only [List.getElem?_toArray, List.getElem?_cons_zero]; exact rfl)
    case hq76 => exact fun _ _ _ h => h
    case hw76 => rfl
    case hy76 => (intro w hSw; (try dsimp only at hSw); go_simp; try exact rfl)
    simp only [Act.put, List.setIfInBounds_toArray, List.set_cons_zero, List.set_cons_succ]
    refine wpAnyH_take (i := 1) (oi := ?o77) (v := ?v77) ?hi77 (by kernel_rfl) (by kernel_rfl) (by kernel_rfl) ?hq77 (Or.inl ⟨?hw77, ?hy77⟩) (by assumption) ?r77
    case hi77 => (simp only [List.getElem?_toArray, List.getElem?_cons_succ, List.getElem?_cons_zero]; exact rfl)
    case hq77 => exact fun _ _ _ h => h
    case hw77 => rfl
    case hy77 => (intro w hSw; (try dsimp only at hSw); go_simp; try exact rfl)
    simp only [Act.put, List.setIfInBounds_toArray, List.set_cons_zero, List.set_cons_succ]
    refine wpAnyH_take (i := 2) (oi := ?o78) (v := ?v78) ?hi78 (by kernel_rfl) (by kernel_rfl) (by kernel_rfl) ?hq78 (Or.inl ⟨?hw78, ?hy78⟩) (by assumption) ?r78
    case hi78 => (simp only [List.getElem?_toArray, List.getElem?_cons_succ, List.getElem?_cons_zero]; exact rfl)
    case hq78 => exact fun _ _ _ h => h
    case hw78 => rfl
    case hy78 => (intro w hSw; (try dsimp only at hSw); go_simp; try exact rfl)
    simp only [Act.put, List.setIfInBounds_toArray, List.set_cons_zero, List.set_cons_succ]
    refine wpAnyH_take (i := 3) (oi := ?o79) (v := ?v79) ?hi79 (by kernel_rfl) (by kernel_rfl) (by kernel_rfl) ?hq79 (Or.inl ⟨?hw79, ?hy79⟩) (by assumption) ?r79
    case hi79 => (simp only [List.getElem?_toArray, List.getElem?_cons_succ, List.getElem?_cons_zero]; exact rfl)
    case hq79 => exact fun _ _ _ h => h
    case hw79 => rfl
    case hy79 => (intro w hSw; (try dsimp only at hSw); go_simp; try exact rfl)
    simp only [Act.put, List.setIfInBounds_toArray, List.set_cons_zero, List.set_cons_succ]
    refine wpAnyH_take (i := 4) (oi := ?o80) (v := ?v80) ?hi80 (by kernel_rfl) (by kernel_rfl) (by kernel_rfl) ?hq80 (Or.inl ⟨?hw80, ?hy80⟩) (by assumption) ?r80
    case hi80 => (simp only [List.getElem?_toArray, List.getElem?_cons_succ, List.getElem?_cons_zero]; exact rfl)
    case hq80 => exact fun _ _ _ h => h
    case hw80 => rfl
    case hy80 => (intro w hSw; (try dsimp only at hSw); go_simp; try exact rfl)
    simp only [Act.put, List.setIfInBounds_toArray, List.set_cons_zero, List.set_cons_succ]
    refine wpAnyH_take (i := 5) (oi := ?o81) (v := ?v81) ?hi81 (by kernel_rfl) (by kernel_rfl) (by kernel_rfl) ?hq81 (Or.inl ⟨?hw81, ?hy81⟩) (by assumption) ?r81
    case hi81 => (simp only [List.getElem?_toArray, List.getElem?_cons_succ, List.getElem?_cons_zero]; exact rfl)
    case hq81 => exact fun _ _ _ h => h
    case hw81 => rfl
    case hy81 => (intro w hSw; (try dsimp only at hSw); go_simp; try exact rfl)
    simp only [Act.put, List.setIfInBounds_toArray, List.set_cons_zero, List.set_cons_succ]
    refine wpAnyH_take (i := 6) (oi := ?o82) (v := ?v82) ?hi82 (by kernel_rfl) (by kernel_rfl) (by kernel_rfl) ?hq82 (Or.inl ⟨?hw82, ?hy82⟩) (by assumption) ?r82
    case hi82 => (simp only [List.getElem?_toArray, List.getElem?_cons_succ, List.getElem?_cons_zero]; exact rfl)
    case hq82 => exact fun _ _ _ h => h
    case hw82 => rfl
    case hy82 => (intro w hSw; (try dsimp only at hSw); go_simp; try exact rfl)
    simp only [Act.put, List.setIfInBounds_toArray, List.set_cons_zero, List.set_cons_succ]
    refine wpAnyH_take (i := 7) (oi := ?o83) (v := ?v83) ?hi83 (by kernel_rfl) (by kernel_rfl) (by kernel_rfl) ?hq83 (Or.inl ⟨?hw83, ?hy83⟩) (by assumption) ?r83
    case hi83 => (simp only [List.getElem?_toArray, List.getElem?_cons_succ, List.getElem?_cons_zero]; exact rfl)
    case hq83 => exact fun _ _ _ h => h
    case hw83 => rfl
    case hy83 => (intro w hSw; (try dsimp only at hSw); go_simp; try exact rfl)
    simp only [Act.put, List.setIfInBounds_toArray, List.set_cons_zero, List.set_cons_succ]
    refine wpAnyH_take (i := 8) (oi := ?o84) (v := ?v84) ?hi84 (by kernel_rfl) (by kernel_rfl) (by kernel_rfl) ?hq84 (Or.inl ⟨?hw84, ?hy84⟩) (by assumption) ?r84
    case hi84 => (simp only [List.getElem?_toArray, List.getElem?_cons_succ, List.getElem?_cons_zero]; exact rfl)
    case hq84 => exact fun _ _ _ h => h
    case hw84 => rfl
    case hy84 => (intro w hSw; (try dsimp only at hSw); go_simp; try exact rfl)
    simp only [Act.put, List.setIfInBounds_toArray, List.set_cons_zero, List.set_cons_succ]
    refine wpAnyH_take (i := 9) (oi := ?o85) (v := ?v85) ?hi85 (by kernel_rfl) (by kernel_rfl) (by kernel_rfl) ?hq85 (Or.inl ⟨?hw85, ?hy85⟩) (by assumption) ?r85
    case hi85 => (simp only [List.getElem?_toArray, List.getElem?_cons_succ, List.getElem?_cons_zero]; exact rfl)
    case hq85 => exact fun _ _ _ h => h
    case hw85 => rfl
    case hy85 => (intro w hSw; (try dsimp only at hSw); go_simp; try exact rfl)
    simp only [Act.put, List.setIfInBounds_toArray, List.set_cons_zero, List.set_cons_succ]
    refine wpAnyH_take (i := 10) (oi := ?o86) (v := ?v86) ?hi86 (by kernel_rfl) (by kernel_rfl) (by kernel_rfl) ?hq86 (Or.inl ⟨?hw86, ?hy86⟩) (by assumption) ?r86
    case hi86 => (simp only [List.getElem?_toArray, List.getElem?_cons_succ, List.getElem?_cons_zero]; exact rfl)
    case hq86 => exact fun _ _ _ h => h
    case hw86 => rfl
    case hy86 => (intro w hSw; (try dsimp only at hSw); go_simp; try exact rfl)
    simp only [Act.put, List.setIfInBounds_toArray, List.set_cons_zero, List.set_cons_succ]
    refine wpAnyH_take (i := 11) (oi := ?o87) (v := ?v87) ?hi87 (by kernel_rfl) (by kernel_rfl) (by kernel_rfl) ?hq87 (Or.inl ⟨?hw87, ?hy87⟩) (by assumption) ?r87
    case hi87 => (simp only [List.getElem?_toArray, List.getElem?_cons_succ, List.getElem?_cons_zero]; exact rfl)
    case hq87 => exact fun _ _ _ h => h
    case hw87 => rfl
    case hy87 => (intro w hSw; (try dsimp only at hSw); go_simp; try exact rfl)
    simp only [Act.put, List.setIfInBounds_toArray, List.set_cons_zero, List.set_cons_succ]
    refine wpAnyH_take (i := 12) (oi := ?o88) (v := ?v88) ?hi88 (by kernel_rfl) (by kernel_rfl) (by kernel_rfl) ?hq88 (Or.inl ⟨?hw88, ?hy88⟩) (by assumption) ?r88
    case hi88 => (simp only [List.getElem?_toArray, List.getElem?_cons_succ, List.getElem?_cons_zero]; exact rfl)
    case hq88 => exact fun _ _ _ h => h
    case hw88 => rfl
    case hy88 => (intro w hSw; (try dsimp only at hSw); go_simp; try exact rfl)
    simp only [Act.put, List.setIfInBounds_toArray, List.set_cons_zero, List.set_cons_succ]
    refine wpAnyH_take (i := 13) (oi := ?o89) (v := ?v89) ?hi89 (by kernel_rfl) (by kernel_rfl) (by kernel_rfl) ?hq89 (Or.inl ⟨?hw89, ?hy89⟩) (by assumption) ?r89
    case hi89 => (simp only [List.getElem?_toArray, List.getElem?_cons_succ, List.getElem?_cons_zero]; exact rfl)
    case hq89 => exact fun _ _ _ h => h
    case hw89 => rfl
    case hy89 => (intro w hSw; (try dsimp only at hSw); go_simp; try exact rfl)
    simp only [Act.put, List.setIfInBounds_toArray, List.set_cons_zero, List.set_cons_succ]
    refine wpAnyH_take (i := 14) (oi := ?o90) (v := ?v90) ?hi90 (by kernel_rfl) (by kernel_rfl) (by kernel_rfl) ?hq90 (Or.inl ⟨?hw90, ?hy90⟩) (by assumption) ?r90
    case hi90 => (simp only [List.getElem?_toArray, List.getElem?_cons_succ, List.getElem?_cons_zero]; exact rfl)
    case hq90 => exact fun _ _ _ h => h
    case hw90 => rfl
    case hy90 => (intro w hSw; (try dsimp only at hSw); go_simp; try exact rfl)
    simp only [Act.put, List.setIfInBounds_toArray, List.set_cons_zero, List.set_cons_succ]
    refine wpAnyH_take (i := 15) (oi := ?o91) (v := ?v91) ?hi91 (by kernel_rfl) (by kernel_rfl) (by kernel_rfl) ?hq91 (Or.inl ⟨?hw91, ?hy91⟩) (by assumption) ?r91
    case hi91 => (simp only [List.getElem?_toArray, List.getElem?_cons_succ, List.getElem?_cons_zero]; exact rfl)
    case hq91 => exact fun _ _ _ h => h
    case hw91 => rfl
    case hy91 => (intro w hSw; (try dsimp only at hSw); go_simp; try exact rfl)
    simp only [Act.put, List.setIfInBounds_toArray, List.set_cons_zero, List.set_cons_succ]
    refine wpAnyH_take (i := 16) (oi := ?o92) (v := ?v92) ?hi92 (by kernel_rfl) (by kernel_rfl) (by kernel_rfl) ?hq92 (Or.inl ⟨?hw92, ?hy92⟩) (by assumption) ?r92
    case hi92 => (simp only [List.getElem?_toArray, List.getElem?_cons_succ, List.getElem?_cons_zero]; exact rfl)
    case hq92 => exact fun _ _ _ h => h
    case hw92 => rfl
    case hy92 => (intro w hSw; (try dsimp only at hSw); go_simp; try exact rfl)
    simp only [Act.put, List.setIfInBounds_toArray, List.set_cons_zero, List.set_cons_succ]
    refine wpAnyH_take (i := 17) (oi := ?o93) (v := ?v93) ?hi93 (by kernel_rfl) (by kernel_rfl) (by kernel_rfl) ?hq93 (Or.inl ⟨?hw93, ?hy93⟩) (by assumption) ?r93
    case hi93 => (simp only [List.getElem?_toArray, List.getElem?_cons_succ, List.getElem?_cons_zero]; exact rfl)
    case hq93 => exact fun _ _ _ h => h
    case hw93 => rfl
    case hy93 => (intro w hSw; (try dsimp only at hSw); go_simp; try exact rfl)
    simp only [Act.put, List.setIfInBounds_toArray, List.set_cons_zero, List.set_cons_succ]
    refine wpAnyH_take (i := 18) (oi := ?o94) (v := ?v94) ?hi94 (by kernel_rfl) (by kernel_rfl) (by kernel_rfl) ?hq94 (Or.inl ⟨?hw94, ?hy94⟩) (by assumption) ?r94
    case hi94 => (simp only [List.getElem?_toArray, List.getElem?_cons_succ, List.getElem?_cons_zero]; exact rfl)
    case hq94 => exact fun _ _ _ h => h
    case hw94 => rfl
    case hy94 => (intro w hSw; (try dsimp only at hSw); go_simp; try exact rfl)
    simp only [Act.put, List.setIfInBounds_toArray, List.set_cons_zero, List.set_cons_succ]
    refine wpAnyH_ready (rs := [19]) (by kernel_rfl) (by simp) ?_
    refine AllReadyH.cons (o := ?o129) ?hi129 (fun K hK => ?_) AllReadyH.nil
    case hi129 => (simp only [List.getElem?_toArray, List.getElem?_cons_succ, List.getElem?_cons_zero]; exact rfl)
    go_simp
    go_at_call 98
    refine KM.out.mono ?_
    rintro e w4 ⟨rfl, F', hp, fp⟩
    have XG : Kept (N ∉ fk t b G v) := ⟨fun hm => NX.out (lf_mem.2 (.inr (.inr hm)))⟩
    have LK := Kept.mk (Lk.booked L.out B.out hp fp)
    have L4 := L.out.blk.bar fp.1 L.out.xB
    have X4 := X.out.bar fp.1 XG.out
    refine hK.out _ _ ⟨L4.cell 0, L4.cell 2, X4.cell 1, X4.cell 2, X4.cell 3, X4.cell 5, X4.cell 6⟩ (fun _ => ?_)
    clear hK K KM hp fp L4 X4 CS
    refine wpAnyH_take (i := 20) (oi := ?o95) (v := ?v95) ?hi95 (by kernel_rfl) (by kernel_rfl) (by kernel_rfl) ?hq95 (Or.inl ⟨?hw95, ?hy95⟩) (by assumption) ?r95
    case hi95 => (simp only [List.getElem?_toArray, List.getElem?_cons_succ, List.getElem?_cons_zero]; exact rfl)
    case hq95 => exact fun _ _ _ h => h
    case hw95 => rfl
    case hy95 => (intro w hSw; (try dsimp only at hSw); go_simp; try exact rfl)
    simp only [Act.put, List.setIfInBounds_toArray, List.set_cons_zero, List.set_cons_succ]
    refine wpAnyH_take (i := 21) (oi := ?o96) (v := ?v96) ?hi96 (by kernel_rfl) (by kernel_rfl) (by kernel_rfl) ?hq96 (Or.inl ⟨?hw96, ?hy96⟩) (by assumption) ?r96
    case hi96 => (simp only [List.getElem?_toArray, List.getElem?_cons_succ, List.getElem?_cons_zero]; exact rfl)
    case hq96 => exact fun _ _ _ h => h
    case hw96 => rfl
    case hy96 => (intro w hSw; (try dsimp only at hSw); go_simp; try exact rfl)
    simp only [Act.put, List.setIfInBounds_toArray, List.set_cons_zero, List.set_cons_succ]
    refine wpAnyH_take (i := 22) (oi := ?o97) (v := ?v97) ?hi97 (by kernel_rfl) (by kernel_rfl) (by kernel_rfl) ?hq97 (Or.inl ⟨?hw97, ?hy97⟩) (by assumption) ?r97
    case hi97 => (simp only [List.getElem?_toArray, List.getElem?_cons_succ, List.getElem?_cons_zero]; exact rfl)
    case hq97 => exact fun _ _ _ h => h
    case hw97 => rfl
    case hy97 => (intro w hSw; (try dsimp only at hSw); go_simp; try exact rfl)
    simp only [Act.put, List.setIfInBounds_toArray, List.set_cons_zero, List.set_cons_succ]
    refine wpAnyH_take (i := 23) (oi := ?o98) (v := ?v98) ?hi98 (by kernel_rfl) (by kernel_rfl) (by kernel_rfl) ?hq98 (Or.inl ⟨?hw98, ?hy98⟩) (by assumption) ?r98
    case hi98 => (simp only [List.getElem?_toArray, List.getElem?_cons_succ, List.getElem?_cons_zero]; exact rfl)
    case hq98 => exact fun _ _ _ h => h
    case hw98 => rfl
    case hy98 => (intro w hSw; (try dsimp only at hSw); go_simp; try exact rfl)
    simp only [Act.put, List.setIfInBounds_toArray, List.set_cons_zero, List.set_cons_succ]
    refine wpAnyH_done (by kernel_rfl) ?_ _
    refine NoPanic.normal ?_
    go_wp2
    go_ret2
    exact ⟨rfl, LK.out⟩
  · clear h b0
    rw [show doL s party ⟨3, dst, asset, amount, id, due, hash, sec⟩ = ((0, (claimB s.b party id sec s.clock).1), (claimB s.b party id sec s.clock).2) from by simp [doL]]
    go_enter Tryz.func73, Tryz.ntmps73
    go_upto_region 1 with (fail)
    generalize (w.alloc (.cells #[.int .i64 3, .int .i64 dst, .int .i64 asset, .int .i64 amount, .int .i64 id, .int .i64 due, .string (strOfNums hash), .string (strOfNums sec)] 65)) = w1 at *
    have x0 := X.out.cell 0; have x1 := X.out.cell 1; have x2 := X.out.cell 2; have x3 := X.out.cell 3; have x4 := X.out.cell 4; have x5 := X.out.cell 5; have x6 := X.out.cell 6; have x7 := X.out.cell 7
    go_upto_region 7 with (fail)
    clear x0 x1 x2 x3 x4 x5 x6 x7
    have CS : ∀ {u : World}, Lp u t x b q G v d s → Blk u N 65 #[.int .i64 3, .int .i64 dst, .int .i64 asset, .int .i64 amount, .int .i64 id, .int .i64 due, .string (strOfNums hash), .string (strOfNums sec)] → u.cell? ⟨x, 0, none⟩ = some (.pointer (some ⟨b, 0, none⟩)) ∧ u.cell? ⟨x, 2, none⟩ = some (.int .i64 s.clock) ∧ u.cell? ⟨N, 4, none⟩ = some (.int .i64 id) ∧ u.cell? ⟨N, 7, none⟩ = some (.string (strOfNums sec)) := fun h k => ⟨h.c0, h.c2, k.cell 4, k.cell 7⟩
    refine wp_region_noPanic ?_
    refine wp_region_held_drew (S := fun u : World => u.cell? ⟨x, 0, none⟩ = some (.pointer (some ⟨b, 0, none⟩)) ∧ u.cell? ⟨x, 2, none⟩ = some (.int .i64 s.clock) ∧ u.cell? ⟨N, 4, none⟩ = some (.int .i64 id) ∧ u.cell? ⟨N, 7, none⟩ = some (.string (strOfNums sec))) (by kernel_rfl) (CS (L.out.below (Below.refl _ _).drew) X.out.drew) (fun _ => ?_)
    replace L := Kept.mk (L.out.below (Below.refl _ w1).drew); replace X := Kept.mk X.out.drew; replace B := Kept.mk B.out.drew
    generalize w1.drew = w2 at *
    have KM := Kept.mk (cclaim_any ⟨G, v, L.out.pk, rfl⟩ party id sec s.clock HB.out.2 HH.out)
    unfold BookPost at KM
    refine wpAnyH_take (i := 0) (oi := ?o99) (v := ?v99) ?hi99 (by kernel_rfl) (by kernel_rfl) (by kernel_rfl) ?hq99 (Or.inl ⟨?hw99, ?hy99⟩) (by assumption) ?r99
    case hi99 => (simp only [List.getElem?_toArray, List.getElem?_cons_zero]; exact rfl)
    case hq99 => exact fun _ _ _ h => h
    case hw99 => rfl
    case hy99 => (intro w hSw; (try dsimp only at hSw); go_simp; try exact rfl)
    simp only [Act.put, List.setIfInBounds_toArray, List.set_cons_zero, List.set_cons_succ]
    refine wpAnyH_take (i := 1) (oi := ?o100) (v := ?v100) ?hi100 (by kernel_rfl) (by kernel_rfl) (by kernel_rfl) ?hq100 (Or.inl ⟨?hw100, ?hy100⟩) (by assumption) ?r100
    case hi100 => (simp only [List.getElem?_toArray, List.getElem?_cons_succ, List.getElem?_cons_zero]; exact rfl)
    case hq100 => exact fun _ _ _ h => h
    case hw100 => rfl
    case hy100 => (intro w hSw; (try dsimp only at hSw); go_simp; try exact rfl)
    simp only [Act.put, List.setIfInBounds_toArray, List.set_cons_zero, List.set_cons_succ]
    refine wpAnyH_take (i := 2) (oi := ?o101) (v := ?v101) ?hi101 (by kernel_rfl) (by kernel_rfl) (by kernel_rfl) ?hq101 (Or.inl ⟨?hw101, ?hy101⟩) (by assumption) ?r101
    case hi101 => (simp only [List.getElem?_toArray, List.getElem?_cons_succ, List.getElem?_cons_zero]; exact rfl)
    case hq101 => exact fun _ _ _ h => h
    case hw101 => rfl
    case hy101 => (intro w hSw; (try dsimp only at hSw); go_simp; try exact rfl)
    simp only [Act.put, List.setIfInBounds_toArray, List.set_cons_zero, List.set_cons_succ]
    refine wpAnyH_take (i := 3) (oi := ?o102) (v := ?v102) ?hi102 (by kernel_rfl) (by kernel_rfl) (by kernel_rfl) ?hq102 (Or.inl ⟨?hw102, ?hy102⟩) (by assumption) ?r102
    case hi102 => (simp only [List.getElem?_toArray, List.getElem?_cons_succ, List.getElem?_cons_zero]; exact rfl)
    case hq102 => exact fun _ _ _ h => h
    case hw102 => rfl
    case hy102 => (intro w hSw; (try dsimp only at hSw); go_simp; try exact rfl)
    simp only [Act.put, List.setIfInBounds_toArray, List.set_cons_zero, List.set_cons_succ]
    refine wpAnyH_take (i := 4) (oi := ?o103) (v := ?v103) ?hi103 (by kernel_rfl) (by kernel_rfl) (by kernel_rfl) ?hq103 (Or.inl ⟨?hw103, ?hy103⟩) (by assumption) ?r103
    case hi103 => (simp only [List.getElem?_toArray, List.getElem?_cons_succ, List.getElem?_cons_zero]; exact rfl)
    case hq103 => exact fun _ _ _ h => h
    case hw103 => rfl
    case hy103 => (intro w hSw; (try dsimp only at hSw); go_simp; try exact rfl)
    simp only [Act.put, List.setIfInBounds_toArray, List.set_cons_zero, List.set_cons_succ]
    refine wpAnyH_take (i := 5) (oi := ?o104) (v := ?v104) ?hi104 (by kernel_rfl) (by kernel_rfl) (by kernel_rfl) ?hq104 (Or.inl ⟨?hw104, ?hy104⟩) (by assumption) ?r104
    case hi104 => (simp only [List.getElem?_toArray, List.getElem?_cons_succ, List.getElem?_cons_zero]; exact rfl)
    case hq104 => exact fun _ _ _ h => h
    case hw104 => rfl
    case hy104 => (intro w hSw; (try dsimp only at hSw); go_simp; try exact rfl)
    simp only [Act.put, List.setIfInBounds_toArray, List.set_cons_zero, List.set_cons_succ]
    refine wpAnyH_take (i := 6) (oi := ?o105) (v := ?v105) ?hi105 (by kernel_rfl) (by kernel_rfl) (by kernel_rfl) ?hq105 (Or.inl ⟨?hw105, ?hy105⟩) (by assumption) ?r105
    case hi105 => (simp only [List.getElem?_toArray, List.getElem?_cons_succ, List.getElem?_cons_zero]; exact rfl)
    case hq105 => exact fun _ _ _ h => h
    case hw105 => rfl
    case hy105 => (intro w hSw; (try dsimp only at hSw); go_simp; try exact rfl)
    simp only [Act.put, List.setIfInBounds_toArray, List.set_cons_zero, List.set_cons_succ]
    refine wpAnyH_take (i := 7) (oi := ?o106) (v := ?v106) ?hi106 (by kernel_rfl) (by kernel_rfl) (by kernel_rfl) ?hq106 (Or.inl ⟨?hw106, ?hy106⟩) (by assumption) ?r106
    case hi106 => (simp only [List.getElem?_toArray, List.getElem?_cons_succ, List.getElem?_cons_zero]; exact rfl)
    case hq106 => exact fun _ _ _ h => h
    case hw106 => rfl
    case hy106 => (intro w hSw; (try dsimp only at hSw); go_simp; try exact rfl)
    simp only [Act.put, List.setIfInBounds_toArray, List.set_cons_zero, List.set_cons_succ]
    refine wpAnyH_take (i := 8) (oi := ?o107) (v := ?v107) ?hi107 (by kernel_rfl) (by kernel_rfl) (by kernel_rfl) ?hq107 (Or.inl ⟨?hw107, ?hy107⟩) (by assumption) ?r107
    case hi107 => (simp only [List.getElem?_toArray, List.getElem?_cons_succ, List.getElem?_cons_zero]; exact rfl)
    case hq107 => exact fun _ _ _ h => h
    case hw107 => rfl
    case hy107 => (intro w hSw; (try dsimp only at hSw); go_simp; try exact rfl)
    simp only [Act.put, List.setIfInBounds_toArray, List.set_cons_zero, List.set_cons_succ]
    refine wpAnyH_take (i := 9) (oi := ?o108) (v := ?v108) ?hi108 (by kernel_rfl) (by kernel_rfl) (by kernel_rfl) ?hq108 (Or.inl ⟨?hw108, ?hy108⟩) (by assumption) ?r108
    case hi108 => (simp only [List.getElem?_toArray, List.getElem?_cons_succ, List.getElem?_cons_zero]; exact rfl)
    case hq108 => exact fun _ _ _ h => h
    case hw108 => rfl
    case hy108 => (intro w hSw; (try dsimp only at hSw); go_simp; try exact rfl)
    simp only [Act.put, List.setIfInBounds_toArray, List.set_cons_zero, List.set_cons_succ]
    refine wpAnyH_take (i := 10) (oi := ?o109) (v := ?v109) ?hi109 (by kernel_rfl) (by kernel_rfl) (by kernel_rfl) ?hq109 (Or.inl ⟨?hw109, ?hy109⟩) (by assumption) ?r109
    case hi109 => (simp only [List.getElem?_toArray, List.getElem?_cons_succ, List.getElem?_cons_zero]; exact rfl)
    case hq109 => exact fun _ _ _ h => h
    case hw109 => rfl
    case hy109 => (intro w hSw; (try dsimp only at hSw); go_simp; try exact rfl)
    simp only [Act.put, List.setIfInBounds_toArray, List.set_cons_zero, List.set_cons_succ]
    refine wpAnyH_take (i := 11) (oi := ?o110) (v := ?v110) ?hi110 (by kernel_rfl) (by kernel_rfl) (by kernel_rfl) ?hq110 (Or.inl ⟨?hw110, ?hy110⟩) (by assumption) ?r110
    case hi110 => (simp only [List.getElem?_toArray, List.getElem?_cons_succ, List.getElem?_cons_zero]; exact rfl)
    case hq110 => exact fun _ _ _ h => h
    case hw110 => rfl
    case hy110 => (intro w hSw; (try dsimp only at hSw); go_simp; try exact rfl)
    simp only [Act.put, List.setIfInBounds_toArray, List.set_cons_zero, List.set_cons_succ]
    refine wpAnyH_take (i := 12) (oi := ?o111) (v := ?v111) ?hi111 (by kernel_rfl) (by kernel_rfl) (by kernel_rfl) ?hq111 (Or.inl ⟨?hw111, ?hy111⟩) (by assumption) ?r111
    case hi111 => (simp only [List.getElem?_toArray, List.getElem?_cons_succ, List.getElem?_cons_zero]; exact rfl)
    case hq111 => exact fun _ _ _ h => h
    case hw111 => rfl
    case hy111 => (intro w hSw; (try dsimp only at hSw); go_simp; try exact rfl)
    simp only [Act.put, List.setIfInBounds_toArray, List.set_cons_zero, List.set_cons_succ]
    refine wpAnyH_ready (rs := [13]) (by kernel_rfl) (by simp) ?_
    refine AllReadyH.cons (o := ?o130) ?hi130 (fun K hK => ?_) AllReadyH.nil
    case hi130 => (simp only [List.getElem?_toArray, List.getElem?_cons_succ, List.getElem?_cons_zero]; exact rfl)
    go_simp
    go_at_call 99
    refine KM.out.mono ?_
    rintro e w4 ⟨rfl, F', hp, fp⟩
    have XG : Kept (N ∉ fk t b G v) := ⟨fun hm => NX.out (lf_mem.2 (.inr (.inr hm)))⟩
    have LK := Kept.mk (Lk.booked L.out B.out hp fp)
    have L4 := L.out.blk.bar fp.1 L.out.xB
    have X4 := X.out.bar fp.1 XG.out
    refine hK.out _ _ ⟨L4.cell 0, L4.cell 2, X4.cell 4, X4.cell 7⟩ (fun _ => ?_)
    clear hK K KM hp fp L4 X4 CS
    refine wpAnyH_take (i := 14) (oi := ?o112) (v := ?v112) ?hi112 (by kernel_rfl) (by kernel_rfl) (by kernel_rfl) ?hq112 (Or.inl ⟨?hw112, ?hy112⟩) (by assumption) ?r112
    case hi112 => (simp only [List.getElem?_toArray, List.getElem?_cons_succ, List.getElem?_cons_zero]; exact rfl)
    case hq112 => exact fun _ _ _ h => h
    case hw112 => rfl
    case hy112 => (intro w hSw; (try dsimp only at hSw); go_simp; try exact rfl)
    simp only [Act.put, List.setIfInBounds_toArray, List.set_cons_zero, List.set_cons_succ]
    refine wpAnyH_take (i := 15) (oi := ?o113) (v := ?v113) ?hi113 (by kernel_rfl) (by kernel_rfl) (by kernel_rfl) ?hq113 (Or.inl ⟨?hw113, ?hy113⟩) (by assumption) ?r113
    case hi113 => (simp only [List.getElem?_toArray, List.getElem?_cons_succ, List.getElem?_cons_zero]; exact rfl)
    case hq113 => exact fun _ _ _ h => h
    case hw113 => rfl
    case hy113 => (intro w hSw; (try dsimp only at hSw); go_simp; try exact rfl)
    simp only [Act.put, List.setIfInBounds_toArray, List.set_cons_zero, List.set_cons_succ]
    refine wpAnyH_done (by kernel_rfl) ?_ _
    refine NoPanic.normal ?_
    go_wp2
    go_ret2
    exact ⟨rfl, LK.out⟩
  · clear h b0
    rw [show doL s party ⟨4, dst, asset, amount, id, due, hash, sec⟩ = ((0, (refundB s.b party id s.clock).1), (refundB s.b party id s.clock).2) from by simp [doL]]
    go_enter Tryz.func73, Tryz.ntmps73
    go_upto_region 1 with (fail)
    generalize (w.alloc (.cells #[.int .i64 4, .int .i64 dst, .int .i64 asset, .int .i64 amount, .int .i64 id, .int .i64 due, .string (strOfNums hash), .string (strOfNums sec)] 65)) = w1 at *
    have x0 := X.out.cell 0; have x1 := X.out.cell 1; have x2 := X.out.cell 2; have x3 := X.out.cell 3; have x4 := X.out.cell 4; have x5 := X.out.cell 5; have x6 := X.out.cell 6; have x7 := X.out.cell 7
    go_upto_region 8 with (fail)
    clear x0 x1 x2 x3 x4 x5 x6 x7
    have CS : ∀ {u : World}, Lp u t x b q G v d s → Blk u N 65 #[.int .i64 4, .int .i64 dst, .int .i64 asset, .int .i64 amount, .int .i64 id, .int .i64 due, .string (strOfNums hash), .string (strOfNums sec)] → u.cell? ⟨x, 0, none⟩ = some (.pointer (some ⟨b, 0, none⟩)) ∧ u.cell? ⟨x, 2, none⟩ = some (.int .i64 s.clock) ∧ u.cell? ⟨N, 4, none⟩ = some (.int .i64 id) := fun h k => ⟨h.c0, h.c2, k.cell 4⟩
    refine wp_region_noPanic ?_
    refine wp_region_held_drew (S := fun u : World => u.cell? ⟨x, 0, none⟩ = some (.pointer (some ⟨b, 0, none⟩)) ∧ u.cell? ⟨x, 2, none⟩ = some (.int .i64 s.clock) ∧ u.cell? ⟨N, 4, none⟩ = some (.int .i64 id)) (by kernel_rfl) (CS (L.out.below (Below.refl _ _).drew) X.out.drew) (fun _ => ?_)
    replace L := Kept.mk (L.out.below (Below.refl _ w1).drew); replace X := Kept.mk X.out.drew; replace B := Kept.mk B.out.drew
    generalize w1.drew = w2 at *
    have KM := Kept.mk (crefund_any ⟨G, v, L.out.pk, rfl⟩ party id s.clock)
    unfold BookPost at KM
    refine wpAnyH_take (i := 0) (oi := ?o114) (v := ?v114) ?hi114 (by kernel_rfl) (by kernel_rfl) (by kernel_rfl) ?hq114 (Or.inl ⟨?hw114, ?hy114⟩) (by assumption) ?r114
    case hi114 => (simp only [List.getElem?_toArray, List.getElem?_cons_zero]; exact rfl)
    case hq114 => exact fun _ _ _ h => h
    case hw114 => rfl
    case hy114 => (intro w hSw; (try dsimp only at hSw); go_simp; try exact rfl)
    simp only [Act.put, List.setIfInBounds_toArray, List.set_cons_zero, List.set_cons_succ]
    refine wpAnyH_take (i := 1) (oi := ?o115) (v := ?v115) ?hi115 (by kernel_rfl) (by kernel_rfl) (by kernel_rfl) ?hq115 (Or.inl ⟨?hw115, ?hy115⟩) (by assumption) ?r115
    case hi115 => (simp only [List.getElem?_toArray, List.getElem?_cons_succ, List.getElem?_cons_zero]; exact rfl)
    case hq115 => exact fun _ _ _ h => h
    case hw115 => rfl
    case hy115 => (intro w hSw; (try dsimp only at hSw); go_simp; try exact rfl)
    simp only [Act.put, List.setIfInBounds_toArray, List.set_cons_zero, List.set_cons_succ]
    refine wpAnyH_take (i := 2) (oi := ?o116) (v := ?v116) ?hi116 (by kernel_rfl) (by kernel_rfl) (by kernel_rfl) ?hq116 (Or.inl ⟨?hw116, ?hy116⟩) (by assumption) ?r116
    case hi116 => (simp only [List.getElem?_toArray, List.getElem?_cons_succ, List.getElem?_cons_zero]; exact rfl)
    case hq116 => exact fun _ _ _ h => h
    case hw116 => rfl
    case hy116 => (intro w hSw; (try dsimp only at hSw); go_simp; try exact rfl)
    simp only [Act.put, List.setIfInBounds_toArray, List.set_cons_zero, List.set_cons_succ]
    refine wpAnyH_take (i := 3) (oi := ?o117) (v := ?v117) ?hi117 (by kernel_rfl) (by kernel_rfl) (by kernel_rfl) ?hq117 (Or.inl ⟨?hw117, ?hy117⟩) (by assumption) ?r117
    case hi117 => (simp only [List.getElem?_toArray, List.getElem?_cons_succ, List.getElem?_cons_zero]; exact rfl)
    case hq117 => exact fun _ _ _ h => h
    case hw117 => rfl
    case hy117 => (intro w hSw; (try dsimp only at hSw); go_simp; try exact rfl)
    simp only [Act.put, List.setIfInBounds_toArray, List.set_cons_zero, List.set_cons_succ]
    refine wpAnyH_take (i := 4) (oi := ?o118) (v := ?v118) ?hi118 (by kernel_rfl) (by kernel_rfl) (by kernel_rfl) ?hq118 (Or.inl ⟨?hw118, ?hy118⟩) (by assumption) ?r118
    case hi118 => (simp only [List.getElem?_toArray, List.getElem?_cons_succ, List.getElem?_cons_zero]; exact rfl)
    case hq118 => exact fun _ _ _ h => h
    case hw118 => rfl
    case hy118 => (intro w hSw; (try dsimp only at hSw); go_simp; try exact rfl)
    simp only [Act.put, List.setIfInBounds_toArray, List.set_cons_zero, List.set_cons_succ]
    refine wpAnyH_take (i := 5) (oi := ?o119) (v := ?v119) ?hi119 (by kernel_rfl) (by kernel_rfl) (by kernel_rfl) ?hq119 (Or.inl ⟨?hw119, ?hy119⟩) (by assumption) ?r119
    case hi119 => (simp only [List.getElem?_toArray, List.getElem?_cons_succ, List.getElem?_cons_zero]; exact rfl)
    case hq119 => exact fun _ _ _ h => h
    case hw119 => rfl
    case hy119 => (intro w hSw; (try dsimp only at hSw); go_simp; try exact rfl)
    simp only [Act.put, List.setIfInBounds_toArray, List.set_cons_zero, List.set_cons_succ]
    refine wpAnyH_take (i := 6) (oi := ?o120) (v := ?v120) ?hi120 (by kernel_rfl) (by kernel_rfl) (by kernel_rfl) ?hq120 (Or.inl ⟨?hw120, ?hy120⟩) (by assumption) ?r120
    case hi120 => (simp only [List.getElem?_toArray, List.getElem?_cons_succ, List.getElem?_cons_zero]; exact rfl)
    case hq120 => exact fun _ _ _ h => h
    case hw120 => rfl
    case hy120 => (intro w hSw; (try dsimp only at hSw); go_simp; try exact rfl)
    simp only [Act.put, List.setIfInBounds_toArray, List.set_cons_zero, List.set_cons_succ]
    refine wpAnyH_take (i := 7) (oi := ?o121) (v := ?v121) ?hi121 (by kernel_rfl) (by kernel_rfl) (by kernel_rfl) ?hq121 (Or.inl ⟨?hw121, ?hy121⟩) (by assumption) ?r121
    case hi121 => (simp only [List.getElem?_toArray, List.getElem?_cons_succ, List.getElem?_cons_zero]; exact rfl)
    case hq121 => exact fun _ _ _ h => h
    case hw121 => rfl
    case hy121 => (intro w hSw; (try dsimp only at hSw); go_simp; try exact rfl)
    simp only [Act.put, List.setIfInBounds_toArray, List.set_cons_zero, List.set_cons_succ]
    refine wpAnyH_take (i := 8) (oi := ?o122) (v := ?v122) ?hi122 (by kernel_rfl) (by kernel_rfl) (by kernel_rfl) ?hq122 (Or.inl ⟨?hw122, ?hy122⟩) (by assumption) ?r122
    case hi122 => (simp only [List.getElem?_toArray, List.getElem?_cons_succ, List.getElem?_cons_zero]; exact rfl)
    case hq122 => exact fun _ _ _ h => h
    case hw122 => rfl
    case hy122 => (intro w hSw; (try dsimp only at hSw); go_simp; try exact rfl)
    simp only [Act.put, List.setIfInBounds_toArray, List.set_cons_zero, List.set_cons_succ]
    refine wpAnyH_take (i := 9) (oi := ?o123) (v := ?v123) ?hi123 (by kernel_rfl) (by kernel_rfl) (by kernel_rfl) ?hq123 (Or.inl ⟨?hw123, ?hy123⟩) (by assumption) ?r123
    case hi123 => (simp only [List.getElem?_toArray, List.getElem?_cons_succ, List.getElem?_cons_zero]; exact rfl)
    case hq123 => exact fun _ _ _ h => h
    case hw123 => rfl
    case hy123 => (intro w hSw; (try dsimp only at hSw); go_simp; try exact rfl)
    simp only [Act.put, List.setIfInBounds_toArray, List.set_cons_zero, List.set_cons_succ]
    refine wpAnyH_take (i := 10) (oi := ?o124) (v := ?v124) ?hi124 (by kernel_rfl) (by kernel_rfl) (by kernel_rfl) ?hq124 (Or.inl ⟨?hw124, ?hy124⟩) (by assumption) ?r124
    case hi124 => (simp only [List.getElem?_toArray, List.getElem?_cons_succ, List.getElem?_cons_zero]; exact rfl)
    case hq124 => exact fun _ _ _ h => h
    case hw124 => rfl
    case hy124 => (intro w hSw; (try dsimp only at hSw); go_simp; try exact rfl)
    simp only [Act.put, List.setIfInBounds_toArray, List.set_cons_zero, List.set_cons_succ]
    refine wpAnyH_ready (rs := [11]) (by kernel_rfl) (by simp) ?_
    refine AllReadyH.cons (o := ?o131) ?hi131 (fun K hK => ?_) AllReadyH.nil
    case hi131 => (simp only [List.getElem?_toArray, List.getElem?_cons_succ, List.getElem?_cons_zero]; exact rfl)
    go_simp
    go_at_call 100
    refine KM.out.mono ?_
    rintro e w4 ⟨rfl, F', hp, fp⟩
    have XG : Kept (N ∉ fk t b G v) := ⟨fun hm => NX.out (lf_mem.2 (.inr (.inr hm)))⟩
    have LK := Kept.mk (Lk.booked L.out B.out hp fp)
    have L4 := L.out.blk.bar fp.1 L.out.xB
    have X4 := X.out.bar fp.1 XG.out
    refine hK.out _ _ ⟨L4.cell 0, L4.cell 2, X4.cell 4⟩ (fun _ => ?_)
    clear hK K KM hp fp L4 X4 CS
    refine wpAnyH_take (i := 12) (oi := ?o125) (v := ?v125) ?hi125 (by kernel_rfl) (by kernel_rfl) (by kernel_rfl) ?hq125 (Or.inl ⟨?hw125, ?hy125⟩) (by assumption) ?r125
    case hi125 => (simp only [List.getElem?_toArray, List.getElem?_cons_succ, List.getElem?_cons_zero]; exact rfl)
    case hq125 => exact fun _ _ _ h => h
    case hw125 => rfl
    case hy125 => (intro w hSw; (try dsimp only at hSw); go_simp; try exact rfl)
    simp only [Act.put, List.setIfInBounds_toArray, List.set_cons_zero, List.set_cons_succ]
    refine wpAnyH_take (i := 13) (oi := ?o126) (v := ?v126) ?hi126 (by kernel_rfl) (by kernel_rfl) (by kernel_rfl) ?hq126 (Or.inl ⟨?hw126, ?hy126⟩) (by assumption) ?r126
    case hi126 => (simp only [List.getElem?_toArray, List.getElem?_cons_succ, List.getElem?_cons_zero]; exact rfl)
    case hq126 => exact fun _ _ _ h => h
    case hw126 => rfl
    case hy126 => (intro w hSw; (try dsimp only at hSw); go_simp; try exact rfl)
    simp only [Act.put, List.setIfInBounds_toArray, List.set_cons_zero, List.set_cons_succ]
    refine wpAnyH_done (by kernel_rfl) ?_ _
    refine NoPanic.normal ?_
    go_wp2
    go_ret2
    exact ⟨rfl, LK.out⟩
end
end Go.Proofs.YtchcgoabogcabaaGreat.Ledger
