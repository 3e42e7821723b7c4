/-
  The document's line: Send, Again.
-/
import Derived.Test.YtfioaofmmplgcaaTakesW
import Derived.Test.YtfioaofmmplgcaaLineR1
import Derived.Test.YtfioaofmmplgcaaLasts
import Derived.Test.YtfioaofmmplgcaaTakesW
namespace Go.Proofs.Ytfioaofmmplgcaa.Line
open Go.RowKit Go.Proofs.Ytfioaofmmplgcaa.Sha Go.Proofs.Ytfioaofmmplgcaa.Seal

section
variable {N x : Nat} {w : World} {v : LV}
set_option maxRecDepth 100000 in
set_option maxHeartbeats 1000000 in
theorem ragain_any (h : Ln cellsR 41 N w x v) : Calls Try.prog 15 #[.pointer (some ⟨x, 0, none⟩)] w (NoteP cellsR 41 N x (againN v) (.bool v.busy) v w) := by
  have LN := Kept.mk h
  obtain ⟨-, -, hN, A, l, c, k, -⟩ := h
  have hxR := k.lt
  obtain ⟨p, h, s, q, bd⟩ := v
  dsimp only [cellsR] at *
  obtain ⟨R, hR⟩ : ∃ R, w.heap.size = R := ⟨_, rfl⟩
  have b1 : Below w.heap.size w (w.alloc (.cells #[.int .i64 0, .int .i64 0, .int .i64 0, .int .i64 0, .slice none 0 0] 31)) := (Below.refl _ _).alloc (Nat.le_refl _) _
  have Z := Kept.mk (Blk.new_at w 31 #[.int .i64 0, .int .i64 0, .int .i64 0, .int .i64 0, .slice none 0 0] R hR.symm)
  have X := Kept.mk (k.below b1 k.lt); have L1 := Kept.mk (LN.out.below b1)
  have B : Kept (Bar [x] w (w.alloc (.cells #[.int .i64 0, .int .i64 0, .int .i64 0, .int .i64 0, .slice none 0 0] 31))) := ⟨barOf b1 _⟩
  have hRw : Kept (w.heap.size ≤ R) := ⟨by omega⟩
  have xR : x ≠ R := by omega
  clear k b1 LN
  go_enter Try.func15, Try.ntmps15
  go_upto_region 1 with (fail)
  generalize w.alloc (.cells #[.int .i64 0, .int .i64 0, .int .i64 0, .int .i64 0, .slice none 0 0] 31) = w1 at *
  have c5 : w1.cell? ⟨x, 3, none⟩ = some (.bool q) := X.out.cell 3
  cases q with
  | false =>
    have z0 := Z.out.cell 0; have z1 := Z.out.cell 1; have z2 := Z.out.cell 2; have z3 := Z.out.cell 3; have z4 := Z.out.cell 4
    have q0 := Z.out.frozen 0; have q1 := Z.out.frozen 1; have q2 := Z.out.frozen 2; have q3 := Z.out.frozen 3; have q4 := Z.out.frozen 4
    have P5 := Kept.mk (put5 Z.out (.int .i64 0) (.int .i64 0) (.int .i64 0) (.int .i64 0) (.slice none 0 0))
    have PF : Kept (NoteP cellsR 41 N x (againN ⟨p, h, s, false, bd⟩) (.bool false) ⟨p, h, s, false, bd⟩ w (.returned (.tuple #[.agg #[.int .i64 0, .int .i64 0, .int .i64 0, .int .i64 0, .slice none 0 0], .bool false])) (((((w1.setCell ⟨R, 0, none⟩ (.int .i64 0)).setCell ⟨R, 1, none⟩ (.int .i64 0)).setCell ⟨R, 2, none⟩ (.int .i64 0)).setCell ⟨R, 3, none⟩ (.int .i64 0)).setCell ⟨R, 4, none⟩ (.slice none 0 0))) :=
      ⟨none, 0, 0, rfl, by omega, by omega, Rd.nil_, newA_none _, L1.out.keep P5.out.2 Z.out xR (by decide), B.out.trans P5.out.2 (by intro k hk; rw [List.mem_singleton] at hk; subst hk; exact .inr hRw.out)⟩
    go_wp2
    (try simp only [Exit.inBlock, Exit.then])
    refine bodyPost_ret (Seal.results_cell_tmp rfl _ _ R 31 #[.int .i64 0, .int .i64 0, .int .i64 0, .int .i64 0, .slice none 0 0] (0, 0) _ rfl P5.out.1 Try.underlying31 rfl note_size) rfl ?_
    exact PF.out
  | true =>
    have CN := Kept.mk (rnote_any L1.out rfl)
    have hlt := L1.out.lt
    have hRlt := Z.out.lt
    unfold OwnP at CN
    go_wp2_with fail
    refine CN.out.mono ?_
    rintro e w2 ⟨A2, l2, c2, rfl, g1, g2, r2, n2, l3, b2⟩
    have fR : Off A2 l2 [R] := newA_off n2 r2 (by simpa using hRlt)
    replace Z := Kept.mk (Z.out.below b2 Z.out.lt)
    have z0 := Z.out.cell 0; have z1 := Z.out.cell 1; have z2 := Z.out.cell 2; have z3 := Z.out.cell 3; have z4 := Z.out.cell 4
    have q0 := Z.out.frozen 0; have q1 := Z.out.frozen 1; have q2 := Z.out.frozen 2; have q3 := Z.out.frozen 3; have q4 := Z.out.frozen 4
    have P5 := Kept.mk (put5 Z.out (.int .i64 p) (.int .i64 h) (.int .i64 0) (.int .i64 s) (.slice A2 l2 c2))
    have PF : Kept (NoteP cellsR 41 N x (againN ⟨p, h, s, true, bd⟩) (.bool true) ⟨p, h, s, true, bd⟩ w (.returned (.tuple #[.agg #[.int .i64 p, .int .i64 h, .int .i64 0, .int .i64 s, .slice A2 l2 c2], .bool true])) (((((w2.setCell ⟨R, 0, none⟩ (.int .i64 p)).setCell ⟨R, 1, none⟩ (.int .i64 h)).setCell ⟨R, 2, none⟩ (.int .i64 0)).setCell ⟨R, 3, none⟩ (.int .i64 s)).setCell ⟨R, 4, none⟩ (.slice A2 l2 c2))) :=
      ⟨A2, l2, c2, rfl, g1, g2, r2.far P5.out.2 fR, fun g o e => Nat.le_trans B.out.size (n2 g o e), l3.keep P5.out.2 Z.out xR (by decide), (B.out.trans (barOf b2 []) (by simp)).trans P5.out.2 (by intro k hk; rw [List.mem_singleton] at hk; subst hk; exact .inr hRw.out)⟩
    clear r2 n2 l3 b2 fR
    go_wp2
    (try simp only [Exit.inBlock, Exit.then])
    refine bodyPost_ret (Seal.results_cell_tmp rfl _ _ R 31 #[.int .i64 p, .int .i64 h, .int .i64 0, .int .i64 s, .slice A2 l2 c2] (0, 0) _ rfl P5.out.1 Try.underlying31 rfl note_size) rfl ?_
    exact PF.out
set_option maxRecDepth 100000 in
set_option maxHeartbeats 2000000 in
theorem rsend_any {Ab : Option Addr} {n cb : Nat} {b : List Int} (h : Ln cellsR 41 N w x v) (hb : Rd w Ab n b) (hn : n < 2147483648) (ho : Off Ab n [x]) : Calls Try.prog 12 #[.pointer (some ⟨x, 0, none⟩), .slice Ab n cb] w (NoteP cellsR 41 N x (sendN v b) (.int .i64 (sendE v)) (sendL v b) w) := by
  have LN := Kept.mk h
  obtain ⟨hs, -, hN, A, l, c, k, -⟩ := h
  have hxR := k.lt
  obtain ⟨p, h, s, q, bd⟩ := v
  dsimp only [cellsR] at *
  obtain ⟨R, hR⟩ : ∃ R, w.heap.size = R := ⟨_, rfl⟩
  have b1 : Below w.heap.size w (w.alloc (.cells #[.int .i64 0, .int .i64 0, .int .i64 0, .int .i64 0, .slice none 0 0] 31)) := (Below.refl _ _).alloc (Nat.le_refl _) _
  have Z := Kept.mk (Blk.new_at w 31 #[.int .i64 0, .int .i64 0, .int .i64 0, .int .i64 0, .slice none 0 0] R hR.symm)
  have X := Kept.mk (k.below b1 k.lt); have L1 := Kept.mk (LN.out.below b1); have D := Kept.mk (hb.below b1)
  have B : Kept (Bar [x] w (w.alloc (.cells #[.int .i64 0, .int .i64 0, .int .i64 0, .int .i64 0, .slice none 0 0] 31))) := ⟨barOf b1 _⟩
  have hRw : Kept (w.heap.size ≤ R) := ⟨by omega⟩
  have xR : x ≠ R := by omega
  have HO := Kept.mk ho
  clear k b1 LN hb ho
  go_enter Try.func12, Try.ntmps12
  go_upto_region 1 with (fail)
  generalize w.alloc (.cells #[.int .i64 0, .int .i64 0, .int .i64 0, .int .i64 0, .slice none 0 0] 31) = w1 at *
  have c5 : w1.cell? ⟨x, 3, none⟩ = some (.bool q) := X.out.cell 3
  have c3 : w1.cell? ⟨x, 2, none⟩ = some (.int .i64 s) := X.out.cell 2
  have P5 := Kept.mk (put5 Z.out (.int .i64 0) (.int .i64 0) (.int .i64 0) (.int .i64 0) (.slice none 0 0))
  have PZ : Kept (∀ u, sendE ⟨p, h, s, q, bd⟩ = u → u ≠ 0 → NoteP cellsR 41 N x (sendN ⟨p, h, s, q, bd⟩ b) (.int .i64 u) (sendL ⟨p, h, s, q, bd⟩ b) w (.returned (.tuple #[.agg #[.int .i64 0, .int .i64 0, .int .i64 0, .int .i64 0, .slice none 0 0], .int .i64 u])) (((((w1.setCell ⟨R, 0, none⟩ (.int .i64 0)).setCell ⟨R, 1, none⟩ (.int .i64 0)).setCell ⟨R, 2, none⟩ (.int .i64 0)).setCell ⟨R, 3, none⟩ (.int .i64 0)).setCell ⟨R, 4, none⟩ (.slice none 0 0))) := ⟨fun u hu h0 => by
    unfold sendN sendL; rw [hu, if_neg h0, if_neg h0]
    exact ⟨none, 0, 0, rfl, by omega, by omega, Rd.nil_, newA_none _, L1.out.keep P5.out.2 Z.out xR (by decide), B.out.trans P5.out.2 (by intro k hk; rw [List.mem_singleton] at hk; subst hk; exact .inr hRw.out)⟩⟩
  have z0 := Z.out.cell 0; have z1 := Z.out.cell 1; have z2 := Z.out.cell 2; have z3 := Z.out.cell 3; have z4 := Z.out.cell 4
  have q0 := Z.out.frozen 0; have q1 := Z.out.frozen 1; have q2 := Z.out.frozen 2; have q3 := Z.out.frozen 3; have q4 := Z.out.frozen 4
  cases q with
  | true =>
    have hE : sendE ⟨p, h, s, true, bd⟩ = 6 := by simp [sendE]
    have PF := Kept.mk (PZ.out 6 hE (by decide))
    go_wp2
    (try simp only [Exit.inBlock, Exit.then])
    refine bodyPost_ret (Seal.results_cell_tmp rfl _ _ R 31 #[.int .i64 0, .int .i64 0, .int .i64 0, .int .i64 0, .slice none 0 0] (0, 0) _ rfl P5.out.1 Try.underlying31 rfl note_size) rfl ?_
    rw [hE]; exact PF.out
  | false =>
    by_cases hm : s = 4294967295
    · have hE : sendE ⟨p, h, s, false, bd⟩ = 1 := by simp [sendE, hm]
      have PF := Kept.mk (PZ.out 1 hE (by decide))
      go_wp2
      (try simp only [Exit.inBlock, Exit.then])
      refine bodyPost_ret (Seal.results_cell_tmp rfl _ _ R 31 #[.int .i64 0, .int .i64 0, .int .i64 0, .int .i64 0, .slice none 0 0] (0, 0) _ rfl P5.out.1 Try.underlying31 rfl note_size) rfl ?_
      rw [hE]; exact PF.out
    · have hE : sendE ⟨p, h, s, false, bd⟩ = 0 := by simp [sendE, hm]
      have hsm : ((4294967295 : Int) ≤ s) = False := eq_false (by omega)
      have PE : Kept (∀ (A' : Option Addr) (l' c' : Nat) (w' : World), l' ≤ c' → c' ≤ 9223372036854775807 → Rd w' A' l' b → NewA w A' → Ln cellsR 41 N w' x ⟨p, h, s + 1, true, b⟩ → Bar [x] w w' → NoteP cellsR 41 N x (sendN ⟨p, h, s, false, bd⟩ b) (.int .i64 (sendE ⟨p, h, s, false, bd⟩)) (sendL ⟨p, h, s, false, bd⟩ b) w (.returned (.tuple #[.agg #[.int .i64 p, .int .i64 h, .int .i64 0, .int .i64 (s + 1), .slice A' l' c'], .int .i64 0])) w') := ⟨fun A' l' c' w' k1 k2 k3 k4 k5 k6 => by
        unfold sendN sendL; rw [hE, if_pos rfl, if_pos rfl]
        exact ⟨A', l', c', rfl, k1, k2, k3, k4, k5, k6⟩⟩
      have hs1 : 0 ≤ s + 1 ∧ s + 1 ≤ 4294967295 := by omega
      clear P5 PZ z0 z1 z2 z3 z4 q0 q1 q2 q3 q4 hE hm
      go_upto_region 5 with (fail)
      have hS0 : (fun w' : World => w'.cell? ⟨x, 2, none⟩ = some (.int .i64 s)) w1.drew := X.out.cell 2
      have b2 : Below w1.heap.size w1 w1.drew := (Below.refl _ _).drew
      replace X := Kept.mk (X.out.below b2 X.out.lt); replace Z := Kept.mk (Z.out.below b2 Z.out.lt); replace D := Kept.mk (D.out.below b2)
      replace B := Kept.mk (B.out.trans (barOf b2 []) (by simp))
      clear b2 c3 c5 L1 hsm
      have WR : IntKind.i64.wrap (s + 1) = s + 1 := by simp only [IntKind.wrap_i64]; omega
      refine wp_region_noPanic ?_
      refine wp_region_W [12, 15, 18] (S := fun w' : World => w'.cell? ⟨x, 2, none⟩ = some (.int .i64 s)) (by kernel_rfl) hS0 (fun hS9 => ?_)
      clear hS0
      generalize w1.drew = w2 at *
      refine frW 0 (fun _ => by assumption) ?_
      simp only [Act.put, List.setIfInBounds_toArray, List.set_cons_zero, List.set_cons_succ]
      refine frW 1 (fun _ => by assumption) ?_
      simp only [Act.put, List.setIfInBounds_toArray, List.set_cons_zero, List.set_cons_succ]
      refine frW 2 (fun _ => by assumption) ?_
      simp only [Act.put, List.setIfInBounds_toArray, List.set_cons_zero, List.set_cons_succ]
      refine frW 3 (fun _ => by assumption) ?_
      simp only [Act.put, List.setIfInBounds_toArray, List.set_cons_zero, List.set_cons_succ]
      refine frW 4 (fun _ => by assumption) ?_
      simp only [Act.put, List.setIfInBounds_toArray, List.set_cons_zero, List.set_cons_succ]
      refine frW 5 (fun _ => by assumption) ?_
      simp only [Act.put, List.setIfInBounds_toArray, List.set_cons_zero, List.set_cons_succ]
      refine tkW 6 (by assumption) ?_
      simp only [Act.put, List.setIfInBounds_toArray, List.set_cons_zero, List.set_cons_succ]
      refine frW 7 (fun _ => by assumption) ?_
      simp only [Act.put, List.setIfInBounds_toArray, List.set_cons_zero, List.set_cons_succ]
      refine frW 8 (fun _ => by assumption) ?_
      simp only [Act.put, List.setIfInBounds_toArray, List.set_cons_zero, List.set_cons_succ]
      clear WR
      refine ldW 9 (fun K hK => ?_)
      go_simp
      go_at_call 24
      refine (copy_any Ab n cb b w2 D.out hn).mono ?_
      rintro e w3 ⟨u, rfl, o3, b3⟩
      obtain ⟨A3, k3, rfl⟩ := own_shape o3
      have hby := D.out.2.1
      have hbl : b.length < 2147483648 := by rw [D.out.1]; exact hn
      have hRw2 : R < w2.heap.size := Z.out.lt
      have hxw2 : x < w2.heap.size := X.out.lt
      have o4 : w3.ownsRow N 5 1 (.slice A3 n k3) n (ints .u8 b) := own_down o3 (by omega)
      have hf : ∀ g ∈ (Value.slice A3 n k3).ownBlock.toList, g ∉ [x, R] := fun g hg hm => by
        have := (o3.lt g (by simpa using hg)).1
        simp at hm; omega
      replace X := Kept.mk (X.out.below b3 X.out.lt); replace Z := Kept.mk (Z.out.below b3 Z.out.lt)
      replace B := Kept.mk (B.out.trans (barOf b3 []) (by simp))
      clear o3 b3 D
      have O := Kept.mk o4; have HF := Kept.mk hf
      clear o4 hf hn HO
      refine hK.out _ _ (fun _ => X.out.cell 2) (fun _ => ?_)
      clear hK K hS9
      try simp only [Act.put, List.setIfInBounds_toArray, List.set_cons_zero, List.set_cons_succ]
      have f2 := X.out.frozen 2; have f3 := X.out.frozen 3; have f4 := X.out.frozen 4
      have c2 : w3.cell? ⟨x, 2, none⟩ = some (.int .i64 s) := X.out.cell 2
      have c3 : w3.cell? ⟨x, 3, none⟩ = some (.bool false) := X.out.cell 3
      have c4 : w3.cell? ⟨x, 4, none⟩ = some (.slice A l c) := X.out.cell 4
      refine ldW 10 (fun K hK => ?_)
      go_simp
      refine hK.out _ _ (fun _ => X.out.cell 2) (fun _ => ?_)
      clear hK K
      try simp only [Act.put, List.setIfInBounds_toArray, List.set_cons_zero, List.set_cons_succ]
      refine ldW 11 (fun K hK => ?_)
      go_simp
      refine hK.out _ _ (fun _ => X.out.cell 2) (fun _ => ?_)
      clear hK K
      try simp only [Act.put, List.setIfInBounds_toArray, List.set_cons_zero, List.set_cons_succ]
      refine ldW 12 (fun K hK => ?_)
      go_simp
      refine hK.out _ _ (late_come (by kernel_rfl)) (fun _ => ?_)
      clear hK K
      try simp only [Act.put]
      refine ldW 13 (fun K hK => ?_)
      go_simp
      refine hK.out _ _ (late_come (by kernel_rfl)) (fun _ => ?_)
      clear hK K
      try simp only [Act.put, List.setIfInBounds_toArray, List.set_cons_zero, List.set_cons_succ]
      refine ldW 14 (fun K hK => ?_)
      go_simp
      refine hK.out _ _ (late_come (by kernel_rfl)) (fun _ => ?_)
      clear hK K
      try simp only [Act.put, List.setIfInBounds_toArray, List.set_cons_zero, List.set_cons_succ]
      refine ldW 15 (fun K hK => ?_)
      go_simp
      refine hK.out _ _ (late_come (by kernel_rfl)) (fun _ => ?_)
      clear hK K
      try simp only [Act.put]
      refine ldW 16 (fun K hK => ?_)
      go_simp
      refine hK.out _ _ (late_come (by kernel_rfl)) (fun _ => ?_)
      clear hK K
      try simp only [Act.put, List.setIfInBounds_toArray, List.set_cons_zero, List.set_cons_succ]
      refine ldW 17 (fun K hK => ?_)
      go_simp
      refine hK.out _ _ (late_come (by kernel_rfl)) (fun _ => ?_)
      clear hK K
      try simp only [Act.put, List.setIfInBounds_toArray, List.set_cons_zero, List.set_cons_succ]
      refine ldW 18 (fun K hK => ?_)
      go_simp
      refine hK.out _ _ (late_come (by kernel_rfl)) (fun _ => ?_)
      clear hK K
      try simp only [Act.put]
      refine wpAnyW_done (by kernel_rfl) ?_ _
      refine NoPanic.normal ?_
      have X4 : Kept (Blk (((w3.setCell ⟨x, 2, none⟩ (.int .i64 (s + 1))).setCell ⟨x, 3, none⟩ (.bool true)).setCell ⟨x, 4, none⟩ (.slice A3 n k3)) x 41 #[.int .i64 p, .int .i64 h, .int .i64 (s + 1), .bool true, .slice A3 n k3]) := ⟨((X.out.set_ 2 (.int .i64 (s + 1))).set_ 3 (.bool true)).set_ 4 (.slice A3 n k3)⟩
      have b4 : Bar [x] w3 (((w3.setCell ⟨x, 2, none⟩ (.int .i64 (s + 1))).setCell ⟨x, 3, none⟩ (.bool true)).setCell ⟨x, 4, none⟩ (.slice A3 n k3)) := (((Bar.refl _ _).setCell (by simp) _).setCell (by simp) _).setCell (by simp) _
      replace Z := Kept.mk (Z.out.bar b4 (by simpa using Ne.symm xR)); replace O := Kept.mk (own_keep O.out b4 (fun g hg hm => HF.out g hg (by simp at hm; simp [hm])))
      replace B := Kept.mk (B.out.trans b4 (by simp))
      clear b4 f2 f3 f4 c2 c3 c4 X
      generalize ((w3.setCell ⟨x, 2, none⟩ (.int .i64 (s + 1))).setCell ⟨x, 3, none⟩ (.bool true)).setCell ⟨x, 4, none⟩ (.slice A3 n k3) = w5 at *
      have L5 : Kept (Ln cellsR 41 N w5 x ⟨p, h, s + 1, true, b⟩) := ⟨hs1, hbl, hN, A3, n, k3, X4.out, fun _ => ⟨O.out, hby⟩⟩
      have CN := Kept.mk (rnote_any L5.out rfl)
      have hRlt := Z.out.lt
      unfold OwnP at CN
      clear O X4
      go_wp2_with fail
      refine CN.out.mono ?_
      rintro e w6 ⟨A6, l6, c6, rfl, g1, g2, r6, n6, l3, b6⟩
      have fR : Off A6 l6 [R] := newA_off n6 r6 (by simpa using hRlt)
      replace Z := Kept.mk (Z.out.below b6 Z.out.lt)
      have z0 := Z.out.cell 0; have z1 := Z.out.cell 1; have z2 := Z.out.cell 2; have z3 := Z.out.cell 3; have z4 := Z.out.cell 4
      have q0 := Z.out.frozen 0; have q1 := Z.out.frozen 1; have q2 := Z.out.frozen 2; have q3 := Z.out.frozen 3; have q4 := Z.out.frozen 4
      have P5 := Kept.mk (put5 Z.out (.int .i64 p) (.int .i64 h) (.int .i64 0) (.int .i64 (s + 1)) (.slice A6 l6 c6))
      have PF := Kept.mk (PE.out A6 l6 c6 _ g1 g2 (r6.far P5.out.2 fR) (fun g o e => Nat.le_trans B.out.size (n6 g o e)) (l3.keep P5.out.2 Z.out xR (by decide)) ((B.out.trans (barOf b6 []) (by simp)).trans P5.out.2 (by intro k hk; rw [List.mem_singleton] at hk; subst hk; exact .inr hRw.out)))
      clear r6 n6 l3 b6 fR CN PE
      go_wp2
      (try simp only [Exit.inBlock, Exit.then])
      refine bodyPost_ret (Seal.results_cell_tmp rfl _ _ R 31 #[.int .i64 p, .int .i64 h, .int .i64 0, .int .i64 (s + 1), .slice A6 l6 c6] (0, 0) _ rfl P5.out.1 Try.underlying31 rfl note_size) rfl ?_
      exact PF.out
end
end Go.Proofs.Ytfioaofmmplgcaa.Line
