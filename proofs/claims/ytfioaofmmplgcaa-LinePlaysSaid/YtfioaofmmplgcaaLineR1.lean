/-
  The document's line: NewLine, note.
-/
import Derived.Test.YtfioaofmmplgcaaTakes
import Derived.Test.YtfioaofmmplgcaaLineMem
import Derived.Test.YtfioaofmmplgcaaCopy
import Derived.Test.YtfioaofmmplgcaaTakes
namespace Go.Proofs.Ytfioaofmmplgcaa.Line
open Go.RowKit Go.Proofs.Ytfioaofmmplgcaa.Sha Go.Proofs.Ytfioaofmmplgcaa.Seal

set_option maxRecDepth 100000 in
set_option maxHeartbeats 1000000 in
theorem rnew_any (p h s : Int) (N : Nat) (w : World) (hN : N ≤ w.heap.size) :
    Calls Try.prog 10 #[.int .i64 p, .int .i64 h, .int .i64 s] w fun e w' => e = .returned (.pointer (some ⟨w.heap.size, 0, none⟩)) ∧ Ln cellsR 41 N w' w.heap.size (newL p h s) ∧ Below w.heap.size w w' := by
  obtain ⟨u, hu⟩ : ∃ u, (if 0 ≤ s ∧ s ≤ 4294967295 then s else 0) = u := ⟨_, rfl⟩
  have hub : 0 ≤ u ∧ u ≤ 4294967295 := by rw [← hu]; split <;> omega
  have P : Kept (Ln cellsR 41 N (w.alloc (.cells #[.int .i64 p, .int .i64 h, .int .i64 u, .bool false, .slice none 0 0] 41)) w.heap.size (newL p h s) ∧ Below w.heap.size w (w.alloc (.cells #[.int .i64 p, .int .i64 h, .int .i64 u, .bool false, .slice none 0 0] 41))) := ⟨by
    unfold newL; rw [hu]
    exact ⟨hub, by simp, hN, none, 0, 0, Blk.new _ _ _, fun h => by cases h⟩, (Below.refl _ _).alloc (Nat.le_refl _) _⟩
  by_cases hs : 0 ≤ s ∧ s ≤ 4294967295
  · rw [if_pos hs] at hu
    subst hu
    obtain ⟨h1, h2⟩ := hs
    have q1 : (s < 0) = False := eq_false (by omega)
    have q2 : ((4294967295 : Int) < s) = False := eq_false (by omega)
    clear hub h1 h2
    go_enter Try.func10, Try.ntmps10
    go_wp2
    go_ret
    exact ⟨rfl, P.out⟩
  · rw [if_neg hs] at hu
    subst hu
    clear hub
    by_cases h1 : s < 0
    · clear hs
      go_enter Try.func10, Try.ntmps10
      go_wp2
      go_ret
      exact ⟨rfl, P.out⟩
    · have h2 : 4294967295 < s := by omega
      have q1 : (s < 0) = False := eq_false h1
      clear hs h1
      go_enter Try.func10, Try.ntmps10
      go_wp2
      go_ret
      exact ⟨rfl, P.out⟩
section
variable {N x : Nat} {w : World} {v : LV}
set_option maxRecDepth 100000 in
set_option maxHeartbeats 1000000 in
theorem rnote_any (h : Ln cellsR 41 N w x v) (hb : v.busy = true) : Calls Try.prog 25 #[.pointer (some ⟨x, 0, none⟩)] w (OwnP cellsR 41 N x v w) := by
  have LN := Kept.mk h
  obtain ⟨-, hl, -, A, l, c, k, o⟩ := h
  obtain ⟨h1, h2, r⟩ := own_row (o hb).1 (o hb).2
  have hl2 : l < 2147483648 := by rw [← r.1]; exact hl
  obtain ⟨p, h, s, q, bd⟩ := v
  dsimp only [cellsR] at *
  subst hb
  clear o hl
  obtain ⟨R, hR⟩ : ∃ R, w.heap.size = R := ⟨_, rfl⟩
  have hxR := k.lt
  have xR : x ≠ R := by omega
  have b1 : Below w.heap.size w (w.alloc (.cells #[.int .i64 0, .int .i64 0, .int .i64 0, .int .i64 0, .slice none 0 0] 31)) := (Below.refl _ _).alloc (Nat.le_refl _) _
  have Z := Kept.mk (Blk.new_at w 31 #[.int .i64 0, .int .i64 0, .int .i64 0, .int .i64 0, .slice none 0 0] R hR.symm)
  have X := Kept.mk (k.below b1 k.lt); have D := Kept.mk (r.below b1); have L1 := Kept.mk (LN.out.below b1)
  have B := Kept.mk b1
  clear k r b1 LN
  go_enter Try.func25, Try.ntmps25
  go_upto_region 1 with (fail)
  generalize w.alloc (.cells #[.int .i64 0, .int .i64 0, .int .i64 0, .int .i64 0, .slice none 0 0] 31) = w1 at *
  have hS0 : (fun w' : World => w'.cell? ⟨x, 0, none⟩ = some (.int .i64 p) ∧ w'.cell? ⟨x, 1, none⟩ = some (.int .i64 h) ∧ w'.cell? ⟨x, 2, none⟩ = some (.int .i64 s) ∧ w'.cell? ⟨x, 4, none⟩ = some (.slice A l c)) w1.drew := ⟨X.out.cell 0, X.out.cell 1, X.out.cell 2, X.out.cell 4⟩
  have b2 : Below w1.heap.size w1 w1.drew := (Below.refl _ _).drew
  replace X := Kept.mk (X.out.below b2 X.out.lt); replace Z := Kept.mk (Z.out.below b2 Z.out.lt); replace D := Kept.mk (D.out.below b2); replace L1 := Kept.mk (L1.out.below b2)
  replace B := Kept.mk (B.out.trans (b2.mono B.out.size))
  clear b2
  refine wp_region_noPanic ?_
  refine wp_region_held_drew (S := fun w' : World => w'.cell? ⟨x, 0, none⟩ = some (.int .i64 p) ∧ w'.cell? ⟨x, 1, none⟩ = some (.int .i64 h) ∧ w'.cell? ⟨x, 2, none⟩ = some (.int .i64 s) ∧ w'.cell? ⟨x, 4, none⟩ = some (.slice A l c)) (by kernel_rfl) hS0 (fun hHeld => ?_)
  clear hS0
  generalize w1.drew = w2 at *
  refine tk 0 ?_
  simp only [Act.put, List.setIfInBounds_toArray, List.set_cons_zero, List.set_cons_succ]
  refine tk 1 ?_
  simp only [Act.put, List.setIfInBounds_toArray, List.set_cons_zero, List.set_cons_succ]
  refine tk 2 ?_
  simp only [Act.put, List.setIfInBounds_toArray, List.set_cons_zero, List.set_cons_succ]
  refine tk 3 ?_
  simp only [Act.put, List.setIfInBounds_toArray, List.set_cons_zero, List.set_cons_succ]
  refine tk 4 ?_
  simp only [Act.put, List.setIfInBounds_toArray, List.set_cons_zero, List.set_cons_succ]
  refine tk 5 ?_
  simp only [Act.put, List.setIfInBounds_toArray, List.set_cons_zero, List.set_cons_succ]
  refine tk 6 ?_
  simp only [Act.put, List.setIfInBounds_toArray, List.set_cons_zero, List.set_cons_succ]
  refine tk 7 ?_
  simp only [Act.put, List.setIfInBounds_toArray, List.set_cons_zero, List.set_cons_succ]
  refine tk 8 ?_
  simp only [Act.put, List.setIfInBounds_toArray, List.set_cons_zero, List.set_cons_succ]
  refine tk 9 ?_
  simp only [Act.put, List.setIfInBounds_toArray, List.set_cons_zero, List.set_cons_succ]
  refine tk 10 ?_
  simp only [Act.put, List.setIfInBounds_toArray, List.set_cons_zero, List.set_cons_succ]
  refine tk 11 ?_
  simp only [Act.put, List.setIfInBounds_toArray, List.set_cons_zero, List.set_cons_succ]
  refine tk 12 ?_
  simp only [Act.put, List.setIfInBounds_toArray, List.set_cons_zero, List.set_cons_succ]
  refine tk 13 ?_
  simp only [Act.put, List.setIfInBounds_toArray, List.set_cons_zero, List.set_cons_succ]
  refine tk 14 ?_
  simp only [Act.put, List.setIfInBounds_toArray, List.set_cons_zero, List.set_cons_succ]
  refine tk 15 ?_
  simp only [Act.put, List.setIfInBounds_toArray, List.set_cons_zero, List.set_cons_succ]
  refine ld 16 (fun K hK => ?_)
  go_simp
  go_at_call 24
  refine (copy_any A l c bd w2 D.out hl2).mono ?_
  rintro e w3 ⟨u, rfl, o3, b3⟩
  obtain ⟨A3, k3, rfl⟩ := own_shape o3
  obtain ⟨g1, g2, r3⟩ := own_row o3 D.out.2.1
  have n3 : NewA w A3 := own_newA o3 B.out.size
  have hRw := Z.out.lt
  have fM : Off A3 l [R] := newA_off (own_newA o3 (Nat.le_refl _)) r3 (by simpa using hRw)
  replace Z := Kept.mk (Z.out.below b3 Z.out.lt); replace X := Kept.mk (X.out.below b3 X.out.lt); replace L1 := Kept.mk (L1.out.below b3)
  replace B := Kept.mk (B.out.trans (b3.mono B.out.size))
  have N3 := Kept.mk n3; have F3 := Kept.mk fM; have R3 := Kept.mk r3
  clear o3 r3 n3 b3 fM D
  refine hK.out _ _ ⟨X.out.cell 0, X.out.cell 1, X.out.cell 2, X.out.cell 4⟩ (fun hHeld2 => ?_)
  clear hK K hHeld
  try simp only [Act.put, List.setIfInBounds_toArray, List.set_cons_zero, List.set_cons_succ]
  refine tk 17 ?_
  simp only [Act.put, List.setIfInBounds_toArray, List.set_cons_zero, List.set_cons_succ]
  have z0 := Z.out.cell 0; have z1 := Z.out.cell 1; have z2 := Z.out.cell 2; have z3 := Z.out.cell 3; have z4 := Z.out.cell 4
  have q0 := Z.out.frozen 0; have q1 := Z.out.frozen 1; have q2 := Z.out.frozen 2; have q3 := Z.out.frozen 3; have q4 := Z.out.frozen 4
  have P5 := Kept.mk (put5 Z.out (.int .i64 p) (.int .i64 h) (.int .i64 0) (.int .i64 s) (.slice A3 l k3))
  have PF : Kept (OwnP cellsR 41 N x ⟨p, h, s, true, bd⟩ w (.returned (.agg #[.int .i64 p, .int .i64 h, .int .i64 0, .int .i64 s, .slice A3 l k3])) (((((w3.setCell ⟨R, 0, none⟩ (.int .i64 p)).setCell ⟨R, 1, none⟩ (.int .i64 h)).setCell ⟨R, 2, none⟩ (.int .i64 0)).setCell ⟨R, 3, none⟩ (.int .i64 s)).setCell ⟨R, 4, none⟩ (.slice A3 l k3))) :=
    ⟨A3, l, k3, rfl, g1, g2, R3.out.far P5.out.2 F3.out, N3.out, L1.out.keep P5.out.2 Z.out xR (by decide), B.out.trans (P5.out.2.below B.out.size (by simp; omega))⟩
  have X3 := Kept.mk (X.out.bar P5.out.2 (by simpa using xR))
  refine ld 18 (fun K hK => ?_)
  go_simp
  refine hK.out _ _ ⟨X3.out.cell 0, X3.out.cell 1, X3.out.cell 2, X3.out.cell 4⟩ (fun hHeld3 => ?_)
  clear hK K hHeld2
  try simp only [Act.put, List.setIfInBounds_toArray, List.set_cons_zero, List.set_cons_succ]
  refine wpAnyH_done (by kernel_rfl) ?_ _
  refine NoPanic.normal ?_
  clear hHeld3 z0 z1 z2 z3 z4 q0 q1 q2 q3 q4
  go_wp2
  (try simp only [Exit.inBlock, Exit.then])
  refine bodyPost_ret (results_cell_row rfl _ _ R 31 #[.int .i64 p, .int .i64 h, .int .i64 0, .int .i64 s, .slice A3 l k3] (0, 0) _ rfl P5.out.1 Try.underlying31 rfl note_size) rfl ?_
  exact PF.out
end
end Go.Proofs.Ytfioaofmmplgcaa.Line
