/-
  Package line: New, Seq, Busy, note.
-/
import Derived.Test.YtfioaofmmplgcaaLineMem
import Derived.Test.YtfioaofmmplgcaaClone
namespace Go.Proofs.Ytfioaofmmplgcaa.Line
open Go.RowKit Go.Proofs.Ytfioaofmmplgcaa.Sha Go.Proofs.Ytfioaofmmplgcaa.Seal

set_option maxRecDepth 100000 in
set_option maxHeartbeats 1000000 in
theorem cnew_any (p h s : Int) (N : Nat) (w : World) (hN : N ≤ w.heap.size) :
    Calls Try.prog 9 #[.int .i64 p, .int .i64 h, .int .i64 s] w fun e w' => e = .returned (.pointer (some ⟨w.heap.size, 0, none⟩)) ∧ Ln cellsC 53 N w' w.heap.size (newL p h s) ∧ Below w.heap.size w w' := by
  obtain ⟨u, hu⟩ : ∃ u, (if 0 ≤ s ∧ s ≤ 4294967295 then s else 0) = u := ⟨_, rfl⟩
  have hub : 0 ≤ u ∧ u ≤ 4294967295 := by rw [← hu]; split <;> omega
  have P : Kept (Ln cellsC 53 N (w.alloc (.cells #[.int .i64 p, .int .i64 h, .int .i64 0, .int .i64 u, .slice none 0 0, .bool false] 53)) w.heap.size (newL p h s) ∧ Below w.heap.size w (w.alloc (.cells #[.int .i64 p, .int .i64 h, .int .i64 0, .int .i64 u, .slice none 0 0, .bool false] 53))) := ⟨by
    unfold newL; rw [hu]
    exact ⟨hub, by simp, hN, none, 0, 0, Blk.new _ _ _, fun h => by cases h⟩, (Below.refl _ _).alloc (Nat.le_refl _) _⟩
  by_cases hs : 0 ≤ s ∧ s ≤ 4294967295
  · rw [if_pos hs] at hu
    subst hu
    obtain ⟨h1, h2⟩ := hs
    have q1 : (s < 0) = False := eq_false (by omega)
    have q2 : ((4294967295 : Int) < s) = False := eq_false (by omega)
    clear hub h1 h2
    go_enter Try.func9, Try.ntmps9
    go_wp2
    go_ret
    exact ⟨rfl, P.out⟩
  · rw [if_neg hs] at hu
    subst hu
    clear hub
    by_cases h1 : s < 0
    · clear hs
      go_enter Try.func9, Try.ntmps9
      go_wp2
      go_ret
      exact ⟨rfl, P.out⟩
    · have h2 : 4294967295 < s := by omega
      have q1 : (s < 0) = False := eq_false h1
      clear hs h1
      go_enter Try.func9, Try.ntmps9
      go_wp2
      go_ret
      exact ⟨rfl, P.out⟩
section
variable {N x : Nat} {w : World} {v : LV}
set_option maxRecDepth 100000 in
set_option maxHeartbeats 400000 in
theorem cseq_any (h : Ln cellsC 53 N w x v) : Calls Try.prog 19 #[.pointer (some ⟨x, 0, none⟩)] w fun e w' => e = .returned (.int .i64 v.seq) ∧ w = w' := by
  obtain ⟨-, -, -, A, l, c, k, -⟩ := h
  have c3 : w.cell? ⟨x, 3, none⟩ = some (.int .i64 v.seq) := k.cell 3
  clear k
  go_enter Try.func19, Try.ntmps19
  go_wp2
  go_ret
  exact ⟨rfl, rfl⟩
set_option maxRecDepth 100000 in
set_option maxHeartbeats 400000 in
theorem cbusy_any (h : Ln cellsC 53 N w x v) : Calls Try.prog 20 #[.pointer (some ⟨x, 0, none⟩)] w fun e w' => e = .returned (.bool v.busy) ∧ w = w' := by
  obtain ⟨-, -, -, A, l, c, k, -⟩ := h
  have c5 : w.cell? ⟨x, 5, none⟩ = some (.bool v.busy) := k.cell 5
  clear k
  go_enter Try.func20, Try.ntmps20
  go_wp2
  go_ret
  exact ⟨rfl, rfl⟩
set_option maxRecDepth 100000 in
set_option maxHeartbeats 1000000 in
theorem cnote_any (h : Ln cellsC 53 N w x v) (hb : v.busy = true) : Calls Try.prog 23 #[.pointer (some ⟨x, 0, none⟩)] w (OwnP cellsC 53 N x v w) := by
  have LN := Kept.mk h
  obtain ⟨-, hl, -, A, l, c, k, o⟩ := h
  obtain ⟨h1, h2, r⟩ := own_row (o hb).1 (o hb).2
  have hl2 : l < 2147483648 := by rw [← r.1]; exact hl
  obtain ⟨p, h, s, q, bd⟩ := v
  dsimp only [cellsC] at *
  subst hb
  clear o hl
  obtain ⟨R, hR⟩ : ∃ R, w.heap.size = R := ⟨_, rfl⟩
  have hxR := k.lt
  have b1 : Below w.heap.size w (w.alloc (.cells #[.int .i64 0, .int .i64 0, .int .i64 0, .int .i64 0, .slice none 0 0] 31)) := (Below.refl _ _).alloc (Nat.le_refl _) _
  have Z := Kept.mk (Blk.new_at w 31 #[.int .i64 0, .int .i64 0, .int .i64 0, .int .i64 0, .slice none 0 0] R hR.symm)
  have X := Kept.mk (k.below b1 k.lt); have D := Kept.mk (r.below b1); have L1 := Kept.mk (LN.out.below b1)
  have B := Kept.mk b1
  clear k r b1 LN
  go_enter Try.func23, Try.ntmps23
  go_upto_region 1 with (fail)
  generalize w.alloc (.cells #[.int .i64 0, .int .i64 0, .int .i64 0, .int .i64 0, .slice none 0 0] 31) = w1 at *
  obtain ⟨M, hM⟩ : ∃ M, w1.heap.size = M := ⟨_, rfl⟩
  have c0 := X.out.cell 0; have c1 := X.out.cell 1; have c2 := X.out.cell 2; have c3 := X.out.cell 3; have c4 := X.out.cell 4
  go_upto_region 2 with (fail)
  have b2 : Below w1.heap.size w1 (w1.alloc (.cells #[.int .i64 p, .int .i64 h, .int .i64 0, .int .i64 s, .slice A l c] 31)) := (Below.refl _ _).alloc (Nat.le_refl _) _
  have Y := Kept.mk (Blk.new_at w1 31 #[.int .i64 p, .int .i64 h, .int .i64 0, .int .i64 s, .slice A l c] M hM.symm)
  have hRM : R < M := by have := Z.out.lt; omega
  have hxM : Kept (x < R) := ⟨by have := hxR; omega⟩
  replace Z := Kept.mk (Z.out.below b2 Z.out.lt); replace D := Kept.mk (D.out.below b2); replace L1 := Kept.mk (L1.out.below b2)
  replace B := Kept.mk (B.out.trans (b2.mono B.out.size))
  clear b2 hM X c0 c1 c2 c3 c4
  generalize w1.alloc (.cells #[.int .i64 p, .int .i64 h, .int .i64 0, .int .i64 s, .slice A l c] 31) = w2 at *
  have hMw := Y.out.lt
  have c4 : w2.cell? ⟨M, 4, none⟩ = some (.slice A l c) := Y.out.cell 4
  go_wp2_with fail
  refine (clone_any A l c bd w2 D.out hl2).mono ?_
  rintro e w3 ⟨u, rfl, o3, b3⟩
  obtain ⟨A3, k3, rfl⟩ := own_shape o3
  have hby := D.out.2.1
  obtain ⟨g1, g2, r3⟩ := own_row o3 hby
  have n3 : NewA w A3 := own_newA o3 B.out.size
  replace Z := Kept.mk (Z.out.below b3 Z.out.lt); replace Y := Kept.mk (Y.out.below b3 Y.out.lt); replace L1 := Kept.mk (L1.out.below b3)
  have fM : Off A3 l [M, R] := newA_off (own_newA o3 (Nat.le_refl _)) r3 (fun k hk => by simp at hk; omega)
  replace B := Kept.mk (B.out.trans (b3.mono B.out.size))
  have N3 := Kept.mk n3; have F3 := Kept.mk fM; have R3 := Kept.mk r3
  have xM : x ≠ M := by have := hxM.out; omega
  have xR : x ≠ R := by have := hxM.out; omega
  clear o3 hby r3 n3 b3 fM c4 D
  have y4 : w3.cell? ⟨M, 4, none⟩ = some (.slice A l c) := Y.out.cell 4
  have z4 := Y.out.frozen 4
  go_upto_region 3 with (fail)
  have Y4 := Kept.mk (Y.out.set_ 4 (.slice A3 l k3))
  have b4 : Bar [M] w3 (w3.setCell ⟨M, 4, none⟩ (.slice A3 l k3)) := (Bar.refl _ _).setCell (by simp) _
  replace Z := Kept.mk (Z.out.far (p := ⟨M, 4, none⟩) (by simp; omega) (.slice A3 l k3))
  replace L1 := Kept.mk (L1.out.keep b4 Y.out xM (by decide)); replace R3 := Kept.mk (R3.out.far b4 (F3.out.mono_ (by simp)))
  replace B := Kept.mk (B.out.trans (b4.below B.out.size (by simp; omega)))
  clear b4 y4 z4 Y
  generalize w3.setCell ⟨M, 4, none⟩ (.slice A3 l k3) = w4 at *
  have y0 := Y4.out.cell 0; have y1 := Y4.out.cell 1; have y2 := Y4.out.cell 2; have y3 := Y4.out.cell 3; have y4 := Y4.out.cell 4
  have z0 := Z.out.cell 0; have z1 := Z.out.cell 1; have z2 := Z.out.cell 2; have z3 := Z.out.cell 3; have z4 := Z.out.cell 4
  have q0 := Z.out.frozen 0; have q1 := Z.out.frozen 1; have q2 := Z.out.frozen 2; have q3 := Z.out.frozen 3; have q4 := Z.out.frozen 4
  have P5 := Kept.mk (put5 Z.out (.int .i64 p) (.int .i64 h) (.int .i64 0) (.int .i64 s) (.slice A3 l k3))
  have PF : Kept (OwnP cellsC 53 N x ⟨p, h, s, true, bd⟩ w (.returned (.agg #[.int .i64 p, .int .i64 h, .int .i64 0, .int .i64 s, .slice A3 l k3])) (((((w4.setCell ⟨R, 0, none⟩ (.int .i64 p)).setCell ⟨R, 1, none⟩ (.int .i64 h)).setCell ⟨R, 2, none⟩ (.int .i64 0)).setCell ⟨R, 3, none⟩ (.int .i64 s)).setCell ⟨R, 4, none⟩ (.slice A3 l k3))) :=
    ⟨A3, l, k3, rfl, g1, g2, R3.out.far P5.out.2 (F3.out.mono_ (by simp)), N3.out, L1.out.keep P5.out.2 Z.out xR (by decide), B.out.trans (P5.out.2.below B.out.size (by simp; omega))⟩
  go_wp2
  (try simp only [Exit.inBlock, Exit.then])
  refine bodyPost_ret (results_cell_row rfl _ _ R 31 #[.int .i64 p, .int .i64 h, .int .i64 0, .int .i64 s, .slice A3 l k3] (0, 0) _ rfl P5.out.1 Try.underlying31 rfl note_size) rfl ?_
  exact PF.out
end
end Go.Proofs.Ytfioaofmmplgcaa.Line
