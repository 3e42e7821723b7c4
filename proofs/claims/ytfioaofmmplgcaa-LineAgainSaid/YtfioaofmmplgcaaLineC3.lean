/-
  Package line: Got.
-/
import Derived.Test.YtfioaofmmplgcaaLineC1
namespace Go.Proofs.Ytfioaofmmplgcaa.Line
open Go.RowKit Go.Proofs.Ytfioaofmmplgcaa.Sha Go.Proofs.Ytfioaofmmplgcaa.Seal

section
variable {N x : Nat} {w : World} {v : LV}
set_option maxRecDepth 100000 in
set_option maxHeartbeats 2000000 in
theorem cgot_any {Ab : Option Addr} {n cb : Nat} {m : NV} (h : Ln cellsC 53 N w x v) (hb : Rd w Ab n m.body) (hn : n < 2147483648) (ho : Off Ab n [x]) : Calls Try.prog 16 #[.pointer (some ⟨x, 0, none⟩), .agg #[.int .i64 m.party, .int .i64 m.which, .int .i64 m.way, .int .i64 m.seq, .slice Ab n cb]] w (BodyP cellsC 53 N x (gotB v m) (.int .i64 (gotE v m)) (gotL v m) w) := by
  have LN := Kept.mk h
  obtain ⟨hs, -, hN, A, l, c, k, -⟩ := h
  have hxR := k.lt
  obtain ⟨p, h, s, q, bd⟩ := v
  obtain ⟨mp, mh, my, ms, mb⟩ := m
  dsimp only [cellsC] at *
  obtain ⟨R, hR⟩ : ∃ R, w.heap.size = R := ⟨_, rfl⟩
  have b1 : Below w.heap.size w (w.alloc (.cells #[.int .i64 mp, .int .i64 mh, .int .i64 my, .int .i64 ms, .slice Ab n cb] 31)) := (Below.refl _ _).alloc (Nat.le_refl _) _
  have Z := Kept.mk (Blk.new_at w 31 #[.int .i64 mp, .int .i64 mh, .int .i64 my, .int .i64 ms, .slice Ab n cb] R hR.symm)
  have X := Kept.mk (k.below b1 k.lt); have L1 := Kept.mk (LN.out.below b1); have D := Kept.mk (hb.below b1)
  have B : Kept (Bar [x] w (w.alloc (.cells #[.int .i64 mp, .int .i64 mh, .int .i64 my, .int .i64 ms, .slice Ab n cb] 31))) := ⟨barOf b1 _⟩
  have xR : x ≠ R := by omega
  have HO := Kept.mk ho
  clear k b1 LN hb ho
  go_enter Try.func16, Try.ntmps16
  go_upto_region 1 with (fail)
  generalize w.alloc (.cells #[.int .i64 mp, .int .i64 mh, .int .i64 my, .int .i64 ms, .slice Ab n cb] 31) = w1 at *
  have c0 : w1.cell? ⟨x, 0, none⟩ = some (.int .i64 p) := X.out.cell 0
  have c1 : w1.cell? ⟨x, 1, none⟩ = some (.int .i64 h) := X.out.cell 1
  have z0 : w1.cell? ⟨R, 0, none⟩ = some (.int .i64 mp) := Z.out.cell 0
  have z1 : w1.cell? ⟨R, 1, none⟩ = some (.int .i64 mh) := Z.out.cell 1
  have z2 : w1.cell? ⟨R, 2, none⟩ = some (.int .i64 my) := Z.out.cell 2
  have PN : Kept (∀ u, gotE ⟨p, h, s, q, bd⟩ ⟨mp, mh, my, ms, mb⟩ = u → u ≠ 0 → ∀ k, BodyP cellsC 53 N x (gotB ⟨p, h, s, q, bd⟩ ⟨mp, mh, my, ms, mb⟩) (.int .i64 (gotE ⟨p, h, s, q, bd⟩ ⟨mp, mh, my, ms, mb⟩)) (gotL ⟨p, h, s, q, bd⟩ ⟨mp, mh, my, ms, mb⟩) w (.returned (.tuple #[.slice none 0 0, .int .i64 u])) (w1.drewN k)) := ⟨fun u hu h0 k => by
    unfold gotB gotL; rw [hu, if_neg h0, if_neg h0]
    exact ⟨none, 0, 0, rfl, by omega, by omega, Rd.nil_, newA_none _, L1.out.below (below_drewN (Below.refl _ _) _), B.out.drewN _⟩⟩
  by_cases e1 : mp = p
  rotate_left
  · have hE : gotE ⟨p, h, s, q, bd⟩ ⟨mp, mh, my, ms, mb⟩ = 14 := by simp [gotE, e1]
    have hq : (mp != p) = true := by simpa using e1
    clear e1
    go_quiet (fail)
    have PF := Kept.mk (PN.out 14 hE (by decide) nq)
    clear PN hE
    go_wp2
    go_ret2
    exact PF.out
  subst e1
  have g1 : (mp != mp) = false := by simp
  by_cases e2 : mh = h
  rotate_left
  · have hE : gotE ⟨mp, h, s, q, bd⟩ ⟨mp, mh, my, ms, mb⟩ = 14 := by simp [gotE, e2]
    have hq : (mh != h) = true := by simpa using e2
    clear e2
    go_quiet (fail)
    have PF := Kept.mk (PN.out 14 hE (by decide) nq)
    clear PN hE
    go_wp2
    go_ret2
    exact PF.out
  subst e2
  have g2 : (mh != mh) = false := by simp
  by_cases e3 : my = 1
  rotate_left
  · have hE : gotE ⟨mp, mh, s, q, bd⟩ ⟨mp, mh, my, ms, mb⟩ = 14 := by simp [gotE, e3]
    have hq : (my != 1) = true := by simpa using e3
    clear e3
    go_quiet (fail)
    have PF := Kept.mk (PN.out 14 hE (by decide) nq)
    clear PN hE
    go_wp2
    go_ret2
    exact PF.out
  subst e3
  go_quiet (fail)
  clear c0 c1 z0 z1 z2 PN
  have b2 : Below w1.heap.size w1 (w1.drewN nq) := below_drewN (Below.refl _ _) _
  replace X := Kept.mk (X.out.below b2 X.out.lt); replace Z := Kept.mk (Z.out.below b2 Z.out.lt); replace D := Kept.mk (D.out.below b2); replace L1 := Kept.mk (L1.out.below b2); replace B := Kept.mk (B.out.trans (barOf b2 []) (by simp))
  clear b2
  generalize w1.drewN nq = w2 at *
  have c5 : w2.cell? ⟨x, 5, none⟩ = some (.bool q) := X.out.cell 5
  have c3 : w2.cell? ⟨x, 3, none⟩ = some (.int .i64 s) := X.out.cell 3
  have z3 : w2.cell? ⟨R, 3, none⟩ = some (.int .i64 ms) := Z.out.cell 3
  have PN : Kept (gotE ⟨mp, mh, s, q, bd⟩ ⟨mp, mh, 1, ms, mb⟩ = 5 → ∀ k, BodyP cellsC 53 N x (gotB ⟨mp, mh, s, q, bd⟩ ⟨mp, mh, 1, ms, mb⟩) (.int .i64 (gotE ⟨mp, mh, s, q, bd⟩ ⟨mp, mh, 1, ms, mb⟩)) (gotL ⟨mp, mh, s, q, bd⟩ ⟨mp, mh, 1, ms, mb⟩) w (.returned (.tuple #[.slice none 0 0, .int .i64 5])) (w2.drewN k)) := ⟨fun hu k => by
    unfold gotB gotL; rw [hu, if_neg (by decide), if_neg (by decide)]
    exact ⟨none, 0, 0, rfl, by omega, by omega, Rd.nil_, newA_none _, L1.out.below (below_drewN (Below.refl _ _) _), B.out.drewN _⟩⟩
  cases q with
  | false =>
    have hE : gotE ⟨mp, mh, s, false, bd⟩ ⟨mp, mh, 1, ms, mb⟩ = 5 := by simp [gotE]
    go_wp2
    go_quiet (fail)
    have PF := Kept.mk (PN.out hE nq)
    clear PN hE
    go_wp2
    go_ret2
    exact PF.out
  | true =>
    by_cases e4 : ms = s
    rotate_left
    · have hE : gotE ⟨mp, mh, s, true, bd⟩ ⟨mp, mh, 1, ms, mb⟩ = 5 := by simp [gotE, e4]
      have hq : (ms != s) = true := by simpa using e4
      clear e4
      go_wp2
      go_quiet (fail)
      have PF := Kept.mk (PN.out hE nq)
      clear PN hE
      go_wp2
      go_ret2
      exact PF.out
    subst e4
    clear PN
    go_wp2
    go_quiet (fail)
    clear c5 c3 z3
    have b2 : Below w2.heap.size w2 (w2.drewN nq) := below_drewN (Below.refl _ _) _
    replace X := Kept.mk (X.out.below b2 X.out.lt); replace Z := Kept.mk (Z.out.below b2 Z.out.lt); replace D := Kept.mk (D.out.below b2); replace L1 := Kept.mk (L1.out.below b2); replace B := Kept.mk (B.out.trans (barOf b2 []) (by simp))
    clear b2
    generalize w2.drewN nq = w3 at *
    have f5 := X.out.frozen 5; have c5 := X.out.cell 5
    go_upto_region 6 with (fail)
    have X4 : Kept (Blk (w3.setCell ⟨x, 5, none⟩ (.bool false)) x 53 #[.int .i64 mp, .int .i64 mh, .int .i64 0, .int .i64 ms, .slice A l c, .bool false]) := ⟨X.out.set_ 5 (.bool false)⟩
    have b4 : Bar [x] w3 (w3.setCell ⟨x, 5, none⟩ (.bool false)) := (Bar.refl _ _).setCell (by simp) _
    replace Z := Kept.mk (Z.out.bar b4 (by simpa using Ne.symm xR)); replace D := Kept.mk (D.out.far b4 HO.out)
    replace B := Kept.mk (B.out.trans b4 (by simp))
    clear b4 f5 c5 X L1
    generalize w3.setCell ⟨x, 5, none⟩ (.bool false) = w4 at *
    have f4 := X4.out.frozen 4; have c4 := X4.out.cell 4
    go_upto_region 7 with (fail)
    have X5 : Kept (Blk (w4.setCell ⟨x, 4, none⟩ (.slice none 0 0)) x 53 #[.int .i64 mp, .int .i64 mh, .int .i64 0, .int .i64 ms, .slice none 0 0, .bool false]) := ⟨X4.out.set_ 4 (.slice none 0 0)⟩
    have b4 : Bar [x] w4 (w4.setCell ⟨x, 4, none⟩ (.slice none 0 0)) := (Bar.refl _ _).setCell (by simp) _
    replace Z := Kept.mk (Z.out.bar b4 (by simpa using Ne.symm xR)); replace D := Kept.mk (D.out.far b4 HO.out)
    replace B := Kept.mk (B.out.trans b4 (by simp))
    clear b4 f4 c4 X4
    generalize w4.setCell ⟨x, 4, none⟩ (.slice none 0 0) = w5 at *
    have z4 : w5.cell? ⟨R, 4, none⟩ = some (.slice Ab n cb) := Z.out.cell 4
    have PE : Kept (∀ (A' : Option Addr) (l' c' : Nat) (w' : World), l' ≤ c' → c' ≤ 9223372036854775807 → Rd w' A' l' mb → NewA w A' → Ln cellsC 53 N w' x ⟨mp, mh, ms, false, []⟩ → Bar [x] w w' → BodyP cellsC 53 N x (gotB ⟨mp, mh, ms, true, bd⟩ ⟨mp, mh, 1, ms, mb⟩) (.int .i64 (gotE ⟨mp, mh, ms, true, bd⟩ ⟨mp, mh, 1, ms, mb⟩)) (gotL ⟨mp, mh, ms, true, bd⟩ ⟨mp, mh, 1, ms, mb⟩) w (.returned (.tuple #[.slice A' l' c', .int .i64 0])) w') := ⟨fun A' l' c' w' k1 k2 k3 k4 k5 k6 => by
      have hE : gotE ⟨mp, mh, ms, true, bd⟩ ⟨mp, mh, 1, ms, mb⟩ = 0 := by simp [gotE]
      unfold gotB gotL; rw [hE, if_pos rfl, if_pos rfl]
      exact ⟨A', l', c', rfl, k1, k2, k3, k4, k5, k6⟩⟩
    go_wp2_with fail
    refine (clone_any Ab n cb mb w5 D.out hn).mono ?_
    rintro e w6 ⟨u, rfl, o6, b6⟩
    obtain ⟨A6, k6, rfl⟩ := own_shape o6
    obtain ⟨h6, h7, r6⟩ := own_row o6 D.out.2.1
    have PF := Kept.mk (PE.out A6 n k6 w6 h6 h7 r6 (own_newA o6 B.out.size) ⟨hs, by simp, hN, none, 0, 0, X5.out.below b6 X5.out.lt, fun e => by cases e⟩ (B.out.trans (barOf b6 []) (by simp)))
    clear PE o6 b6 r6 z4 D Z X5
    go_wp2
    go_ret2
    exact PF.out
end
end Go.Proofs.Ytfioaofmmplgcaa.Line
