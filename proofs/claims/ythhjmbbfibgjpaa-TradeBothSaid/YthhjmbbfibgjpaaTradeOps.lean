/-
  Chapter 18's laws: a row of confirmations that came in; the law's Same.
-/
import Derived.Test.YthhjmbbfibgjpaaTradeMem
import Derived.Test.YthhjmbbfibgjpaaCellsOf
namespace Go.Proofs.Ythhjmbbfibgjpaa.Trade
open Go.RowKit Go.Proofs.Ythhjmbbfibgjpaa.Sha Go.ChangeShapes Go.WideShapes Go.Deep

section
variable {H : Type} {enc : TypeId × Value → H} {w : World} {base : Nat} {held : Bool}
theorem list7 {l : List Value} (h : l.length = 7) : ∃ a b c d e f g, l = [a, b, c, d, e, f, g] := by
  match l, h with
  | [a, b, c, d, e, f, g], _ => exact ⟨a, b, c, d, e, f, g, rfl⟩
theorem list8 {l : List Value} (h : l.length = 8) : ∃ z a b c d e f g, l = [z, a, b, c, d, e, f, g] := by
  match l, h with
  | [z, a, b, c, d, e, f, g], _ => exact ⟨z, a, b, c, d, e, f, g, rfl⟩
/-- a trade's cells, as they are trod -/
theorem tv_trod {n : Nat} {cs : List Value} {y : DataW H × List MemPlace} (hl : cs.length = 7) (h : DataW.trod enc Try.prog w base (fun _ => true) held n 33 cs = some y) : ∃ t : TV, cs = tvC t := by
  obtain ⟨c0, c1, c2, c3, c4, c5, c6, rfl⟩ := list7 hl
  obtain ⟨us, n2, -, -, -, hul, gfl⟩ := DataW.trod_struct Try.underlying33 h
  have k1 : Try.prog.cellsOf 3 = 1 := by kernel_rfl
  have hu7 : us.length = 7 := hul
  have g0 : DataW.trod enc Try.prog w base (fun _ => true) held n2 3 (List.take (Try.prog.cellsOf 3) (List.drop 0 [c0, c1, c2, c3, c4, c5, c6])) = us[0]? := gfl 0 _ rfl
  have g1 : DataW.trod enc Try.prog w base (fun _ => true) held n2 3 (List.take (Try.prog.cellsOf 3) (List.drop 1 [c0, c1, c2, c3, c4, c5, c6])) = us[1]? := gfl 1 _ rfl
  have g2 : DataW.trod enc Try.prog w base (fun _ => true) held n2 3 (List.take (Try.prog.cellsOf 3) (List.drop 2 [c0, c1, c2, c3, c4, c5, c6])) = us[2]? := gfl 2 _ rfl
  have g3 : DataW.trod enc Try.prog w base (fun _ => true) held n2 3 (List.take (Try.prog.cellsOf 3) (List.drop 3 [c0, c1, c2, c3, c4, c5, c6])) = us[3]? := gfl 3 _ rfl
  have g4 : DataW.trod enc Try.prog w base (fun _ => true) held n2 3 (List.take (Try.prog.cellsOf 3) (List.drop 4 [c0, c1, c2, c3, c4, c5, c6])) = us[4]? := gfl 4 _ rfl
  have g5 : DataW.trod enc Try.prog w base (fun _ => true) held n2 3 (List.take (Try.prog.cellsOf 3) (List.drop 5 [c0, c1, c2, c3, c4, c5, c6])) = us[5]? := gfl 5 _ rfl
  have g6 : DataW.trod enc Try.prog w base (fun _ => true) held n2 3 (List.take (Try.prog.cellsOf 3) (List.drop 6 [c0, c1, c2, c3, c4, c5, c6])) = us[6]? := gfl 6 _ rfl
  rw [List.getElem?_eq_getElem (by omega), k1] at g0 g1 g2 g3 g4 g5 g6
  simp only [List.drop_zero, List.drop_succ_cons, List.take_succ_cons, List.take_zero] at g0 g1 g2 g3 g4 g5 g6
  obtain ⟨z0, rfl, _⟩ := int_field Try.underlying3 g0
  obtain ⟨z1, rfl, _⟩ := int_field Try.underlying3 g1
  obtain ⟨z2, rfl, _⟩ := int_field Try.underlying3 g2
  obtain ⟨z3, rfl, _⟩ := int_field Try.underlying3 g3
  obtain ⟨z4, rfl, _⟩ := int_field Try.underlying3 g4
  obtain ⟨z5, rfl, _⟩ := int_field Try.underlying3 g5
  obtain ⟨z6, rfl, _⟩ := int_field Try.underlying3 g6
  exact ⟨⟨z0, z1, z2, z3, z4, z5, z6⟩, rfl⟩
set_option maxRecDepth 100000 in
theorem ops_of {A : Option Addr} {len cap : Nat} {d : DataW H} {p : List MemPlace} (h : DataW.Trod enc Try.prog w base (fun _ => true) held 22 (.slice A len cap) d p) :
    len ≤ cap ∧ cap ≤ 9223372036854775807 ∧ ∃ X : List CV, Rc cvC 8 w A len X := by
  obtain ⟨h1, h2, h3⟩ := cells_of (C := 8) Try.underlying22 (by kernel_rfl) (by omega) h
  refine ⟨h1, by unfold maxLen at h2; omega, ?_⟩
  rcases h3 with h0 | ⟨b, o, hA, hf⟩
  · subst h0
    exact ⟨[], Rc.nil⟩
  · have each : ∀ r, r < len → ∃ x : CV, ∀ (j : Nat) v, (cvC x)[j]? = some v → w.cell? ⟨b, o + r * 8 + j, none⟩ = some v := by
      intro r hr
      obtain ⟨cs, m, y, hl, hc, ht⟩ := hf r hr
      obtain ⟨c0, c1, c2, c3, c4, c5, c6, c7, rfl⟩ := list8 hl
      obtain ⟨ys, n, -, -, -, hyl, hfl⟩ := DataW.trod_struct Try.underlying35 ht
      have f0 : DataW.trod enc Try.prog w base (fun _ => true) held n 3 (List.take (Try.prog.cellsOf 3) (List.drop 0 [c0, c1, c2, c3, c4, c5, c6, c7])) = ys[0]? := hfl 0 _ rfl
      have f1 : DataW.trod enc Try.prog w base (fun _ => true) held n 33 (List.take (Try.prog.cellsOf 33) (List.drop 1 [c0, c1, c2, c3, c4, c5, c6, c7])) = ys[1]? := hfl 1 _ rfl
      have hy2 : ys.length = 2 := hyl
      have k1 : Try.prog.cellsOf 3 = 1 := by kernel_rfl
      have k2 : Try.prog.cellsOf 33 = 7 := by kernel_rfl
      rw [List.getElem?_eq_getElem (by omega), k1] at f0
      rw [List.getElem?_eq_getElem (by omega), k2] at f1
      simp only [List.drop_zero, List.drop_succ_cons, List.take_succ_cons, List.take_zero] at f0 f1
      obtain ⟨z0, rfl, _⟩ := int_field Try.underlying3 f0
      obtain ⟨t, et⟩ := tv_trod rfl f1
      refine ⟨⟨z0, t⟩, fun j v hv => ?_⟩
      have hj : j < 8 := by
        have := (List.getElem?_eq_some_iff.1 hv).1
        simpa [cvC, tvC] using this
      rw [Nat.add_assoc, hc j hj, ← hv]
      unfold cvC
      rw [← et]
    haveI : Inhabited CV := ⟨⟨0, ⟨0, 0, 0, 0, 0, 0, 0⟩⟩⟩
    obtain ⟨X, hX⟩ := Go.Deep.choose_lt each
    refine ⟨(List.range len).map X, by simp, .inr ⟨b, o, hA, fun k x hx j v hv => ?_⟩⟩
    have hk : k < len := by
      have := (List.getElem?_eq_some_iff.1 hx).1
      simpa using this
    rw [List.getElem?_map, List.getElem?_range hk] at hx
    injection hx with hx
    subst hx
    exact hX k hk j v hv
end
set_option maxRecDepth 100000 in
set_option maxHeartbeats 1000000 in
theorem same_yes (A B : Option Addr) (n c d : Nat) (l : List TV) (w : World) (ha : Rc tvC 7 w A n l) (hb : Rc tvC 7 w B n l) (hn : n ≤ 9223372036854775807) :
    Calls Try.prog 15 #[.slice A n c, .slice B n d] w fun e w' => e = .returned (.bool true) ∧ Below w.heap.size w w' := by
  have RA := Kept.mk ha
  have RB := Kept.mk hb
  clear ha hb
  go_enter Try.func15, Try.ntmps15
  go_wp2
  go_loopw [5] (fun i wr => ∃ k : Nat, k ≤ n ∧ i = .int .i64 k ∧ Kept (Below w.heap.size w wr)) (fun i _ => n - (Go.RowKit.intOf i).toNat)
  case atStart => exact ⟨0, by omega, rfl, ⟨Below.refl _ _⟩⟩
  case round =>
    obtain ⟨k, hk, rfl, BW⟩ := hrel
    by_cases hkn : k < n
    · obtain ⟨b1, o1, t, rfl, ht, hc1⟩ := (RA.out.below BW.out).at_ hkn
      obtain ⟨b2, o2, t', rfl, ht', hc2⟩ := (RB.out.below BW.out).at_ hkn
      rw [ht] at ht'
      injection ht' with ht'
      subst ht'
      have NE := fun w => tv_neq (a := t) (b := t) (decide_eq_true rfl) w
      obtain ⟨t1, t2, t3, t4, t5, t6, t7⟩ := t
      unfold tvV at NE
      dsimp only at NE
      have x0 : wr.cell? ⟨b1, o1 + k * 7, none⟩ = some (.int .i64 t1) := hc1 0 _ rfl
      have x1 : wr.cell? ⟨b1, o1 + k * 7 + 1, none⟩ = some (.int .i64 t2) := hc1 1 _ rfl
      have x2 : wr.cell? ⟨b1, o1 + k * 7 + 2, none⟩ = some (.int .i64 t3) := hc1 2 _ rfl
      have x3 : wr.cell? ⟨b1, o1 + k * 7 + 3, none⟩ = some (.int .i64 t4) := hc1 3 _ rfl
      have x4 : wr.cell? ⟨b1, o1 + k * 7 + 4, none⟩ = some (.int .i64 t5) := hc1 4 _ rfl
      have x5 : wr.cell? ⟨b1, o1 + k * 7 + 5, none⟩ = some (.int .i64 t6) := hc1 5 _ rfl
      have x6 : wr.cell? ⟨b1, o1 + k * 7 + 6, none⟩ = some (.int .i64 t7) := hc1 6 _ rfl
      have y0 : wr.cell? ⟨b2, o2 + k * 7, none⟩ = some (.int .i64 t1) := hc2 0 _ rfl
      have y1 : wr.cell? ⟨b2, o2 + k * 7 + 1, none⟩ = some (.int .i64 t2) := hc2 1 _ rfl
      have y2 : wr.cell? ⟨b2, o2 + k * 7 + 2, none⟩ = some (.int .i64 t3) := hc2 2 _ rfl
      have y3 : wr.cell? ⟨b2, o2 + k * 7 + 3, none⟩ = some (.int .i64 t4) := hc2 3 _ rfl
      have y4 : wr.cell? ⟨b2, o2 + k * 7 + 4, none⟩ = some (.int .i64 t5) := hc2 4 _ rfl
      have y5 : wr.cell? ⟨b2, o2 + k * 7 + 5, none⟩ = some (.int .i64 t6) := hc2 5 _ rfl
      have y6 : wr.cell? ⟨b2, o2 + k * 7 + 6, none⟩ = some (.int .i64 t7) := hc2 6 _ rfl
      have hkn' : (k : Int) < n := by omega
      clear hc1 hc2 ht
      go_upto_region 6 with (fail)
      go_quiet (fail)
      go_wp2
      go_roundw
      case rel => exact ⟨k + 1, by omega, by go_num, ⟨below_drewN BW.out _⟩⟩
      case measure => simp only [Go.RowKit.intOf]; omega
    · have hkn' : ¬ (k : Int) < n := by omega
      obtain rfl : k = n := by omega
      go_wp2
      go_ret
      exact ⟨rfl, BW.out⟩
end Go.Proofs.Ythhjmbbfibgjpaa.Trade
