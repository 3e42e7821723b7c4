/-
  Chapter 18's laws: the chapter's examples.
-/
import Derived.Test.YthhjmbbfibgjpaaTradeCLen
import Derived.Test.YthhjmbbfibgjpaaTradeCNew
import Derived.Test.YthhjmbbfibgjpaaTradeCPut
import Derived.Test.YthhjmbbfibgjpaaIntsSame
namespace Go.Proofs.Ythhjmbbfibgjpaa.Trade
open Go.RowKit Go.Proofs.Ythhjmbbfibgjpaa.Sha

def t0 : TV := ⟨0, 0, 1, 0, 5, 0, 1⟩
theorem ok_nil : Okc [] := ⟨by simp, by simp⟩
theorem p1 : putE 2 1 1 [] 0 t0 = 0 := by decide
theorem p2 : putE 2 1 1 [⟨0, t0⟩] 1 t0 = 0 := by decide
theorem p3 : putE 2 1 1 [⟨0, t0⟩, ⟨1, t0⟩] 1 t0 = 15 := by decide
theorem q1 : putC 2 1 1 [] 0 t0 = [⟨0, t0⟩] := by unfold putC; rw [if_pos p1]; rfl
theorem q2 : putC 2 1 1 [⟨0, t0⟩] 1 t0 = [⟨0, t0⟩, ⟨1, t0⟩] := by unfold putC; rw [if_pos p2]; rfl
theorem m1 : matched (tr [⟨0, t0⟩]) = [] := by decide
theorem m2 : matched (tr [⟨0, t0⟩, ⟨1, t0⟩]) = [t0] := by decide
theorem o1 : openI (tr [⟨0, t0⟩]) = [0] := by decide
theorem q3 : putC 2 1 1 [⟨0, t0⟩, ⟨1, t0⟩] 1 t0 = [⟨0, t0⟩, ⟨1, t0⟩] := by unfold putC; rw [if_neg (by rw [p3]; decide)]
theorem ok_1 : Okc [⟨0, t0⟩] := ⟨by simp, by simp [t0]⟩
theorem ok_2 : Okc [⟨0, t0⟩, ⟨1, t0⟩] := ⟨by simp, by simp [t0]⟩
set_option maxRecDepth 100000 in
set_option maxHeartbeats 1000000 in
theorem tfirst_any (w : World) : Calls Try.prog 7 #[] w fun e w' => e = .returned (.bool true) ∧ Below w.heap.size w w' := by
  have CN := Kept.mk (new_yes (p := 2) (c := 1) (a := 1) (w := w) (by decide))
  obtain ⟨N, hN⟩ : ∃ z, w.heap.size = z := ⟨_, rfl⟩
  rw [hN] at CN
  go_enter Try.func7, Try.ntmps7
  go_wp2_with fail
  refine CN.out.mono ?_
  rintro e w1 ⟨F, rfl, T, B⟩
  clear CN
  obtain ⟨L, hL⟩ : ∃ z, w1.heap.size = z := ⟨_, rfl⟩
  obtain ⟨w2, hw2⟩ : ∃ z, w1.alloc (.cells #[.int .i64 0, .int .i64 0, .int .i64 1, .int .i64 0, .int .i64 5, .int .i64 0, .int .i64 1] 33) = z := ⟨_, rfl⟩
  have b2 : Below w1.heap.size w1 w2 := hw2 ▸ (Below.refl _ _).alloc (Nat.le_refl _) _
  have H : Kept (Hd w2 F L 33 #[.int .i64 0, .int .i64 0, .int .i64 1, .int .i64 0, .int .i64 5, .int .i64 0, .int .i64 1]) := ⟨hw2 ▸ Hd.new _ _ hL.symm (fun k hk => (T.lt k hk).2)⟩
  have B2 := Kept.mk (B.trans (b2.mono (by have := B.size; omega)))
  have T2 := Kept.mk (T.below b2)
  clear B T b2
  go_upto_region 3 with (fail)
  clear hw2 hL
  have T := T2; have B := B2
  clear T2 B2
  have l0 : w2.cell? ⟨L, 0, none⟩ = some (.int .i64 0) := H.out.blk.cell 0
  have l1 : w2.cell? ⟨L, 1, none⟩ = some (.int .i64 0) := H.out.blk.cell 1
  have l2 : w2.cell? ⟨L, 2, none⟩ = some (.int .i64 1) := H.out.blk.cell 2
  have l3 : w2.cell? ⟨L, 3, none⟩ = some (.int .i64 0) := H.out.blk.cell 3
  have l4 : w2.cell? ⟨L, 4, none⟩ = some (.int .i64 5) := H.out.blk.cell 4
  have l5 : w2.cell? ⟨L, 5, none⟩ = some (.int .i64 0) := H.out.blk.cell 5
  have l6 : w2.cell? ⟨L, 6, none⟩ = some (.int .i64 1) := H.out.blk.cell 6
  have CP : Kept (Calls Try.prog 12 #[.pointer (some ⟨N, 0, none⟩), .int .i64 0, .agg #[.int .i64 0, .int .i64 0, .int .i64 1, .int .i64 0, .int .i64 5, .int .i64 0, .int .i64 1]] w2 (PutP F N N 2 1 1 0 [⟨0, t0⟩] w2)) := ⟨by
    have h := put_any 0 t0 T.out ok_nil
    rw [p1, q1] at h
    exact h⟩
  go_wp2_with fail
  refine CP.out.mono ?_
  rintro e w3 ⟨F3, rfl, T3, k3⟩
  replace B := Kept.mk (T.out.step B.out k3)
  replace H := Kept.mk (H.out.step k3)
  replace T := Kept.mk T3
  clear CP k3 T3 l0 l1 l2 l3 l4 l5 l6
  have CM := mat_any T.out ok_1
  rw [m1] at CM
  replace CM := Kept.mk CM
  go_wp2_with fail
  refine CM.out.mono ?_
  rintro e w4 ⟨v4, rfl, o4, b4⟩
  unfold Tr at o4
  obtain ⟨A4, c4, rfl⟩ := own_shape o4
  replace B := Kept.mk (B.out.trans (b4.mono (by have := B.out.size; omega)))
  replace H := Kept.mk (H.out.below b4)
  replace T := Kept.mk (T.out.below b4)
  clear CM b4 o4
  have CO := opn_any T.out ok_1
  rw [o1] at CO
  replace CO := Kept.mk CO
  go_wp2_with fail
  refine CO.out.mono ?_
  rintro e w5 ⟨v5, rfl, o5, b5⟩
  obtain ⟨A5, c5, rfl⟩ := own_shape o5
  have R5 := ri_own o5 rfl
  replace B := Kept.mk (B.out.trans (b5.mono (by have := B.out.size; omega)))
  replace H := Kept.mk (H.out.below b5)
  replace T := Kept.mk (T.out.below b5)
  have B6 : Below w5.heap.size w5 (w5.alloc (.cells #[.int .i64 0] 3)) := (Below.refl _ _).alloc (Nat.le_refl _) _
  have CI := Kept.mk (intsame_any A5 (some ⟨w5.heap.size, 0, none⟩) 1 1 c5 1 [0] [0] (w5.alloc (.cells #[.int .i64 0] 3)) (R5.below B6) (Ri.blk (xs := [0]) (Blk.new w5 _ _) rfl) (by omega))
  replace B := Kept.mk (B.out.trans (B6.mono (by have := B.out.size; omega)))
  replace H := Kept.mk (H.out.below B6)
  replace T := Kept.mk (T.out.below B6)
  clear CO b5 o5 R5 B6
  go_wp2_with fail
  refine CI.out.mono ?_
  rintro e w6 ⟨rfl, b6⟩
  replace B := Kept.mk (B.out.trans (b6.mono (by have := B.out.size; omega)))
  replace H := Kept.mk (H.out.below b6)
  replace T := Kept.mk (T.out.below b6)
  rw [show sameB [0] [0] = true from rfl]
  clear CI b6
  have l0 : w6.cell? ⟨L, 0, none⟩ = some (.int .i64 0) := H.out.blk.cell 0
  have l1 : w6.cell? ⟨L, 1, none⟩ = some (.int .i64 0) := H.out.blk.cell 1
  have l2 : w6.cell? ⟨L, 2, none⟩ = some (.int .i64 1) := H.out.blk.cell 2
  have l3 : w6.cell? ⟨L, 3, none⟩ = some (.int .i64 0) := H.out.blk.cell 3
  have l4 : w6.cell? ⟨L, 4, none⟩ = some (.int .i64 5) := H.out.blk.cell 4
  have l5 : w6.cell? ⟨L, 5, none⟩ = some (.int .i64 0) := H.out.blk.cell 5
  have l6 : w6.cell? ⟨L, 6, none⟩ = some (.int .i64 1) := H.out.blk.cell 6
  have CP : Kept (Calls Try.prog 12 #[.pointer (some ⟨N, 0, none⟩), .int .i64 1, .agg #[.int .i64 0, .int .i64 0, .int .i64 1, .int .i64 0, .int .i64 5, .int .i64 0, .int .i64 1]] w6 (PutP F3 N N 2 1 1 0 [⟨0, t0⟩, ⟨1, t0⟩] w6)) := ⟨by
    have h := put_any 1 t0 T.out ok_1
    rw [p2, q2] at h
    exact h⟩
  go_wp2_with fail
  refine CP.out.mono ?_
  rintro e w7 ⟨F7, rfl, T7, k7⟩
  replace B := Kept.mk (T.out.step B.out k7)
  replace H := Kept.mk (H.out.step k7)
  replace T := Kept.mk T7
  clear CP k7 T7 l0 l1 l2 l3 l4 l5 l6
  have CM := mat_any T.out ok_2
  rw [m2] at CM
  replace CM := Kept.mk CM
  go_wp2_with fail
  refine CM.out.mono ?_
  rintro e w8 ⟨v8, rfl, o8, b8⟩
  unfold Tr at o8
  obtain ⟨A8, c8, rfl⟩ := own_shape o8
  replace B := Kept.mk (B.out.trans (b8.mono (by have := B.out.size; omega)))
  replace H := Kept.mk (H.out.below b8)
  replace T := Kept.mk (T.out.below b8)
  clear CM b8 o8
  have l0 : w8.cell? ⟨L, 0, none⟩ = some (.int .i64 0) := H.out.blk.cell 0
  have l1 : w8.cell? ⟨L, 1, none⟩ = some (.int .i64 0) := H.out.blk.cell 1
  have l2 : w8.cell? ⟨L, 2, none⟩ = some (.int .i64 1) := H.out.blk.cell 2
  have l3 : w8.cell? ⟨L, 3, none⟩ = some (.int .i64 0) := H.out.blk.cell 3
  have l4 : w8.cell? ⟨L, 4, none⟩ = some (.int .i64 5) := H.out.blk.cell 4
  have l5 : w8.cell? ⟨L, 5, none⟩ = some (.int .i64 0) := H.out.blk.cell 5
  have l6 : w8.cell? ⟨L, 6, none⟩ = some (.int .i64 1) := H.out.blk.cell 6
  have CP : Kept (Calls Try.prog 12 #[.pointer (some ⟨N, 0, none⟩), .int .i64 1, .agg #[.int .i64 0, .int .i64 0, .int .i64 1, .int .i64 0, .int .i64 5, .int .i64 0, .int .i64 1]] w8 (PutP F7 N N 2 1 1 15 [⟨0, t0⟩, ⟨1, t0⟩] w8)) := ⟨by
    have h := put_any 1 t0 T.out ok_2
    rw [p3, q3] at h
    exact h⟩
  go_wp2_with fail
  refine CP.out.mono ?_
  rintro e w9 ⟨F9, rfl, T9, k9⟩
  replace B := Kept.mk (T.out.step B.out k9)
  replace H := Kept.mk (H.out.step k9)
  replace T := Kept.mk T9
  clear CP k9 T9 l0 l1 l2 l3 l4 l5 l6
  go_wp2
  go_ret
  exact ⟨rfl, hN.symm ▸ B.out⟩
end Go.Proofs.Ythhjmbbfibgjpaa.Trade
