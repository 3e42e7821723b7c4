/-
  What all laws of chapter 16 begin and end with.
-/
import Derived.Test.YtfioaofmmplgcaaLineC2
import Derived.Test.YtfioaofmmplgcaaLineC3
import Derived.Lib.SlBytesConst
namespace Go.Proofs.Ytfioaofmmplgcaa.Line
open Go.RowKit Go.Proofs.Ytfioaofmmplgcaa.Sha Go.Proofs.Ytfioaofmmplgcaa.Seal

theorem bar_step {N x : Nat} {w w' w2 : World} (B : Kept (Below N w w')) (h : Bar [x] w' w2) (hx : N ≤ x) (hw : N ≤ w'.heap.size) : Kept (Below N w w2) :=
  ⟨B.out.trans (h.below hw (by simpa using hx))⟩
set_option maxRecDepth 100000 in
set_option maxHeartbeats 2000000 in
theorem lfirst_any (w : World) : Calls Try.prog 7 #[] w fun e w' => e = .returned (.bool true) ∧ Below w.heap.size w w' := by
  obtain ⟨N, hN⟩ : ∃ N, w.heap.size = N := ⟨_, rfl⟩
  go_enter Try.func7, Try.ntmps7
  go_wp2_with fail
  refine (cnew_any 1 0 0 N w (by omega)).mono ?_
  rintro e w1 ⟨rfl, l1, b1⟩
  rw [hN] at l1 b1 ⊢
  have L := Kept.mk (show Ln cellsC 53 N w1 N ⟨1, 0, 0, false, []⟩ from l1)
  have B := Kept.mk b1
  clear l1 b1
  have hcv := Lib.run_convert_bytes_const (P := Try.prog) w1 29 5 #[.int .u8 97] 1 1 Try.underlying29 Try.underlying5
  have hr : Rd (w1.alloc (.cells #[.int .u8 97] 5 (1, 2))) (some ⟨w1.heap.size, 0, none⟩) 1 [97] :=
    Rd.made (T := 5) (fr := (1, 2)) (heap_alloc_new w1 _) (by intro x hx; simp at hx; omega) rfl
  have bA : Below w1.heap.size w1 (w1.alloc (.cells #[.int .u8 97] 5 (1, 2))) := (Below.refl _ _).alloc (Nat.le_refl _) _
  have hlt := L.out.lt
  have CS := Kept.mk (csend_any (cb := 1) (L.out.below bA) hr (by omega) (.inr ⟨w1.heap.size, 0, rfl, by simp; omega⟩))
  have BA := Kept.mk bA
  have e1 : sendE ⟨1, 0, 0, false, []⟩ = 0 := by decide
  have e2 : sendL ⟨1, 0, 0, false, []⟩ [97] = ⟨1, 0, 1, true, [97]⟩ := by rfl
  have e3 : sendN ⟨1, 0, 0, false, []⟩ [97] = ⟨1, 0, 0, 1, [97]⟩ := by rfl
  rw [e1, e2, e3] at CS
  unfold NoteP at CS
  clear hr bA e1 e2 e3
  go_wp2_with fail
  refine CS.out.mono ?_
  rintro x w2 ⟨A, n, c, rfl, -, -, -, -, l2, b2⟩
  replace L := Kept.mk l2
  replace B := bar_step (N := N) ⟨B.out.trans (BA.out.mono (by have := B.out.size; omega))⟩ b2 (Nat.le_refl _) (by have := BA.out.size; omega)
  clear CS BA hcv l2 b2 hlt
  obtain ⟨M, hM⟩ : ∃ M, w2.heap.size = M := ⟨_, rfl⟩
  have b3 : Below w2.heap.size w2 (w2.alloc (.cells #[.int .i64 1, .int .i64 0, .int .i64 0, .int .i64 1, .slice A n c] 31)) := (Below.refl _ _).alloc (Nat.le_refl _) _
  have Z := Kept.mk (Blk.new_at w2 31 #[.int .i64 1, .int .i64 0, .int .i64 0, .int .i64 1, .slice A n c] M hM.symm)
  have hNM : N < M := by have := L.out.lt; omega
  replace L := Kept.mk (L.out.below b3)
  replace B := Kept.mk (B.out.trans (b3.mono (by omega)))
  clear b3
  go_upto_region 5 with (fail)
  generalize w2.alloc (.cells #[.int .i64 1, .int .i64 0, .int .i64 0, .int .i64 1, .slice A n c] 31) = w3 at *
  have hcv := Lib.run_convert_bytes_const (P := Try.prog) w3 29 5 #[.int .u8 98] 1 1 Try.underlying29 Try.underlying5
  have hr : Rd (w3.alloc (.cells #[.int .u8 98] 5 (1, 2))) (some ⟨w3.heap.size, 0, none⟩) 1 [98] :=
    Rd.made (T := 5) (fr := (1, 2)) (heap_alloc_new w3 _) (by intro x hx; simp at hx; omega) rfl
  have bA : Below w3.heap.size w3 (w3.alloc (.cells #[.int .u8 98] 5 (1, 2))) := (Below.refl _ _).alloc (Nat.le_refl _) _
  have hlt := L.out.lt
  have CS := Kept.mk (csend_any (cb := 1) (L.out.below bA) hr (by omega) (.inr ⟨w3.heap.size, 0, rfl, by simp; omega⟩))
  replace Z := Kept.mk (Z.out.below bA Z.out.lt)
  have BA := Kept.mk bA
  have e1 : sendE ⟨1, 0, 1, true, [97]⟩ = 6 := by decide
  have e2 : sendL ⟨1, 0, 1, true, [97]⟩ [98] = ⟨1, 0, 1, true, [97]⟩ := by rfl
  have e3 : sendN ⟨1, 0, 1, true, [97]⟩ [98] = zeroN := by rfl
  rw [e1, e2, e3] at CS
  unfold NoteP zeroN at CS
  clear hr bA e1 e2 e3
  go_wp2_with fail
  refine CS.out.mono ?_
  rintro x w4 ⟨A4, n4, c4, rfl, -, -, -, -, l4, b4⟩
  replace L := Kept.mk l4
  replace Z := Kept.mk (Z.out.bar b4 (by simp; omega))
  replace B := bar_step (N := N) ⟨B.out.trans (BA.out.mono (by have := B.out.size; omega))⟩ b4 (Nat.le_refl _) (by have := BA.out.size; omega)
  clear CS BA hcv l4 b4 hlt
  have b5 : Below w4.heap.size w4 (w4.alloc (.cells #[.int .i64 0, .int .i64 0, .int .i64 0, .int .i64 0, .slice A4 n4 c4] 31)) := (Below.refl _ _).alloc (Nat.le_refl _) _
  replace L := Kept.mk (L.out.below b5); replace Z := Kept.mk (Z.out.below b5 Z.out.lt)
  replace B := Kept.mk (B.out.trans (b5.mono (by have := L.out.lt; have := B.out.size; omega)))
  clear b5
  go_upto_region 6 with (fail)
  generalize w4.alloc (.cells #[.int .i64 0, .int .i64 0, .int .i64 0, .int .i64 0, .slice A4 n4 c4] 31) = w5 at *
  have z0 := Z.out.cell 0; have z2 := Z.out.cell 2; have z3 := Z.out.cell 3
  go_wp2_with fail
  refine (cbusy_any L.out).mono ?_
  rintro e w6 ⟨rfl, rfl⟩
  go_wp2_with fail
  refine (cseq_any L.out).mono ?_
  rintro e w6 ⟨rfl, rfl⟩
  go_wp2
  go_ret
  exact ⟨rfl, hN ▸ B.out⟩
end Go.Proofs.Ytfioaofmmplgcaa.Line
