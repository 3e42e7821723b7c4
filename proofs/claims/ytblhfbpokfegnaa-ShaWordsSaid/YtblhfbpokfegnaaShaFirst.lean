/-
  What all laws of chapter 2 begin and end with: the examples' first bytes.
-/
import Derived.Test.YtblhfbpokfegnaaShaUse
import Derived.Laws.BytesArg
import Derived.Lib.SlBytesConst
namespace Go.Proofs.Ytblhfbpokfegnaa.Sha
open Go.RowKit

set_option maxRecDepth 100000 in
set_option maxHeartbeats 1000000 in
theorem first_any (w : World) : Calls Try.prog 10 #[] w fun e w' => e = .returned (.bool true) ∧ Below w.heap.size w w' := by
  obtain ⟨N, hN⟩ : ∃ N, w.heap.size = N := ⟨_, rfl⟩
  have hT : Kept (Tab (w.alloc (.cells (tbl (.int .u32 0) (.int .i32 0) (.int .u32 0) 0 0) 66)) N) := ⟨.inl (Blk.new_at _ _ _ N hN.symm)⟩
  have hB : Kept (Bar [] w (w.alloc (.cells (tbl (.int .u32 0) (.int .i32 0) (.int .u32 0) 0 0) 66))) := ⟨(Bar.refl _ _).alloc _⟩
  have hlt : N < (w.alloc (.cells (tbl (.int .u32 0) (.int .i32 0) (.int .u32 0) 0 0) 66)).heap.size := by simp [hN]
  go_enter Try.func10, Try.ntmps10
  go_wp2_with fail
  refine (newtable_any w).mono ?_
  rintro e w1 ⟨rfl, rfl⟩
  rw [hN]
  generalize w.alloc (.cells (tbl (.int .u32 0) (.int .i32 0) (.int .u32 0) 0 0) 66) = w1 at *
  go_wp2_with fail
  refine (one_any N none 0 0 [] w1 hT.out Rd.nil_ (by omega) (by omega) (by omega)).mono ?_
  rintro e w2 ⟨M1, rfl, hM1, k1, m1, b1⟩
  have K1 := Kept.mk k1; have T1 := Kept.mk m1; have B1 := Kept.mk b1
  clear k1 m1 b1
  have hT3 : Tab (w2.alloc (.cells #[.int .u8 97, .int .u8 98, .int .u8 99] 5 (3, 4))) N := .inr (T1.out.alloc _)
  have hR3 : Rd (w2.alloc (.cells #[.int .u8 97, .int .u8 98, .int .u8 99] 5 (3, 4))) (some ⟨w2.heap.size, 0, none⟩) 3 [97, 98, 99] :=
    Rd.made (heap_alloc_new w2 (.cells (arr .u8 [97, 98, 99]) 5 (3, 4))) (by intro x hx; simp only [List.mem_cons, List.not_mem_nil, or_false] at hx; omega) rfl
  have c2 := Kept.mk (one_any N (some ⟨w2.heap.size, 0, none⟩) 3 3 [97, 98, 99] _ hT3 hR3 (by omega) (by omega) (by omega))
  have hcv := Lib.run_convert_bytes_const (P := Try.prog) w2 29 5 #[.int .u8 97, .int .u8 98, .int .u8 99] 3 3 Try.underlying29 Try.underlying5
  clear hT3 hR3
  go_wp2_with fail
  refine c2.out.mono ?_
  rintro e w3 ⟨M2, rfl, hM2, k2, m2, b2⟩
  clear c2
  have k1 : Blk w3 M1 5 (arr .u8 (sha [])) := (K1.out.alloc _).bar b2 (by simp; omega)
  have u0 := sha_cell k1 (by omega) none_at.1
  have u1 := sha_cell k1 (by omega) none_at.2.1
  have u2 := sha_cell k1 (by omega) none_at.2.2.1
  have u3 := sha_cell k1 (by omega) none_at.2.2.2
  have v0 := sha_cell k2 (by omega) abc_at.1
  have v1 := sha_cell k2 (by omega) abc_at.2.1
  have v2 := sha_cell k2 (by omega) abc_at.2.2.1
  have v3 := sha_cell k2 (by omega) abc_at.2.2.2
  have hb : Below w.heap.size w w3 := by
    have hb1 := (hB.out.trans B1.out (l' := [N]) (by simp; omega))
    exact ((hb1.alloc _).trans b2 (by simp; omega)).below (Nat.le_refl _) (by simp)
  have HB := Kept.mk hb
  clear hb k1 k2 m2 b2 hB hT hM1 hM2 T1 B1 K1 hcv
  go_wp2
  go_ret
  exact ⟨rfl, HB.out⟩
end Go.Proofs.Ytblhfbpokfegnaa.Sha
