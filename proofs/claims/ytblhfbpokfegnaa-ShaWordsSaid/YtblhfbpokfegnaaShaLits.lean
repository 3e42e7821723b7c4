/-
  The words of the table, the document's.
-/
import Derived.Test.YtblhfbpokfegnaaShaCmp
import Derived.Great.BuildSlice
namespace Go.Proofs.Ytblhfbpokfegnaa.Sha
open Go.RowKit

def wordI (i : Int) : Int := if 0 ≤ i ∧ i < 64 then (kW i.toNat : Nat) else 0
def startI (i : Int) : Int := if 0 ≤ i ∧ i < 8 then (hW i.toNat : Nat) else 0

def KI : List Int := (List.range 64).map fun i => ((kW i : Nat) : Int)
def HI : List Int := (List.range 8).map fun i => ((hW i : Nat) : Int)
theorem KI_len : KI.length = 64 := by simp [KI]
theorem HI_len : HI.length = 8 := by simp [HI]
theorem KI_at (i : Nat) (h : i < 64) : at_ KI i = (kW i : Nat) := at_range _ _ _ h
theorem HI_at (i : Nat) (h : i < 8) : at_ HI i = (hW i : Nat) := at_range _ _ _ h

set_option maxRecDepth 100000 in
set_option maxHeartbeats 400000 in
theorem rstarts_any (w : World) : Calls Try.prog 36 #[] w fun e w' => e = .returned (.agg (arr .u32 HI)) ∧ Below w.heap.size w w' := by
  obtain ⟨N, hN⟩ : ∃ N, w.heap.size = N := ⟨_, rfl⟩
  go_enter Try.func36, Try.ntmps36
  go_upto_region 1 with (fail)
  apply wp_region_lit
  refine wpList_buildFlatArr rfl 64 36 8 _ rfl .u32 HI Try.underlying64 (by kernel_rfl) (by kernel_rfl) (by kernel_rfl) ?_
  refine wpList_store_row rfl 64 (.tmp 0) (.tmp 1) rfl N (arr .u32 HI) (by rw [← hN]; rfl) rfl 64 _ (Blk.new_at _ _ _ N hN.symm) (by rw [arr_size, HI_len]; kernel_rfl) (by rw [arr_size, HI_len]; rfl) (all_oneCell_toArray (ints_one _ _)) ?_
  have h3 := (Blk.new_at w 64 (List.replicate 8 (Value.int .u32 0)).toArray N hN.symm).row (arr .u32 HI)
  have b3 : Below N w ((w.alloc (.cells (List.replicate 8 (Value.int .u32 0)).toArray 64)).setRow N (arr .u32 HI)) := below_setRow ((Below.refl _ _).alloc (by omega) _) (Nat.le_refl _) _
  change wpList _ _ _ _ _ ((w.alloc (.cells (List.replicate 8 (Value.int .u32 0)).toArray 64)).setRow N (arr .u32 HI))
  generalize (w.alloc (.cells (List.replicate 8 (Value.int .u32 0)).toArray 64)).setRow N (arr .u32 HI) = w2 at *
  have H3 := Kept.mk h3
  have B3 := Kept.mk b3
  clear h3 b3
  go_wp2
  refine bodyPost_ret (v := .agg (arr .u32 HI)) (results_cell_row rfl _ _ N 64 _ (0, 0) _ rfl H3.out Try.underlying64 rfl (by rw [arr_size, HI_len]; kernel_rfl)) rfl ⟨rfl, by rw [hN]; exact B3.out⟩

set_option maxRecDepth 100000 in
set_option maxHeartbeats 400000 in
theorem rwords_any (w : World) : Calls Try.prog 35 #[] w fun e w' => e = .returned (.agg (arr .u32 KI)) ∧ Below w.heap.size w w' := by
  obtain ⟨N, hN⟩ : ∃ N, w.heap.size = N := ⟨_, rfl⟩
  go_enter Try.func35, Try.ntmps35
  go_upto_region 1 with (fail)
  apply wp_region_lit
  refine wpList_buildFlatArr rfl 63 36 64 _ rfl .u32 KI Try.underlying63 (by kernel_rfl) (by kernel_rfl) (by kernel_rfl) ?_
  refine wpList_store_row rfl 63 (.tmp 0) (.tmp 1) rfl N (arr .u32 KI) (by rw [← hN]; rfl) rfl 63 _ (Blk.new_at _ _ _ N hN.symm) (by rw [arr_size, KI_len]; kernel_rfl) (by rw [arr_size, KI_len]; rfl) (all_oneCell_toArray (ints_one _ _)) ?_
  have h3 := (Blk.new_at w 63 (List.replicate 64 (Value.int .u32 0)).toArray N hN.symm).row (arr .u32 KI)
  have b3 : Below N w ((w.alloc (.cells (List.replicate 64 (Value.int .u32 0)).toArray 63)).setRow N (arr .u32 KI)) := below_setRow ((Below.refl _ _).alloc (by omega) _) (Nat.le_refl _) _
  change wpList _ _ _ _ _ ((w.alloc (.cells (List.replicate 64 (Value.int .u32 0)).toArray 63)).setRow N (arr .u32 KI))
  generalize (w.alloc (.cells (List.replicate 64 (Value.int .u32 0)).toArray 63)).setRow N (arr .u32 KI) = w2 at *
  have H3 := Kept.mk h3
  have B3 := Kept.mk b3
  clear h3 b3
  go_wp2
  refine bodyPost_ret (v := .agg (arr .u32 KI)) (results_cell_row rfl _ _ N 63 _ (0, 0) _ rfl H3.out Try.underlying63 rfl (by rw [arr_size, KI_len]; kernel_rfl)) rfl ⟨rfl, by rw [hN]; exact B3.out⟩

end Go.Proofs.Ytblhfbpokfegnaa.Sha
