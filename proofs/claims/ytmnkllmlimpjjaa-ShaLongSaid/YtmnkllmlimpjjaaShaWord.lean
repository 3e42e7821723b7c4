/-
  The words of the table, the code's and the document's.
-/
import Derived.Test.YtmnkllmlimpjjaaShaFirst
import Derived.Great.BuildSlice
namespace Go.Proofs.Ytmnkllmlimpjjaa.Sha
open Go.RowKit

def wordI (i : Int) : Int := if 0 ≤ i ∧ i < 64 then (kW i.toNat : Nat) else 0
def startI (i : Int) : Int := if 0 ≤ i ∧ i < 8 then (hW i.toNat : Nat) else 0

set_option maxRecDepth 100000 in
set_option maxHeartbeats 400000 in
theorem word_any (t : Nat) (i : Int) (w : World) (ht : Tab w t) : Calls Try.prog 11 #[.pointer (some ⟨t, 0, none⟩), .int .i64 i] w fun e w' => e = .returned (.int .u32 (wordI i)) ∧ Tab w' t ∧ Bar [t] w w' := by
  by_cases h0 : i < 0
  · have e : wordI i = 0 := if_neg (by omega)
    rw [e]
    have HT := Kept.mk ht
    clear e ht
    go_enter Try.func11, Try.ntmps11
    go_wp2
    go_ret
    exact ⟨rfl, HT.out, Bar.refl _ _⟩
  · by_cases h1 : 64 ≤ i
    · have e : wordI i = 0 := if_neg (by omega)
      rw [e]
      have HT := Kept.mk ht
      clear e ht
      go_enter Try.func11, Try.ntmps11
      go_wp2
      go_ret
      exact ⟨rfl, HT.out, Bar.refl _ _⟩
    · obtain ⟨k, rfl⟩ := Int.eq_ofNat_of_zero_le (show 0 ≤ i by omega)
      have hk : k < 64 := by omega
      have e : wordI (k : Int) = (kW k : Nat) := by unfold wordI; rw [if_pos (by omega)]; rfl
      rw [e]
      have HT := Kept.mk ht
      clear e ht h0 h1
      have hk' : (k : Int) < 64 := by omega
      go_enter Try.func11, Try.ntmps11
      go_wp2_with fail
      refine (made_any t w HT.out).mono ?_
      rintro e w1 ⟨rfl, m, b⟩
      have c : w1.cell? ⟨t, 3 + k, none⟩ = some (.int .u32 (kW k : Nat)) := (m.cell (3 + k)).trans (by rw [tbl_word _ _ _ _ _ _ hk, if_pos hk])
      have M := Kept.mk m
      clear m
      go_wp2
      go_ret
      exact ⟨rfl, .inr M.out, b⟩

set_option maxRecDepth 100000 in
set_option maxHeartbeats 400000 in
theorem start_any (t : Nat) (i : Int) (w : World) (ht : Tab w t) : Calls Try.prog 13 #[.pointer (some ⟨t, 0, none⟩), .int .i64 i] w fun e w' => e = .returned (.int .u32 (startI i)) ∧ Tab w' t ∧ Bar [t] w w' := by
  by_cases h0 : i < 0
  · have e : startI i = 0 := if_neg (by omega)
    rw [e]
    have HT := Kept.mk ht
    clear e ht
    go_enter Try.func13, Try.ntmps13
    go_wp2
    go_ret
    exact ⟨rfl, HT.out, Bar.refl _ _⟩
  · by_cases h1 : 8 ≤ i
    · have e : startI i = 0 := if_neg (by omega)
      rw [e]
      have HT := Kept.mk ht
      clear e ht
      go_enter Try.func13, Try.ntmps13
      go_wp2
      go_ret
      exact ⟨rfl, HT.out, Bar.refl _ _⟩
    · obtain ⟨k, rfl⟩ := Int.eq_ofNat_of_zero_le (show 0 ≤ i by omega)
      have hk : k < 8 := by omega
      have e : startI (k : Int) = (hW k : Nat) := by unfold startI; rw [if_pos (by omega)]; rfl
      rw [e]
      have HT := Kept.mk ht
      clear e ht h0 h1
      have hk' : (k : Int) < 8 := by omega
      go_enter Try.func13, Try.ntmps13
      go_wp2_with fail
      refine (made_any t w HT.out).mono ?_
      rintro e w1 ⟨rfl, m, b⟩
      have c : w1.cell? ⟨t, 67 + k, none⟩ = some (.int .u32 (hW k : Nat)) := (m.cell (67 + k)).trans (by rw [tbl_start _ _ _ _ _ _ hk, if_pos hk])
      have M := Kept.mk m
      clear m
      go_wp2
      go_ret
      exact ⟨rfl, .inr M.out, b⟩

def KI : List Int := (List.range 64).map fun i => ((kW i : Nat) : Int)
def HI : List Int := (List.range 8).map fun i => ((hW i : Nat) : Int)
theorem KI_len : KI.length = 64 := by simp [KI]
theorem HI_len : HI.length = 8 := by simp [HI]
theorem KI_at (i : Nat) (h : i < 64) : at_ KI i = (kW i : Nat) := at_range _ _ _ h
theorem HI_at (i : Nat) (h : i < 8) : at_ HI i = (hW i : Nat) := at_range _ _ _ h

set_option maxRecDepth 100000 in
set_option maxHeartbeats 400000 in
theorem rstarts_any (w : World) : Calls Try.prog 27 #[] w fun e w' => e = .returned (.agg (arr .u32 HI)) ∧ Below w.heap.size w w' := by
  obtain ⟨N, hN⟩ : ∃ N, w.heap.size = N := ⟨_, rfl⟩
  go_enter Try.func27, Try.ntmps27
  go_upto_region 1 with (fail)
  apply wp_region_lit
  refine wpList_buildFlatArr rfl 56 26 8 _ rfl .u32 HI Try.underlying56 (by kernel_rfl) (by kernel_rfl) (by kernel_rfl) ?_
  refine wpList_store_row rfl 56 (.tmp 0) (.tmp 1) rfl N (arr .u32 HI) (by rw [← hN]; rfl) rfl 56 _ (Blk.new_at _ _ _ N hN.symm) (by rw [arr_size, HI_len]; kernel_rfl) (by rw [arr_size, HI_len]; rfl) (all_oneCell_toArray (ints_one _ _)) ?_
  have h3 := (Blk.new_at w 56 (List.replicate 8 (Value.int .u32 0)).toArray N hN.symm).row (arr .u32 HI)
  have b3 : Below N w ((w.alloc (.cells (List.replicate 8 (Value.int .u32 0)).toArray 56)).setRow N (arr .u32 HI)) := below_setRow ((Below.refl _ _).alloc (by omega) _) (Nat.le_refl _) _
  change wpList _ _ _ _ _ ((w.alloc (.cells (List.replicate 8 (Value.int .u32 0)).toArray 56)).setRow N (arr .u32 HI))
  generalize (w.alloc (.cells (List.replicate 8 (Value.int .u32 0)).toArray 56)).setRow N (arr .u32 HI) = w2 at *
  have H3 := Kept.mk h3
  have B3 := Kept.mk b3
  clear h3 b3
  go_wp2
  refine bodyPost_ret (v := .agg (arr .u32 HI)) (results_cell_row rfl _ _ N 56 _ (0, 0) _ rfl H3.out Try.underlying56 rfl (by rw [arr_size, HI_len]; kernel_rfl)) rfl ⟨rfl, by rw [hN]; exact B3.out⟩

set_option maxRecDepth 100000 in
set_option maxHeartbeats 400000 in
theorem rwords_any (w : World) : Calls Try.prog 26 #[] w fun e w' => e = .returned (.agg (arr .u32 KI)) ∧ Below w.heap.size w w' := by
  obtain ⟨N, hN⟩ : ∃ N, w.heap.size = N := ⟨_, rfl⟩
  go_enter Try.func26, Try.ntmps26
  go_upto_region 1 with (fail)
  apply wp_region_lit
  refine wpList_buildFlatArr rfl 55 26 64 _ rfl .u32 KI Try.underlying55 (by kernel_rfl) (by kernel_rfl) (by kernel_rfl) ?_
  refine wpList_store_row rfl 55 (.tmp 0) (.tmp 1) rfl N (arr .u32 KI) (by rw [← hN]; rfl) rfl 55 _ (Blk.new_at _ _ _ N hN.symm) (by rw [arr_size, KI_len]; kernel_rfl) (by rw [arr_size, KI_len]; rfl) (all_oneCell_toArray (ints_one _ _)) ?_
  have h3 := (Blk.new_at w 55 (List.replicate 64 (Value.int .u32 0)).toArray N hN.symm).row (arr .u32 KI)
  have b3 : Below N w ((w.alloc (.cells (List.replicate 64 (Value.int .u32 0)).toArray 55)).setRow N (arr .u32 KI)) := below_setRow ((Below.refl _ _).alloc (by omega) _) (Nat.le_refl _) _
  change wpList _ _ _ _ _ ((w.alloc (.cells (List.replicate 64 (Value.int .u32 0)).toArray 55)).setRow N (arr .u32 KI))
  generalize (w.alloc (.cells (List.replicate 64 (Value.int .u32 0)).toArray 55)).setRow N (arr .u32 KI) = w2 at *
  have H3 := Kept.mk h3
  have B3 := Kept.mk b3
  clear h3 b3
  go_wp2
  refine bodyPost_ret (v := .agg (arr .u32 KI)) (results_cell_row rfl _ _ N 55 _ (0, 0) _ rfl H3.out Try.underlying55 rfl (by rw [arr_size, KI_len]; kernel_rfl)) rfl ⟨rfl, by rw [hN]; exact B3.out⟩

end Go.Proofs.Ytmnkllmlimpjjaa.Sha
