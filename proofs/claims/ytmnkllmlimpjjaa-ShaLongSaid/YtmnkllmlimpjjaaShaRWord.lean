/-
  The document's own Word and Start.
-/
import Derived.Test.YtmnkllmlimpjjaaShaRHash
namespace Go.Proofs.Ytmnkllmlimpjjaa.Sha
open Go.RowKit

theorem wp_gen {P : Program} {ops : Array Oper} {Q : Exit → Act → World → Prop} {rest : List Oper} {a : Act} {w : World} (p : World → Prop) (hp : p w) (h : ∀ w', p w' → wpList P ops Q rest a w') : wpList P ops Q rest a w := h w hp

set_option maxRecDepth 100000 in
set_option maxHeartbeats 400000 in
theorem rword_any (i : Int) (w : World) : Calls Try.prog 12 #[.int .i64 i] w fun e w' => e = .returned (.int .u32 (wordI i)) ∧ Below w.heap.size w w' := by
  by_cases h0 : i < 0
  · have e : wordI i = 0 := if_neg (by omega)
    rw [e]
    clear e
    go_enter Try.func12, Try.ntmps12
    go_wp2
    go_ret
    exact ⟨rfl, Below.refl _ _⟩
  · by_cases h1 : 64 ≤ i
    · have e : wordI i = 0 := if_neg (by omega)
      rw [e]
      clear e
      go_enter Try.func12, Try.ntmps12
      go_wp2
      go_ret
      exact ⟨rfl, Below.refl _ _⟩
    · obtain ⟨k, rfl⟩ := Int.eq_ofNat_of_zero_le (show 0 ≤ i by omega)
      have hk : k < 64 := by omega
      have e : wordI (k : Int) = (kW k : Nat) := by unfold wordI; rw [if_pos (by omega)]; rfl
      rw [e]
      clear e h0 h1
      have hk' : (k : Int) < 64 := by omega
      go_enter Try.func12, Try.ntmps12
      go_wp2_with fail
      refine (rwords_any w).mono ?_
      rintro e w2 ⟨rfl, b2⟩
      obtain ⟨K, hK⟩ : ∃ K, w2.heap.size = K := ⟨_, rfl⟩
      have hNK : w.heap.size ≤ K := hK ▸ b2.size
      have B2 := Kept.mk b2
      clear b2
      go_wp2_with ((with_reducible refine selS 55 (.tmp 3) (.tmp 10) ?_); refine wpList_store_row rfl 55 (.tmp 3) (.tmp 10) rfl K _ rfl rfl 55 _ (Blk.new_at _ _ _ K hK.symm) (by rw [arr_size, KI_len]; kernel_rfl) (by rw [arr_size, KI_len]; rfl) (all_oneCell_toArray (ints_one _ _)) ?_; refine wp_gen (fun w' => w'.cell? ⟨K, k, none⟩ = some (.int .u32 (kW k : Nat)) ∧ Below w.heap.size w w') ⟨?c, ?b⟩ ?h; (case c => exact (((Blk.new_at _ _ _ K hK.symm).row _).at_ k (by rw [KI_len]; exact hk)).trans (by rw [KI_at _ hk])); (case b => exact below_setRow (B2.out.alloc (by omega) _) hNK _); rintro w3 ⟨c3, b3⟩; have B3 := Kept.mk b3; clear b3)
      go_ret
      exact ⟨rfl, B3.out⟩

set_option maxRecDepth 100000 in
set_option maxHeartbeats 400000 in
theorem rstart_any (i : Int) (w : World) : Calls Try.prog 14 #[.int .i64 i] w fun e w' => e = .returned (.int .u32 (startI i)) ∧ Below w.heap.size w w' := by
  by_cases h0 : i < 0
  · have e : startI i = 0 := if_neg (by omega)
    rw [e]
    clear e
    go_enter Try.func14, Try.ntmps14
    go_wp2
    go_ret
    exact ⟨rfl, Below.refl _ _⟩
  · by_cases h1 : 8 ≤ i
    · have e : startI i = 0 := if_neg (by omega)
      rw [e]
      clear e
      go_enter Try.func14, Try.ntmps14
      go_wp2
      go_ret
      exact ⟨rfl, Below.refl _ _⟩
    · obtain ⟨k, rfl⟩ := Int.eq_ofNat_of_zero_le (show 0 ≤ i by omega)
      have hk : k < 8 := by omega
      have e : startI (k : Int) = (hW k : Nat) := by unfold startI; rw [if_pos (by omega)]; rfl
      rw [e]
      clear e h0 h1
      have hk' : (k : Int) < 8 := by omega
      go_enter Try.func14, Try.ntmps14
      go_wp2_with fail
      refine (rstarts_any w).mono ?_
      rintro e w2 ⟨rfl, b2⟩
      obtain ⟨K, hK⟩ : ∃ K, w2.heap.size = K := ⟨_, rfl⟩
      have hNK : w.heap.size ≤ K := hK ▸ b2.size
      have B2 := Kept.mk b2
      clear b2
      go_wp2_with ((with_reducible refine selS 56 (.tmp 3) (.tmp 10) ?_); refine wpList_store_row rfl 56 (.tmp 3) (.tmp 10) rfl K _ rfl rfl 56 _ (Blk.new_at _ _ _ K hK.symm) (by rw [arr_size, Sha.HI_len]; kernel_rfl) (by rw [arr_size, Sha.HI_len]; rfl) (all_oneCell_toArray (ints_one _ _)) ?_; refine wp_gen (fun w' => w'.cell? ⟨K, k, none⟩ = some (.int .u32 (hW k : Nat)) ∧ Below w.heap.size w w') ⟨?c, ?b⟩ ?h; (case c => exact (((Blk.new_at _ _ _ K hK.symm).row _).at_ k (by rw [Sha.HI_len]; exact hk)).trans (by rw [Sha.HI_at _ hk])); (case b => exact below_setRow (B2.out.alloc (by omega) _) hNK _); rintro w3 ⟨c3, b3⟩; have B3 := Kept.mk b3; clear b3)
      go_ret
      exact ⟨rfl, B3.out⟩

end Go.Proofs.Ytmnkllmlimpjjaa.Sha
