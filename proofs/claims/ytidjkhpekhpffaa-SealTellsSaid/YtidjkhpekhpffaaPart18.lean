/-
  Parts laid together: SealFirst.
-/
import Derived.Test.YtidjkhpekhpffaaPart15
import Derived.Test.YtidjkhpekhpffaaPart16
import Derived.Test.YtidjkhpekhpffaaPart17

namespace Go.Proofs.Ytidjkhpekhpffaa.Seal
open Go.RowKit Go.Proofs.Ytidjkhpekhpffaa.Sha Go.Proofs.Ytidjkhpekhpffaa.Wire Go.Proofs.Ytidjkhpekhpffaa.Mac

def exN : NV := ⟨0, 0, 0, 1, []⟩
theorem exN_ok : errN exN = 0 := by decide
set_option maxRecDepth 100000 in
set_option maxHeartbeats 2000000 in
theorem sfirst_any (w : World) : Calls Try.prog 7 #[] w fun e w' => e = .returned (.bool true) ∧ Below w.heap.size w w' := by
  obtain ⟨N, hN⟩ : ∃ N, w.heap.size = N := ⟨_, rfl⟩
  go_enter Try.func7, Try.ntmps7
  go_wp2_with fail
  refine (newtable_any w).mono ?_
  rintro e w1 ⟨rfl, rfl⟩
  rw [hN]
  have hT : Tab (w.alloc (.cells (tbl (.int .u32 0) (.int .i32 0) (.int .u32 0) 0 0) 59)) N := .inl (Blk.new_at _ _ _ N hN.symm)
  have hB : Below N w (w.alloc (.cells (tbl (.int .u32 0) (.int .i32 0) (.int .u32 0) 0 0) 59)) := (Below.refl _ _).alloc (by omega) _
  generalize w.alloc (.cells (tbl (.int .u32 0) (.int .i32 0) (.int .u32 0) 0 0) 59) = w1 at *
  have hcv := Lib.run_convert_bytes_const (P := Try.prog) w1 22 5 #[.int .u8 107] 1 1 Try.underlying22 Try.underlying5
  have hr : Rd (w1.alloc (.cells #[.int .u8 107] 5 (1, 2))) (some ⟨w1.heap.size, 0, none⟩) 1 [107] :=
    Rd.made (T := 5) (fr := (1, 2)) (heap_alloc_new w1 _) (by intro x hx; simp at hx; omega) rfl
  have bA : Below w1.heap.size w1 (w1.alloc (.cells #[.int .u8 107] 5 (1, 2))) := (Below.refl _ _).alloc (Nat.le_refl _) _
  have hlt := hT.lt
  have CP := cseal_any N (some ⟨w1.heap.size, 0, none⟩) 1 1 [107] exN none 0 0 _ (hT.below bA hlt) hr (by omega) (by omega) (by omega) (show Rd _ none 0 [] from Rd.nil_) (by omega) (by omega) (by omega)
  have hsl : (sealN [107] exN).1 = 0 ∧ (sealN [107] exN).2.length = 44 := ⟨exN_ok, by unfold sealN; rw [if_pos exN_ok]; exact noteN_len _ _⟩
  unfold SealPost at CP
  generalize sealN [107] exN = R at *
  obtain ⟨r1, r2⟩ := R
  obtain ⟨rfl, hl2⟩ := hsl
  replace CP := Kept.mk CP
  have HL2 := Kept.mk hl2
  have B2 := Kept.mk (hB.trans (bA.mono (by have := hB.size; omega)))
  clear hr hT hB bA hl2
  go_wp2_with fail
  refine CP.out.mono ?_
  rintro x w2 ⟨A, n, c, rfl, hc, hm, r, -, b2⟩
  have B3 := Kept.mk (B2.out.trans (b2.below (B := N) (by have := B2.out.size; omega) (fun k hk => by rw [List.mem_singleton] at hk; omega)))
  have hn : n = 44 := by have := r.1; rw [HL2.out] at this; omega
  subst hn
  clear r b2 CP B2 hcv
  go_wp2
  go_ret
  exact ⟨rfl, hN ▸ B3.out⟩
end Go.Proofs.Ytidjkhpekhpffaa.Seal
