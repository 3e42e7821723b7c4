/-
  slices.Clone of a row of whole numbers: the same in new memory.
-/
import Derived.Test.YtlgeckgeiknmjaaAppI
import Derived.Lib.SliceRun
namespace Go.Proofs.Ytlgeckgeiknmjaa.Sha
open Go.RowKit

set_option maxRecDepth 100000 in
set_option maxHeartbeats 400000 in
theorem clonei_any (A : Option Addr) (n cap : Nat) (xs : List Int) (w : World) (hr : Ri w A n xs) (hn : n < 2147483648) :
    Calls Try.prog 33 #[.slice A n cap] w (NewRowI n xs w) := by
  cases A with
  | none =>
    have h0 : n = 0 := by
      rcases hr.2 with h | ⟨_, _, h, _⟩
      · exact h
      · cases h
    subst h0
    obtain rfl : xs = [] := List.eq_nil_of_length_eq_zero hr.1
    clear hr
    have hq := Lib.run_eql_slice_nil (P := Try.prog) w 41 3 none 0 cap 0 0 Try.underlying41
    go_enter Try.func33, Try.ntmps33
    go_wp2
    go_ret
    exact ⟨_, rfl, World.ownsRow_nil _ _ _ _, Below.refl _ _⟩
  | some a =>
    obtain ⟨N, hN⟩ : ∃ N, w.heap.size = N := ⟨_, rfl⟩
    have HR := Kept.mk (hr.bar (l := []) ((Bar.refl [] w).alloc (.cells #[] 3)) (by simp))
    have hown := World.ownsRow_made (base := N) (e := 3) (size := 1) w #[] 0 (by omega) (by unfold maxLen; omega) rfl
    rw [hN] at hown
    have bel : Below N w (w.alloc (.cells #[] 3)) := (Below.refl _ _).alloc (by omega) _
    have Own := Kept.mk hown
    have Bel := Kept.mk bel
    clear hown bel hr
    have hq := Lib.run_eql_slice_nil (P := Try.prog) w 41 3 (some a) n cap 0 0 Try.underlying41
    go_enter Try.func33, Try.ntmps33
    go_wp2_with ((with_reducible refine sel 7 ?_); refine wpList_append_ri rfl (.tmp 5) (.tmp 6) 41 rfl N 3 Try.underlying41 info_int (.slice (some ⟨N, 0, none⟩) 0 0) 0 [] rfl Own.out (some a) n cap xs rfl HR.out (by omega) (by simp [hN]) ?_; intro v' w' ho hg _)
    go_ret
    refine ⟨v', rfl, ?_, ?_⟩
    · have := ho.out
      simpa [hN] using this
    · rw [hN]; exact Bel.out.grown hg (by simp; omega) (by intro k hk; injection hk with hk; simp at hk; omega)
end Go.Proofs.Ytlgeckgeiknmjaa.Sha
