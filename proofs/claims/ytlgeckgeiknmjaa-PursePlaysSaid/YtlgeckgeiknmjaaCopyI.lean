/-
  The document's own copy of a row of whole numbers.
-/
import Derived.Test.YtlgeckgeiknmjaaAppI
namespace Go.Proofs.Ytlgeckgeiknmjaa.Sha
open Go.RowKit

set_option maxRecDepth 100000 in
set_option maxHeartbeats 400000 in
theorem copyi_any (A : Option Addr) (n cap : Nat) (xs : List Int) (w : World) (hr : Ri w A n xs) (hn : n < 2147483648) :
    Calls Try.prog 25 #[.slice A n cap] w (NewRowI n xs w) := by
  obtain ⟨N, hN⟩ : ∃ N, w.heap.size = N := ⟨_, rfl⟩
  have HR := Kept.mk (hr.bar (l := []) ((Bar.refl [] w).alloc (.cells #[] 3)) (by simp))
  have hown := World.ownsRow_made (base := N) (e := 3) (size := 1) w #[] 0 (by omega) (by unfold maxLen; omega) rfl
  rw [hN] at hown
  have bel : Below N w (w.alloc (.cells #[] 3)) := (Below.refl _ _).alloc (by omega) _
  have Own := Kept.mk hown
  have Bel := Kept.mk bel
  clear hown bel hr
  go_enter Try.func25, Try.ntmps25
  go_wp2_with ((with_reducible refine sel 5 ?_); refine wpList_append_ri rfl (.tmp 3) (.tmp 4) 41 rfl N 3 Try.underlying41 info_int (.slice (some ⟨N, 0, none⟩) 0 0) 0 [] rfl Own.out A n cap xs rfl HR.out (by omega) (by simp [hN]) ?_; intro v' w' ho hg _)
  go_ret
  refine ⟨v', rfl, ?_, ?_⟩
  · have := ho.out
    simpa [hN] using this
  · rw [hN]; exact Bel.out.grown hg (by simp; omega) (by intro k hk; injection hk with hk; simp at hk; omega)
end Go.Proofs.Ytlgeckgeiknmjaa.Sha
