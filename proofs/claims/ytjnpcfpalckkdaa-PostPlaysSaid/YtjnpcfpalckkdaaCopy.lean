/-
  The document's own copy of a text.
-/
import Derived.Test.YtjnpcfpalckkdaaMemB
namespace Go.Proofs.Ytjnpcfpalckkdaa.Sha
open Go.RowKit

def CopyPost (n : Nat) (xs : List Int) (w : World) (e : Ending) (w' : World) : Prop := ∃ v, e = .returned v ∧ w'.ownsRow w.heap.size 5 1 v n (ints .u8 xs) ∧ Below w.heap.size w w'

set_option maxRecDepth 100000 in
set_option maxHeartbeats 400000 in
theorem copy_any (A : Option Addr) (n cap : Nat) (xs : List Int) (w : World) (hr : Rd w A n xs) (hn : n < 2147483648) :
    Calls Try.prog 25 #[.slice A n cap] w (CopyPost n xs w) := by
  obtain ⟨N, hN⟩ : ∃ N, w.heap.size = N := ⟨_, rfl⟩
  have HR := Kept.mk (hr.keep (l := []) ((Bar.refl [] w).alloc (.cells #[] 5)) (by simp))
  have hown := World.ownsRow_made (base := N) (e := 5) (size := 1) w #[] 0 (by omega) (by unfold maxLen; omega) rfl
  rw [hN] at hown
  have bel : Below N w (w.alloc (.cells #[] 5)) := (Below.refl _ _).alloc (by omega) _
  have Own := Kept.mk hown
  have Bel := Kept.mk bel
  clear hown bel hr
  go_enter Try.func25, Try.ntmps25
  go_wp2_with ((with_reducible refine sel 5 ?_); refine wpList_append_rd rfl (.tmp 3) (.tmp 4) 32 rfl N 5 Try.underlying32 info_u8 (.slice (some ⟨N, 0, none⟩) 0 0) 0 [] rfl Own.out A n cap xs rfl HR.out (by omega) (by simp [hN]) ?_; intro v' w' ho hg)
  go_ret
  refine ⟨v', rfl, ?_, ?_⟩
  · have := ho.out
    simpa [hN] using this
  · rw [hN]; exact Bel.out.grown hg (by simp; omega) (by intro k hk; injection hk with hk; simp at hk; omega)
end Go.Proofs.Ytjnpcfpalckkdaa.Sha
