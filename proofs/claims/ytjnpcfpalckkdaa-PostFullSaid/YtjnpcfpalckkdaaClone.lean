/-
  bytes.Clone: the same bytes in new memory.
-/
import Derived.Test.YtjnpcfpalckkdaaMemB
import Derived.Lib.SliceRun
namespace Go.Proofs.Ytjnpcfpalckkdaa.Sha
open Go.RowKit

def NewRow (n : Nat) (xs : List Int) (w : World) (e : Ending) (w' : World) : Prop := ∃ v, e = .returned v ∧ w'.ownsRow w.heap.size 5 1 v n (ints .u8 xs) ∧ Below w.heap.size w w'

set_option maxRecDepth 100000 in
set_option maxHeartbeats 400000 in
theorem clone_any (A : Option Addr) (n cap : Nat) (xs : List Int) (w : World) (hr : Rd w A n xs) (hn : n < 2147483648) :
    Calls Try.prog 24 #[.slice A n cap] w (NewRow n xs w) := by
  cases A with
  | none =>
    have h0 : n = 0 := by
      rcases hr.2.2 with h | ⟨_, _, h, _⟩
      · exact h
      · cases h
    subst h0
    obtain rfl : xs = [] := List.eq_nil_of_length_eq_zero hr.1
    clear hr
    have hq := Lib.run_eql_slice_nil (P := Try.prog) w 32 5 none 0 cap 0 0 Try.underlying32
    go_enter Try.func24, Try.ntmps24
    go_wp2
    go_ret
    exact ⟨_, rfl, World.ownsRow_nil _ _ _ _, Below.refl _ _⟩
  | some a =>
    obtain ⟨N, hN⟩ : ∃ N, w.heap.size = N := ⟨_, rfl⟩
    have HR := Kept.mk (hr.keep (l := []) ((Bar.refl [] w).alloc (.cells #[] 5)) (by simp))
    have hown := World.ownsRow_made (base := N) (e := 5) (size := 1) w #[] 0 (by omega) (by unfold maxLen; omega) rfl
    rw [hN] at hown
    have bel : Below N w (w.alloc (.cells #[] 5)) := (Below.refl _ _).alloc (by omega) _
    have Own := Kept.mk hown
    have Bel := Kept.mk bel
    clear hown bel hr
    have hq := Lib.run_eql_slice_nil (P := Try.prog) w 32 5 (some a) n cap 0 0 Try.underlying32
    go_enter Try.func24, Try.ntmps24
    go_wp2_with ((with_reducible refine sel 7 ?_); refine wpList_append_rd rfl (.tmp 5) (.tmp 6) 32 rfl N 5 Try.underlying32 info_u8 (.slice (some ⟨N, 0, none⟩) 0 0) 0 [] rfl Own.out (some a) n cap xs rfl HR.out (by omega) (by simp [hN]) ?_; intro v' w' ho hg)
    go_ret
    refine ⟨v', rfl, ?_, ?_⟩
    · have := ho.out
      simpa [hN] using this
    · rw [hN]; exact Bel.out.grown hg (by simp; omega) (by intro k hk; injection hk with hk; simp at hk; omega)
end Go.Proofs.Ytjnpcfpalckkdaa.Sha
