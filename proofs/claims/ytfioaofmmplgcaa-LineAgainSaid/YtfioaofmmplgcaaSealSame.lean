/-
  The document's own note: alike.
-/
import Derived.Test.YtfioaofmmplgcaaSealSpec
import Derived.Test.YtfioaofmmplgcaaBytes
namespace Go.Proofs.Ytfioaofmmplgcaa.Seal
open Go.RowKit Go.Proofs.Ytfioaofmmplgcaa.Sha Go.Proofs.Ytfioaofmmplgcaa.Wire Go.Proofs.Ytfioaofmmplgcaa.Mac

set_option maxRecDepth 100000 in
set_option maxHeartbeats 2000000 in
theorem rsame_yes (n : NV) (A B : Option Addr) (l c m d : Nat) (w : World) (ha : Rd w A l n.body) (hb : Rd w B m n.body) :
    Calls Try.prog 13 #[.agg #[.int .i64 n.party, .int .i64 n.which, .int .i64 n.way, .int .i64 n.seq, .slice A l c], .agg #[.int .i64 n.party, .int .i64 n.which, .int .i64 n.way, .int .i64 n.seq, .slice B m d]] w fun e w' => e = .returned (.bool true) ∧ Below w.heap.size w w' := by
  obtain ⟨p, h, y, s, bd⟩ := n
  dsimp only at ha hb ⊢
  have b2 : Below w.heap.size w ((w.alloc (.cells #[.int .i64 p, .int .i64 h, .int .i64 y, .int .i64 s, .slice A l c] 31)).alloc (.cells #[.int .i64 p, .int .i64 h, .int .i64 y, .int .i64 s, .slice B m d] 31)) := ((Below.refl _ _).alloc (Nat.le_refl _) _).alloc (by simp) _
  have cb := Kept.mk (bytes_same A B l m c d bd _ (ha.below b2) (hb.below b2))
  have B2 := Kept.mk b2
  clear ha hb b2
  go_enter Try.func13, Try.ntmps13
  go_wp2_with fail
  refine cb.out.mono ?_
  rintro x w' ⟨rfl, rfl⟩
  go_wp2
  go_ret
  exact ⟨rfl, B2.out⟩
end Go.Proofs.Ytfioaofmmplgcaa.Seal
