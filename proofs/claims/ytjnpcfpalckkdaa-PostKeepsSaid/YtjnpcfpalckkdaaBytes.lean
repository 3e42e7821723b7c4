/-
  Two lists of bytes held against each other by the document's own Bytes.
-/
import Derived.Test.YtjnpcfpalckkdaaStrs
namespace Go.Proofs.Ytjnpcfpalckkdaa.Sha
open Go.RowKit

set_option maxRecDepth 100000 in
set_option maxHeartbeats 400000 in
theorem bytes_same (A B : Option Addr) (n m c d : Nat) (xs : List Int) (w : World) (ha : Rd w A n xs) (hb : Rd w B m xs) :
    Calls Try.prog 23 #[.slice A n c, .slice B m d] w fun e w' => e = .returned (.bool true) ∧ w = w' := by
  have c1 := conv_same (cap := c) ha
  have c2 := conv_same (cap := d) hb
  generalize strOfNums xs = s at *
  clear ha hb
  go_enter Try.func23, Try.ntmps23
  go_wp2
  go_ret
  exact ⟨rfl, rfl⟩
set_option maxRecDepth 100000 in
set_option maxHeartbeats 400000 in
theorem bytes_any (A B : Option Addr) (n m c d : Nat) (xs ys : List Int) (w : World) (ha : Rd w A n xs) (hb : Rd w B m ys) :
    Calls Try.prog 23 #[.slice A n c, .slice B m d] w fun e w' => e = .returned (.bool (sameB xs ys)) ∧ w = w' := by
  by_cases he : xs = ys
  · subst he
    rw [sameB_self]
    exact bytes_same A B n m c d xs w ha hb
  · have hs : sameB xs ys = false := by unfold sameB; simpa using he
    rw [hs]
    have hne : ((strOfNums xs).toList == (strOfNums ys).toList) = false := by
      rw [beq_eq_false_iff_ne]
      exact fun h => he (strOfNums_inj ha.2.1 hb.2.1 h)
    have c1 := conv_same (cap := c) ha
    have c2 := conv_same (cap := d) hb
    generalize strOfNums xs = s at *
    generalize strOfNums ys = s2 at *
    clear ha hb he hs
    go_enter Try.func23, Try.ntmps23
    go_wp2
    go_ret
    exact ⟨rfl, rfl⟩
end Go.Proofs.Ytjnpcfpalckkdaa.Sha
