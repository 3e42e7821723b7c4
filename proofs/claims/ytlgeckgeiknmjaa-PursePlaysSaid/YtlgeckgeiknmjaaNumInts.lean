/-
  A slice of whole numbers in memory; the steps of a sum.
-/
import Derived.Test.YtlgeckgeiknmjaaNumMath
import Derived.Test.YtlgeckgeiknmjaaChecked
import Derived.WalkKit
import Derived.WalkSpells
import Derived.WalkLawsBesides
import Derived.OpenShut
import Derived.Lib.Hide
import Derived.ProofKit
namespace Go.Proofs.Ytlgeckgeiknmjaa.Num
open Go.RowKit

/-- A slice of whole numbers in memory, to be read: its numbers are l. -/
def Ints (w : World) (a : Option Addr) (len : Nat) (l : List Int) : Prop :=
  l.length = len ∧ len ≤ 9223372036854775807 ∧ (len = 0 ∨ ∃ b off, a = some ⟨b, off, none⟩ ∧ ∀ i, i < len → w.cell? ⟨b, off + i, none⟩ = some (.int .i64 (l.getD i 0)))
theorem sum_end {l : List Int} {u : Int} (k : Nat) (hk : k = l.length) (h : sumGo 0 (l.take k) = some u) : Ending.returned (.tuple #[.int .i64 u, .int .i64 0]) = .returned (.tuple #[.int .i64 (sumN l), .int .i64 (sumE l)]) := by
  subst hk
  rw [List.take_length] at h
  simp [sumN, sumE, h, bit]
theorem sum_none {l : List Int} (k : Nat) (hk : k ≤ l.length) (h : sumGo 0 (l.take k) = none) : Ending.returned (.tuple #[.int .i64 0, .int .i64 1]) = .returned (.tuple #[.int .i64 (sumN l), .int .i64 (sumE l)]) := by
  have := sumGo_none l k h l.length hk
  rw [List.take_length] at this
  simp [sumN, sumE, this, bit]
theorem step_yes {l : List Int} {k : Nat} {u n : Int} (hk : k < l.length) (h : sumGo 0 (l.take k) = some u) (hn : l.getD k 0 = n) (hb : addB u n = true) : sumGo 0 (l.take (k + 1)) = some (u + n) := by
  rw [sumGo_take l k u hk h, hn, if_pos hb]
theorem step_no {l : List Int} {k : Nat} {u n : Int} (hk : k < l.length) (h : sumGo 0 (l.take k) = some u) (hn : l.getD k 0 = n) (hb : addB u n = false) : sumGo 0 (l.take (k + 1)) = none := by
  rw [sumGo_take l k u hk h, hn, if_neg (by simp [hb])]
theorem Ints.below {w w' : World} {a : Option Addr} {len : Nat} {l : List Int} (h : Ints w a len l) (hb : Below w.heap.size w w') : Ints w' a len l := by
  obtain ⟨h1, h2, h3⟩ := h
  refine ⟨h1, h2, h3.imp id ?_⟩
  rintro ⟨b, off, rfl, hc⟩
  refine ⟨b, off, rfl, fun i hi => ?_⟩
  have := hc i hi
  rw [← this]
  exact hb.cell (p := ⟨b, off + i, none⟩) (World.block_lt_of_cell? _ _ this)
end Go.Proofs.Ytlgeckgeiknmjaa.Num
