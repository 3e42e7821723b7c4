/-
  Rows of a call's own, of things of s cells each: read, one more. For any seat.
-/
import Derived.Test.YthhjmbbfibgjpaaRowsC
namespace Go.Proofs.Ythhjmbbfibgjpaa.Sha
open Go.RowKit

section
variable {α : Type}
/-- a row of things of a call's own -/
def Ow (C : α → List Value) (s : Nat) (T : TypeId) (w : World) (v : Value) (l : List α) : Prop := w.ownsRow 0 T s v l.length (l.flatMap C)
variable {C : α → List Value} {s : Nat} {T : TypeId} {w w' : World} {v : Value} {l : List α}
theorem Ow.keep {G : List Nat} (h : Ow C s T w v l) (b : Bar G w w') (hd : ∀ g ∈ v.ownBlock.toList, g ∉ G) : Ow C s T w' v l := own_keep h b hd
theorem Ow.lt (h : Ow C s T w v l) : ∀ g ∈ v.ownBlock.toList, g < w.heap.size := own_lt h
theorem Ow.nil (w : World) : Ow C s T w (.slice none 0 0) [] := World.ownsRow_nil _ _ _ _
theorem Ow.shape (h : Ow C s T w v l) : ∃ A c, v = .slice A l.length c ∧ l.length ≤ c ∧ c ≤ 9223372036854775807 := by
  rcases h.2 with ⟨hv, hx⟩ | ⟨g, c, cur, hv, -, -, h1, h2, -⟩
  · exact ⟨none, 0, by rw [hv, hx], by omega, by omega⟩
  · exact ⟨_, c, hv, h1, by unfold maxLen at h2; omega⟩
theorem Ow.rc (hC : ∀ x, (C x).length = s) (h : Ow C s T w v l) : ∃ A c, v = .slice A l.length c ∧ l.length ≤ c ∧ c ≤ 9223372036854775807 ∧ Rc C s w A l.length l := Rc.own hC h rfl
theorem Ow.snoc {x : α} (h : w.ownsRow 0 T s v (l.length + 1) (l.flatMap C ++ C x)) : Ow C s T w v (l ++ [x]) := by
  unfold Ow
  rw [List.length_append, List.length_singleton, List.flatMap_append, List.flatMap_singleton]
  exact h
end
end Go.Proofs.Ythhjmbbfibgjpaa.Sha
