/-
  Lists of whole numbers, read as bytes; a fact that no tactic looks into. No program in sight; for any seat.
-/
import Derived.ProofKit
import Derived.KernelRfl
namespace Go.Proofs.Ythhjmbbfibgjpaa.Sha

/-- a fact that no tactic looks into (a structure: 'contradiction' unfolds the library's Hid, and reckons what stands in it) -/
structure Kept (p : Prop) : Prop where
  out : p
/-- element i of a list of numbers, 0 behind its end (a name of its own: simp leaves it alone) -/
def at_ (l : List Int) (i : Nat) : Int := l.getD i 0
theorem at_eq {l : List Int} {i : Nat} (h : i < l.length) : l[i]? = some (at_ l i) := by simp [at_, h]
theorem at_append_left {l m : List Int} {i : Nat} (h : i < l.length) : at_ (l ++ m) i = at_ l i := by simp [at_, List.getD_eq_getElem?_getD, List.getElem?_append_left h]
theorem at_append_right {l m : List Int} {i : Nat} (h : l.length ≤ i) : at_ (l ++ m) i = at_ m (i - l.length) := by simp [at_, List.getD_eq_getElem?_getD, List.getElem?_append_right h]
theorem at_take {l : List Int} {n i : Nat} (h : i < n) : at_ (l.take n) i = at_ l i := by simp [at_, List.getD_eq_getElem?_getD, h]
theorem at_drop (l : List Int) (n i : Nat) : at_ (l.drop n) i = at_ l (n + i) := by simp [at_, List.getD_eq_getElem?_getD]
theorem at_range (f : Nat → Int) (n i : Nat) (h : i < n) : at_ ((List.range n).map f) i = f i := by simp [at_, List.getD_eq_getElem?_getD, h]
theorem at_ext {l m : List Int} (hl : l.length = m.length) (h : ∀ i, i < l.length → at_ l i = at_ m i) : l = m := by
  apply List.ext_getElem hl
  intro i h1 h2
  have := h i h1
  simpa [at_, h1, h2] using this
/-- bytes -/
def Bytes (l : List Int) : Prop := ∀ x ∈ l, 0 ≤ x ∧ x ≤ 255
theorem Bytes.at_ {l : List Int} (h : Bytes l) (i : Nat) : 0 ≤ at_ l i ∧ at_ l i ≤ 255 := by
  unfold Sha.at_
  by_cases hi : i < l.length
  · have := h l[i] (List.getElem_mem hi)
    simpa [hi] using this
  · simp [List.getElem?_eq_none (Nat.le_of_not_lt hi)]
theorem Bytes.append {l m : List Int} (h : Bytes l) (k : Bytes m) : Bytes (l ++ m) := fun x hx => by
  rcases List.mem_append.1 hx with h1 | h1
  · exact h x h1
  · exact k x h1
theorem Bytes.take {l : List Int} (h : Bytes l) (n : Nat) : Bytes (l.take n) := fun x hx => h x (List.mem_of_mem_take hx)
theorem Bytes.drop {l : List Int} (h : Bytes l) (n : Nat) : Bytes (l.drop n) := fun x hx => h x (List.mem_of_mem_drop hx)
theorem at_out {l : List Int} {i : Nat} (h : l.length ≤ i) : at_ l i = 0 := by simp [at_, List.getD_eq_getElem?_getD, List.getElem?_eq_none h]
/-- are both the same? -/
def sameB (xs ys : List Int) : Bool := decide (xs = ys)
theorem sameB_self (xs : List Int) : sameB xs xs = true := by simp [sameB]
theorem sameB_len {xs ys : List Int} (hl : xs.length ≠ ys.length) : sameB xs ys = false := by
  unfold sameB
  rw [decide_eq_false_iff_not]
  rintro rfl
  exact hl rfl
def ints (k : IntKind) (l : List Int) : List Value := l.map (Value.int k)
theorem ints_len (k : IntKind) (l : List Int) : (ints k l).length = l.length := by simp [ints]
theorem ints_at (k : IntKind) (l : List Int) (i : Nat) (h : i < l.length) : (ints k l)[i]? = some (.int k (at_ l i)) := by simp [ints, at_, h]
theorem ints_one (k : IntKind) (l : List Int) : ∀ v ∈ ints k l, v.oneCell' = true := by
  intro v hv
  obtain ⟨x, _, rfl⟩ := List.mem_map.1 hv
  rfl
theorem ints_set (k : IntKind) (l : List Int) (i : Nat) (x : Int) : (ints k l).set i (.int k x) = ints k (l.set i x) := by simp [ints, List.map_set]
/-- the first m of f, noughts behind, n in all -/
def upto (f : Nat → Int) (n m : Nat) : List Int := (List.range n).map fun i => if i < m then f i else 0
theorem upto_len (f : Nat → Int) (n m : Nat) : (upto f n m).length = n := by simp [upto]
theorem upto_at (f : Nat → Int) (n m i : Nat) (h : i < n) : at_ (upto f n m) i = if i < m then f i else 0 := at_range _ _ _ h
theorem at_set (l : List Int) (k i : Nat) (x : Int) (h : i < l.length) : at_ (l.set k x) i = if k = i then x else at_ l i := by
  simp [at_, List.getD_eq_getElem?_getD, List.getElem?_set]
  by_cases hk : k = i
  · subst hk; simp [h]
  · simp [hk]
theorem upto_set (f : Nat → Int) (n m : Nat) : (upto f n m).set m (f m) = upto f n (m + 1) := by
  apply at_ext
  · simp [upto_len]
  · intro i hi
    rw [List.length_set, upto_len] at hi
    rw [at_set _ _ _ _ (by rw [upto_len]; exact hi), upto_at _ _ _ _ hi, upto_at _ _ _ _ hi]
    by_cases h : m = i
    · subst h; simp
    · rw [if_neg h]
      by_cases h2 : i < m
      · rw [if_pos h2, if_pos (by omega)]
      · rw [if_neg h2, if_neg (by omega)]
theorem upto_all (l : List Int) (n : Nat) (h : l.length = n) : upto (at_ l) n n = l := by
  apply at_ext
  · rw [upto_len, h]
  · intro i hi
    rw [upto_len] at hi
    rw [upto_at _ _ _ _ hi, if_pos hi]
def arr (k : IntKind) (l : List Int) : Array Value := (ints k l).toArray
theorem arr_at (k : IntKind) (l : List Int) (i : Nat) (h : i < l.length) : (arr k l)[i]? = some (.int k (at_ l i)) := by
  rw [arr, List.getElem?_toArray]; exact ints_at k l i h
theorem arr_set (k : IntKind) (l : List Int) (i : Nat) (x : Int) : (arr k l).setIfInBounds i (.int k x) = arr k (l.set i x) := by
  rw [arr, List.setIfInBounds_toArray, ints_set, arr]
theorem arr_size (k : IntKind) (l : List Int) : (arr k l).size = l.length := by simp [arr, ints_len]
theorem zeros (n : Nat) (k : IntKind) (f : Nat → Int) : arr k (upto f n 0) = (List.replicate n (Value.int k 0)).toArray := by
  unfold arr ints upto
  congr 1
  apply List.ext_getElem
  · simp
  · intro i h1 h2; simp
theorem ints_append (k : IntKind) (l m : List Int) : ints k (l ++ m) = ints k l ++ ints k m := by simp [ints]
/-- the first k rows, one behind the other -/
def cat (X : Nat → List Int) : Nat → List Int
  | 0 => []
  | k + 1 => cat X k ++ X k
end Go.Proofs.Ythhjmbbfibgjpaa.Sha
