/-
  What PostOrder puts, copies and takes, as values.
-/
import Derived.Test.YtjnpcfpalckkdaaPostFirst
namespace Go.Proofs.Ytjnpcfpalckkdaa.Post
open Go.RowKit Go.Proofs.Ytjnpcfpalckkdaa.Sha

theorem Rb.far {w w' : World} {A : Option Addr} {n : Nat} {b : List Int} {M : Nat} (h : Rb w A n b) (k : Bar [M] w w') (o : Off A n [M]) : Rb w' A n b := by
  refine ⟨h.1.far k o, ?_⟩
  rcases h.2 with h0 | ⟨g, o', cs, fr, rfl, hg⟩
  · exact .inl h0
  · rcases o with h0 | ⟨g', o2, e, hn⟩
    · exact .inl h0
    · injection e with e
      injection e with e _
      subst e
      exact .inr ⟨g, o', cs, fr, rfl, by rw [k.block g (Array.getElem?_eq_some_iff.1 hg).1 hn]; exact hg⟩
theorem Po.far {T : TypeId} {F : List Nat} {N x M : Nat} {w w' : World} {m : Int} {q : List PA} (h : Po T F N w x m q) (b : Bar [M] w w') (hM : M ∉ F) (o : ∀ p ∈ q, Off p.A p.n [M]) : Po T F N w' x m q := by
  obtain ⟨hl, hm, ⟨v, hb, hr, rfl⟩, he⟩ := h
  refine ⟨hl, hm, ⟨v, hb.bar b (fun e => hM (by rw [List.mem_singleton] at e; simp [e])), own_keep hr b (fun g hg e => hM (by rw [List.mem_singleton] at e; subst e; simp [Option.mem_toList.1 hg])), rfl⟩, fun p hp => ⟨(he p hp).1, (he p hp).2.1, (he p hp).2.2.1, (he p hp).2.2.2.far b (o p hp)⟩⟩
theorem newA_off1 {w w' : World} {A : Option Addr} {n M : Nat} {b : List Int} (h : NewA w A) (r : Rd w' A n b) (hM : M < w.heap.size) : Off A n [M] := by
  rcases r.2.2 with h0 | ⟨g, o, e, -⟩
  · exact .inl h0
  · exact .inr ⟨g, o, e, fun hm => by have := h g o e; rw [List.mem_singleton] at hm; omega⟩
/-- the texts that are put -/
def tx (j : Nat) : PV := ⟨j, [(j : Int), 1]⟩
def row (k : Nat) : List PV := (List.range k).map tx
theorem row_len (k : Nat) : (row k).length = k := by simp [row]
theorem has_lt {j : Nat} {l : List PV} (h : j < l.length) : hasB (j : Int) l = true := by unfold hasB; exact decide_eq_true ⟨by omega, by omega⟩
theorem at_get {j : Nat} {l : List PV} (h : j < l.length) : atP (j : Int) l = l[j] := by
  unfold atP
  rw [if_pos (has_lt h), Int.toNat_natCast, List.getD_eq_getElem?_getD, List.getElem?_eq_getElem h]
  rfl
theorem row_put (k : Nat) (h : k < 150) : putE 150 (row k) (tx k).b = 0 ∧ putP 150 (row k) k (tx k).b = row (k + 1) := by
  have e : putE 150 (row k) (tx k).b = 0 := by
    unfold putE
    rw [row_len, if_neg (by omega), if_neg (by simp [tx])]
  refine ⟨e, ?_⟩
  unfold putP
  rw [if_pos e]
  unfold row
  rw [List.range_succ, List.map_append]
  rfl
theorem row_at {j k : Nat} (h : j < k) : atP (j : Int) (row k) = tx j := by
  rw [at_get (by rw [row_len]; exact h)]
  simp [row]
def rowC (n a : Nat) : List PV := row n ++ [tx a]
theorem rowC_len (n a : Nat) : (rowC n a).length = n + 1 := by simp [rowC, row_len]
theorem row_copy {n a : Nat} (h : a < n) (hn : n < 150) : copyE 150 a (row n) = 0 ∧ copyP 150 a (row n) = rowC n a := by
  have hh : hasB (a : Int) (row n) = true := has_lt (by rw [row_len]; exact h)
  have e : putE 150 (row n) (tx a).b = 0 := by
    unfold putE
    rw [row_len, if_neg (by omega), if_neg (by simp [tx])]
  unfold copyE copyP
  rw [if_pos hh, if_pos hh, row_at h]
  refine ⟨e, ?_⟩
  unfold putP
  rw [if_pos e]
  rfl
theorem rowC_last {n a : Nat} : hasB (n : Int) (rowC n a) = true ∧ atP (n : Int) (rowC n a) = tx a := by
  refine ⟨has_lt (by rw [rowC_len]; omega), ?_⟩
  rw [at_get (by rw [rowC_len]; omega)]
  unfold rowC
  rw [List.getElem_append_right (by rw [row_len]; omega)]
  simp [row_len]
theorem rowC_at {n a : Nat} (h : a < n) : hasB (a : Int) (rowC n a) = true ∧ atP (a : Int) (rowC n a) = tx a := by
  refine ⟨has_lt (by rw [rowC_len]; omega), ?_⟩
  rw [at_get (by rw [rowC_len]; omega)]
  unfold rowC
  rw [List.getElem_append_left (by rw [row_len]; omega)]
  simp [row]
def rowD (n a : Nat) : List PV := delP a (rowC n a)
theorem rowD_eq {n a : Nat} (h : a < n) : rowD n a = (rowC n a).take a ++ (rowC n a).drop (a + 1) := by
  unfold rowD delP
  rw [if_pos (rowC_at h).1, Int.toNat_natCast]
theorem rowD_len {n a : Nat} (h : a < n) : (rowD n a).length = n := by
  rw [rowD_eq h, List.length_append, List.length_take, List.length_drop, rowC_len]
  omega
theorem rowD_at {n a j : Nat} (h : a < n) (hj : j < n) : hasB (j : Int) (rowD n a) = true ∧ (atP (j : Int) (rowD n a)).to = if j = n - 1 then (a : Int) else if a ≤ j then (j : Int) + 1 else j := by
  refine ⟨has_lt (by rw [rowD_len h]; exact hj), ?_⟩
  have e : ∀ i, i < n + 1 → ((rowC n a)[i]?).map PV.to = some (if i = n then (a : Int) else i) := by
    intro i h1
    unfold rowC
    rw [List.getElem?_append, row_len]
    by_cases h2 : i < n
    · rw [if_pos h2, if_neg (by omega)]
      simp [row, tx, h2]
    · have : i = n := by omega
      subst this
      rw [if_neg h2, if_pos rfl]
      simp [tx]
  have e2 : (rowD n a)[j]? = (rowC n a)[if a ≤ j then j + 1 else j]? := by
    rw [rowD_eq h, List.getElem?_append, List.length_take, rowC_len, show min a (n + 1) = a by omega]
    by_cases h4 : j < a
    · rw [if_pos h4, if_neg (by omega), List.getElem?_take, if_pos h4]
    · rw [if_neg h4, if_pos (by omega), List.getElem?_drop, show a + 1 + (j - a) = j + 1 by omega]
  have e3 := e (if a ≤ j then j + 1 else j) (by split <;> omega)
  rw [← e2, List.getElem?_eq_getElem (by rw [rowD_len h]; exact hj), Option.map_some] at e3
  rw [at_get (by rw [rowD_len h]; exact hj)]
  injection e3 with e3
  rw [e3]
  by_cases h4 : a ≤ j
  · rw [if_pos h4, if_pos h4]
    by_cases h5 : j = n - 1
    · rw [if_pos (by omega), if_pos h5]
    · rw [if_neg (by omega), if_neg h5]; omega
  · rw [if_neg h4, if_neg h4, if_neg (by omega), if_neg (by omega)]
end Go.Proofs.Ytjnpcfpalckkdaa.Post
