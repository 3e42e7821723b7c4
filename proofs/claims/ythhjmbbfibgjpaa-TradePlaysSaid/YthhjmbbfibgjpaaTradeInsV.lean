/-
  Chapter 18: where a number goes into a rising row. No program in sight.
-/
import Derived.Test.YthhjmbbfibgjpaaTradeSpec
namespace Go.Proofs.Ythhjmbbfibgjpaa.Trade
open Go.Proofs.Ythhjmbbfibgjpaa.Sha

theorem insI_split (i : Int) : ∀ (l : List Int) (k : Nat), k ≤ l.length → (∀ j, j < k → at_ l j < i) → (∀ j, k ≤ j → j < l.length → i < at_ l j) → insI i l = l.take k ++ [i] ++ l.drop k
  | [], k, hk, _, _ => by
    have : k = 0 := by simpa using hk
    subst this; rfl
  | a :: l, 0, _, _, h2 => by
    have h := h2 0 (Nat.le_refl _) (by simp)
    have e : at_ (a :: l) 0 = a := by simp [at_]
    rw [e] at h
    unfold insI
    rw [if_neg (by omega), if_neg (by omega)]
    rfl
  | a :: l, k + 1, hk, h1, h2 => by
    have h := h1 0 (by omega)
    have e : at_ (a :: l) 0 = a := by simp [at_]
    have e2 : ∀ j, at_ (a :: l) (j + 1) = at_ l j := fun j => by simp [at_]
    rw [e] at h
    unfold insI
    rw [if_pos h, insI_split i l k (by simpa using hk) (fun j hj => by have := h1 (j + 1) (by omega); rwa [e2] at this) (fun j hj hl => by have := h2 (j + 1) (by omega) (by simpa using hl); rwa [e2] at this)]
    rfl
theorem rise_lt {l : List Int} (h : l.Pairwise (· < ·)) {i j : Nat} (hij : i < j) (hj : j < l.length) : at_ l i < at_ l j := by
  have := List.pairwise_iff_getElem.1 h i j (by omega) hj hij
  have e1 := at_eq (l := l) (i := i) (by omega)
  have e2 := at_eq hj
  rw [List.getElem?_eq_getElem (by omega)] at e1 e2
  injection e1 with e1
  injection e2 with e2
  omega
theorem at_mem {l : List Int} {i : Nat} (h : i < l.length) : at_ l i ∈ l := List.mem_of_getElem? (at_eq h)
/-- where it stops: all below it are less -/
theorem ins_low {l : List Int} {i : Int} {k : Nat} (hr : l.Pairwise (· < ·)) (hn : i ∉ l) (hk : k + 1 ≤ l.length) (h : ¬ i < at_ l k) : ∀ j, j < k + 1 → at_ l j < i := fun j hj => by
  have h1 : at_ l k ≠ i := fun e => hn (e ▸ at_mem (by omega))
  by_cases e : j = k
  · subst e; omega
  · have := rise_lt hr (i := j) (j := k) (by omega) (by omega)
    omega
end Go.Proofs.Ythhjmbbfibgjpaa.Trade
