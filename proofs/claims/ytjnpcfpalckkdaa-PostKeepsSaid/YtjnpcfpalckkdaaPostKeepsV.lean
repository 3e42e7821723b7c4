/-
  What PostKeeps counts, as values.
-/
import Derived.Test.YtjnpcfpalckkdaaPostMem
import Derived.Laws.BitsLemmas
namespace Go.Proofs.Ytjnpcfpalckkdaa.Post
open Go.RowKit Go.Proofs.Ytjnpcfpalckkdaa.Sha

theorem and255 (n : Int) : bits .and .i64 n 255 = n % 256 := by
  have h255 : (BitVec.ofInt 64 255).toNat = 2 ^ 8 - 1 := by decide
  have e : bits .and .i64 n 255 = IntKind.i64.wrap ((BitVec.ofInt 64 n &&& BitVec.ofInt 64 255).toNat : Nat) := rfl
  rw [e, BitVec.toNat_and, BitVec.toNat_ofInt, h255, Nat.and_two_pow_sub_one_eq_mod, IntKind.wrap_i64]
  omega
/-- a parcel that the law puts -/
def kp (k : Nat) : PV := ⟨k, [(k : Int), 7]⟩
def AllK (l : List PV) : Prop := ∀ p ∈ l, ∃ k, k < 256 ∧ p = kp k
def cn (l : List PV) (j : Nat) : Nat := l.countP (fun p => decide (p.to = (j : Int)))
def tab (l : List PV) : List Int := (List.range 256).map (fun j => (cn l j : Int))
theorem tab_len (l : List PV) : (tab l).length = 256 := by simp [tab]
theorem tab_at {l : List PV} {j : Nat} (h : j < 256) : at_ (tab l) j = cn l j := at_range _ _ _ h
theorem cn_le (l : List PV) (j : Nat) : cn l j ≤ l.length := List.countP_le_length
theorem tab_nil : tab [] = List.replicate 256 0 := by
  unfold tab cn
  simp [List.map_const']
theorem tab_set {l l' : List PV} {k : Nat} {z : Int} (h : ∀ j, j < 256 → (cn l' j : Int) = if k = j then z else cn l j) : tab l' = (tab l).set k z := by
  apply at_ext
  · rw [List.length_set, tab_len, tab_len]
  · intro i hi
    rw [tab_len] at hi
    rw [at_set _ _ _ _ (by rw [tab_len]; exact hi), tab_at hi, tab_at hi]
    exact h i hi
theorem kp_to {k j : Nat} : decide ((kp k).to = (j : Int)) = decide (k = j) := by
  have : ((k : Int) = (j : Int)) = (k = j) := propext ⟨fun h => by omega, fun h => by rw [h]⟩
  unfold kp
  simp only [this]
theorem tab_push {l : List PV} {k : Nat} : tab (l ++ [kp k]) = (tab l).set k ((cn l k : Int) + 1) := by
  refine tab_set (fun j _ => ?_)
  unfold cn
  rw [List.countP_append, List.countP_singleton, kp_to]
  by_cases h : k = j
  · subst h; simp
  · simp [h]
theorem allK_push {l : List PV} {k : Nat} (h : AllK l) (hk : k < 256) : AllK (l ++ [kp k]) := fun p hp => (List.mem_append.1 hp).elim (h p) (fun e => by rw [List.mem_singleton] at e; exact ⟨k, hk, e⟩)
theorem allK_at {l : List PV} (h : AllK l) {i : Int} (hi : hasB i l = true) : ∃ k, k < 256 ∧ atP i l = kp k := by
  obtain ⟨j, rfl, hj⟩ := has_true hi
  unfold atP
  rw [if_pos hi, Int.toNat_natCast, List.getD_eq_getElem?_getD, List.getElem?_eq_getElem hj]
  exact h _ (List.getElem_mem hj)
theorem del_all {l : List PV} (h : AllK l) {i : Int} (hi : hasB i l = true) {k : Nat} (e : atP i l = kp k) :
    AllK (delP i l) ∧ 1 ≤ cn l k ∧ tab (delP i l) = (tab l).set k ((cn l k : Int) - 1) ∧ (delP i l).length + 1 = l.length := by
  obtain ⟨j, rfl, hj⟩ := has_true hi
  have e1 : l[j] = kp k := by
    unfold atP at e
    rw [if_pos hi, Int.toNat_natCast, List.getD_eq_getElem?_getD, List.getElem?_eq_getElem hj] at e
    exact e
  have e2 : delP (j : Int) l = l.take j ++ l.drop (j + 1) := by unfold delP; rw [if_pos hi, Int.toNat_natCast]
  have e3 : l = l.take j ++ kp k :: l.drop (j + 1) := by
    conv => lhs; rw [← List.take_append_drop j l, List.drop_eq_getElem_cons hj, e1]
  have e4 : ∀ i, cn l i = cn (delP (j : Int) l) i + (if k = i then 1 else 0) := by
    intro i
    rw [e2]
    conv => lhs; rw [e3]
    unfold cn
    rw [List.countP_append, List.countP_append, List.countP_cons, kp_to]
    by_cases h : k = i
    · simp [h]; omega
    · simp [h]
  refine ⟨fun p hp => ?_, ?_, ?_, ?_⟩
  · rw [e2] at hp
    exact h p ((List.mem_append.1 hp).elim (fun h => List.mem_of_mem_take h) (fun h => List.mem_of_mem_drop h))
  · rw [e4 k, if_pos rfl]; omega
  · refine tab_set (fun i _ => ?_)
    have h1 := e4 i
    by_cases h : k = i
    · subst h
      rw [if_pos rfl] at h1 ⊢
      omega
    · rw [if_neg h] at h1 ⊢
      omega
  · rw [e2, List.length_append, List.length_take, List.length_drop]; omega
theorem put_kp {l : List PV} {m : Int} {k : Nat} : (putE m l (kp k).b = if (l.length : Int) = m then 12 else 0) ∧ putP m l k (kp k).b = if (l.length : Int) = m then l else l ++ [kp k] := by
  have e : putE m l (kp k).b = if (l.length : Int) = m then 12 else 0 := by
    unfold putE
    by_cases h : (l.length : Int) = m
    · rw [if_pos h, if_pos h]
    · rw [if_neg h, if_neg h, if_neg (by simp [kp])]
  refine ⟨e, ?_⟩
  unfold putP
  rw [e]
  by_cases h : (l.length : Int) = m
  · rw [if_pos h, if_pos h, if_neg (by omega)]
  · rw [if_neg h, if_neg h, if_pos rfl]; rfl
theorem copy_kp {l : List PV} {m i : Int} {k : Nat} (hi : hasB i l = true) (e : atP i l = kp k) : (copyE m i l = if (l.length : Int) = m then 12 else 0) ∧ copyP m i l = if (l.length : Int) = m then l else l ++ [kp k] := by
  unfold copyE copyP
  rw [if_pos hi, if_pos hi, e]
  exact put_kp
end Go.Proofs.Ytjnpcfpalckkdaa.Post
