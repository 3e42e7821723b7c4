/-
  Rows of things of s cells each, that are read; rows of a call's own. For any seat.
-/
import Derived.Test.YthhjmbbfibgjpaaMem
namespace Go.Proofs.Ythhjmbbfibgjpaa.Sha
open Go.RowKit

section
variable {α : Type} (C : α → List Value) (s : Nat)
theorem flatC_len (hC : ∀ x, (C x).length = s) : ∀ l : List α, (l.flatMap C).length = l.length * s
  | [] => by simp
  | x :: l => by
    rw [List.flatMap_cons, List.length_append, hC, flatC_len hC l, List.length_cons, Nat.add_mul]; omega
theorem flatC_at (hC : ∀ x, (C x).length = s) : ∀ (l : List α) (k j : Nat) (x : α), l[k]? = some x → j < s → (l.flatMap C)[k * s + j]? = (C x)[j]?
  | [], k, j, x, h, _ => by simp at h
  | y :: l, 0, j, x, h, hj => by
    simp at h
    subst h
    rw [List.flatMap_cons, List.getElem?_append_left (by rw [hC]; omega)]
    simp
  | y :: l, k + 1, j, x, h, hj => by
    have e : (k + 1) * s + j - s = k * s + j := by rw [Nat.add_mul]; omega
    rw [List.flatMap_cons, List.getElem?_append_right (by rw [hC, Nat.add_mul]; omega), hC, e]
    exact flatC_at hC l k j x (by simpa using h) hj
/-- n things in memory, to be read: they are l -/
def Rc (w : World) (A : Option Addr) (n : Nat) (l : List α) : Prop :=
  l.length = n ∧ (n = 0 ∨ ∃ b o, A = some ⟨b, o, none⟩ ∧ ∀ k x, l[k]? = some x → ∀ j v, (C x)[j]? = some v → w.cell? ⟨b, o + k * s + j, none⟩ = some v)
variable {C s} {w w' : World} {A : Option Addr} {n : Nat} {l : List α}
theorem Rc.nil : Rc C s w A 0 [] := ⟨rfl, .inl rfl⟩
theorem Rc.below (h : Rc C s w A n l) (b : Below w.heap.size w w') : Rc C s w' A n l := by
  refine ⟨h.1, h.2.imp id ?_⟩
  rintro ⟨bb, o, rfl, hc⟩
  refine ⟨bb, o, rfl, fun k x hx j v hv => ?_⟩
  have hh := hc k x hx j v hv
  rw [b.cell (World.block_lt_of_cell? _ _ hh)]; exact hh
theorem Rc.bar {F : List Nat} (h : Rc C s w A n l) (b : Bar F w w') (hF : ∀ x ∈ F, w.heap.size ≤ x ∨ ∀ o, A ≠ some ⟨x, o, none⟩) : Rc C s w' A n l := by
  refine ⟨h.1, h.2.imp id ?_⟩
  rintro ⟨bb, o, rfl, hc⟩
  refine ⟨bb, o, rfl, fun k x hx j v hv => ?_⟩
  have hh := hc k x hx j v hv
  have hlt := World.block_lt_of_cell? _ _ hh
  rw [← hh]
  refine World.cell?_of_block (w := w) (b.block bb hlt (fun hm => ?_))
  rcases hF bb hm with h1 | h1
  · simp at hlt; omega
  · exact h1 o rfl
/-- element k -/
theorem Rc.at_ (h : Rc C s w A n l) {k : Nat} (hk : k < n) : ∃ b o x, A = some ⟨b, o, none⟩ ∧ l[k]? = some x ∧ ∀ j v, (C x)[j]? = some v → w.cell? ⟨b, o + k * s + j, none⟩ = some v := by
  obtain ⟨b, o, hA, hc⟩ := h.2.resolve_left (by omega)
  have e : l[k]? = some (l[k]'(by rw [h.1]; exact hk)) := List.getElem?_eq_getElem _
  exact ⟨b, o, _, hA, e, hc k _ e⟩
/-- a row of a call's own is read -/
theorem Rc.own {base : Nat} {t : TypeId} {v : Value} (hC : ∀ x, (C x).length = s) (h : w.ownsRow base t s v n (l.flatMap C)) (hl : l.length = n) : ∃ A c, v = .slice A n c ∧ n ≤ c ∧ c ≤ 9223372036854775807 ∧ Rc C s w A n l := by
  have h0 := h
  rcases h.2 with ⟨hv, hx⟩ | ⟨g, c, cur, hv, -, hb, h1, h2, -⟩
  · exact ⟨none, 0, by rw [hv, hx], by omega, by omega, hl, .inl hx⟩
  · subst hv
    refine ⟨_, c, rfl, h1, by unfold maxLen at h2; omega, hl, .inr ⟨g, 0, rfl, fun k x hx j v hv => ?_⟩⟩
    have hj : j < s := by
      have := (List.getElem?_eq_some_iff.1 hv).1
      rwa [hC] at this
    have hk : k < n := by
      have := (List.getElem?_eq_some_iff.1 hx).1
      rwa [hl] at this
    have hb : k * s + j < n * s := by
      have : (k + 1) * s ≤ n * s := Nat.mul_le_mul_right s hk
      rw [Nat.add_mul] at this; omega
    rw [Nat.zero_add, World.ownsRow.cellAt h0 (k * s + j) hb, flatC_at C s hC l k j x hx hj, hv]
end
end Go.Proofs.Ythhjmbbfibgjpaa.Sha
