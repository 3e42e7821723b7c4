/-
  An argument that is a row of things of so many cells: the cells of each, as they are trod. For any seat.
-/
import Derived.Test.YthhjmbbfibgjpaaStructs
namespace Go.Proofs.Ythhjmbbfibgjpaa.Sha
open Go.RowKit Go.ChangeShapes Go.WideShapes Go.Deep

section
variable {H : Type} {enc : TypeId × Value → H} {w : World} {base : Nat} {held : Bool}
/-- a row of things of C cells: the cells of each, as they are trod -/
theorem cells_of {P : Program} {t e : TypeId} {C : Nat} {A : Option Addr} {len cap : Nat} {d : DataW H} {p : List MemPlace} (ht : P.underlying t = some (.slice e)) (hC : P.cellsOf e = C) (hpos : 0 < C) (h : DataW.Trod enc P w base (fun _ => true) held t (.slice A len cap) d p) :
    len ≤ cap ∧ cap ≤ maxLen ∧ (len = 0 ∨ ∃ b o, A = some ⟨b, o, none⟩ ∧ ∀ i, i < len → ∃ (cs : List Value) (m : Nat) (y : DataW H × List MemPlace), cs.length = C ∧ (∀ j, j < C → w.cell? ⟨b, o + (i * C + j), none⟩ = cs[j]?) ∧ DataW.trod enc P w base (fun _ => true) held m e cs = some y) := by
  obtain ⟨fuel, hf⟩ := h
  rcases open_slice ht hf with ⟨hcs, _⟩ | ⟨a, l, c, m, n, D, Pl, hcs, hb, hl, hm, hmm, hx, hi⟩
  · simp [Value.cells] at hcs
    obtain ⟨rfl, rfl, rfl⟩ := hcs
    exact ⟨Nat.le_refl _, Nat.zero_le _, .inl rfl⟩
  · simp [Value.cells] at hcs
    obtain ⟨rfl, rfl, rfl⟩ := hcs
    refine ⟨hl, hm, ?_⟩
    by_cases h0 : len = 0
    · exact .inl h0
    · refine .inr ?_
      simp only [if_true] at hmm
      have get : ∀ i, i < len → ∃ (cs : List Value) (m : Nat) (y : DataW H × List MemPlace), cs.length = C ∧ (∀ j, j < C → w.cell? (a.add (i * C + j)) = cs[j]?) ∧ DataW.trod enc P w base (fun _ => true) held m e cs = some y := by
        intro i hil
        obtain ⟨cs, hc, htr⟩ := hi i (by omega)
        rw [hC] at hc
        obtain ⟨_, hcl, hat⟩ := World.cells?_some hc
        refine ⟨cs, _, _, hcl, fun j hj => ?_, htr⟩
        rw [← Go.Deep.add_add]
        exact hat j hj
      obtain ⟨b, o, spot⟩ := a
      have hspot : spot = none := by
        obtain ⟨cs, _, _, hl, hc, _⟩ := get 0 (by omega)
        have h1 := hc 0 hpos
        rw [List.getElem?_eq_getElem (by omega)] at h1
        simpa [Addr.add] using World.cell?_spot h1
      subst hspot
      refine ⟨b, o, rfl, fun i hil => ?_⟩
      have e1 : ∀ k, (⟨b, o, none⟩ : Addr).add k = ⟨b, o + k, none⟩ := fun k => by cases k <;> simp [Addr.add]
      obtain ⟨cs, m, y, h1, h2, h3⟩ := get i hil
      exact ⟨cs, m, y, h1, fun j hj => by rw [← e1]; exact h2 j hj, h3⟩
end
end Go.Proofs.Ythhjmbbfibgjpaa.Sha
