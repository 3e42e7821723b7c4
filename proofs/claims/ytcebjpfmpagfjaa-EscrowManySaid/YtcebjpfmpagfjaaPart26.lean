/-
  Parts laid together: Bools.
-/
import Derived.Test.YtcebjpfmpagfjaaPart6
import Derived.Deep.Grids
import Derived.ChangeSame

namespace Go.Proofs.Ytcebjpfmpagfjaa.Sha
open Go.RowKit Go.ChangeShapes Go.WideShapes Go.Deep

/-- a slice of bools in memory, to be read: they are bs -/
def Rb (w : World) (A : Option Addr) (n : Nat) (bs : List Bool) : Prop :=
  bs.length = n ∧ (n = 0 ∨ ∃ b o, A = some ⟨b, o, none⟩ ∧ ∀ i, i < n → w.cell? ⟨b, o + i, none⟩ = some (.bool (bs.getD i false)))
theorem Rb.bar {w w' : World} {A : Option Addr} {n : Nat} {xs : List Bool} {l : List Nat} (r : Rb w A n xs) (b : Bar l w w') (hl : ∀ x ∈ l, w.heap.size ≤ x ∨ ∀ o, A ≠ some ⟨x, o, none⟩) : Rb w' A n xs := by
  obtain ⟨h1, h3⟩ := r
  refine ⟨h1, h3.imp id ?_⟩
  rintro ⟨bb, o, rfl, hc⟩
  refine ⟨bb, o, rfl, fun i hi => ?_⟩
  have hlt : bb < w.heap.size := World.block_lt_of_cell? _ _ (hc i hi)
  rw [← hc i hi]
  refine World.cell?_of_block (w := w) (b.block bb hlt (fun hm => ?_))
  rcases hl bb hm with h | h
  · omega
  · exact h o rfl
theorem Rb.below {w w' : World} {A : Option Addr} {n : Nat} {xs : List Bool} (r : Rb w A n xs) (b : Below w.heap.size w w') : Rb w' A n xs := r.bar (l := []) (barOf b []) (by simp)
theorem Rb.far {w w' : World} {A : Option Addr} {n : Nat} {xs : List Bool} {F : List Nat} (r : Rb w A n xs) (b : Bar F w w') (h : Off A n F) : Rb w' A n xs := by
  rcases h with rfl | ⟨g, o, rfl, hg⟩
  · exact ⟨r.1, .inl rfl⟩
  · exact r.bar b (fun x hx => .inr fun o' ho => by injection ho with ho; injection ho with ho; exact hg (ho ▸ hx))
theorem Rb.off {w : World} {A : Option Addr} {n : Nat} {xs : List Bool} {F : List Nat} (r : Rb w A n xs) (h : ∀ k ∈ F, w.heap.size ≤ k) : Off A n F := by
  rcases r.2 with h0 | ⟨b, o, rfl, hc⟩
  · exact .inl h0
  · by_cases h0 : n = 0
    · exact .inl h0
    · refine .inr ⟨b, o, rfl, fun hb => ?_⟩
      have := World.block_lt_of_cell? _ _ (hc 0 (by omega))
      have := h b hb
      simp at *
      omega
theorem Rb.nil_ {w : World} {A : Option Addr} : Rb w A 0 [] := ⟨rfl, .inl rfl⟩
section
variable {H : Type} {enc : TypeId × Value → H} {P : Program} {w : World} {base : Nat} {held : Bool}
/-- bools that came in, in a field or as an argument -/
theorem bools_field {t e : TypeId} {n : Nat} {v : Value} {y : DataW H × List MemPlace} (ht : P.underlying t = some (.slice e)) (he : P.underlying e = some .bool) (hc : P.cellsOf e = 1) (h : DataW.trod enc P w base (fun _ => true) held n t [v] = some y) :
    ∃ A l c bs, v = .slice A l c ∧ l ≤ c ∧ c ≤ 9223372036854775807 ∧ Rb w A l bs := by
  rcases open_bools ht he hc h with ⟨hcs, _⟩ | ⟨a, l, c, B, hcs, _, hl, hm, _, hcell⟩
  · simp at hcs
    exact ⟨none, 0, 0, [], hcs, Nat.le_refl _, by omega, Rb.nil_⟩
  · simp at hcs
    unfold maxLen at hm
    refine ⟨some a, l, c, (List.range l).map B, hcs, hl, by omega, by simp, ?_⟩
    by_cases h0 : l = 0
    · exact .inl h0
    · refine .inr ?_
      obtain ⟨b, o, spot⟩ := a
      have hspot : spot = none := by
        have hc0 := hcell 0 (by omega)
        simpa [Addr.add] using World.cell?_spot hc0
      subst hspot
      refine ⟨b, o, rfl, fun i hi => ?_⟩
      have := hcell i (by omega)
      have e1 : (⟨b, o, none⟩ : Addr).add i = ⟨b, o + i, none⟩ := by cases i <;> simp [Addr.add]
      rw [e1] at this
      rw [this]
      simp [hi]
theorem bools_arg {t e : TypeId} {A : Option Addr} {l c : Nat} {d : DataW H} {p : List MemPlace} (ht : P.underlying t = some (.slice e)) (he : P.underlying e = some .bool) (hc : P.cellsOf e = 1) (h : DataW.Trod enc P w base (fun _ => true) held t (.slice A l c) d p) :
    l ≤ c ∧ c ≤ 9223372036854775807 ∧ ∃ bs, Rb w A l bs := by
  obtain ⟨fuel, hf⟩ := h
  obtain ⟨A', l', c', bs, hv, h1, h2, h3⟩ := bools_field ht he hc hf
  injection hv with e1 e2 e3
  subst e1 e2 e3
  exact ⟨h1, h2, bs, h3⟩
end
end Go.Proofs.Ytcebjpfmpagfjaa.Sha
