/-
  A row of rows of bytes that came in.
-/
import Derived.Test.YthhjmbbfibgjpaaMem
namespace Go.Proofs.Ythhjmbbfibgjpaa.Sha
open Go.RowKit

/-- n rows of bytes in memory, to be read: row r holds X r -/
def Rws (w : World) (A : Option Addr) (n : Nat) (X : Nat → List Int) : Prop :=
  n = 0 ∨ ∃ b o, A = some ⟨b, o, none⟩ ∧ ∀ r, r < n → ∃ a l c, w.cell? ⟨b, o + r, none⟩ = some (.slice a l c) ∧ l ≤ c ∧ c ≤ 9223372036854775807 ∧ Rd w a l (X r)
theorem Rws.below {w w' : World} {A : Option Addr} {n : Nat} {X : Nat → List Int} (h : Rws w A n X) (b : Below w.heap.size w w') : Rws w' A n X := by
  refine h.imp id ?_
  rintro ⟨bb, o, rfl, hc⟩
  refine ⟨bb, o, rfl, fun r hr => ?_⟩
  obtain ⟨a, l, c, h1, h2, h3, h4⟩ := hc r hr
  exact ⟨a, l, c, by rw [b.cell (World.block_lt_of_cell? _ _ h1)]; exact h1, h2, h3, h4.below b⟩
/-- an argument's rows -/
theorem rws_of_row {W : World} {a : Option Addr} {len cap : Nat} (h : (a = none ∧ len = 0 ∧ cap = 0) ∨ ∃ (x : Addr) (A : Nat → Option Addr) (L C : Nat → Nat) (Z : Nat → List Int), a = some x ∧ len ≤ cap ∧ cap ≤ maxLen ∧ ∀ r, r < cap → W.cell? (x.add r) = some (.slice (A r) (L r) (C r)) ∧ L r ≤ C r ∧ C r ≤ maxLen ∧ (Z r).length = C r ∧ (∀ n ∈ Z r, (Lit.int .u8 n).wf = true) ∧ (A r = none → C r = 0) ∧ ∀ a' : Addr, A r = some a' → 0 ≤ a'.block ∧ ∀ c, c < C r → W.cell? (a'.add c) = some (.int .u8 ((Z r).getD c 0))) :
    ∃ X, Rws W a len X := by
  rcases h with ⟨rfl, rfl, rfl⟩ | ⟨x, A, L, C, Z, rfl, hl, hm, hr⟩
  · exact ⟨fun _ => [], .inl rfl⟩
  · refine ⟨fun r => (Z r).take (L r), ?_⟩
    by_cases h0 : len = 0
    · exact .inl h0
    · refine .inr ?_
      obtain ⟨b, off, spot⟩ := x
      have hspot : spot = none := by
        have hc := (hr 0 (by omega)).1
        simpa [Addr.add] using World.cell?_spot hc
      subst hspot
      refine ⟨b, off, rfl, fun r hrl => ?_⟩
      obtain ⟨h1, h2, h3, h4, h5, h6, h7⟩ := hr r (by omega)
      have e : (⟨b, off, none⟩ : Addr).add r = ⟨b, off + r, none⟩ := by cases r <;> simp [Addr.add]
      rw [e] at h1
      refine ⟨A r, L r, C r, h1, h2, by unfold maxLen at h3; omega, ?_⟩
      refine rd_of_row (cap := C r) ?_
      cases hA : A r with
      | none =>
        have hC := h6 hA
        have hZ : Z r = [] := List.eq_nil_of_length_eq_zero (by omega)
        exact .inl ⟨rfl, by omega, hC, hZ⟩
      | some a' =>
        exact .inr ⟨a', rfl, h2, h3, h4, fun i hi => (h7 a' hA).2 i (by omega), h5⟩
end Go.Proofs.Ythhjmbbfibgjpaa.Sha
