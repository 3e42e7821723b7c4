/-
  Chapter 9's laws: rows of operations that came in.
-/
import Derived.Test.YtlgeckgeiknmjaaPurseSpec
import Derived.Test.YtlgeckgeiknmjaaStructs
namespace Go.Proofs.Ytlgeckgeiknmjaa.Purse
open Go.RowKit Go.Proofs.Ytlgeckgeiknmjaa.Sha

/-- an operation -/
structure OpP where
  kind : Int
  a : Int
  b : Int
  asset : Int
  n : Int
/-- operation r of a row that came in -/
def OpAt (w : World) (g o r : Nat) (x : OpP) : Prop :=
  w.cell? ⟨g, o + r * 5, none⟩ = some (.int .i64 x.kind) ∧ w.cell? ⟨g, o + r * 5 + 1, none⟩ = some (.int .i64 x.a) ∧ w.cell? ⟨g, o + r * 5 + 2, none⟩ = some (.int .i64 x.b) ∧ w.cell? ⟨g, o + r * 5 + 3, none⟩ = some (.int .i64 x.asset) ∧ w.cell? ⟨g, o + r * 5 + 4, none⟩ = some (.int .i64 x.n)
def Ops (w : World) (A : Option Addr) (n : Nat) (X : Nat → OpP) : Prop := n = 0 ∨ ∃ b o, A = some ⟨b, o, none⟩ ∧ ∀ r, r < n → OpAt w b o r (X r)
theorem ops_of {H : Type} {enc : TypeId × Value → H} {w : World} {base : Nat} {held : Bool} {A : Option Addr} {len cap : Nat} {d : DataW H} {p : List MemPlace} (h : DataW.Trod enc Try.prog w base (fun _ => true) held 23 (.slice A len cap) d p) :
    len ≤ cap ∧ cap ≤ 9223372036854775807 ∧ ∃ X, Ops w A len X := by
  obtain ⟨h1, h2, h3⟩ := fields_of Try.underlying23 Try.underlying34 (by kernel_rfl) (by kernel_rfl) (by decide) h
  refine ⟨h1, by unfold maxLen at h2; omega, ?_⟩
  rcases h3 with h0 | ⟨b, o, hA, hf⟩
  · exact ⟨fun _ => ⟨0, 0, 0, 0, 0⟩, .inl h0⟩
  · have each : ∀ r, r < len → ∃ x, OpAt w b o r x := by
      intro r hr
      obtain ⟨v0, n0, y0, c0, t0⟩ := hf r hr 0 _ rfl
      obtain ⟨v1, n1, y1, c1, t1⟩ := hf r hr 1 _ rfl
      obtain ⟨v2, n2, y2, c2, t2⟩ := hf r hr 2 _ rfl
      obtain ⟨v3, n3, y3, c3, t3⟩ := hf r hr 3 _ rfl
      obtain ⟨v4, n4, y4, c4, t4⟩ := hf r hr 4 _ rfl
      obtain ⟨z0, rfl, _⟩ := int_field Try.underlying3 t0
      obtain ⟨z1, rfl, _⟩ := int_field Try.underlying3 t1
      obtain ⟨z2, rfl, _⟩ := int_field Try.underlying3 t2
      obtain ⟨z3, rfl, _⟩ := int_field Try.underlying3 t3
      obtain ⟨z4, rfl, _⟩ := int_field Try.underlying3 t4
      exact ⟨⟨z0, z1, z2, z3, z4⟩, c0, c1, c2, c3, c4⟩
    haveI : Inhabited OpP := ⟨⟨0, 0, 0, 0, 0⟩⟩
    obtain ⟨X, hX⟩ := Go.Deep.choose_lt each
    exact ⟨X, .inr ⟨b, o, hA, hX⟩⟩
/-- one of the operations, whatever came behind -/
theorem OpAt.later {w wr : World} {b o r : Nat} {x : OpP} (h : OpAt w b o r x) (B : Kept (Below w.heap.size w wr)) : OpAt wr b o r x := by
  have f : ∀ {i : Nat} {v : Value}, w.cell? ⟨b, i, none⟩ = some v → wr.cell? ⟨b, i, none⟩ = some v := fun {i v} hh => by rw [B.out.cell (World.block_lt_of_cell? _ _ hh)]; exact hh
  exact ⟨f h.1, f h.2.1, f h.2.2.1, f h.2.2.2.1, f h.2.2.2.2⟩
theorem Ops.at_ {w : World} {A : Option Addr} {n : Nat} {X : Nat → OpP} (h : Kept (Ops w A n X)) (r : Nat) (hr : r < n) : ∃ b o, A = some ⟨b, o, none⟩ ∧ OpAt w b o r (X r) := by
  obtain ⟨b, o, hA, hc⟩ := h.out.resolve_left (by omega)
  exact ⟨b, o, hA, hc r hr⟩
end Go.Proofs.Ytlgeckgeiknmjaa.Purse
