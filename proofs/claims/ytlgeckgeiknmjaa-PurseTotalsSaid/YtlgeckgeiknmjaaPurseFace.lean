/-
  What package purse does, whatever it looks like inside: its calls as contracts over a predicate of its own; and what the document's own Purse does, likewise.
-/
import Derived.Test.YtlgeckgeiknmjaaPurseSpec
import Derived.Test.YtlgeckgeiknmjaaRowsI
namespace Go.Proofs.Ytlgeckgeiknmjaa.Purse
open Go.RowKit Go.Proofs.Ytlgeckgeiknmjaa.Sha

/-- a law that holds: it answers true, and what was there ahead is as it was -/
def Holds (w : World) (e : Ending) (w' : World) : Prop := e = .returned (.bool true) ∧ Below w.heap.size w w'
def NewPost (Pk : World → List Nat → Nat → PS → Prop) (w : World) (n : Nat) (X : Nat → List Int) (e : Ending) (w' : World) : Prop :=
  (¬ newOk n X ∧ e = .returned (.tuple #[.pointer none, .int .i64 1]) ∧ Below w.heap.size w w') ∨ (newOk n X ∧ ∃ p F, e = .returned (.tuple #[.pointer (some ⟨p, 0, none⟩), .int .i64 0]) ∧ Pk w' F p (newP n X) ∧ Fp [] F w w')
def StepPost (D : World → List Nat → PS → Prop) (w : World) (F : List Nat) (r : Int × PS) (e : Ending) (w' : World) : Prop := e = .returned (.int .i64 r.1) ∧ ∃ F', D w' F' r.2 ∧ Fp F F' w w'
/-- a call that only reads: it may draw, no more -/
def Tells (v : Value) (w : World) (e : Ending) (w' : World) : Prop := e = .returned v ∧ ∃ q, w' = w.drewN q
theorem step_fp {w w1 w2 : World} {F F' : List Nat} (B : Kept (Below w.heap.size w w1)) (f : Fp F F' w1 w2) (hF : Kept (∀ k ∈ F, w.heap.size ≤ k)) : Kept (Below w.heap.size w w2) ∧ Kept (∀ k ∈ F', w.heap.size ≤ k) :=
  ⟨⟨B.out.trans (f.below hF.out B.out.size)⟩, ⟨f.least hF.out B.out.size⟩⟩
theorem step_below {w w1 w2 : World} (B : Kept (Below w.heap.size w w1)) (b : Below w1.heap.size w1 w2) : Kept (Below w.heap.size w w2) := ⟨B.out.trans (b.mono B.out.size)⟩
theorem none_least (B : Nat) : Kept (∀ k ∈ ([] : List Nat), B ≤ k) := ⟨by simp⟩
end Go.Proofs.Ytlgeckgeiknmjaa.Purse
