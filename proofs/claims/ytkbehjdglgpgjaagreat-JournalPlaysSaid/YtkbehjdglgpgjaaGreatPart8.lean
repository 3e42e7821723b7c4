/-
  Parts laid together: DiskPost.
-/
import Derived.Test.YtkbehjdglgpgjaaGreatPart1
import Derived.Test.YtkbehjdglgpgjaaGreatPart5
import Derived.Test.YtkbehjdglgpgjaaGreatPart7

namespace Go.Proofs.YtkbehjdglgpgjaaGreat.Disk
open Go.RowKit Go.Proofs.YtkbehjdglgpgjaaGreat.Sha

def CNewPost (Dk : World → List Nat → Nat → Nat → DS → Prop) (w : World) (n : Nat) (e : Ending) (w' : World) : Prop := ∃ d F, e = .returned (.tuple #[.pointer (some ⟨d, 0, none⟩), .int .i64 0]) ∧ Dk w' F d n (newD n) ∧ Fp [] F w w'
def StepPost (D : World → List Nat → DS → Prop) (w : World) (F : List Nat) (r : Int × DS) (e : Ending) (w' : World) : Prop := e = .returned (.int .i64 r.1) ∧ ∃ F', D w' F' r.2 ∧ Fp F F' w w'
def Holds (w : World) (e : Ending) (w' : World) : Prop := e = .returned (.bool true) ∧ Below w.heap.size w w'
theorem step_fp {w w1 w2 : World} {F F' : List Nat} (B : Kept (Below w.heap.size w w1)) (f : Fp F F' w1 w2) (hF : Kept (∀ k ∈ F, w.heap.size ≤ k)) : Kept (Below w.heap.size w w2) ∧ Kept (∀ k ∈ F', w.heap.size ≤ k) :=
 ⟨⟨B.out.trans (f.below hF.out B.out.size)⟩, ⟨f.least hF.out B.out.size⟩⟩
theorem step_below {w w1 w2 : World} (B : Kept (Below w.heap.size w w1)) (b : Below w1.heap.size w1 w2) : Kept (Below w.heap.size w w2) := ⟨B.out.trans (b.mono B.out.size)⟩
theorem none_least (B : Nat) : Kept (∀ k ∈ ([] : List Nat), B ≤ k) := ⟨by simp⟩
theorem mk64 (w : World) : ∃ w', (Instr.makeSlice 38 (.int .i64 64) (.int .i64 64)).run Tryz.prog w = .ok (.slice (some ⟨w.heap.size, 0, none⟩) 64 64) w' ∧ Rd w' (some ⟨w.heap.size, 0, none⟩) 64 zeros64 ∧ Blk w' w.heap.size 5 (arr .u8 zeros64) ∧ Below w.heap.size w w' := by
 obtain ⟨w', h1, h2, h3⟩ := make_blk w 64 (by omega)
 exact ⟨w', h1, Rd.blk h2 sec_zeros.2 rfl, h2, h3⟩
end Go.Proofs.YtkbehjdglgpgjaaGreat.Disk
