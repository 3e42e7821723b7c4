/-
  A struct stored whole into a block: its cells one by one. For any seat.
-/
import Derived.Test.YthhjmbbfibgjpaaMem
namespace Go.Proofs.Ythhjmbbfibgjpaa.Sha
open Go.RowKit

section
variable {w : World} {M : Nat} {T : TypeId}
theorem put2 {a0 a1 : Value} (h : Blk w M T #[a0, a1]) (b0 b1 : Value) : Blk ((w.setCell ⟨M, 0, none⟩ b0).setCell ⟨M, 1, none⟩ b1) M T #[b0, b1] ∧ Bar [M] w ((w.setCell ⟨M, 0, none⟩ b0).setCell ⟨M, 1, none⟩ b1) := by
  refine ⟨?_, (Bar.setCell (Bar.setCell (Bar.refl [M] w) (p := ⟨M, 0, none⟩) (.inl (by simp)) b0) (p := ⟨M, 1, none⟩) (.inl (by simp)) b1)⟩
  have := ((h.set_ 0 b0).set_ 1 b1)
  simpa using this
theorem put4 {a0 a1 a2 a3 : Value} (h : Blk w M T #[a0, a1, a2, a3]) (b0 b1 b2 b3 : Value) : Blk ((((w.setCell ⟨M, 0, none⟩ b0).setCell ⟨M, 1, none⟩ b1).setCell ⟨M, 2, none⟩ b2).setCell ⟨M, 3, none⟩ b3) M T #[b0, b1, b2, b3] ∧ Bar [M] w ((((w.setCell ⟨M, 0, none⟩ b0).setCell ⟨M, 1, none⟩ b1).setCell ⟨M, 2, none⟩ b2).setCell ⟨M, 3, none⟩ b3) := by
  refine ⟨?_, (Bar.setCell (Bar.setCell (Bar.setCell (Bar.setCell (Bar.refl [M] w) (p := ⟨M, 0, none⟩) (.inl (by simp)) b0) (p := ⟨M, 1, none⟩) (.inl (by simp)) b1) (p := ⟨M, 2, none⟩) (.inl (by simp)) b2) (p := ⟨M, 3, none⟩) (.inl (by simp)) b3)⟩
  have := ((((h.set_ 0 b0).set_ 1 b1).set_ 2 b2).set_ 3 b3)
  simpa using this
theorem put5 {a0 a1 a2 a3 a4 : Value} (h : Blk w M T #[a0, a1, a2, a3, a4]) (b0 b1 b2 b3 b4 : Value) : Blk (((((w.setCell ⟨M, 0, none⟩ b0).setCell ⟨M, 1, none⟩ b1).setCell ⟨M, 2, none⟩ b2).setCell ⟨M, 3, none⟩ b3).setCell ⟨M, 4, none⟩ b4) M T #[b0, b1, b2, b3, b4] ∧ Bar [M] w (((((w.setCell ⟨M, 0, none⟩ b0).setCell ⟨M, 1, none⟩ b1).setCell ⟨M, 2, none⟩ b2).setCell ⟨M, 3, none⟩ b3).setCell ⟨M, 4, none⟩ b4) := by
  refine ⟨?_, (Bar.setCell (Bar.setCell (Bar.setCell (Bar.setCell (Bar.setCell (Bar.refl [M] w) (p := ⟨M, 0, none⟩) (.inl (by simp)) b0) (p := ⟨M, 1, none⟩) (.inl (by simp)) b1) (p := ⟨M, 2, none⟩) (.inl (by simp)) b2) (p := ⟨M, 3, none⟩) (.inl (by simp)) b3) (p := ⟨M, 4, none⟩) (.inl (by simp)) b4)⟩
  have := (((((h.set_ 0 b0).set_ 1 b1).set_ 2 b2).set_ 3 b3).set_ 4 b4)
  simpa using this
theorem put7 {a0 a1 a2 a3 a4 a5 a6 : Value} (h : Blk w M T #[a0, a1, a2, a3, a4, a5, a6]) (b0 b1 b2 b3 b4 b5 b6 : Value) : Blk (((((((w.setCell ⟨M, 0, none⟩ b0).setCell ⟨M, 1, none⟩ b1).setCell ⟨M, 2, none⟩ b2).setCell ⟨M, 3, none⟩ b3).setCell ⟨M, 4, none⟩ b4).setCell ⟨M, 5, none⟩ b5).setCell ⟨M, 6, none⟩ b6) M T #[b0, b1, b2, b3, b4, b5, b6] ∧ Bar [M] w (((((((w.setCell ⟨M, 0, none⟩ b0).setCell ⟨M, 1, none⟩ b1).setCell ⟨M, 2, none⟩ b2).setCell ⟨M, 3, none⟩ b3).setCell ⟨M, 4, none⟩ b4).setCell ⟨M, 5, none⟩ b5).setCell ⟨M, 6, none⟩ b6) := by
  refine ⟨?_, (Bar.setCell (Bar.setCell (Bar.setCell (Bar.setCell (Bar.setCell (Bar.setCell (Bar.setCell (Bar.refl [M] w) (p := ⟨M, 0, none⟩) (.inl (by simp)) b0) (p := ⟨M, 1, none⟩) (.inl (by simp)) b1) (p := ⟨M, 2, none⟩) (.inl (by simp)) b2) (p := ⟨M, 3, none⟩) (.inl (by simp)) b3) (p := ⟨M, 4, none⟩) (.inl (by simp)) b4) (p := ⟨M, 5, none⟩) (.inl (by simp)) b5) (p := ⟨M, 6, none⟩) (.inl (by simp)) b6)⟩
  have := (((((((h.set_ 0 b0).set_ 1 b1).set_ 2 b2).set_ 3 b3).set_ 4 b4).set_ 5 b5).set_ 6 b6)
  simpa using this
theorem put8 {a0 a1 a2 a3 a4 a5 a6 a7 : Value} (h : Blk w M T #[a0, a1, a2, a3, a4, a5, a6, a7]) (b0 b1 b2 b3 b4 b5 b6 b7 : Value) : Blk ((((((((w.setCell ⟨M, 0, none⟩ b0).setCell ⟨M, 1, none⟩ b1).setCell ⟨M, 2, none⟩ b2).setCell ⟨M, 3, none⟩ b3).setCell ⟨M, 4, none⟩ b4).setCell ⟨M, 5, none⟩ b5).setCell ⟨M, 6, none⟩ b6).setCell ⟨M, 7, none⟩ b7) M T #[b0, b1, b2, b3, b4, b5, b6, b7] ∧ Bar [M] w ((((((((w.setCell ⟨M, 0, none⟩ b0).setCell ⟨M, 1, none⟩ b1).setCell ⟨M, 2, none⟩ b2).setCell ⟨M, 3, none⟩ b3).setCell ⟨M, 4, none⟩ b4).setCell ⟨M, 5, none⟩ b5).setCell ⟨M, 6, none⟩ b6).setCell ⟨M, 7, none⟩ b7) := by
  refine ⟨?_, (Bar.setCell (Bar.setCell (Bar.setCell (Bar.setCell (Bar.setCell (Bar.setCell (Bar.setCell (Bar.setCell (Bar.refl [M] w) (p := ⟨M, 0, none⟩) (.inl (by simp)) b0) (p := ⟨M, 1, none⟩) (.inl (by simp)) b1) (p := ⟨M, 2, none⟩) (.inl (by simp)) b2) (p := ⟨M, 3, none⟩) (.inl (by simp)) b3) (p := ⟨M, 4, none⟩) (.inl (by simp)) b4) (p := ⟨M, 5, none⟩) (.inl (by simp)) b5) (p := ⟨M, 6, none⟩) (.inl (by simp)) b6) (p := ⟨M, 7, none⟩) (.inl (by simp)) b7)⟩
  have := ((((((((h.set_ 0 b0).set_ 1 b1).set_ 2 b2).set_ 3 b3).set_ 4 b4).set_ 5 b5).set_ 6 b6).set_ 7 b7)
  simpa using this
theorem put9 {a0 a1 a2 a3 a4 a5 a6 a7 a8 : Value} (h : Blk w M T #[a0, a1, a2, a3, a4, a5, a6, a7, a8]) (b0 b1 b2 b3 b4 b5 b6 b7 b8 : Value) : Blk (((((((((w.setCell ⟨M, 0, none⟩ b0).setCell ⟨M, 1, none⟩ b1).setCell ⟨M, 2, none⟩ b2).setCell ⟨M, 3, none⟩ b3).setCell ⟨M, 4, none⟩ b4).setCell ⟨M, 5, none⟩ b5).setCell ⟨M, 6, none⟩ b6).setCell ⟨M, 7, none⟩ b7).setCell ⟨M, 8, none⟩ b8) M T #[b0, b1, b2, b3, b4, b5, b6, b7, b8] ∧ Bar [M] w (((((((((w.setCell ⟨M, 0, none⟩ b0).setCell ⟨M, 1, none⟩ b1).setCell ⟨M, 2, none⟩ b2).setCell ⟨M, 3, none⟩ b3).setCell ⟨M, 4, none⟩ b4).setCell ⟨M, 5, none⟩ b5).setCell ⟨M, 6, none⟩ b6).setCell ⟨M, 7, none⟩ b7).setCell ⟨M, 8, none⟩ b8) := by
  refine ⟨?_, (Bar.setCell (Bar.setCell (Bar.setCell (Bar.setCell (Bar.setCell (Bar.setCell (Bar.setCell (Bar.setCell (Bar.setCell (Bar.refl [M] w) (p := ⟨M, 0, none⟩) (.inl (by simp)) b0) (p := ⟨M, 1, none⟩) (.inl (by simp)) b1) (p := ⟨M, 2, none⟩) (.inl (by simp)) b2) (p := ⟨M, 3, none⟩) (.inl (by simp)) b3) (p := ⟨M, 4, none⟩) (.inl (by simp)) b4) (p := ⟨M, 5, none⟩) (.inl (by simp)) b5) (p := ⟨M, 6, none⟩) (.inl (by simp)) b6) (p := ⟨M, 7, none⟩) (.inl (by simp)) b7) (p := ⟨M, 8, none⟩) (.inl (by simp)) b8)⟩
  have := (((((((((h.set_ 0 b0).set_ 1 b1).set_ 2 b2).set_ 3 b3).set_ 4 b4).set_ 5 b5).set_ 6 b6).set_ 7 b7).set_ 8 b8)
  simpa using this
theorem put11 {a0 a1 a2 a3 a4 a5 a6 a7 a8 a9 a10 : Value} (h : Blk w M T #[a0, a1, a2, a3, a4, a5, a6, a7, a8, a9, a10]) (b0 b1 b2 b3 b4 b5 b6 b7 b8 b9 b10 : Value) : Blk (((((((((((w.setCell ⟨M, 0, none⟩ b0).setCell ⟨M, 1, none⟩ b1).setCell ⟨M, 2, none⟩ b2).setCell ⟨M, 3, none⟩ b3).setCell ⟨M, 4, none⟩ b4).setCell ⟨M, 5, none⟩ b5).setCell ⟨M, 6, none⟩ b6).setCell ⟨M, 7, none⟩ b7).setCell ⟨M, 8, none⟩ b8).setCell ⟨M, 9, none⟩ b9).setCell ⟨M, 10, none⟩ b10) M T #[b0, b1, b2, b3, b4, b5, b6, b7, b8, b9, b10] ∧ Bar [M] w (((((((((((w.setCell ⟨M, 0, none⟩ b0).setCell ⟨M, 1, none⟩ b1).setCell ⟨M, 2, none⟩ b2).setCell ⟨M, 3, none⟩ b3).setCell ⟨M, 4, none⟩ b4).setCell ⟨M, 5, none⟩ b5).setCell ⟨M, 6, none⟩ b6).setCell ⟨M, 7, none⟩ b7).setCell ⟨M, 8, none⟩ b8).setCell ⟨M, 9, none⟩ b9).setCell ⟨M, 10, none⟩ b10) := by
  refine ⟨?_, (Bar.setCell (Bar.setCell (Bar.setCell (Bar.setCell (Bar.setCell (Bar.setCell (Bar.setCell (Bar.setCell (Bar.setCell (Bar.setCell (Bar.setCell (Bar.refl [M] w) (p := ⟨M, 0, none⟩) (.inl (by simp)) b0) (p := ⟨M, 1, none⟩) (.inl (by simp)) b1) (p := ⟨M, 2, none⟩) (.inl (by simp)) b2) (p := ⟨M, 3, none⟩) (.inl (by simp)) b3) (p := ⟨M, 4, none⟩) (.inl (by simp)) b4) (p := ⟨M, 5, none⟩) (.inl (by simp)) b5) (p := ⟨M, 6, none⟩) (.inl (by simp)) b6) (p := ⟨M, 7, none⟩) (.inl (by simp)) b7) (p := ⟨M, 8, none⟩) (.inl (by simp)) b8) (p := ⟨M, 9, none⟩) (.inl (by simp)) b9) (p := ⟨M, 10, none⟩) (.inl (by simp)) b10)⟩
  have := (((((((((((h.set_ 0 b0).set_ 1 b1).set_ 2 b2).set_ 3 b3).set_ 4 b4).set_ 5 b5).set_ 6 b6).set_ 7 b7).set_ 8 b8).set_ 9 b9).set_ 10 b10)
  simpa using this
end
end Go.Proofs.Ythhjmbbfibgjpaa.Sha
