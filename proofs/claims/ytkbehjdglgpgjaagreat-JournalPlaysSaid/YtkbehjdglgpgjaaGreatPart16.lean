/-
  Parts laid together: ToBytes.
-/
import Derived.Test.YtkbehjdglgpgjaaGreatPart5
import Derived.Lib.ConvBytes

namespace Go.Proofs.YtkbehjdglgpgjaaGreat.Sha
open Go.RowKit

theorem str_at (xs : List Int) (hb : Bytes xs) (j : Nat) (hj : j < xs.length) : (((strOfNums xs).data.toList.getD j 0).toNat : Int) = at_ xs j := by
 have hx := hb xs[j] (List.getElem_mem hj)
 rw [strOfNums_data]
 simp only [List.getD_eq_getElem?_getD, List.getElem?_map, List.getElem?_eq_getElem hj, Option.map_some, Option.getD_some, at_]
 simp only [UInt8.toNat_ofNat']
 omega
theorem to_bytes (w : World) (xs : List Int) (hb : Bytes xs) : ∃ w' c, (convert 9 38 (.string (strOfNums xs))).run Tryz.prog w = .ok (.slice (some ⟨w.heap.size, 0, none⟩) xs.length c) w' ∧ Rd w' (some ⟨w.heap.size, 0, none⟩) xs.length xs ∧ Below w.heap.size w w' := by
 have h := Lib.run_convert_string_bytes (P := Tryz.prog) w _ _ 5 (strOfNums xs) Tryz.underlying9 Tryz.underlying38 Tryz.underlying5
 rw [strOfNums_size] at h
 refine ⟨_, _, h, ⟨rfl, hb, .inr ⟨w.heap.size, 0, rfl, fun i hi => ?_⟩⟩, ?_⟩
 ·rw [Nat.zero_add, Lib.bytesWorld_cell w _ _ i (by rw [strOfNums_size]; exact hi), str_at xs hb i hi]
 ·refine ⟨?_, ?_, ?_, by rw [Lib.bytesWorld_size]; omega, fun k hk => Lib.bytesWorld_at_old w _ _ k hk⟩
  all_goals simp [Lib.bytesWorld, World.freeze, World.alloc, World.drew, -World.alloc_eq, -World.drew_eq]
end Go.Proofs.YtkbehjdglgpgjaaGreat.Sha
