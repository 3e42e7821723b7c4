/-
  '[]byte(s)' of a text that spells bytes: a new row of them.
-/
import Derived.Test.YtgjmnefninmoiaaBytes
import Derived.Lib.ConvBytes
namespace Go.Proofs.Ytgjmnefninmoiaa.Sha
open Go.RowKit

theorem str_at (xs : List Int) (hb : Bytes xs) (j : Nat) (hj : j < xs.length) : (((strOfNums xs).data.toList.getD j 0).toNat : Int) = at_ xs j := by
  have hx := hb xs[j] (List.getElem_mem hj)
  rw [strOfNums_data]
  simp only [List.getD_eq_getElem?_getD, List.getElem?_map, List.getElem?_eq_getElem hj, Option.map_some, Option.getD_some, at_]
  simp only [UInt8.toNat_ofNat']
  omega
/-- the row is one to be read (its block bears the mark of a conversion) -/
theorem to_bytes (w : World) (xs : List Int) (hb : Bytes xs) : ∃ w' c, (convert 9 36 (.string (strOfNums xs))).run Try.prog w = .ok (.slice (some ⟨w.heap.size, 0, none⟩) xs.length c) w' ∧ Rd w' (some ⟨w.heap.size, 0, none⟩) xs.length xs ∧ Below w.heap.size w w' := by
  have h := Lib.run_convert_string_bytes (P := Try.prog) w _ _ 5 (strOfNums xs) Try.underlying9 Try.underlying36 Try.underlying5
  rw [strOfNums_size] at h
  refine ⟨_, _, h, ⟨rfl, hb, .inr ⟨w.heap.size, 0, rfl, fun i hi => ?_⟩⟩, ?_⟩
  · rw [Nat.zero_add, Lib.bytesWorld_cell w _ _ i (by rw [strOfNums_size]; exact hi), str_at xs hb i hi]
  · refine ⟨?_, ?_, ?_, by rw [Lib.bytesWorld_size]; omega, fun k hk => Lib.bytesWorld_at_old w _ _ k hk⟩
    all_goals simp [Lib.bytesWorld, World.freeze, World.alloc, World.drew, -World.alloc_eq, -World.drew_eq]
end Go.Proofs.Ytgjmnefninmoiaa.Sha
