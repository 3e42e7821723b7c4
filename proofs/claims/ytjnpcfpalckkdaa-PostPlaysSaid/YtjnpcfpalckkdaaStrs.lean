/-
  Texts that spell bytes: conversions of rows that are read.
-/
import Derived.Test.YtjnpcfpalckkdaaMemB
import Derived.Laws.BytesArg
import Derived.Lib.SlBytesConst
import Derived.Lib.Bytes
namespace Go.Proofs.Ytjnpcfpalckkdaa.Sha
open Go.RowKit

theorem conv_same {w : World} {A : Option Addr} {n cap : Nat} {xs : List Int} (r : Rd w A n xs) :
    (convert 32 9 (.slice A n cap)).run Try.prog w = .ok (.string (strOfNums xs)) w := by
  obtain ⟨h1, h2, h3⟩ := r
  by_cases h0 : n = 0
  · subst h0
    obtain rfl : xs = [] := List.eq_nil_of_length_eq_zero h1
    cases A with
    | none => exact run_convert_bytes_nil w _ _ Try.underlying32 Try.underlying5 0 cap _ Try.underlying9
    | some a =>
      have hl : (loadCells a 0).run Try.prog w = .ok (([] : List Int).map (Value.int .u8)).toArray w := by simp [loadCells, loadCellsFrom]
      rw [run_convert_bytes_string w _ _ 5 _ 0 cap Try.underlying32 Try.underlying5 Try.underlying9, run_bytesToString w _ 0 cap [] hl]
      simp [strOfNums, ByteArray.empty, ByteArray.emptyWithCapacity]
      rfl
  · rcases h3 with h3 | ⟨b, o, rfl, hc⟩
    · exact absurd h3 h0
    · exact run_convert_bytes_arg w _ _ Try.underlying32 Try.underlying5 b o n cap xs h1 hc _ Try.underlying9
theorem strOfNums_inj {xs ys : List Int} (hx : Bytes xs) (hy : Bytes ys) (h : (strOfNums xs).toList = (strOfNums ys).toList) : xs = ys := by
  have h1 : (xs.map fun n => UInt8.ofNat n.toNat) = ys.map fun n => UInt8.ofNat n.toNat := by
    rw [Lib.strOfNums_toList, Lib.strOfNums_toList] at h
    exact h
  have hl : xs.length = ys.length := by simpa using congrArg List.length h1
  apply List.ext_getElem hl
  intro i a b
  have h2 : UInt8.ofNat (xs[i]).toNat = UInt8.ofNat (ys[i]).toNat := by
    have := congrArg (fun l => l[i]?) h1
    simpa [a, b] using this
  have bx := hx xs[i] (List.getElem_mem a)
  have byy := hy ys[i] (List.getElem_mem b)
  have h3 := congrArg UInt8.toNat h2
  simp only [UInt8.toNat_ofNat'] at h3
  omega
end Go.Proofs.Ytjnpcfpalckkdaa.Sha
