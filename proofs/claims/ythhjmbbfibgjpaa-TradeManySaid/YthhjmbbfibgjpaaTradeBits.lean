/-
  The last bits of a number, as the laws of chapter 18 take them; a trade that came in, by value.
-/
import Derived.Test.YthhjmbbfibgjpaaTradeOps
import Derived.Laws.BitsLemmas
import Derived.Lib.SmallJoins
namespace Go.Proofs.Ythhjmbbfibgjpaa.Trade
open Go.RowKit Go.Proofs.Ythhjmbbfibgjpaa.Sha Go.ChangeShapes Go.WideShapes Go.Deep

theorem and1 (n : Int) : bits .and .i64 n 1 = n % 2 := by
  have h : (BitVec.ofInt 64 1).toNat = 2 ^ 1 - 1 := by decide
  have e : bits .and .i64 n 1 = IntKind.i64.wrap ((BitVec.ofInt 64 n &&& BitVec.ofInt 64 1).toNat : Nat) := rfl
  rw [e, BitVec.toNat_and, BitVec.toNat_ofInt, h, Nat.and_two_pow_sub_one_eq_mod, IntKind.wrap_i64]
  omega
theorem and3 (n : Int) : bits .and .i64 n 3 = n % 4 := by
  have h : (BitVec.ofInt 64 3).toNat = 2 ^ 2 - 1 := by decide
  have e : bits .and .i64 n 3 = IntKind.i64.wrap ((BitVec.ofInt 64 n &&& BitVec.ofInt 64 3).toNat : Nat) := rfl
  rw [e, BitVec.toNat_and, BitVec.toNat_ofInt, h, Nat.and_two_pow_sub_one_eq_mod, IntKind.wrap_i64]
  omega
theorem and15 (n : Int) : bits .and .i64 n 15 = n % 16 := by
  have h : (BitVec.ofInt 64 15).toNat = 2 ^ 4 - 1 := by decide
  have e : bits .and .i64 n 15 = IntKind.i64.wrap ((BitVec.ofInt 64 n &&& BitVec.ofInt 64 15).toNat : Nat) := rfl
  rw [e, BitVec.toNat_and, BitVec.toNat_ofInt, h, Nat.and_two_pow_sub_one_eq_mod, IntKind.wrap_i64]
  omega
theorem trade_arg {H : Type} {enc : TypeId × Value → H} {W : World} {r : Reach} {b0 base : Nat} {held : Bool} {v : Value} {d : DataW H} {p : List MemPlace}
    (hv : Value.okWide Try.prog W r b0 33 v) (h : DataW.Trod enc Try.prog W base (fun _ => true) held 33 v d p) : ∃ t : TV, v = tvV t := by
  obtain ⟨cs, rfl, hsz⟩ := okWide_struct Try.underlying33 hv
  obtain ⟨fuel, hf⟩ := h
  have hl : cs.toList.length = 7 := by rw [Array.length_toList]; exact hsz.trans (by kernel_rfl)
  have hf' : DataW.trod enc Try.prog W base (fun _ => true) held fuel 33 cs.toList = some (d, p) := hf
  obtain ⟨t, ht⟩ := tv_trod hl hf'
  refine ⟨t, ?_⟩
  have e : cs = (tvC t).toArray := by rw [← ht]
  rw [e]
  rfl
end Go.Proofs.Ythhjmbbfibgjpaa.Trade
