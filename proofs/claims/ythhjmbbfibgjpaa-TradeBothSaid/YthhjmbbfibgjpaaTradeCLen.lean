/-
  Package trade: Len; the landed desk's calls, by its memory whole.
-/
import Derived.Test.YthhjmbbfibgjpaaTradeCMat
import Derived.Test.YthhjmbbfibgjpaaTradeCOpen
import Derived.Test.YthhjmbbfibgjpaaTradeTwo
namespace Go.Proofs.Ythhjmbbfibgjpaa.Trade
open Go.RowKit Go.Proofs.Ythhjmbbfibgjpaa.Sha

section
variable {F : List Nat} {N x : Nat} {w : World} {p c a : Int} {C : List CV}
theorem len_any (h : Td F N w x p c a C) : Calls Try.prog 14 #[.pointer (some ⟨x, 0, none⟩)] w fun e w' => e = .returned (.int .i64 (C.length : Nat)) ∧ w = w' := by
  obtain ⟨A, cp, c3⟩ := h.cell3
  clear h
  go_enter Try.func14, Try.ntmps14
  go_wp2
  go_ret
  exact ⟨rfl, rfl⟩
theorem mat_any (h : Td F N w x p c a C) (hC : Okc C) : Calls Try.prog 16 #[.pointer (some ⟨x, 0, none⟩)] w (TradesP (matched (tr C)) w) := by
  obtain ⟨v, X, -⟩ := h
  exact matched_any X hC
theorem opn_any (h : Td F N w x p c a C) (hC : Okc C) : Calls Try.prog 19 #[.pointer (some ⟨x, 0, none⟩)] w (IdsP (openI (tr C)) w) := by
  obtain ⟨v, X, -⟩ := h
  exact open_any X hC
end
end Go.Proofs.Ythhjmbbfibgjpaa.Trade
