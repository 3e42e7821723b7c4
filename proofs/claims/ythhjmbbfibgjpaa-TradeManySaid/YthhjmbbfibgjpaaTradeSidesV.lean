/-
  The law TradeSides, over plain values.
-/
import Derived.Test.YthhjmbbfibgjpaaTradeSpec
namespace Go.Proofs.Ythhjmbbfibgjpaa.Trade
open Go.Proofs.Ythhjmbbfibgjpaa.Sha

/-- what the other side says -/
def uT (f : Int) (t : TV) : TV := if f % 4 = 1 then { t with qty := t.qty % 1000 + 1001 } else if f % 4 = 2 then { t with price := t.price % 1000 + 1001 } else if f % 4 = 3 then { t with cash := (t.cash + 1) % 4 } else t
theorem may_ok {t : TV} {p c a : Int} (h : mayE t p c a = 0) : (0 ≤ t.id ∧ t.id < 65536) ∧ (0 ≤ t.buyer ∧ t.buyer < p) ∧ (0 ≤ t.seller ∧ t.seller < p) ∧ (0 ≤ t.cash ∧ t.cash < c) ∧ (0 ≤ t.asset ∧ t.asset < a) ∧ (0 < t.price ∧ t.price ≤ 4611686018427387904) ∧ (0 < t.qty ∧ t.qty ≤ 4611686018427387904) ∧ t.buyer ≠ t.seller := by
  unfold mayE at h
  split at h
  · rename_i hk
    simp only [okT, belowB, someB, Bool.and_eq_true, decide_eq_true_eq] at hk
    split at h
    · omega
    · rename_i hb
      exact ⟨hk.1, hk.2.1, hk.2.2.1, hk.2.2.2.1, hk.2.2.2.2.1, hk.2.2.2.2.2.1, hk.2.2.2.2.2.2, hb⟩
  · omega
theorem may_mk {t : TV} {p c a : Int} (h : (0 ≤ t.id ∧ t.id < 65536) ∧ (0 ≤ t.buyer ∧ t.buyer < p) ∧ (0 ≤ t.seller ∧ t.seller < p) ∧ (0 ≤ t.cash ∧ t.cash < c) ∧ (0 ≤ t.asset ∧ t.asset < a) ∧ (0 < t.price ∧ t.price ≤ 4611686018427387904) ∧ (0 < t.qty ∧ t.qty ≤ 4611686018427387904) ∧ t.buyer ≠ t.seller) : mayE t p c a = 0 := by
  have hk : okT t p c a = true := by
    simp only [okT, belowB, someB, Bool.and_eq_true, decide_eq_true_eq]
    exact ⟨h.1, h.2.1, h.2.2.1, h.2.2.2.1, h.2.2.2.2.1, h.2.2.2.2.2.1, h.2.2.2.2.2.2.1⟩
  unfold mayE
  rw [if_pos hk, if_neg h.2.2.2.2.2.2.2]
theorem uT_id (f : Int) (t : TV) : (uT f t).id = t.id ∧ (uT f t).buyer = t.buyer ∧ (uT f t).seller = t.seller := by
  unfold uT
  split
  · exact ⟨rfl, rfl, rfl⟩
  · split
    · exact ⟨rfl, rfl, rfl⟩
    · split
      · exact ⟨rfl, rfl, rfl⟩
      · exact ⟨rfl, rfl, rfl⟩
theorem uT_may {f : Int} {t : TV} (h : mayE t 16 4 4 = 0) : mayE (uT f t) 16 4 4 = 0 := by
  obtain ⟨a1, a2, a3, a4, a5, a6, a7, a8⟩ := may_ok h
  refine may_mk ?_
  unfold uT
  split
  · exact ⟨a1, a2, a3, a4, a5, a6, by dsimp only; omega, a8⟩
  · split
    · exact ⟨a1, a2, a3, a4, a5, by dsimp only; omega, a7, a8⟩
    · split
      · exact ⟨a1, a2, a3, by dsimp only; omega, a5, a6, a7, a8⟩
      · exact ⟨a1, a2, a3, a4, a5, a6, a7, a8⟩
/-- either side first -/
def Ends (t : TV) (x y : Int) : Prop := (x = t.buyer ∧ y = t.seller) ∨ (x = t.seller ∧ y = t.buyer)
section
variable {t u : TV} {x y z : Int}
theorem one_side (h : mayE t 16 4 4 = 0) (e : Ends t x y) : putE 16 4 4 [] x t = 0 ∧ putC 16 4 4 [] x t = [⟨x, t⟩] := by
  have hs : sideB x t = true := by
    unfold sideB
    rcases e with ⟨rfl, -⟩ | ⟨rfl, -⟩ <;> simp
  have hp : putE 16 4 4 [] x t = 0 := by
    unfold putE
    rw [if_pos h, if_pos hs, if_neg (by simp [hasC]), if_neg (by simp)]
  exact ⟨hp, by unfold putC; rw [if_pos hp]; rfl⟩
theorem two_sides (h : mayE t 16 4 4 = 0) (hu : mayE u 16 4 4 = 0) (hi : u.id = t.id ∧ u.buyer = t.buyer ∧ u.seller = t.seller) (e : Ends t x y) : putE 16 4 4 [⟨x, t⟩] y u = 0 ∧ putC 16 4 4 [⟨x, t⟩] y u = [⟨x, t⟩, ⟨y, u⟩] := by
  have hb := (may_ok h).2.2.2.2.2.2.2
  have hs : sideB y u = true := by
    unfold sideB
    rw [hi.2.1, hi.2.2]
    rcases e with ⟨-, rfl⟩ | ⟨-, rfl⟩ <;> simp
  have hxy : x ≠ y := by
    rcases e with ⟨rfl, rfl⟩ | ⟨rfl, rfl⟩
    · exact hb
    · exact fun h => hb h.symm
  have hp : putE 16 4 4 [⟨x, t⟩] y u = 0 := by
    unfold putE
    rw [if_pos hu, if_pos hs, if_neg (by simp [hasC, hxy]), if_neg (by simp)]
  exact ⟨hp, by unfold putC; rw [if_pos hp]; rfl⟩
theorem third_no (C : List CV) (h : mayE t 16 4 4 = 0) (hb : z ≠ t.buyer) (hs : z ≠ t.seller) : putE 16 4 4 C z t = 14 ∧ putC 16 4 4 C z t = C := by
  have h1 : sideB z t = false := by simp [sideB, hb, hs]
  have hp : putE 16 4 4 C z t = 14 := by
    unfold putE
    rw [if_pos h, h1, if_neg (by decide)]
  exact ⟨hp, by unfold putC; rw [if_neg (by rw [hp]; decide)]⟩
theorem pair_mat (hi : u.id = t.id) : matched (tr [⟨x, t⟩, ⟨y, u⟩]) = (if t = u then [t] else []) ∧ openI (tr [⟨x, t⟩, ⟨y, u⟩]) = (if t = u then [] else [t.id]) := by
  have e1 : ids (tr [⟨x, t⟩, ⟨y, u⟩]) = [t.id] := by
    show insI u.id [t.id] = _
    unfold insI
    rw [if_neg (by omega), if_pos hi.symm]
  have e2 : ofID t.id (tr [⟨x, t⟩, ⟨y, u⟩]) = [t, u] := by simp [tr, ofID, hi]
  have e3 : alike [t, u] = if t = u then some t else none := by
    simp only [alike, List.mem_singleton, List.not_mem_nil, if_false]
  unfold matched openI
  rw [e1]
  by_cases h : t = u
  · subst h
    simp [e2, e3]
  · simp [e2, e3, h]
end
end Go.Proofs.Ythhjmbbfibgjpaa.Trade
