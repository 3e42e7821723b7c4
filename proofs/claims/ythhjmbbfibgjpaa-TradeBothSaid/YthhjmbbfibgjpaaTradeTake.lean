/-
  Chapter 18: what is matched, what is open, of the first so many IDs; rows of IDs that are answered.
-/
import Derived.Test.YthhjmbbfibgjpaaTradeMem
import Derived.Test.YthhjmbbfibgjpaaInts
namespace Go.Proofs.Ythhjmbbfibgjpaa.Trade
open Go.RowKit Go.Proofs.Ythhjmbbfibgjpaa.Sha

def matT (l : List TV) (k : Nat) : List TV := ((ids l).take k).filterMap (fun i => alike (ofID i l))
def opnT (l : List TV) (k : Nat) : List Int := ((ids l).take k).filter (fun i => (alike (ofID i l)).isNone)
theorem take_step_ {l : List Int} {k : Nat} {i : Int} (h : l[k]? = some i) : l.take (k + 1) = l.take k ++ [i] := by
  obtain ⟨hk, rfl⟩ := List.getElem?_eq_some_iff.1 h
  rw [List.take_add_one, List.getElem?_eq_getElem hk]
  rfl
theorem matT_step {l : List TV} {k : Nat} {i : Int} (h : (ids l)[k]? = some i) : matT l (k + 1) = matT l k ++ (alike (ofID i l)).toList := by
  unfold matT
  rw [take_step_ h, List.filterMap_append]
  cases hh : alike (ofID i l) <;> simp [hh]
theorem opnT_step {l : List TV} {k : Nat} {i : Int} (h : (ids l)[k]? = some i) : opnT l (k + 1) = opnT l k ++ (if (alike (ofID i l)).isNone = true then [i] else []) := by
  unfold opnT
  rw [take_step_ h, List.filter_append]
  cases hh : alike (ofID i l) <;> simp [hh]
theorem matT_all (l : List TV) : matT l (ids l).length = matched l := by unfold matT matched; rw [List.take_length]
theorem opnT_all (l : List TV) : opnT l (ids l).length = openI l := by unfold opnT openI; rw [List.take_length]
theorem matT_len (l : List TV) (k : Nat) : (matT l k).length ≤ (ids l).length := Nat.le_trans (List.length_filterMap_le _ _) (by rw [List.length_take]; omega)
theorem opnT_len (l : List TV) (k : Nat) : (opnT l k).length ≤ (ids l).length := Nat.le_trans (List.length_filter_le _ _) (by rw [List.length_take]; omega)
/-- whole numbers are answered, in new memory -/
def IdsP (l : List Int) (w : World) (e : Ending) (w' : World) : Prop := ∃ v, e = .returned v ∧ w'.ownsRow w.heap.size 3 1 v l.length (ints .i64 l) ∧ Below w.heap.size w w'
theorem row_base {w : World} {N N' s n : Nat} {e : TypeId} {v : Value} {xs : List Value} (h : w.ownsRow N e s v n xs) (hN : N' ≤ N) : w.ownsRow N' e s v n xs :=
  ⟨h.1, h.2.imp id (fun ⟨g, cap, cur, a, hb, r⟩ => ⟨g, cap, cur, a, Nat.le_trans hN hb, r⟩)⟩
/-- whole numbers of a call's own are read -/
theorem ri_own {w : World} {N n c : Nat} {e : TypeId} {A : Option Addr} {xs : List Int} (h : w.ownsRow N e 1 (.slice A n c) n (ints .i64 xs)) (hl : xs.length = n) : Ri w A n xs := by
  have h0 := h
  refine ⟨hl, ?_⟩
  rcases h.2 with ⟨hv, hx⟩ | ⟨g, cap, cur, hv, -, -, -⟩
  · exact .inl hx
  · injection hv with hA _ hc
    subst hA hc
    refine .inr ⟨g, 0, rfl, fun i hi => ?_⟩
    have := World.ownsRow.cellAt h0 i (by omega)
    rw [Sha.ints_at _ _ _ (by omega)] at this
    simpa using this
theorem rirow_lt {w : World} {n : Nat} {A : Option Addr} {xs : List Int} (h : Ri w A n xs) : n = 0 ∨ ∀ g o, A = some ⟨g, o, none⟩ → g < w.heap.size := by
  by_cases h0 : n = 0
  · exact .inl h0
  · obtain ⟨b, o, rfl, hc⟩ := h.2.resolve_left h0
    refine .inr fun g o' e => ?_
    injection e with e
    injection e with e1 e2
    subst e1
    exact World.block_lt_of_cell? _ _ (hc 0 (by omega))
end Go.Proofs.Ythhjmbbfibgjpaa.Trade
