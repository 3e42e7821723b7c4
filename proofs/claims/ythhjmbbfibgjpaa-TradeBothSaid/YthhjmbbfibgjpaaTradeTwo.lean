/-
  Two desks side by side: the landed one and the document's own; a block of the law's own.
-/
import Derived.Test.YthhjmbbfibgjpaaTradeMem
namespace Go.Proofs.Ythhjmbbfibgjpaa.Trade
open Go.RowKit Go.Proofs.Ythhjmbbfibgjpaa.Sha

theorem fp_left {F F' : List Nat} {w w' : World} (k : Fp F F' w w') (G : List Nat) : Fp (F ++ G) (F' ++ G) w w' :=
  ⟨k.1.mono (fun _ hz => .inl (List.mem_append_left _ hz)), fun z hz => (List.mem_append.1 hz).elim (fun h => (k.2 z h).imp (fun h => List.mem_append_left _ h) id) (fun h => .inl (List.mem_append_right _ h))⟩
theorem fp_right {G G' : List Nat} {w w' : World} (F : List Nat) (k : Fp G G' w w') : Fp (F ++ G) (F ++ G') w w' :=
  ⟨k.1.mono (fun _ hz => .inl (List.mem_append_right _ hz)), fun z hz => (List.mem_append.1 hz).elim (fun h => .inl (List.mem_append_left _ h)) (fun h => (k.2 z h).imp (fun h => List.mem_append_right _ h) id)⟩
/-- a block of the law's own, none of E -/
structure Hd (w : World) (E : List Nat) (L : Nat) (T : TypeId) (cs : Array Value) : Prop where
  blk : Blk w L T cs
  away : L ∉ E
section
variable {w w' : World} {E E' : List Nat} {L : Nat} {T : TypeId} {cs : Array Value}
theorem Hd.step (h : Hd w E L T cs) (k : Fp E E' w w') : Hd w' E' L T cs :=
  ⟨h.blk.bar k.1 h.away, fun hm => (k.2 L hm).elim h.away (fun e => by have := h.blk.lt; omega)⟩
theorem Hd.below (h : Hd w E L T cs) (b : Below w.heap.size w w') : Hd w' E L T cs := ⟨h.blk.below b h.blk.lt, h.away⟩
theorem Hd.new (T : TypeId) (cs : Array Value) (hL : L = w.heap.size) (hE : ∀ k ∈ E, k < w.heap.size) : Hd (w.alloc (.cells cs T)) E L T cs := ⟨Blk.new_at w T cs L hL, fun hm => by have := hE L hm; omega⟩
end
structure Tw (N : Nat) (w : World) (x y : Nat) (p c a : Int) (F G : List Nat) (C : List CV) : Prop where
  d : Td F N w x p c a C
  r : Rk G N w y p c a C
  ok : Okc C
  dis : Disj F G
theorem Td.cell3 {F : List Nat} {N x : Nat} {w : World} {p c a : Int} {C : List CV} (h : Td F N w x p c a C) : ∃ A cp, w.cell? ⟨x, 3, none⟩ = some (.slice A C.length cp) := by
  obtain ⟨v, X, rfl⟩ := h
  obtain ⟨A, cp, rfl, -, -, -⟩ := X.rc
  exact ⟨A, cp, X.blk.cell 3⟩
theorem Rk.cell4 {F : List Nat} {N x : Nat} {w : World} {p c a : Int} {C : List CV} (h : Rk F N w x p c a C) : ∃ A cp, w.cell? ⟨x, 4, none⟩ = some (.slice A C.length cp) := by
  obtain ⟨u, v, X, rfl⟩ := h
  obtain ⟨A, cp, rfl, -, -, -⟩ := X.rc
  exact ⟨A, cp, X.blk.cell 4⟩
theorem row_base2 {w : World} {N N' s n : Nat} {e : TypeId} {v : Value} {xs : List Value} (h : w.ownsRow N e s v n xs) (hN : N' ≤ N) : w.ownsRow N' e s v n xs :=
  ⟨h.1, h.2.imp id (fun ⟨g, cap, cur, a, hb, r⟩ => ⟨g, cap, cur, a, Nat.le_trans hN hb, r⟩)⟩
theorem Td.base {F : List Nat} {N N' x : Nat} {w : World} {p c a : Int} {C : List CV} (h : Td F N w x p c a C) (hN : N' ≤ N) : Td F N' w x p c a C := by
  obtain ⟨v, X, e⟩ := h
  exact ⟨v, ⟨Nat.le_trans hN X.least, X.blk, row_base2 X.row hN⟩, e⟩
theorem Rk.base {F : List Nat} {N N' x : Nat} {w : World} {p c a : Int} {C : List CV} (h : Rk F N w x p c a C) (hN : N' ≤ N) : Rk F N' w x p c a C := by
  obtain ⟨u, v, X, e⟩ := h
  exact ⟨u, v, ⟨Nat.le_trans hN X.least, X.blk, row_base2 X.who hN, row_base2 X.row hN⟩, e⟩
section
variable {N x y : Nat} {w w' : World} {p c a : Int} {F F' G G' : List Nat} {C C' : List CV}
theorem Tw.below (h : Tw N w x y p c a F G C) (b : Below w.heap.size w w') : Tw N w' x y p c a F G C := ⟨h.d.below b, h.r.below b, h.ok, h.dis⟩
theorem Tw.low (h : Tw N w x y p c a F G C) : N ≤ w.heap.size := by have := h.d.root; omega
end
theorem low_trans {N : Nat} {a b c : World} (h : Below N a b) (k : Below b.heap.size b c) (hN : N ≤ b.heap.size) : Below N a c := h.trans (k.mono hN)
end Go.Proofs.Ythhjmbbfibgjpaa.Trade
