/-
  Two posts side by side: the landed one and the document's own.
-/
import Derived.Test.YtjnpcfpalckkdaaPostMem
namespace Go.Proofs.Ytjnpcfpalckkdaa.Post
open Go.RowKit Go.Proofs.Ytjnpcfpalckkdaa.Sha

theorem fp_left {F F' : List Nat} {w w' : World} (k : Fp F F' w w') (G : List Nat) : Fp (F ++ G) (F' ++ G) w w' :=
  ⟨k.1.mono (fun _ hz => .inl (List.mem_append_left _ hz)), fun z hz => (List.mem_append.1 hz).elim (fun h => (k.2 z h).imp (fun h => List.mem_append_left _ h) id) (fun h => .inl (List.mem_append_right _ h))⟩
theorem fp_right {G G' : List Nat} {w w' : World} (F : List Nat) (k : Fp G G' w w') : Fp (F ++ G) (F ++ G') w w' :=
  ⟨k.1.mono (fun _ hz => .inl (List.mem_append_right _ hz)), fun z hz => (List.mem_append.1 hz).elim (fun h => .inl (List.mem_append_left _ h)) (fun h => (k.2 z h).imp (fun h => List.mem_append_right _ h) id)⟩
theorem Ps.cell1 {T : TypeId} {F : List Nat} {N x : Nat} {w : World} {m : Int} {l : List PV} (h : Ps T F N w x m l) : ∃ A c, w.cell? ⟨x, 1, none⟩ = some (.slice A l.length c) := by
  obtain ⟨q, rfl, P⟩ := h
  obtain ⟨B, cp, -, -, X, -⟩ := P.pv
  rw [List.length_map]
  exact ⟨B, cp, X.blk.cell 1⟩
/-- a block of the law's own, none of E -/
structure Hd (w : World) (E : List Nat) (L : Nat) (T : TypeId) (cs : Array Value) : Prop where
  blk : Blk w L T cs
  away : L ∉ E
section
variable {w w' : World} {E E' : List Nat} {L : Nat} {T : TypeId} {cs : Array Value}
theorem Hd.step (h : Hd w E L T cs) (k : Fp E E' w w') : Hd w' E' L T cs :=
  ⟨h.blk.bar k.1 h.away, fun hm => (k.2 L hm).elim h.away (fun e => by have := h.blk.lt; omega)⟩
theorem Hd.below (h : Hd w E L T cs) (b : Below w.heap.size w w') : Hd w' E L T cs := ⟨h.blk.below b h.blk.lt, h.away⟩
theorem Hd.new (T : TypeId) (cs : Array Value) (hL : L = w.heap.size) (hE : ∀ k ∈ E, k < w.heap.size) : Hd (w.alloc (.cells cs T)) E L T cs := ⟨Blk.new_at w T cs L hL, fun hm => by have := hE L hm; omega⟩
end
structure Tw (N : Nat) (w : World) (x y : Nat) (m : Int) (F G : List Nat) (l k : List PV) : Prop where
  p : Ps 52 F N w x m l
  q : Ps 46 G N w y m k
  d : Disj F G
section
variable {N x y : Nat} {w w' : World} {m : Int} {F F' G G' : List Nat} {l l' k k' : List PV}
theorem Tw.lt (h : Tw N w x y m F G l k) : ∀ z ∈ F ++ G, z < w.heap.size := fun z hz => (List.mem_append.1 hz).elim (fun e => (h.p.lt z e).2) (fun e => (h.q.lt z e).2)
theorem Tw.left (h : Tw N w x y m F G l k) (p : Ps 52 F' N w' x m l') (fp : Fp F F' w w') : Tw N w' x y m F' G l' k :=
  ⟨p, h.q.keep fp.1 (fun z hz hm => h.d z hm hz) (h.p.nb (by decide)), h.d.step fp (fun g hg => (h.q.lt g hg).2)⟩
theorem Tw.right (h : Tw N w x y m F G l k) (q : Ps 46 G' N w' y m k') (fp : Fp G G' w w') : Tw N w' x y m F G' l k' :=
  ⟨h.p.keep fp.1 (fun z hz hm => h.d z hz hm) (h.q.nb (by decide)), q, (h.d.symm.step fp (fun g hg => (h.p.lt g hg).2)).symm⟩
theorem Tw.below (h : Tw N w x y m F G l k) (b : Below w.heap.size w w') : Tw N w' x y m F G l k := ⟨h.p.below b, h.q.below b, h.d⟩
theorem Tw.low (h : Tw N w x y m F G l k) : N ≤ w.heap.size := by have := h.p.root; omega
end
theorem low_trans {N : Nat} {w w1 w2 : World} (a : Below N w w1) (b : Below w1.heap.size w1 w2) (h : N ≤ w1.heap.size) : Below N w w2 := a.trans (b.mono h)
end Go.Proofs.Ytjnpcfpalckkdaa.Post
