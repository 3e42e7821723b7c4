/-
  Parts laid together: Mem SealWay MemB Slices Clone Rows2 PutN WireFits ByteRows Copy Write8.
-/
import Derived.Test.YtidjkhpekhpffaaChecked
import Derived.Test.YtidjkhpekhpffaaPart1
import Derived.WalkKit
import Derived.WalkSpells
import Derived.WalkLawsBesides
import Derived.OpenShut
import Derived.Lib.Hide
import Derived.Tactics
import Derived.Tactics2
import Derived.Deep.QuietTactic
import Derived.BigQuiet
import Derived.StillTailTactics
import Derived.Laws.Rows
import Derived.Laws.Tables
import Derived.Deep.Draws
import Derived.Below
import Derived.Laws.OwnMore
import Derived.Laws.Pointers
import Derived.RegionTactic
import Derived.RegionCalls
import Derived.Laws.NewBlocks
import Derived.Deep.MidRow
import Derived.Deep.Cut
import Derived.Laws.CopyOwn
import Derived.Maps.AppendAt
import Derived.DataShut
import Derived.Test.YtidjkhpekhpffaaPart3
import Derived.Laws.Slices
import Derived.Lib.SliceRun

namespace Go.Proofs.Ytidjkhpekhpffaa.Sha
open Go.RowKit

def Blk (w : World) (g : Nat) (t : TypeId) (cs : Array Value) : Prop := w.heap[g]? = some (.cells cs t (0, 0))
section
variable {w w' : World} {g : Nat} {t : TypeId} {cs : Array Value}
theorem Blk.lt (h : Blk w g t cs) : g < w.heap.size := by
  rcases Nat.lt_or_ge g w.heap.size with hlt | hge
  · exact hlt
  · unfold Blk at h; rw [Array.getElem?_eq_none hge] at h; cases h
theorem Blk.cell (h : Blk w g t cs) (i : Nat) : w.cell? ⟨g, i, none⟩ = cs[i]? := cell_of_row w g i cs t (0, 0) h
theorem Blk.frozen (h : Blk w g t cs) (i : Nat) : w.frozen? ⟨g, i, none⟩ = false := by
  unfold Blk at h
  simp [World.frozen?, h]
theorem Blk.new (w : World) (t : TypeId) (cs : Array Value) : Blk (w.alloc (.cells cs t)) w.heap.size t cs := heap_alloc_new w _
theorem Blk.new_at (w : World) (t : TypeId) (cs : Array Value) (n : Nat) (hn : n = w.heap.size) : Blk (w.alloc (.cells cs t)) n t cs := by subst hn; exact heap_alloc_new w _
theorem Blk.row (h : Blk w g t cs) (cs' : Array Value) : Blk (w.setRow g cs') g t cs' := setRow_heap w g _ cs' t (0, 0) h
theorem Blk.drew (h : Blk w g t cs) : Blk w.drew g t cs := h
theorem Blk.drewN (h : Blk w g t cs) (n : Nat) : Blk (w.drewN n) g t cs := h
theorem Blk.alloc (h : Blk w g t cs) (o : Obj) : Blk (w.alloc o) g t cs := (Below.heap_alloc w o g h.lt).trans h
theorem Blk.set_ (h : Blk w g t cs) (i : Nat) (u : Value) : Blk (w.setCell ⟨g, i, none⟩ u) g t (cs.setIfInBounds i u) := by
  unfold Blk at h ⊢
  simp [World.setCell, Array.getElem?_modify, h]
theorem Blk.far (h : Blk w g t cs) {p : Addr} (hp : g ≠ p.block) (u : Value) : Blk (w.setCell p u) g t cs := (Below.heap_setCell w p u g hp).trans h
theorem Blk.below {B : Nat} (h : Blk w g t cs) (hb : Below B w w') (hg : g < B) : Blk w' g t cs := (hb.block g hg).trans h
theorem Blk.grown {row : Option Nat} (h : Blk w g t cs) (hb : w.grownBy w' row) (hg : some g ≠ row) : Blk w' g t cs := (hb.block g h.lt hg).trans h
end
/-- Only the blocks of l, and new ones, may have changed from w to w'. -/
structure Bar (l : List Nat) (w w' : World) : Prop where
  os : w'.os = w.os
  tape : w'.tape = w.tape
  output : w'.output = w.output
  size : w.heap.size ≤ w'.heap.size
  block : ∀ k, k < w.heap.size → k ∉ l → w'.heap[k]? = w.heap[k]?
theorem Bar.refl (l : List Nat) (w : World) : Bar l w w := ⟨rfl, rfl, rfl, Nat.le_refl _, fun _ _ _ => rfl⟩
theorem Bar.trans {l l' : List Nat} {a b c : World} (h : Bar l a b) (k : Bar l' b c) (hl : ∀ x ∈ l', x ∈ l ∨ a.heap.size ≤ x) : Bar l a c :=
  ⟨k.os.trans h.os, k.tape.trans h.tape, k.output.trans h.output, Nat.le_trans h.size k.size, fun i hi hn => (k.block i (Nat.lt_of_lt_of_le hi h.size) (fun hm => by
    rcases hl i hm with h1 | h1
    · exact hn h1
    · omega)).trans (h.block i hi hn)⟩
theorem Bar.mono {l l' : List Nat} {w w' : World} (h : Bar l w w') (hl : ∀ x ∈ l, x ∈ l' ∨ w.heap.size ≤ x) : Bar l' w w' := ⟨h.os, h.tape, h.output, h.size, fun i hi hn => h.block i hi fun hm => by
    rcases hl i hm with h1 | h1
    · exact hn h1
    · omega⟩
theorem Bar.same {l : List Nat} {a w : World} (h : Bar l a w) : Bar l a w := h
theorem Bar.drew {l : List Nat} {a w : World} (h : Bar l a w) : Bar l a w.drew := ⟨h.os, h.tape, h.output, h.size, h.block⟩
theorem Bar.drewN {l : List Nat} {a w : World} (h : Bar l a w) (n : Nat) : Bar l a (w.drewN n) := ⟨h.os, h.tape, h.output, h.size, h.block⟩
theorem Bar.drewL {l : List Nat} {w w' : World} (h : Bar l w.drew w') : Bar l w w' := ⟨h.os, h.tape, h.output, h.size, h.block⟩
theorem Bar.alloc {l : List Nat} {a w : World} (h : Bar l a w) (o : Obj) : Bar l a (w.alloc o) :=
  h.trans (l' := []) ⟨rfl, rfl, rfl, by simp, fun k hk _ => Below.heap_alloc _ _ _ (by omega)⟩ (by simp)
theorem Bar.setCell {l : List Nat} {a w : World} (h : Bar l a w) {p : Addr} (hp : p.block ∈ l ∨ a.heap.size ≤ p.block) (u : Value) : Bar l a (w.setCell p u) :=
  h.trans (l' := [p.block]) ⟨rfl, rfl, rfl, by simp [World.setCell], fun k _ hn => Below.heap_setCell _ _ _ _ (by simpa using hn)⟩ (by simpa using hp)
theorem Bar.grown {l : List Nat} {a w w' : World} {row : Option Nat} (h : Bar l a w) (hg : w.grownBy w' row) (hr : ∀ k, row = some k → k ∈ l ∨ a.heap.size ≤ k) : Bar l a w' :=
  h.trans (l' := row.toList) ⟨hg.os, hg.tape, hg.output, hg.size, fun k hk hn => hg.block k hk (fun e => hn (by simp [← e]))⟩ (by
    intro x hx
    exact hr x (by simpa using hx))
theorem Bar.below {a w : World} {B : Nat} {l : List Nat} (h : Bar l a w) (hB : B ≤ a.heap.size) (hl : ∀ x ∈ l, B ≤ x) : Below B a w :=
  ⟨h.os, h.tape, h.output, h.size, fun k hk => h.block k (by omega) (fun hm => by have := hl k hm; omega)⟩
theorem barOf {a w : World} (h : Below a.heap.size a w) (l : List Nat) : Bar l a w := ⟨h.os, h.tape, h.output, h.size, fun k hk _ => h.block k hk⟩
theorem Blk.bar {w w' : World} {g : Nat} {t : TypeId} {cs : Array Value} {l : List Nat} (h : Blk w g t cs) (hb : Bar l w w') (hg : g ∉ l) : Blk w' g t cs := (hb.block g h.lt hg).trans h
theorem still_of {P : Program} {f : FuncId} {args : Array Value} {w : World} {v : Value} (h : Calls P f args w fun e w' => e = .returned v ∧ w = w') : Calls P f args w fun e w'' => e = .returned v ∧ w'' = w := h.mono fun _ _ ⟨a, b⟩ => ⟨a, b.symm⟩
theorem Blk.at_ {w : World} {g : Nat} {t : TypeId} {k : IntKind} {l : List Int} (h : Blk w g t (arr k l)) (i : Nat) (hi : i < l.length) : w.cell? ⟨g, i, none⟩ = some (.int k (Sha.at_ l i)) := (h.cell i).trans (arr_at k l i hi)
/-- the walk stops at the operation that writes slot n -/
theorem sel {P : Program} {ops : Array Oper} {Q : Exit → Act → World → Prop} {rest : List Oper} {a : Act} {w : World} (n : Nat) {b : Op} {c : TypeId} {p : String} {e : Array Edge} {g : Option (Nat × Bool)}
    (h : wpList P ops Q ({ dst := some n, op := b, type := c, pos := p, after := e, guard := g } :: rest) a w) : wpList P ops Q ({ dst := some n, op := b, type := c, pos := p, after := e, guard := g } :: rest) a w := h
theorem selS {P : Program} {ops : Array Oper} {Q : Exit → Act → World → Prop} {rest : List Oper} {a : Act} {w : World} (ty : TypeId) (x y : Operand) {c : TypeId} {p : String} {e : Array Edge} {g : Option (Nat × Bool)}
    (h : wpList P ops Q ({ dst := none, op := .store ty x y, type := c, pos := p, after := e, guard := g } :: rest) a w) : wpList P ops Q ({ dst := none, op := .store ty x y, type := c, pos := p, after := e, guard := g } :: rest) a w := h
theorem new_cells (w : World) (t : TypeId) (cs : List Value) : ∀ j u, cs[j]? = some u → (w.alloc (.cells cs.toArray t)).cell? ((⟨w.heap.size, 0, none⟩ : Addr).add j) = some u := by
  intro j u hj
  have e : (⟨w.heap.size, 0, none⟩ : Addr).add j = ⟨w.heap.size, j, none⟩ := by cases j <;> simp [Addr.add]
  rw [e, (Blk.new w t cs.toArray).cell j, List.getElem?_toArray, hj]
/-- a slice of bytes in memory, to be read: they are xs -/
def Rd (w : World) (A : Option Addr) (n : Nat) (xs : List Int) : Prop :=
  xs.length = n ∧ Bytes xs ∧ (n = 0 ∨ ∃ b o, A = some ⟨b, o, none⟩ ∧ ∀ i, i < n → w.cell? ⟨b, o + i, none⟩ = some (.int .u8 (at_ xs i)))
theorem Rd.keep {w w' : World} {A : Option Addr} {n : Nat} {xs : List Int} {l : List Nat} (r : Rd w A n xs) (b : Bar l w w') (hl : ∀ x ∈ l, w.heap.size ≤ x ∨ ∀ o, A ≠ some ⟨x, o, none⟩) : Rd w' A n xs := by
  obtain ⟨h1, h2, h3⟩ := r
  refine ⟨h1, h2, h3.imp id ?_⟩
  rintro ⟨bb, o, rfl, hc⟩
  refine ⟨bb, o, rfl, fun i hi => ?_⟩
  have hlt : bb < w.heap.size := World.block_lt_of_cell? _ _ (hc i hi)
  rw [← hc i hi]
  refine World.cell?_of_block (w := w) (b.block bb hlt (fun hm => ?_))
  rcases hl bb hm with h | h
  · omega
  · exact h o rfl
theorem Rd.blk {w : World} {M n : Nat} {T : TypeId} {xs : List Int} (h : Blk w M T (arr .u8 xs)) (hb : Bytes xs) (hn : xs.length = n) : Rd w (some ⟨M, 0, none⟩) n xs :=
  ⟨hn, hb, .inr ⟨M, 0, rfl, fun i hi => by rw [Nat.zero_add]; exact h.at_ i (by omega)⟩⟩
theorem Rd.nil_ {w : World} {A : Option Addr} : Rd w A 0 [] := ⟨rfl, by intro x hx; simp at hx, .inl rfl⟩
theorem below_drewN {B : Nat} {a w : World} (h : Below B a w) (n : Nat) : Below B a (w.drewN n) := ⟨h.os, h.tape, h.output, h.size, h.block⟩
theorem Rd.made {w : World} {M n : Nat} {T : TypeId} {fr : Nat × Nat} {xs : List Int} (h : w.heap[M]? = some (.cells (arr .u8 xs) T fr)) (hb : Bytes xs) (hn : xs.length = n) : Rd w (some ⟨M, 0, none⟩) n xs :=
  ⟨hn, hb, .inr ⟨M, 0, rfl, fun i hi => by rw [Nat.zero_add, cell_of_row w M i _ T fr h]; exact arr_at _ _ _ (by omega)⟩⟩
theorem own_cell {w : World} {base : Nat} {e : TypeId} {g cap n : Nat} {xs : List Int} (h : w.ownsRow base e 1 (.slice (some ⟨g, 0, none⟩) n cap) n (ints .u8 xs)) (i : Nat) (hi : i < n) : w.cell? ⟨g, i, none⟩ = some (.int .u8 (at_ xs i)) := by
  have hl : xs.length = n := by have := h.1; rw [ints_len] at this; omega
  rw [World.ownsRow.cellAt h i (by omega)]
  exact ints_at _ _ _ (by omega)
theorem own_below {w w' : World} {base : Nat} {e : TypeId} {v : Value} {n : Nat} {xs : List Value} (h : w.ownsRow base e 1 v n xs) (hg : w.grownBy w' v.ownBlock) (hB : base ≤ w.heap.size) : Below base w w' :=
  ⟨hg.os, hg.tape, hg.output, hg.size, fun k hk => hg.block k (by omega) (fun e => by have := (h.lt k e.symm).1; omega)⟩
theorem Rd.drew {w : World} {A : Option Addr} {n : Nat} {xs : List Int} (h : Rd w A n xs) : Rd w.drew A n xs := h
theorem own_bar {w w' : World} {base : Nat} {e : TypeId} {v : Value} {n : Nat} {xs : List Value} {l : List Nat} (h : w.ownsRow base e 1 v n xs) (b : Bar l w w') (hl : ∀ x ∈ l, x < base) : w'.ownsRow base e 1 v n xs := by
  refine ⟨h.1, h.2.imp id ?_⟩
  rintro ⟨g, cap, cur, hv, hg, hh, r⟩
  refine ⟨g, cap, cur, hv, hg, ?_, r⟩
  have hlt : g < w.heap.size := (Array.getElem?_eq_some_iff.1 hh).1
  rw [b.block g hlt (fun hm => by have := hl g hm; omega)]
  exact hh
theorem run_append_nil_any {P : Program} (w : World) (base : Nat) (t ty e : TypeId) (i : TypeInfo) (size : Nat) (ht : P.underlying t = some (.slice e)) (hi : P.info? e = some i)
    (v : Value) (n : Nat) (xs : List Value) (hown : w.ownsRow base e size v n xs) (c : Nat) : (Builtin.append_ #[t, t] ty #[v, .slice none 0 c]).run P w = .ok v w := by
  rcases hown.2 with ⟨rfl, rfl⟩ | ⟨g, cap, cur, rfl, _, _, hnc, _⟩
  · simp [Builtin.append_, run_underlying ht, sizeOf, typeInfo, hi, Builtin.lenOf, Builtin.firstCells]
  · simp [Builtin.append_, run_underlying ht, sizeOf, typeInfo, hi, Builtin.lenOf, Builtin.firstCells, hnc, storeCells]
/-- bytes that are read in memory go behind what the call made -/
theorem wpList_append_rd {P : Program} {w : World} {ops : Array Oper} {rest : List Oper} {o : Oper} {a : Act} {Q : Exit → Act → World → Prop} (hgd : o.guard = none) (s x : Operand) (t : TypeId)
    (ho : o.op = .call { callee := .builtin .append, args := #[s, x], argTypes := #[t, t] })
    (base : Nat) (e : TypeId) (ht : P.underlying t = some (.slice e)) (hi : (P.info? e).map (fun i => (i.zero, i.size, i.bytes)) = some (some (.int .u8 0), 1, 1))
    (v : Value) (n : Nat) (xs : List Value) (hs : a.eval s = v) (hown : w.ownsRow base e 1 v n xs)
    (A : Option Addr) (m c : Nat) (news : List Int) (hx : a.eval x = .slice A m c) (hr : Rd w A m news)
    (hsmall : n + m ≤ 4294967296) (hbase : base ≤ w.heap.size)
    (h : ∀ v' w', Kept (w'.ownsRow base e 1 v' (n + m) (xs ++ ints .u8 news)) → w.grownBy w' v.ownBlock → wpList P ops Q rest (a.put o.dst v') w') : wpList P ops Q (o :: rest) a w := by
  obtain ⟨iu, hi, hz0, hz1, hz2⟩ := info_parts hi
  obtain ⟨h1, h2, h3⟩ := hr
  have app : ∀ ad, a.eval x = .slice (some ad) m c → (∀ j u, (ints .u8 news)[j]? = some u → w.cell? (ad.add j) = some u) → wpList P ops Q (o :: rest) a w := by
    intro ad hx hc
    exact wpList_append_own w hgd s x t ho base e iu (.int .u8 0) 1 1 ht hi hz0 hz1 hz2 rfl (by omega) v n xs hs hown ad m c (ints .u8 news) hx (by rw [ints_len, h1]; omega) hc (ints_one _ _) (by unfold maxLen; omega) (by omega) hbase (fun v' w' a1 a2 _ => h v' w' ⟨a1⟩ a2)
  cases A with
  | none =>
    have h0 : m = 0 := by
      rcases h3 with h3 | ⟨_, _, h4, _⟩
      · exact h3
      · cases h4
    subst h0
    obtain rfl : news = [] := List.eq_nil_of_length_eq_zero h1
    refine wpList_plain hgd fun K hK => ?_
    have hrun := run_append_nil_any (P := P) w base t o.type e iu 1 ht hi v n xs hown c
    unfold Oper.wp
    simp [execOp, ho, resolve, invoke, builtin, hs, hx, hrun, Result.andThen]
    exact hK _ _ (h v w ⟨by simpa [ints] using hown⟩ (World.grownBy.refl _ _))
  | some ad =>
    refine app ad hx fun j u hj => ?_
    have hjl : j < news.length := by have := (List.getElem?_eq_some_iff.1 hj).1; rwa [ints_len] at this
    rcases h3 with h3 | ⟨b, o', h4, hc⟩
    · omega
    · injection h4 with h4
      subst h4
      rw [ints_at _ _ _ hjl] at hj
      rw [← hj, show (⟨b, o', none⟩ : Addr).add j = ⟨b, o' + j, none⟩ by cases j <;> simp [Addr.add]]
      exact hc j (by omega)
theorem wp_gen {P : Program} {ops : Array Oper} {Q : Exit → Act → World → Prop} {rest : List Oper} {a : Act} {w : World} (p : World → Prop) (hp : p w) (h : ∀ w', p w' → wpList P ops Q rest a w') : wpList P ops Q rest a w := h w hp
theorem Rd.below {w w' : World} {A : Option Addr} {n : Nat} {xs : List Int} (r : Rd w A n xs) (b : Below w.heap.size w w') : Rd w' A n xs :=
  r.keep (l := []) (barOf b []) (by simp)
/-- a row of the law's argument holds bytes -/
theorem rd_of_row {W : World} {a : Option Addr} {len cap : Nat} {zs : List Int} (h : (a = none ∧ len = 0 ∧ cap = 0 ∧ zs = []) ∨ ∃ x, a = some x ∧ len ≤ cap ∧ cap ≤ maxLen ∧ zs.length = cap ∧ (∀ i, i < zs.length → W.cell? (x.add i) = some (.int .u8 (zs.getD i 0))) ∧ ∀ n ∈ zs, (Lit.int .u8 n).wf = true) :
    Rd W a len (zs.take len) := by
  rcases h with ⟨rfl, rfl, rfl, rfl⟩ | ⟨x, rfl, hl, hm, hz, hcell, hw⟩
  · exact Rd.nil_
  · refine ⟨by simp; omega, fun y hy => ?_, ?_⟩
    · have := (Lit.wf_int_iff _ _).1 (hw y (List.mem_of_mem_take hy))
      simp only [show IntKind.u8.min = 0 from rfl, show IntKind.u8.max = 255 from rfl] at this
      omega
    · by_cases h0 : len = 0
      · exact .inl h0
      · refine .inr ?_
        obtain ⟨b, off, spot⟩ := x
        have hspot : spot = none := by
          have hc := hcell 0 (by omega)
          simpa [Addr.add] using World.cell?_spot hc
        subst hspot
        refine ⟨b, off, rfl, fun i hi => ?_⟩
        have := hcell i (by omega)
        have e : (⟨b, off, none⟩ : Addr).add i = ⟨b, off + i, none⟩ := by cases i <;> simp [Addr.add]
        rw [e] at this
        rw [this]
        unfold at_
        simp [List.getD_eq_getElem?_getD, hi]
theorem row_cap8 {W : World} {a : Option Addr} {len cap : Nat} {zs : List Int} (h : (a = none ∧ len = 0 ∧ cap = 0 ∧ zs = []) ∨ ∃ x, a = some x ∧ len ≤ cap ∧ cap ≤ maxLen ∧ zs.length = cap ∧ (∀ i, i < zs.length → W.cell? (x.add i) = some (.int .u8 (zs.getD i 0))) ∧ ∀ n ∈ zs, (Lit.int .u8 n).wf = true) :
    len ≤ cap ∧ cap ≤ 9223372036854775807 := by
  rcases h with ⟨-, rfl, rfl, -⟩ | ⟨x, -, hl, hm, -⟩
  · omega
  · unfold maxLen at hm; omega
theorem own_rd {w : World} {base : Nat} {e : TypeId} {v : Value} {n : Nat} {xs : List Int} (h : w.ownsRow base e 1 v n (ints .u8 xs)) (hb : Bytes xs) : ∃ A cap, v = .slice A n cap ∧ n ≤ cap ∧ cap ≤ 9223372036854775807 ∧ Rd w A n xs := by
  have hl : xs.length = n := by have := h.1; rw [ints_len] at this; omega
  rcases h.2 with ⟨rfl, rfl⟩ | ⟨g, cap, cur, rfl, hg, _, h1, h2, _⟩
  · obtain rfl := List.eq_nil_of_length_eq_zero hl
    exact ⟨none, 0, rfl, by omega, by omega, Rd.nil_⟩
  · unfold maxLen at h2
    refine ⟨some ⟨g, 0, none⟩, cap, rfl, h1, by omega, hl, hb, .inr ⟨g, 0, rfl, fun i hi => ?_⟩⟩
    rw [Nat.zero_add]
    exact own_cell h i hi
theorem wpList_unguard {P : Program} {ops : Array Oper} {Q : Exit → Act → World → Prop} {rest : List Oper} {a : Act} {w : World} {d : Option Nat} {op : Op} {ty : TypeId} {p : String} {e : Array Edge} {g : Nat × Bool}
    (hw : Region.wanted { dst := d, op := op, type := ty, pos := p, after := e, guard := some g } (yielded ops a.tmps) = true)
    (h : wpList P ops Q ({ dst := d, op := op, type := ty, pos := p, after := e, guard := none } :: rest) a w) : wpList P ops Q ({ dst := d, op := op, type := ty, pos := p, after := e, guard := some g } :: rest) a w := by
  unfold wpList at h ⊢
  rw [if_pos hw]
  rw [if_pos (by rfl)] at h
  exact h
/-- two rows of the call's own that share no block -/
def Apart (v u : Value) : Prop := ∀ g, v.ownBlock = some g → u.ownBlock ≠ some g
/-- bytes that are read in memory go behind what the call made; where the row lies then -/
theorem wpList_append_rda {P : Program} {w : World} {ops : Array Oper} {rest : List Oper} {o : Oper} {a : Act} {Q : Exit → Act → World → Prop} (hgd : o.guard = none) (s x : Operand) (t : TypeId)
    (ho : o.op = .call { callee := .builtin .append, args := #[s, x], argTypes := #[t, t] })
    (base : Nat) (e : TypeId) (ht : P.underlying t = some (.slice e)) (hi : (P.info? e).map (fun i => (i.zero, i.size, i.bytes)) = some (some (.int .u8 0), 1, 1))
    (v : Value) (n : Nat) (xs : List Value) (hs : a.eval s = v) (hown : w.ownsRow base e 1 v n xs)
    (A : Option Addr) (m c : Nat) (news : List Int) (hx : a.eval x = .slice A m c) (hr : Rd w A m news)
    (hsmall : n + m ≤ 4294967296) (hbase : base ≤ w.heap.size)
    (h : ∀ v' w', Kept (w'.ownsRow base e 1 v' (n + m) (xs ++ ints .u8 news)) → w.grownBy w' v.ownBlock → (v'.ownBlock = v.ownBlock ∨ v'.ownBlock = some w.heap.size) → wpList P ops Q rest (a.put o.dst v') w') : wpList P ops Q (o :: rest) a w := by
  obtain ⟨iu, hi, hz0, hz1, hz2⟩ := info_parts hi
  have hr0 := hr
  obtain ⟨h1, h2, h3⟩ := hr
  cases A with
  | none =>
    have h0 : m = 0 := by
      rcases h3 with h3 | ⟨_, _, h4, _⟩
      · exact h3
      · cases h4
    subst h0
    obtain rfl : news = [] := List.eq_nil_of_length_eq_zero h1
    refine wpList_plain hgd fun K hK => ?_
    have hrun := run_append_nil_any (P := P) w base t o.type e iu 1 ht hi v n xs hown c
    unfold Oper.wp
    simp [execOp, ho, resolve, invoke, builtin, hs, hx, hrun, Result.andThen]
    exact hK _ _ (h v w ⟨by simpa [ints] using hown⟩ (World.grownBy.refl _ _) (.inl rfl))
  | some ad =>
    have hc : ∀ j u, (ints .u8 news)[j]? = some u → w.cell? (ad.add j) = some u := by
      intro j u hj
      have hjl : j < news.length := by have := (List.getElem?_eq_some_iff.1 hj).1; rwa [ints_len] at this
      rcases h3 with h3 | ⟨b, o', h4, hc⟩
      · omega
      · injection h4 with h4
        subst h4
        rw [Sha.ints_at _ _ _ hjl] at hj
        rw [← hj, show (⟨b, o', none⟩ : Addr).add j = ⟨b, o' + j, none⟩ by cases j <;> simp [Addr.add]]
        exact hc j (by omega)
    exact wpList_append_own_at w hgd s x t ho base e iu (.int .u8 0) 1 1 ht hi hz0 hz1 hz2 rfl (by omega) v n xs hs hown ad m c (ints .u8 news) hx (by rw [ints_len, h1]; omega) hc (ints_one _ _) (by unfold maxLen; omega) (by omega) hbase (fun v' w' a1 a2 _ a3 => h v' w' ⟨a1⟩ a2 a3)
/-- behind an append to one row the other is as it was, and they still share nothing -/
theorem apart_in {w1 w2 : World} {base n : Nat} {e : TypeId} {v v' u : Value} {xs : List Value} (ha : Apart v u) (h : w1.ownsRow base e 1 u n xs) (hg : w1.grownBy w2 v.ownBlock)
    (hat : v'.ownBlock = v.ownBlock ∨ v'.ownBlock = some w1.heap.size) : w2.ownsRow base e 1 u n xs ∧ Apart u v' := by
  have hne : u.ownBlock = none ∨ u.ownBlock ≠ v.ownBlock := by
    cases hu : u.ownBlock with
    | none => exact .inl rfl
    | some g => exact .inr fun hv => ha g hv.symm hu
  refine ⟨h.kept hg hne, fun g hu hv => ?_⟩
  rcases hat with hat | hat
  · rw [hat] at hv
    exact ha g hv hu
  · rw [hat] at hv
    injection hv with hv
    have := (h.lt g hu).2
    omega
/-- F becomes F': only the blocks of F, and new ones, may have changed; what F' has more is new -/
def Fp (F F' : List Nat) (w w' : World) : Prop := Bar F w w' ∧ ∀ k ∈ F', k ∈ F ∨ w.heap.size ≤ k
theorem Fp.refl (F : List Nat) (w : World) : Fp F F w w := ⟨Bar.refl _ _, fun _ h => .inl h⟩
theorem Fp.trans {F F' F'' : List Nat} {a b c : World} (h : Fp F F' a b) (k : Fp F' F'' b c) : Fp F F'' a c :=
  ⟨h.1.trans k.1 h.2, fun x hx => by
    rcases k.2 x hx with h1 | h1
    · exact h.2 x h1
    · exact .inr (Nat.le_trans h.1.size h1)⟩
theorem Fp.below {F F' : List Nat} {B : Nat} {w w' : World} (h : Fp F F' w w') (hF : ∀ k ∈ F, B ≤ k) (hB : B ≤ w.heap.size) : Below B w w' := h.1.below hB hF
theorem Fp.least {F F' : List Nat} {B : Nat} {w w' : World} (h : Fp F F' w w') (hF : ∀ k ∈ F, B ≤ k) (hB : B ≤ w.heap.size) : ∀ k ∈ F', B ≤ k := fun k hk => by
  rcases h.2 k hk with h1 | h1
  · exact hF k h1
  · omega
/-- two that share no block -/
def Disj (F G : List Nat) : Prop := ∀ k ∈ F, k ∉ G
theorem Disj.symm {F G : List Nat} (h : Disj F G) : Disj G F := fun k h1 h2 => h k h2 h1
theorem Disj.step {F F' G : List Nat} {w w' : World} (h : Disj F G) (k : Fp F F' w w') (hG : ∀ g ∈ G, g < w.heap.size) : Disj F' G := fun x hx hg => by
  rcases k.2 x hx with h1 | h1
  · exact h x h1 hg
  · have := hG x hg; omega
theorem Disj.new {F G : List Nat} {n : Nat} (hF : ∀ k ∈ F, n ≤ k) (hG : ∀ g ∈ G, g < n) : Disj F G := fun x hx hg => by
  have := hF x hx; have := hG x hg; omega
theorem own_keep {w w' : World} {base size : Nat} {e : TypeId} {v : Value} {n : Nat} {xs : List Value} {l : List Nat} (h : w.ownsRow base e size v n xs) (b : Bar l w w') (hl : ∀ g ∈ v.ownBlock.toList, g ∉ l) : w'.ownsRow base e size v n xs := by
  refine ⟨h.1, h.2.imp id ?_⟩
  rintro ⟨g, cap, cur, rfl, hg, hh, r⟩
  refine ⟨g, cap, cur, rfl, hg, ?_, r⟩
  rw [b.block g (Array.getElem?_eq_some_iff.1 hh).1 (hl g (by simp [Value.ownBlock]))]
  exact hh
theorem own_lt {w : World} {base size : Nat} {e : TypeId} {v : Value} {n : Nat} {xs : List Value} (h : w.ownsRow base e size v n xs) : ∀ g ∈ v.ownBlock.toList, g < w.heap.size := fun g hg => (h.lt g (by simpa using hg)).2
theorem own_shape {w : World} {base size : Nat} {e : TypeId} {v : Value} {n : Nat} {xs : List Value} (h : w.ownsRow base e size v n xs) : ∃ A cap, v = .slice A n cap := by
  rcases h.2 with ⟨rfl, rfl⟩ | ⟨g, cap, cur, rfl, _⟩
  · exact ⟨none, 0, rfl⟩
  · exact ⟨_, cap, rfl⟩
/-- a row's block holds its elements: it is no block of another type -/
theorem own_far {w : World} {base size B : Nat} {e t : TypeId} {v : Value} {n : Nat} {xs : List Value} {cs : Array Value} (h : w.ownsRow base e size v n xs) (b : Blk w B t cs) (ht : e ≠ t) : v.ownBlock ≠ some B := by
  intro hb
  rcases h.2 with ⟨rfl, _⟩ | ⟨g, cap, cur, rfl, _, hg, _⟩
  · simp [Value.ownBlock] at hb
  · simp [Value.ownBlock] at hb
    subst hb
    unfold Blk at b
    rw [hg] at b
    injection b with b
    injection b with _ b
    exact ht b
theorem rd_cells {w : World} {g n : Nat} {xs : List Int} (r : Rd w (some ⟨g, 0, none⟩) n xs) : ∀ j u, (ints .u8 xs)[j]? = some u → w.cell? ((⟨g, 0, none⟩ : Addr).add j) = some u := by
  intro j u hj
  have hjl : j < xs.length := by have := (List.getElem?_eq_some_iff.1 hj).1; rwa [ints_len] at this
  obtain ⟨h1, _, h3⟩ := r
  rcases h3 with h3 | ⟨b, o, hA, hc⟩
  · omega
  · injection hA with hA
    injection hA with e1 e2
    subst e1 e2
    rw [ints_at _ _ _ hjl] at hj
    rw [← hj, show (⟨g, 0, none⟩ : Addr).add j = ⟨g, 0 + j, none⟩ by cases j <;> simp [Addr.add]]
    exact hc j (by omega)
/-- the row lies in none of these blocks -/
def Off (A : Option Addr) (n : Nat) (F : List Nat) : Prop := n = 0 ∨ ∃ g o, A = some ⟨g, o, none⟩ ∧ g ∉ F
theorem Rd.far {w w' : World} {A : Option Addr} {n : Nat} {xs : List Int} {F : List Nat} (r : Rd w A n xs) (b : Bar F w w') (h : Off A n F) : Rd w' A n xs := by
  rcases h with rfl | ⟨g, o, rfl, hg⟩
  · exact ⟨r.1, r.2.1, .inl rfl⟩
  · exact r.keep b (fun x hx => .inr fun o' ho => by injection ho with ho; injection ho with ho; exact hg (ho ▸ hx))
theorem Rd.off {w : World} {A : Option Addr} {n : Nat} {xs : List Int} {F : List Nat} (r : Rd w A n xs) (h : ∀ k ∈ F, w.heap.size ≤ k) : Off A n F := by
  rcases r.2.2 with h0 | ⟨b, o, rfl, hc⟩
  · exact .inl h0
  · by_cases h0 : n = 0
    · exact .inl h0
    · refine .inr ⟨b, o, rfl, fun hb => ?_⟩
      have := World.block_lt_of_cell? _ _ (hc 0 (by omega))
      have := h b hb
      simp at *
      omega
theorem own_off {w : World} {base size : Nat} {e : TypeId} {A : Option Addr} {n c : Nat} {xs : List Value} {F : List Nat} (h : w.ownsRow base e size (.slice A n c) n xs) (hf : ∀ k ∈ (Value.slice A n c).ownBlock.toList, k ∉ F) : Off A n F := by
  rcases h.2 with ⟨_, h0⟩ | ⟨g, cap, cur, hv, _⟩
  · exact .inl h0
  · injection hv with hA
    subst hA
    exact .inr ⟨g, 0, rfl, hf g (by simp [Value.ownBlock])⟩
theorem Off.step {A : Option Addr} {n : Nat} {xs : List Int} {F F' : List Nat} {w w' : World} (h : Off A n F) (r : Rd w A n xs) (k : Fp F F' w w') : Off A n F' := by
  rcases h with h | ⟨g, o, rfl, hg⟩
  · exact .inl h
  · rcases r.2.2 with h0 | ⟨b, o', hA, hc⟩
    · exact .inl h0
    · by_cases h0 : n = 0
      · exact .inl h0
      · injection hA with hA
        injection hA with h1 h2
        subst h1
        refine .inr ⟨g, o, rfl, fun hb => ?_⟩
        rcases k.2 g hb with h3 | h3
        · exact hg h3
        · have := World.block_lt_of_cell? _ _ (hc 0 (by omega))
          simp at this
          omega
theorem Bar.grownRow {w w' : World} {v : Value} (h : w.grownBy w' v.ownBlock) : Bar v.ownBlock.toList w w' := ⟨h.os, h.tape, h.output, h.size, fun k hk hn => h.block k hk (fun he => hn (by simp [← he]))⟩
theorem blk_ne {w : World} {g h : Nat} {t u : TypeId} {cs ds : Array Value} (a : Blk w g t cs) (b : Blk w h u ds) (ht : t ≠ u) : g ≠ h := by
  rintro rfl
  unfold Blk at a b
  rw [a] at b
  injection b with b
  injection b with _ b
  exact ht b

/-- an element of an array that is a value -/
theorem index_arr {P : Program} {T e : TypeId} {N : Nat} {k k' : IntKind} {l : List Int} (hT : P.underlying T = some (.array N e)) (hE : P.underlying e = some (.int k')) (hi : (P.info? e).map (·.size) = some 1) (hl : l.length = N) (i : Nat) (h : i < N) (w : World) :
    (Instr.index T (.agg (arr k l)) (.int .i64 (i : Int))).run P w = .ok (.int k (at_ l i)) w := by
  have ha := arr_at k l i (by omega)
  cases hq : P.info? e with
  | none => simp [hq] at hi
  | some j =>
    have hs : j.size = 1 := by simpa [hq] using hi
    have hagg : (isAgg e).run P w = .ok false w := by
      unfold isAgg
      rw [Sem.run_bind, run_underlying hE w]
      rfl
    simp [Instr.index, asIntOf, run_underlying hT, h, sizeOf, typeInfo, hq, hs, part, hagg, ha, Result.andThen]
theorem bar_setRow (w : World) (g : Nat) (cs : Array Value) : Bar [g] w (w.setRow g cs) := ⟨rfl, rfl, rfl, by simp [World.setRow], fun k _ hn => setRow_other w g k cs (by simpa using hn)⟩
theorem wpList_copy_bar {P : Program} {w : World} {ops : Array Oper} {rest : List Oper} {o : Oper} {a : Act} {Q : Exit → Act → World → Prop} (hgd : o.guard = none) (d s : Operand) (dT sT : TypeId)
    (ho : o.op = .call { callee := .builtin .copy, args := #[d, s], argTypes := #[dT, sT] }) (elem : TypeId) (hu : P.underlying dT = some (.slice elem)) (hsz : (P.info? elem).map (·.size) = some 1)
    (dp sp : Option Addr) (dLen dCap sLen sCap : Nat) (hd : a.eval d = .slice dp dLen dCap) (hs : a.eval s = .slice sp sLen sCap)
    (g off : Nat) (cur : List Value) (t : TypeId) (hg : Blk w g t cur.toArray) (cs : List Value) (hn : cs.length = Nat.min sLen dLen)
    (hpos : 0 < cs.length → dp = some ⟨g, off, none⟩ ∧ ∃ ad, sp = some ad ∧ ∀ j v, cs[j]? = some v → w.cell? (ad.add j) = some v)
    (hfit : off + cs.length ≤ cur.length) (h1 : ∀ v ∈ cs, v.oneCell' = true)
    (h : ∀ w', Hid (Blk w' g t (splice cur off cs).toArray) → Bar [g] w w' → wpList P ops Q rest (a.put o.dst (goInt cs.length)) w') :
    wpList P ops Q (o :: rest) a w := by
  by_cases h0 : cs.length = 0
  · obtain rfl : cs = [] := List.eq_nil_of_length_eq_zero h0
    refine wpList_copy_nothing hgd d s dT sT ho elem hu hsz dp sp dLen dCap sLen sCap hd hs (by simpa using hn.symm) ?_
    exact h w (show Blk w g t _ by rw [show splice cur off [] = cur by simp [splice]]; exact hg) (Bar.refl _ _)
  · obtain ⟨rfl, ad, rfl, hsrc⟩ := hpos (by omega)
    refine wpList_copy_own hgd d s dT sT ho elem hu hsz g off dLen dCap ad sLen sCap hd hs cur.toArray t hg cs hn hsrc (by simpa using hfit) h1 ?_
    exact h _ (show Blk _ g t _ by unfold Blk; simpa [splice] using setRow_heap w g _ _ t _ hg) (bar_setRow _ _ _)
def lenOf : Value → Nat | .slice _ l _ => l | _ => 0
end Go.Proofs.Ytidjkhpekhpffaa.Sha

namespace Go.Proofs.Ytidjkhpekhpffaa.Seal
open Go.RowKit Go.Proofs.Ytidjkhpekhpffaa.Sha Go.Proofs.Ytidjkhpekhpffaa.Wire

set_option maxRecDepth 100000 in
set_option maxHeartbeats 1000000 in
theorem cway_any (p h y s : Int) (bd : List Int) (A : Option Addr) (l c : Nat) (w : World) :
    Calls Try.prog 18 #[.agg #[.int .i64 p, .int .i64 h, .int .i64 y, .int .i64 s, .slice A l c]] w fun e w' => e = .returned (.bool (decide (wayN ⟨p, h, y, s, bd⟩))) ∧ Below w.heap.size w w' := by
  have B : Kept (Below w.heap.size w (w.alloc (.cells #[.int .i64 p, .int .i64 h, .int .i64 y, .int .i64 s, .slice A l c] 24))) := ⟨(Below.refl _ _).alloc (Nat.le_refl _) _⟩
  by_cases h1 : 0 ≤ p
  rotate_left
  · rw [show decide (wayN ⟨p, h, y, s, bd⟩) = false from decide_eq_false (by unfold wayN; dsimp only; omega)]
    go_enter Try.func18, Try.ntmps18
    go_wp2
    go_ret
    exact ⟨rfl, B.out⟩
  by_cases h2 : p < 16
  rotate_left
  · rw [show decide (wayN ⟨p, h, y, s, bd⟩) = false from decide_eq_false (by unfold wayN; dsimp only; omega)]
    go_enter Try.func18, Try.ntmps18
    go_wp2
    go_ret
    exact ⟨rfl, B.out⟩
  by_cases h3 : h = 0
  · subst h3
    by_cases h4 : y = 0
    · subst h4
      rw [show decide (wayN ⟨p, 0, 0, s, bd⟩) = true from decide_eq_true (by unfold wayN; dsimp only; omega)]
      go_enter Try.func18, Try.ntmps18
      go_wp2
      go_ret
      exact ⟨rfl, B.out⟩
    · have h4' : (y == 0) = false := by simpa using h4
      by_cases h5 : y = 1
      · subst h5
        rw [show decide (wayN ⟨p, 0, 1, s, bd⟩) = true from decide_eq_true (by unfold wayN; dsimp only; omega)]
        go_enter Try.func18, Try.ntmps18
        go_wp2
        go_ret
        exact ⟨rfl, B.out⟩
      · have h5' : (y == 1) = false := by simpa using h5
        rw [show decide (wayN ⟨p, 0, y, s, bd⟩) = false from decide_eq_false (by unfold wayN; dsimp only; omega)]
        clear h4 h5
        go_enter Try.func18, Try.ntmps18
        go_wp2
        go_ret
        exact ⟨rfl, B.out⟩
  · have h3' : (h == 0) = false := by simpa using h3
    by_cases h6 : h = 1
    · subst h6
      by_cases h4 : y = 0
      · subst h4
        rw [show decide (wayN ⟨p, 1, 0, s, bd⟩) = true from decide_eq_true (by unfold wayN; dsimp only; omega)]
        go_enter Try.func18, Try.ntmps18
        go_wp2
        go_ret
        exact ⟨rfl, B.out⟩
      · have h4' : (y == 0) = false := by simpa using h4
        by_cases h5 : y = 1
        · subst h5
          rw [show decide (wayN ⟨p, 1, 1, s, bd⟩) = true from decide_eq_true (by unfold wayN; dsimp only; omega)]
          go_enter Try.func18, Try.ntmps18
          go_wp2
          go_ret
          exact ⟨rfl, B.out⟩
        · have h5' : (y == 1) = false := by simpa using h5
          rw [show decide (wayN ⟨p, 1, y, s, bd⟩) = false from decide_eq_false (by unfold wayN; dsimp only; omega)]
          clear h4 h5
          go_enter Try.func18, Try.ntmps18
          go_wp2
          go_ret
          exact ⟨rfl, B.out⟩
    · have h6' : (h == 1) = false := by simpa using h6
      rw [show decide (wayN ⟨p, h, y, s, bd⟩) = false from decide_eq_false (by unfold wayN; dsimp only; omega)]
      clear h3 h6
      go_enter Try.func18, Try.ntmps18
      go_wp2
      go_ret
      exact ⟨rfl, B.out⟩
end Go.Proofs.Ytidjkhpekhpffaa.Seal

namespace Go.Proofs.Ytidjkhpekhpffaa.Sha
open Go.RowKit

theorem info_u8 : (Try.prog.info? 5).map (fun i => (i.zero, i.size, i.bytes)) = some (some (.int .u8 0), 1, 1) := by kernel_rfl
theorem rd_one (w : World) (x : Int) (hx : 0 ≤ x ∧ x ≤ 255) : Rd (w.alloc (.cells #[.int .u8 x] 5)) (some ⟨w.heap.size, 0, none⟩) 1 [x] :=
  Rd.blk (Blk.new w 5 (arr .u8 [x])) (by intro y hy; rw [List.mem_singleton] at hy; subst hy; exact hx) rfl
theorem own_rd2 {w : World} {base : Nat} {v : Value} {n : Nat} {xs : List Int} (h : w.ownsRow base 5 1 v n (ints .u8 xs)) (hb : Bytes xs) : ∃ A cap, v = .slice A n cap ∧ n ≤ cap ∧ cap ≤ 9223372036854775807 ∧ Rd w A n xs ∧
    (n = 0 ∨ ∃ g cs, A = some ⟨g, 0, none⟩ ∧ base ≤ g ∧ Blk w g 5 cs ∧ ∀ j, j < n → cs[j]? = some (.int .u8 (at_ xs j))) := by
  obtain ⟨A, cap, rfl, h1, h2, h3⟩ := own_rd h hb
  refine ⟨A, cap, rfl, h1, h2, h3, ?_⟩
  rcases h.2 with ⟨_, h0⟩ | ⟨g, cap, cur, hv, hg, hh, _⟩
  · exact .inl h0
  · injection hv with hA
    subst hA
    refine .inr ⟨g, cur, rfl, hg, hh, fun j hj => ?_⟩
    rw [← Blk.cell hh j]
    exact own_cell h j hj
theorem make_zeros (w : World) (n : Nat) (hn : n ≤ 400) : ∃ w', (Instr.makeSlice 22 (.int .i64 (n : Int)) (.int .i64 (n : Int))).run Try.prog w = .ok (.slice (some ⟨w.heap.size, 0, none⟩) n n) w' ∧ Rd w' (some ⟨w.heap.size, 0, none⟩) n (List.replicate n 0) ∧ Below w.heap.size w w' := by
  obtain ⟨iu, hi, hz0, hz1, hz2⟩ := info_parts info_u8
  obtain ⟨w', hm, own, gr⟩ := run_makeSlice_full (P := Try.prog) w w.heap.size 22 5 iu _ 1 Try.underlying22 hi hz0 hz1 .i64 .i64 n (by omega) (by rw [hz2]; omega) (by unfold maxLen; omega) (Nat.le_refl _)
  refine ⟨w', hm, ?_, ⟨gr.os, gr.tape, gr.output, gr.size, fun k hk => gr.block k hk (by simp)⟩⟩
  have e : (madeCells (Value.int .u8 0).cells (n * 1)).toList = ints .u8 (List.replicate n 0) := by
    rw [show (Value.int .u8 0).cells = #[.int .u8 0] from rfl, toList_madeCells_one, Nat.mul_one]
    simp [ints]
  rw [e] at own
  refine ⟨by simp, fun x hx => ?_, ?_⟩
  · have := List.eq_of_mem_replicate hx
    omega
  · exact .inr ⟨_, 0, rfl, fun i hi => by rw [Nat.zero_add]; exact own_cell own i hi⟩
theorem make_blk (w : World) (n : Nat) (hn : n ≤ 400) : ∃ w', (Instr.makeSlice 22 (.int .i64 (n : Int)) (.int .i64 (n : Int))).run Try.prog w = .ok (.slice (some ⟨w.heap.size, 0, none⟩) n n) w' ∧ Blk w' w.heap.size 5 (arr .u8 (List.replicate n 0)) ∧ Below w.heap.size w w' := by
  obtain ⟨iu, hi, hz0, hz1, hz2⟩ := info_parts info_u8
  obtain ⟨w', hm, own, gr⟩ := run_makeSlice_full (P := Try.prog) w w.heap.size 22 5 iu _ 1 Try.underlying22 hi hz0 hz1 .i64 .i64 n (by omega) (by rw [hz2]; omega) (by unfold maxLen; omega) (Nat.le_refl _)
  refine ⟨w', hm, ?_, ⟨gr.os, gr.tape, gr.output, gr.size, fun k hk => gr.block k hk (by simp)⟩⟩
  have e : (madeCells (Value.int .u8 0).cells (n * 1)).toList = ints .u8 (List.replicate n 0) := by
    rw [show (Value.int .u8 0).cells = #[.int .u8 0] from rfl, toList_madeCells_one, Nat.mul_one]
    simp [ints]
  rw [e] at own
  rcases own.2 with ⟨h0, -⟩ | ⟨g, cap, cur, hv, -, hh, h1, -, hs, ht⟩
  · cases h0
  · have hv2 : w.heap.size = g ∧ n = cap := by
      have := hv
      simp only [Value.slice.injEq, Option.some.injEq, Addr.mk.injEq] at this
      omega
    obtain ⟨hg, rfl⟩ := hv2
    rw [hg]
    have : cur = arr .u8 (List.replicate n 0) := by
      apply Array.toList_inj.1
      rw [List.take_of_length_le (by simp; omega)] at ht
      rw [ht]
      rfl
    rw [← this]
    exact hh
end Go.Proofs.Ytidjkhpekhpffaa.Sha

namespace Go.Proofs.Ytidjkhpekhpffaa.Sha
open Go.RowKit

theorem Rd.piece {w : World} {A : Option Addr} {n c : Nat} {xs : List Int} (r : Rd w A n xs) (hc : n ≤ c) (l h : Nat) (h1 : l ≤ h) (h2 : h ≤ n) :
    Rd w (if c = l then A else A.map (·.add (l * 1))) (h - l) ((xs.take h).drop l) ∧ ∀ F, Off A n F → Off (if c = l then A else A.map (·.add (l * 1))) (h - l) F := by
  obtain ⟨r1, r2, r3⟩ := r
  have e1 : ((xs.take h).drop l).length = h - l := by simp [List.length_drop, List.length_take, r1]; omega
  have e2 : Bytes ((xs.take h).drop l) := (Bytes.take r2 h).drop l
  by_cases h0 : h - l = 0
  · rw [h0] at e1 ⊢
    exact ⟨⟨e1, e2, .inl rfl⟩, fun F _ => .inl rfl⟩
  · have hcl : ¬ c = l := by omega
    rw [if_neg hcl, Nat.mul_one]
    obtain ⟨b, o, rfl, hcell⟩ := r3.resolve_left (by omega)
    have ea : (⟨b, o, none⟩ : Addr).add l = ⟨b, o + l, none⟩ := by cases l <;> simp [Addr.add]
    simp only [Option.map_some, ea]
    refine ⟨⟨e1, e2, .inr ⟨b, o + l, rfl, fun i hi => ?_⟩⟩, fun F hF => .inr ?_⟩
    · have := hcell (l + i) (by omega)
      rw [Nat.add_assoc, this, at_drop, at_take (by omega)]
    · rcases hF with hF | ⟨g, o', hA, hg⟩
      · omega
      · injection hA with hA
        injection hA with hA _
        subst hA
        exact ⟨b, o + l, rfl, hg⟩

theorem elem_u8 : Try.prog.elem 22 = 5 := by kernel_rfl
theorem und_u8 : Try.prog.underlying 22 = some (.slice (Try.prog.elem 22)) := by rw [elem_u8]; exact Try.underlying22
theorem size_u8 (w : World) : (sizeOf (Try.prog.elem 22)).run Try.prog w = .ok 1 w := by
  obtain ⟨iu, hi, _, hz1, _⟩ := info_parts info_u8
  rw [elem_u8]
  simp [sizeOf, typeInfo, hi, hz1]

theorem slice_lh {w : World} {A : Option Addr} {n c : Nat} {xs : List Int} (r : Rd w A n xs) (hc : n ≤ c) (l h : Nat) (h1 : l ≤ h) (h2 : h ≤ n) (li hi : Int) (e1 : li = l) (e2 : hi = h) :
    ∃ A', (∀ w', (Instr.slice 22 (.slice A n c) (some (.int .i64 li)) (some (.int .i64 hi)) none).run Try.prog w' = .ok (.slice A' (h - l) (c - l)) w') ∧ Rd w A' (h - l) ((xs.take h).drop l) ∧ ∀ F, Off A n F → Off A' (h - l) F := by
  refine ⟨_, fun w' => ?_, r.piece hc l h h1 h2⟩
  subst e1 e2
  rw [run_slice_lh w' 22 A n c und_u8 .i64 .i64 l h (by omega) (by omega) (by omega), size_u8]
  rfl
theorem slice_l {w : World} {A : Option Addr} {n c : Nat} {xs : List Int} (r : Rd w A n xs) (hc : n ≤ c) (l : Nat) (h1 : l ≤ n) (li : Int) (e1 : li = l) :
    ∃ A', (∀ w', (Instr.slice 22 (.slice A n c) (some (.int .i64 li)) none none).run Try.prog w' = .ok (.slice A' (n - l) (c - l)) w') ∧ Rd w A' (n - l) (xs.drop l) ∧ ∀ F, Off A n F → Off A' (n - l) F := by
  have hp := r.piece hc l n h1 (Nat.le_refl _)
  rw [show xs.take n = xs from List.take_of_length_le (by rw [r.1]; exact Nat.le_refl _)] at hp
  refine ⟨_, fun w' => ?_, hp⟩
  subst e1
  rw [run_slice_l w' 22 A n c und_u8 .i64 l (by omega) (by omega), size_u8]
  rfl
theorem slice_h {w : World} {A : Option Addr} {n c : Nat} {xs : List Int} (r : Rd w A n xs) (hc : n ≤ c) (h : Nat) (h2 : h ≤ n) (hi : Int) (e2 : hi = h) :
    ∃ A', (∀ w', (Instr.slice 22 (.slice A n c) none (some (.int .i64 hi)) none).run Try.prog w' = .ok (.slice A' h c) w') ∧ Rd w A' h (xs.take h) ∧ ∀ F, Off A n F → Off A' h F := by
  have hp := r.piece hc 0 h (Nat.zero_le _) h2
  rw [List.drop_zero, Nat.sub_zero] at hp
  refine ⟨_, fun w' => ?_, hp⟩
  subst e2
  rw [run_slice_h w' 22 A n c und_u8 .i64 h (by omega) (by omega), size_u8]
  rfl
end Go.Proofs.Ytidjkhpekhpffaa.Sha

namespace Go.Proofs.Ytidjkhpekhpffaa.Sha
open Go.RowKit

def NewRow (n : Nat) (xs : List Int) (w : World) (e : Ending) (w' : World) : Prop := ∃ v, e = .returned v ∧ w'.ownsRow w.heap.size 5 1 v n (ints .u8 xs) ∧ Below w.heap.size w w'

set_option maxRecDepth 100000 in
set_option maxHeartbeats 400000 in
theorem clone_any (A : Option Addr) (n cap : Nat) (xs : List Int) (w : World) (hr : Rd w A n xs) (hn : n < 2147483648) :
    Calls Try.prog 27 #[.slice A n cap] w (NewRow n xs w) := by
  cases A with
  | none =>
    have h0 : n = 0 := by
      rcases hr.2.2 with h | ⟨_, _, h, _⟩
      · exact h
      · cases h
    subst h0
    obtain rfl : xs = [] := List.eq_nil_of_length_eq_zero hr.1
    clear hr
    have hq := Lib.run_eql_slice_nil (P := Try.prog) w 22 5 none 0 cap 0 0 Try.underlying22
    go_enter Try.func27, Try.ntmps27
    go_wp2
    go_ret
    exact ⟨_, rfl, World.ownsRow_nil _ _ _ _, Below.refl _ _⟩
  | some a =>
    obtain ⟨N, hN⟩ : ∃ N, w.heap.size = N := ⟨_, rfl⟩
    have HR := Kept.mk (hr.keep (l := []) ((Bar.refl [] w).alloc (.cells #[] 5)) (by simp))
    have hown := World.ownsRow_made (base := N) (e := 5) (size := 1) w #[] 0 (by omega) (by unfold maxLen; omega) rfl
    rw [hN] at hown
    have bel : Below N w (w.alloc (.cells #[] 5)) := (Below.refl _ _).alloc (by omega) _
    have Own := Kept.mk hown
    have Bel := Kept.mk bel
    clear hown bel hr
    have hq := Lib.run_eql_slice_nil (P := Try.prog) w 22 5 (some a) n cap 0 0 Try.underlying22
    go_enter Try.func27, Try.ntmps27
    go_wp2_with ((with_reducible refine sel 7 ?_); refine wpList_append_rd rfl (.tmp 5) (.tmp 6) 22 rfl N 5 Try.underlying22 info_u8 (.slice (some ⟨N, 0, none⟩) 0 0) 0 [] rfl Own.out (some a) n cap xs rfl HR.out (by omega) (by simp [hN]) ?_; intro v' w' ho hg)
    go_ret
    refine ⟨v', rfl, ?_, ?_⟩
    · have := ho.out
      simpa [hN] using this
    · rw [hN]; exact Bel.out.grown hg (by simp; omega) (by intro k hk; injection hk with hk; simp at hk; omega)
end Go.Proofs.Ytidjkhpekhpffaa.Sha

namespace Go.Proofs.Ytidjkhpekhpffaa.Sha
open Go.RowKit

/-- n rows of bytes in memory, to be read: row r holds X r -/
def Rws (w : World) (A : Option Addr) (n : Nat) (X : Nat → List Int) : Prop :=
  n = 0 ∨ ∃ b o, A = some ⟨b, o, none⟩ ∧ ∀ r, r < n → ∃ a l c, w.cell? ⟨b, o + r, none⟩ = some (.slice a l c) ∧ l ≤ c ∧ c ≤ 9223372036854775807 ∧ Rd w a l (X r)
theorem Rws.below {w w' : World} {A : Option Addr} {n : Nat} {X : Nat → List Int} (h : Rws w A n X) (b : Below w.heap.size w w') : Rws w' A n X := by
  refine h.imp id ?_
  rintro ⟨bb, o, rfl, hc⟩
  refine ⟨bb, o, rfl, fun r hr => ?_⟩
  obtain ⟨a, l, c, h1, h2, h3, h4⟩ := hc r hr
  exact ⟨a, l, c, by rw [b.cell (World.block_lt_of_cell? _ _ h1)]; exact h1, h2, h3, h4.below b⟩
/-- an argument's rows -/
theorem rws_of_row {W : World} {a : Option Addr} {len cap : Nat} (h : (a = none ∧ len = 0 ∧ cap = 0) ∨ ∃ (x : Addr) (A : Nat → Option Addr) (L C : Nat → Nat) (Z : Nat → List Int), a = some x ∧ len ≤ cap ∧ cap ≤ maxLen ∧ ∀ r, r < cap → W.cell? (x.add r) = some (.slice (A r) (L r) (C r)) ∧ L r ≤ C r ∧ C r ≤ maxLen ∧ (Z r).length = C r ∧ (∀ n ∈ Z r, (Lit.int .u8 n).wf = true) ∧ (A r = none → C r = 0) ∧ ∀ a' : Addr, A r = some a' → 0 ≤ a'.block ∧ ∀ c, c < C r → W.cell? (a'.add c) = some (.int .u8 ((Z r).getD c 0))) :
    ∃ X, Rws W a len X := by
  rcases h with ⟨rfl, rfl, rfl⟩ | ⟨x, A, L, C, Z, rfl, hl, hm, hr⟩
  · exact ⟨fun _ => [], .inl rfl⟩
  · refine ⟨fun r => (Z r).take (L r), ?_⟩
    by_cases h0 : len = 0
    · exact .inl h0
    · refine .inr ?_
      obtain ⟨b, off, spot⟩ := x
      have hspot : spot = none := by
        have hc := (hr 0 (by omega)).1
        simpa [Addr.add] using World.cell?_spot hc
      subst hspot
      refine ⟨b, off, rfl, fun r hrl => ?_⟩
      obtain ⟨h1, h2, h3, h4, h5, h6, h7⟩ := hr r (by omega)
      have e : (⟨b, off, none⟩ : Addr).add r = ⟨b, off + r, none⟩ := by cases r <;> simp [Addr.add]
      rw [e] at h1
      refine ⟨A r, L r, C r, h1, h2, by unfold maxLen at h3; omega, ?_⟩
      refine rd_of_row (cap := C r) ?_
      cases hA : A r with
      | none =>
        have hC := h6 hA
        have hZ : Z r = [] := List.eq_nil_of_length_eq_zero (by omega)
        exact .inl ⟨rfl, by omega, hC, hZ⟩
      | some a' =>
        exact .inr ⟨a', rfl, h2, h3, h4, fun i hi => (h7 a' hA).2 i (by omega), h5⟩
end Go.Proofs.Ytidjkhpekhpffaa.Sha

namespace Go.Proofs.Ytidjkhpekhpffaa.Sha
open Go.RowKit

section
variable {w : World} {M : Nat} {T : TypeId}
theorem put2 {a0 a1 : Value} (h : Blk w M T #[a0, a1]) (b0 b1 : Value) : Blk ((w.setCell ⟨M, 0, none⟩ b0).setCell ⟨M, 1, none⟩ b1) M T #[b0, b1] ∧ Bar [M] w ((w.setCell ⟨M, 0, none⟩ b0).setCell ⟨M, 1, none⟩ b1) := by
  refine ⟨?_, (Bar.setCell (Bar.setCell (Bar.refl [M] w) (p := ⟨M, 0, none⟩) (.inl (by simp)) b0) (p := ⟨M, 1, none⟩) (.inl (by simp)) b1)⟩
  have := ((h.set_ 0 b0).set_ 1 b1)
  simpa using this
theorem put4 {a0 a1 a2 a3 : Value} (h : Blk w M T #[a0, a1, a2, a3]) (b0 b1 b2 b3 : Value) : Blk ((((w.setCell ⟨M, 0, none⟩ b0).setCell ⟨M, 1, none⟩ b1).setCell ⟨M, 2, none⟩ b2).setCell ⟨M, 3, none⟩ b3) M T #[b0, b1, b2, b3] ∧ Bar [M] w ((((w.setCell ⟨M, 0, none⟩ b0).setCell ⟨M, 1, none⟩ b1).setCell ⟨M, 2, none⟩ b2).setCell ⟨M, 3, none⟩ b3) := by
  refine ⟨?_, (Bar.setCell (Bar.setCell (Bar.setCell (Bar.setCell (Bar.refl [M] w) (p := ⟨M, 0, none⟩) (.inl (by simp)) b0) (p := ⟨M, 1, none⟩) (.inl (by simp)) b1) (p := ⟨M, 2, none⟩) (.inl (by simp)) b2) (p := ⟨M, 3, none⟩) (.inl (by simp)) b3)⟩
  have := ((((h.set_ 0 b0).set_ 1 b1).set_ 2 b2).set_ 3 b3)
  simpa using this
theorem put5 {a0 a1 a2 a3 a4 : Value} (h : Blk w M T #[a0, a1, a2, a3, a4]) (b0 b1 b2 b3 b4 : Value) : Blk (((((w.setCell ⟨M, 0, none⟩ b0).setCell ⟨M, 1, none⟩ b1).setCell ⟨M, 2, none⟩ b2).setCell ⟨M, 3, none⟩ b3).setCell ⟨M, 4, none⟩ b4) M T #[b0, b1, b2, b3, b4] ∧ Bar [M] w (((((w.setCell ⟨M, 0, none⟩ b0).setCell ⟨M, 1, none⟩ b1).setCell ⟨M, 2, none⟩ b2).setCell ⟨M, 3, none⟩ b3).setCell ⟨M, 4, none⟩ b4) := by
  refine ⟨?_, (Bar.setCell (Bar.setCell (Bar.setCell (Bar.setCell (Bar.setCell (Bar.refl [M] w) (p := ⟨M, 0, none⟩) (.inl (by simp)) b0) (p := ⟨M, 1, none⟩) (.inl (by simp)) b1) (p := ⟨M, 2, none⟩) (.inl (by simp)) b2) (p := ⟨M, 3, none⟩) (.inl (by simp)) b3) (p := ⟨M, 4, none⟩) (.inl (by simp)) b4)⟩
  have := (((((h.set_ 0 b0).set_ 1 b1).set_ 2 b2).set_ 3 b3).set_ 4 b4)
  simpa using this
theorem put7 {a0 a1 a2 a3 a4 a5 a6 : Value} (h : Blk w M T #[a0, a1, a2, a3, a4, a5, a6]) (b0 b1 b2 b3 b4 b5 b6 : Value) : Blk (((((((w.setCell ⟨M, 0, none⟩ b0).setCell ⟨M, 1, none⟩ b1).setCell ⟨M, 2, none⟩ b2).setCell ⟨M, 3, none⟩ b3).setCell ⟨M, 4, none⟩ b4).setCell ⟨M, 5, none⟩ b5).setCell ⟨M, 6, none⟩ b6) M T #[b0, b1, b2, b3, b4, b5, b6] ∧ Bar [M] w (((((((w.setCell ⟨M, 0, none⟩ b0).setCell ⟨M, 1, none⟩ b1).setCell ⟨M, 2, none⟩ b2).setCell ⟨M, 3, none⟩ b3).setCell ⟨M, 4, none⟩ b4).setCell ⟨M, 5, none⟩ b5).setCell ⟨M, 6, none⟩ b6) := by
  refine ⟨?_, (Bar.setCell (Bar.setCell (Bar.setCell (Bar.setCell (Bar.setCell (Bar.setCell (Bar.setCell (Bar.refl [M] w) (p := ⟨M, 0, none⟩) (.inl (by simp)) b0) (p := ⟨M, 1, none⟩) (.inl (by simp)) b1) (p := ⟨M, 2, none⟩) (.inl (by simp)) b2) (p := ⟨M, 3, none⟩) (.inl (by simp)) b3) (p := ⟨M, 4, none⟩) (.inl (by simp)) b4) (p := ⟨M, 5, none⟩) (.inl (by simp)) b5) (p := ⟨M, 6, none⟩) (.inl (by simp)) b6)⟩
  have := (((((((h.set_ 0 b0).set_ 1 b1).set_ 2 b2).set_ 3 b3).set_ 4 b4).set_ 5 b5).set_ 6 b6)
  simpa using this
theorem put8 {a0 a1 a2 a3 a4 a5 a6 a7 : Value} (h : Blk w M T #[a0, a1, a2, a3, a4, a5, a6, a7]) (b0 b1 b2 b3 b4 b5 b6 b7 : Value) : Blk ((((((((w.setCell ⟨M, 0, none⟩ b0).setCell ⟨M, 1, none⟩ b1).setCell ⟨M, 2, none⟩ b2).setCell ⟨M, 3, none⟩ b3).setCell ⟨M, 4, none⟩ b4).setCell ⟨M, 5, none⟩ b5).setCell ⟨M, 6, none⟩ b6).setCell ⟨M, 7, none⟩ b7) M T #[b0, b1, b2, b3, b4, b5, b6, b7] ∧ Bar [M] w ((((((((w.setCell ⟨M, 0, none⟩ b0).setCell ⟨M, 1, none⟩ b1).setCell ⟨M, 2, none⟩ b2).setCell ⟨M, 3, none⟩ b3).setCell ⟨M, 4, none⟩ b4).setCell ⟨M, 5, none⟩ b5).setCell ⟨M, 6, none⟩ b6).setCell ⟨M, 7, none⟩ b7) := by
  refine ⟨?_, (Bar.setCell (Bar.setCell (Bar.setCell (Bar.setCell (Bar.setCell (Bar.setCell (Bar.setCell (Bar.setCell (Bar.refl [M] w) (p := ⟨M, 0, none⟩) (.inl (by simp)) b0) (p := ⟨M, 1, none⟩) (.inl (by simp)) b1) (p := ⟨M, 2, none⟩) (.inl (by simp)) b2) (p := ⟨M, 3, none⟩) (.inl (by simp)) b3) (p := ⟨M, 4, none⟩) (.inl (by simp)) b4) (p := ⟨M, 5, none⟩) (.inl (by simp)) b5) (p := ⟨M, 6, none⟩) (.inl (by simp)) b6) (p := ⟨M, 7, none⟩) (.inl (by simp)) b7)⟩
  have := ((((((((h.set_ 0 b0).set_ 1 b1).set_ 2 b2).set_ 3 b3).set_ 4 b4).set_ 5 b5).set_ 6 b6).set_ 7 b7)
  simpa using this
theorem put9 {a0 a1 a2 a3 a4 a5 a6 a7 a8 : Value} (h : Blk w M T #[a0, a1, a2, a3, a4, a5, a6, a7, a8]) (b0 b1 b2 b3 b4 b5 b6 b7 b8 : Value) : Blk (((((((((w.setCell ⟨M, 0, none⟩ b0).setCell ⟨M, 1, none⟩ b1).setCell ⟨M, 2, none⟩ b2).setCell ⟨M, 3, none⟩ b3).setCell ⟨M, 4, none⟩ b4).setCell ⟨M, 5, none⟩ b5).setCell ⟨M, 6, none⟩ b6).setCell ⟨M, 7, none⟩ b7).setCell ⟨M, 8, none⟩ b8) M T #[b0, b1, b2, b3, b4, b5, b6, b7, b8] ∧ Bar [M] w (((((((((w.setCell ⟨M, 0, none⟩ b0).setCell ⟨M, 1, none⟩ b1).setCell ⟨M, 2, none⟩ b2).setCell ⟨M, 3, none⟩ b3).setCell ⟨M, 4, none⟩ b4).setCell ⟨M, 5, none⟩ b5).setCell ⟨M, 6, none⟩ b6).setCell ⟨M, 7, none⟩ b7).setCell ⟨M, 8, none⟩ b8) := by
  refine ⟨?_, (Bar.setCell (Bar.setCell (Bar.setCell (Bar.setCell (Bar.setCell (Bar.setCell (Bar.setCell (Bar.setCell (Bar.setCell (Bar.refl [M] w) (p := ⟨M, 0, none⟩) (.inl (by simp)) b0) (p := ⟨M, 1, none⟩) (.inl (by simp)) b1) (p := ⟨M, 2, none⟩) (.inl (by simp)) b2) (p := ⟨M, 3, none⟩) (.inl (by simp)) b3) (p := ⟨M, 4, none⟩) (.inl (by simp)) b4) (p := ⟨M, 5, none⟩) (.inl (by simp)) b5) (p := ⟨M, 6, none⟩) (.inl (by simp)) b6) (p := ⟨M, 7, none⟩) (.inl (by simp)) b7) (p := ⟨M, 8, none⟩) (.inl (by simp)) b8)⟩
  have := (((((((((h.set_ 0 b0).set_ 1 b1).set_ 2 b2).set_ 3 b3).set_ 4 b4).set_ 5 b5).set_ 6 b6).set_ 7 b7).set_ 8 b8)
  simpa using this
theorem put11 {a0 a1 a2 a3 a4 a5 a6 a7 a8 a9 a10 : Value} (h : Blk w M T #[a0, a1, a2, a3, a4, a5, a6, a7, a8, a9, a10]) (b0 b1 b2 b3 b4 b5 b6 b7 b8 b9 b10 : Value) : Blk (((((((((((w.setCell ⟨M, 0, none⟩ b0).setCell ⟨M, 1, none⟩ b1).setCell ⟨M, 2, none⟩ b2).setCell ⟨M, 3, none⟩ b3).setCell ⟨M, 4, none⟩ b4).setCell ⟨M, 5, none⟩ b5).setCell ⟨M, 6, none⟩ b6).setCell ⟨M, 7, none⟩ b7).setCell ⟨M, 8, none⟩ b8).setCell ⟨M, 9, none⟩ b9).setCell ⟨M, 10, none⟩ b10) M T #[b0, b1, b2, b3, b4, b5, b6, b7, b8, b9, b10] ∧ Bar [M] w (((((((((((w.setCell ⟨M, 0, none⟩ b0).setCell ⟨M, 1, none⟩ b1).setCell ⟨M, 2, none⟩ b2).setCell ⟨M, 3, none⟩ b3).setCell ⟨M, 4, none⟩ b4).setCell ⟨M, 5, none⟩ b5).setCell ⟨M, 6, none⟩ b6).setCell ⟨M, 7, none⟩ b7).setCell ⟨M, 8, none⟩ b8).setCell ⟨M, 9, none⟩ b9).setCell ⟨M, 10, none⟩ b10) := by
  refine ⟨?_, (Bar.setCell (Bar.setCell (Bar.setCell (Bar.setCell (Bar.setCell (Bar.setCell (Bar.setCell (Bar.setCell (Bar.setCell (Bar.setCell (Bar.setCell (Bar.refl [M] w) (p := ⟨M, 0, none⟩) (.inl (by simp)) b0) (p := ⟨M, 1, none⟩) (.inl (by simp)) b1) (p := ⟨M, 2, none⟩) (.inl (by simp)) b2) (p := ⟨M, 3, none⟩) (.inl (by simp)) b3) (p := ⟨M, 4, none⟩) (.inl (by simp)) b4) (p := ⟨M, 5, none⟩) (.inl (by simp)) b5) (p := ⟨M, 6, none⟩) (.inl (by simp)) b6) (p := ⟨M, 7, none⟩) (.inl (by simp)) b7) (p := ⟨M, 8, none⟩) (.inl (by simp)) b8) (p := ⟨M, 9, none⟩) (.inl (by simp)) b9) (p := ⟨M, 10, none⟩) (.inl (by simp)) b10)⟩
  have := (((((((((((h.set_ 0 b0).set_ 1 b1).set_ 2 b2).set_ 3 b3).set_ 4 b4).set_ 5 b5).set_ 6 b6).set_ 7 b7).set_ 8 b8).set_ 9 b9).set_ 10 b10)
  simpa using this
end
end Go.Proofs.Ytidjkhpekhpffaa.Sha

namespace Go.Proofs.Ytidjkhpekhpffaa.Wire
open Go.RowKit Go.Proofs.Ytidjkhpekhpffaa.Sha

/-- what the law reckons: does it go? -/
theorem fits_code (n s : Int) (h1 : 1 ≤ s) (h8 : s < 8) (h0 : 0 ≤ n) (hm : n ≤ 4611686018427387904) : decide (n < 2 ^ (8 * s).toNat) = fits n s := by
  obtain ⟨k, rfl⟩ : ∃ k : Nat, s = k := ⟨s.toNat, by omega⟩
  rw [show (8 * (k : Int)).toNat = 8 * k by omega]
  unfold fits
  apply decide_eq_decide.2
  have e : (2 : Int) ^ (8 * k) = 256 ^ (k : Int).toNat := by
    rw [Int.toNat_natCast, Int.pow_mul]; rfl
  rw [e]
  exact ⟨fun h => ⟨h1, by omega, h0, hm, h⟩, fun h => h.2.2.2.2⟩
theorem errs_cases (n s : Int) : (1 ≤ s ∧ s ≤ 8 ∧ 0 ≤ n ∧ n ≤ 4611686018427387904 ∧ IntKind.u64.wrap (8 * s) = 8 * s ∧ IntKind.i64.wrap (8 * s) = 8 * s ∧ Kept ((s == 8 || decide (n < wrap64 (2 ^ (8 * s).toNat))) = fits n s)) ∨
      (fits n s = false ∧ (decide (1 ≤ s) = false ∨ (1 ≤ s ∧ decide (s ≤ 8) = false) ∨ (1 ≤ s ∧ s ≤ 8 ∧ decide (0 ≤ n) = false) ∨ (1 ≤ s ∧ s ≤ 8 ∧ 0 ≤ n ∧ decide (n ≤ 4611686018427387904) = false))) := by
    by_cases h1 : 1 ≤ s
    · by_cases h8 : s ≤ 8
      · by_cases h0 : 0 ≤ n
        · by_cases hm : n ≤ 4611686018427387904
          · refine .inl ⟨h1, h8, h0, hm, by rw [IntKind.wrap_u64]; omega, by rw [IntKind.wrap_i64]; omega, ⟨?_⟩⟩
            by_cases h : s = 8
            · subst h
              have hf : fits n 8 = true := decide_eq_true ⟨by omega, by omega, h0, hm, by
                have : (256 : Int) ^ (8 : Int).toNat = 18446744073709551616 := by decide +kernel
                rw [this]; omega⟩
              rw [hf]; rfl
            · rw [← fits_code n s h1 (by omega) h0 hm, beq_eq_false_iff_ne.2 h, Bool.false_or]
              have hk : s = 1 ∨ s = 2 ∨ s = 3 ∨ s = 4 ∨ s = 5 ∨ s = 6 ∨ s = 7 := by omega
              have hw : wrap64 (2 ^ (8 * s).toNat) = 2 ^ (8 * s).toNat := by
                rcases hk with rfl | rfl | rfl | rfl | rfl | rfl | rfl <;> decide +kernel
              rw [hw]
          · exact .inr ⟨decide_eq_false (fun hc => hm hc.2.2.2.1), .inr (.inr (.inr ⟨h1, h8, h0, decide_eq_false hm⟩))⟩
        · exact .inr ⟨decide_eq_false (fun hc => h0 hc.2.2.1), .inr (.inr (.inl ⟨h1, h8, decide_eq_false h0⟩))⟩
      · exact .inr ⟨decide_eq_false (fun hc => h8 hc.2.1), .inr (.inl ⟨h1, decide_eq_false h8⟩)⟩
    · exact .inr ⟨decide_eq_false (fun hc => h1 hc.1), .inl (decide_eq_false h1)⟩
end Go.Proofs.Ytidjkhpekhpffaa.Wire

namespace Go.Proofs.Ytidjkhpekhpffaa.Sha
open Go.RowKit

/-- at a step of a region: a row of bytes that is read goes behind what the call made -/
theorem step_append_rd {P : Program} {w : World} {ops : Array Oper} {o : Oper} {a : Act} {K : Act → World → Prop} {Q : Exit → Act → World → Prop} {E : Prop} (hgd : o.guard = none) (s x : Operand) (t : TypeId)
    (ho : o.op = .call { callee := .builtin .append, args := #[s, x], argTypes := #[t, t] })
    (base : Nat) (e : TypeId) (ht : P.underlying t = some (.slice e)) (hi : (P.info? e).map (fun i => (i.zero, i.size, i.bytes)) = some (some (.int .u8 0), 1, 1))
    (v : Value) (n : Nat) (xs : List Value) (hs : a.eval s = v) (hown : w.ownsRow base e 1 v n xs)
    (A : Option Addr) (m c : Nat) (news : List Int) (hx : a.eval x = .slice A m c) (hr : Rd w A m news)
    (hsmall : n + m ≤ 4294967296) (hbase : base ≤ w.heap.size)
    (h : ∀ v' w', Kept (w'.ownsRow base e 1 v' (n + m) (xs ++ ints .u8 news)) → w.grownBy w' v.ownBlock → Below base w w' → (v'.ownBlock = v.ownBlock ∨ v'.ownBlock = some w.heap.size) → K (a.put o.dst v') w') :
    if Region.wanted o (yielded ops a.tmps) = true then Oper.wp P o a w K Q else E := by
  have hw : Region.wanted o (yielded ops a.tmps) = true := by simp [Region.wanted, hgd]
  rw [if_pos hw]
  obtain ⟨iu, hi, hz0, hz1, hz2⟩ := info_parts hi
  obtain ⟨h1, -, h3⟩ := hr
  cases A with
  | none =>
    have h0 : m = 0 := by
      rcases h3 with h3 | ⟨_, _, h4, _⟩
      · exact h3
      · cases h4
    subst h0
    obtain rfl : news = [] := List.eq_nil_of_length_eq_zero h1
    have hrun := run_append_nil_any (P := P) w base t o.type e iu 1 ht hi v n xs hown c
    unfold Oper.wp
    simp [execOp, ho, resolve, invoke, builtin, hs, hx, hrun, Result.andThen]
    exact h v w ⟨by simpa [ints] using hown⟩ (World.grownBy.refl _ _) (Below.refl _ _) (.inl rfl)
  | some ad =>
    have hc : ∀ j u, (ints .u8 news)[j]? = some u → w.cell? (ad.add j) = some u := by
      intro j u hj
      have hjl : j < news.length := by have := (List.getElem?_eq_some_iff.1 hj).1; rwa [ints_len] at this
      rcases h3 with h3 | ⟨b, o', h4, hc⟩
      · omega
      · injection h4 with h4
        subst h4
        rw [Sha.ints_at _ _ _ hjl] at hj
        rw [← hj, show (⟨b, o', none⟩ : Addr).add j = ⟨b, o' + j, none⟩ by cases j <;> simp [Addr.add]]
        exact hc j (by omega)
    obtain ⟨v', w', hr, h2, h3, -, h5⟩ := run_append_own_at (P := P) w base t o.type e iu (.int .u8 0) 1 1 ht hi hz0 hz1 hz2 rfl (by omega) v n xs hown ad m c (ints .u8 news) (by rw [ints_len, h1]; omega) hc (ints_one _ _) (by unfold maxLen; omega) (by omega) hbase
    unfold Oper.wp execOp
    simp only [ho, resolve, invoke, builtin, Sem.run_bind, Sem.run_pure, Result.andThen_ok, List.map_toArray, List.map_cons, List.map_nil, hs, hx, hr]
    exact h v' w' ⟨h2⟩ h3 (own_below hown h3 hbase) h5
end Go.Proofs.Ytidjkhpekhpffaa.Sha

namespace Go.Proofs.Ytidjkhpekhpffaa.Sha
open Go.RowKit

def CopyPost (n : Nat) (xs : List Int) (w : World) (e : Ending) (w' : World) : Prop := ∃ v, e = .returned v ∧ w'.ownsRow w.heap.size 5 1 v n (ints .u8 xs) ∧ Below w.heap.size w w'

set_option maxRecDepth 100000 in
set_option maxHeartbeats 400000 in
theorem copy_any (A : Option Addr) (n cap : Nat) (xs : List Int) (w : World) (hr : Rd w A n xs) (hn : n < 2147483648) :
    Calls Try.prog 17 #[.slice A n cap] w (CopyPost n xs w) := by
  obtain ⟨N, hN⟩ : ∃ N, w.heap.size = N := ⟨_, rfl⟩
  have HR := Kept.mk (hr.keep (l := []) ((Bar.refl [] w).alloc (.cells #[] 5)) (by simp))
  have hown := World.ownsRow_made (base := N) (e := 5) (size := 1) w #[] 0 (by omega) (by unfold maxLen; omega) rfl
  rw [hN] at hown
  have bel : Below N w (w.alloc (.cells #[] 5)) := (Below.refl _ _).alloc (by omega) _
  have Own := Kept.mk hown
  have Bel := Kept.mk bel
  clear hown bel hr
  go_enter Try.func17, Try.ntmps17
  go_wp2_with ((with_reducible refine sel 5 ?_); refine wpList_append_rd rfl (.tmp 3) (.tmp 4) 22 rfl N 5 Try.underlying22 info_u8 (.slice (some ⟨N, 0, none⟩) 0 0) 0 [] rfl Own.out A n cap xs rfl HR.out (by omega) (by simp [hN]) ?_; intro v' w' ho hg)
  go_ret
  refine ⟨v', rfl, ?_, ?_⟩
  · have := ho.out
    simpa [hN] using this
  · rw [hN]; exact Bel.out.grown hg (by simp; omega) (by intro k hk; injection hk with hk; simp at hk; omega)
end Go.Proofs.Ytidjkhpekhpffaa.Sha

namespace Go.Proofs.Ytidjkhpekhpffaa.Sha
open Go.RowKit

/-- the first n cells of block g hold the bytes xs, and may be written -/
def Wr (w : World) (g : Nat) (T : TypeId) (n : Nat) (xs : List Int) : Prop := xs.length = n ∧ Bytes xs ∧ ∃ cs, Blk w g T cs ∧ ∀ i, i < n → cs[i]? = some (.int .u8 (at_ xs i))
theorem Wr.rd {w : World} {g n : Nat} {T : TypeId} {xs : List Int} (h : Wr w g T n xs) : Rd w (some ⟨g, 0, none⟩) n xs := by
  obtain ⟨h1, h2, cs, h3, h4⟩ := h
  exact ⟨h1, h2, .inr ⟨g, 0, rfl, fun i hi => by rw [Nat.zero_add, h3.cell]; exact h4 i hi⟩⟩
theorem Wr.lt {w : World} {g n : Nat} {T : TypeId} {xs : List Int} (h : Wr w g T n xs) : g < w.heap.size := by
  obtain ⟨-, -, cs, h3, -⟩ := h
  exact h3.lt
theorem Wr.bar {w w' : World} {g n : Nat} {T : TypeId} {xs : List Int} {l : List Nat} (h : Wr w g T n xs) (b : Bar l w w') (hg : g ∉ l) : Wr w' g T n xs := by
  obtain ⟨h1, h2, cs, h3, h4⟩ := h
  exact ⟨h1, h2, cs, h3.bar b hg, h4⟩
theorem Wr.cell {w : World} {g n : Nat} {T : TypeId} {xs : List Int} (h : Wr w g T n xs) (i : Nat) (hi : i < n) : w.cell? ⟨g, i, none⟩ = some (.int .u8 (at_ xs i)) := by
  obtain ⟨-, -, cs, h3, h4⟩ := h
  rw [h3.cell]; exact h4 i hi
theorem Wr.frozen {w : World} {g n : Nat} {T : TypeId} {xs : List Int} (h : Wr w g T n xs) (i : Nat) : w.frozen? ⟨g, i, none⟩ = false := by
  obtain ⟨-, -, cs, h3, -⟩ := h
  exact h3.frozen i
theorem Wr.set {w : World} {g n : Nat} {T : TypeId} {xs : List Int} (h : Wr w g T n xs) (i : Nat) (x : Int) (hx : 0 ≤ x ∧ x ≤ 255) : Wr (w.setCell ⟨g, i, none⟩ (.int .u8 x)) g T n (xs.set i x) := by
  obtain ⟨h1, h2, cs, h3, h4⟩ := h
  refine ⟨by simpa using h1, fun y hy => ?_, _, h3.set_ i _, fun j hj => ?_⟩
  · rcases List.mem_or_eq_of_mem_set hy with h | h
    · exact h2 y h
    · rw [h]; exact hx
  · have hc := h4 j hj
    have hjs : j < cs.size := (Array.getElem?_eq_some_iff.1 hc).1
    rw [Array.getElem?_setIfInBounds, at_set _ _ _ _ (by omega)]
    by_cases hij : i = j
    · subst hij; simp [hjs]
    · rw [if_neg hij, if_neg hij]; exact hc
theorem wr_of_own {w : World} {base : Nat} {T : TypeId} {v : Value} {n : Nat} {xs : List Int} (h : w.ownsRow base T 1 v n (ints .u8 xs)) (hb : Bytes xs) (hn : 1 ≤ n) : ∃ g c, v = .slice (some ⟨g, 0, none⟩) n c ∧ base ≤ g ∧ n ≤ c ∧ c ≤ 9223372036854775807 ∧ Wr w g T n xs := by
  have hl : xs.length = n := by have := h.1; rw [ints_len] at this; omega
  rcases h.2 with ⟨-, h0⟩ | ⟨g, cap, cur, rfl, hg, hh, h1, h2, -, h4⟩
  · omega
  · unfold maxLen at h2
    refine ⟨g, cap, rfl, hg, h1, by omega, hl, hb, cur, hh, fun i hi => ?_⟩
    have e : cur.toList.take n = ints .u8 xs := by simpa using h4
    have e2 : (cur.toList.take n)[i]? = (ints .u8 xs)[i]? := by rw [e]
    rw [List.getElem?_take_of_lt hi, Array.getElem?_toList, Sha.ints_at _ _ _ (by omega)] at e2
    exact e2
theorem rd_cell {w : World} {b o n : Nat} {xs : List Int} (r : Rd w (some ⟨b, o, none⟩) n xs) (i : Nat) (hi : i < n) : w.cell? ⟨b, o + i, none⟩ = some (.int .u8 (at_ xs i)) := by
  rcases r.2.2 with h | ⟨b', o', h, hc⟩
  · omega
  · injection h with h
    injection h with h1 h2
    subst h1 h2
    exact hc i hi
theorem rd_bar {w w' : World} {b o n : Nat} {xs : List Int} {g : Nat} (r : Rd w (some ⟨b, o, none⟩) n xs) (h : Bar [g] w w') (hg : b ≠ g) : Rd w' (some ⟨b, o, none⟩) n xs :=
  r.keep h (by intro x hx; rw [List.mem_singleton] at hx; subst hx; exact .inr fun o ho => by injection ho with ho; injection ho with ho; exact hg ho)
theorem wr_byte {w : World} {g n : Nat} {T : TypeId} {xs : List Int} (h : Wr w g T n xs) (i : Nat) : 0 ≤ at_ xs i ∧ at_ xs i ≤ 255 := h.2.1.at_ i
end Go.Proofs.Ytidjkhpekhpffaa.Sha
