/-
  Facts of memory that any package's walks use: blocks that a call made, what a call may have changed, bytes that are read, rows of the call's own, appends to them.
-/
import Derived.Test.YthhjmbbfibgjpaaChecked
import Derived.Test.YthhjmbbfibgjpaaPure
import Derived.WalkKit
import Derived.WalkSpells
import Derived.WalkLawsBesides
import Derived.OpenShut
import Derived.Lib.Hide
import Derived.Tactics
import Derived.Tactics2
import Derived.Deep.QuietTactic
import Derived.BigQuiet
import Derived.StillTailTactics
import Derived.Laws.Rows
import Derived.Laws.Tables
import Derived.Deep.Draws
import Derived.Below
import Derived.Laws.OwnMore
import Derived.Laws.Pointers
import Derived.RegionTactic
import Derived.RegionCalls
import Derived.Laws.NewBlocks
import Derived.Deep.MidRow
import Derived.Deep.Cut
import Derived.Laws.CopyOwn
import Derived.Maps.AppendAt
import Derived.DataShut
namespace Go.Proofs.Ythhjmbbfibgjpaa.Sha
open Go.RowKit

def Blk (w : World) (g : Nat) (t : TypeId) (cs : Array Value) : Prop := w.heap[g]? = some (.cells cs t (0, 0))
section
variable {w w' : World} {g : Nat} {t : TypeId} {cs : Array Value}
theorem Blk.lt (h : Blk w g t cs) : g < w.heap.size := by
  rcases Nat.lt_or_ge g w.heap.size with hlt | hge
  · exact hlt
  · unfold Blk at h; rw [Array.getElem?_eq_none hge] at h; cases h
theorem Blk.cell (h : Blk w g t cs) (i : Nat) : w.cell? ⟨g, i, none⟩ = cs[i]? := cell_of_row w g i cs t (0, 0) h
theorem Blk.frozen (h : Blk w g t cs) (i : Nat) : w.frozen? ⟨g, i, none⟩ = false := by
  unfold Blk at h
  simp [World.frozen?, h]
theorem Blk.new (w : World) (t : TypeId) (cs : Array Value) : Blk (w.alloc (.cells cs t)) w.heap.size t cs := heap_alloc_new w _
theorem Blk.new_at (w : World) (t : TypeId) (cs : Array Value) (n : Nat) (hn : n = w.heap.size) : Blk (w.alloc (.cells cs t)) n t cs := by subst hn; exact heap_alloc_new w _
theorem Blk.row (h : Blk w g t cs) (cs' : Array Value) : Blk (w.setRow g cs') g t cs' := setRow_heap w g _ cs' t (0, 0) h
theorem Blk.drew (h : Blk w g t cs) : Blk w.drew g t cs := h
theorem Blk.drewN (h : Blk w g t cs) (n : Nat) : Blk (w.drewN n) g t cs := h
theorem Blk.alloc (h : Blk w g t cs) (o : Obj) : Blk (w.alloc o) g t cs := (Below.heap_alloc w o g h.lt).trans h
theorem Blk.set_ (h : Blk w g t cs) (i : Nat) (u : Value) : Blk (w.setCell ⟨g, i, none⟩ u) g t (cs.setIfInBounds i u) := by
  unfold Blk at h ⊢
  simp [World.setCell, Array.getElem?_modify, h]
theorem Blk.far (h : Blk w g t cs) {p : Addr} (hp : g ≠ p.block) (u : Value) : Blk (w.setCell p u) g t cs := (Below.heap_setCell w p u g hp).trans h
theorem Blk.below {B : Nat} (h : Blk w g t cs) (hb : Below B w w') (hg : g < B) : Blk w' g t cs := (hb.block g hg).trans h
theorem Blk.grown {row : Option Nat} (h : Blk w g t cs) (hb : w.grownBy w' row) (hg : some g ≠ row) : Blk w' g t cs := (hb.block g h.lt hg).trans h
end
/-- Only the blocks of l, and new ones, may have changed from w to w'. -/
structure Bar (l : List Nat) (w w' : World) : Prop where
  os : w'.os = w.os
  tape : w'.tape = w.tape
  output : w'.output = w.output
  size : w.heap.size ≤ w'.heap.size
  block : ∀ k, k < w.heap.size → k ∉ l → w'.heap[k]? = w.heap[k]?
theorem Bar.refl (l : List Nat) (w : World) : Bar l w w := ⟨rfl, rfl, rfl, Nat.le_refl _, fun _ _ _ => rfl⟩
theorem Bar.trans {l l' : List Nat} {a b c : World} (h : Bar l a b) (k : Bar l' b c) (hl : ∀ x ∈ l', x ∈ l ∨ a.heap.size ≤ x) : Bar l a c :=
  ⟨k.os.trans h.os, k.tape.trans h.tape, k.output.trans h.output, Nat.le_trans h.size k.size, fun i hi hn => (k.block i (Nat.lt_of_lt_of_le hi h.size) (fun hm => by
    rcases hl i hm with h1 | h1
    · exact hn h1
    · omega)).trans (h.block i hi hn)⟩
theorem Bar.mono {l l' : List Nat} {w w' : World} (h : Bar l w w') (hl : ∀ x ∈ l, x ∈ l' ∨ w.heap.size ≤ x) : Bar l' w w' := ⟨h.os, h.tape, h.output, h.size, fun i hi hn => h.block i hi fun hm => by
    rcases hl i hm with h1 | h1
    · exact hn h1
    · omega⟩
theorem Bar.same {l : List Nat} {a w : World} (h : Bar l a w) : Bar l a w := h
theorem Bar.drew {l : List Nat} {a w : World} (h : Bar l a w) : Bar l a w.drew := ⟨h.os, h.tape, h.output, h.size, h.block⟩
theorem Bar.drewN {l : List Nat} {a w : World} (h : Bar l a w) (n : Nat) : Bar l a (w.drewN n) := ⟨h.os, h.tape, h.output, h.size, h.block⟩
theorem Bar.drewL {l : List Nat} {w w' : World} (h : Bar l w.drew w') : Bar l w w' := ⟨h.os, h.tape, h.output, h.size, h.block⟩
theorem Bar.alloc {l : List Nat} {a w : World} (h : Bar l a w) (o : Obj) : Bar l a (w.alloc o) :=
  h.trans (l' := []) ⟨rfl, rfl, rfl, by simp, fun k hk _ => Below.heap_alloc _ _ _ (by omega)⟩ (by simp)
theorem Bar.setCell {l : List Nat} {a w : World} (h : Bar l a w) {p : Addr} (hp : p.block ∈ l ∨ a.heap.size ≤ p.block) (u : Value) : Bar l a (w.setCell p u) :=
  h.trans (l' := [p.block]) ⟨rfl, rfl, rfl, by simp [World.setCell], fun k _ hn => Below.heap_setCell _ _ _ _ (by simpa using hn)⟩ (by simpa using hp)
theorem Bar.grown {l : List Nat} {a w w' : World} {row : Option Nat} (h : Bar l a w) (hg : w.grownBy w' row) (hr : ∀ k, row = some k → k ∈ l ∨ a.heap.size ≤ k) : Bar l a w' :=
  h.trans (l' := row.toList) ⟨hg.os, hg.tape, hg.output, hg.size, fun k hk hn => hg.block k hk (fun e => hn (by simp [← e]))⟩ (by
    intro x hx
    exact hr x (by simpa using hx))
theorem Bar.below {a w : World} {B : Nat} {l : List Nat} (h : Bar l a w) (hB : B ≤ a.heap.size) (hl : ∀ x ∈ l, B ≤ x) : Below B a w :=
  ⟨h.os, h.tape, h.output, h.size, fun k hk => h.block k (by omega) (fun hm => by have := hl k hm; omega)⟩
theorem barOf {a w : World} (h : Below a.heap.size a w) (l : List Nat) : Bar l a w := ⟨h.os, h.tape, h.output, h.size, fun k hk _ => h.block k hk⟩
theorem Blk.bar {w w' : World} {g : Nat} {t : TypeId} {cs : Array Value} {l : List Nat} (h : Blk w g t cs) (hb : Bar l w w') (hg : g ∉ l) : Blk w' g t cs := (hb.block g h.lt hg).trans h
theorem still_of {P : Program} {f : FuncId} {args : Array Value} {w : World} {v : Value} (h : Calls P f args w fun e w' => e = .returned v ∧ w = w') : Calls P f args w fun e w'' => e = .returned v ∧ w'' = w := h.mono fun _ _ ⟨a, b⟩ => ⟨a, b.symm⟩
theorem Blk.at_ {w : World} {g : Nat} {t : TypeId} {k : IntKind} {l : List Int} (h : Blk w g t (arr k l)) (i : Nat) (hi : i < l.length) : w.cell? ⟨g, i, none⟩ = some (.int k (Sha.at_ l i)) := (h.cell i).trans (arr_at k l i hi)
/-- the walk stops at the operation that writes slot n -/
theorem sel {P : Program} {ops : Array Oper} {Q : Exit → Act → World → Prop} {rest : List Oper} {a : Act} {w : World} (n : Nat) {b : Op} {c : TypeId} {p : String} {e : Array Edge} {g : Option (Nat × Bool)}
    (h : wpList P ops Q ({ dst := some n, op := b, type := c, pos := p, after := e, guard := g } :: rest) a w) : wpList P ops Q ({ dst := some n, op := b, type := c, pos := p, after := e, guard := g } :: rest) a w := h
theorem selS {P : Program} {ops : Array Oper} {Q : Exit → Act → World → Prop} {rest : List Oper} {a : Act} {w : World} (ty : TypeId) (x y : Operand) {c : TypeId} {p : String} {e : Array Edge} {g : Option (Nat × Bool)}
    (h : wpList P ops Q ({ dst := none, op := .store ty x y, type := c, pos := p, after := e, guard := g } :: rest) a w) : wpList P ops Q ({ dst := none, op := .store ty x y, type := c, pos := p, after := e, guard := g } :: rest) a w := h
theorem new_cells (w : World) (t : TypeId) (cs : List Value) : ∀ j u, cs[j]? = some u → (w.alloc (.cells cs.toArray t)).cell? ((⟨w.heap.size, 0, none⟩ : Addr).add j) = some u := by
  intro j u hj
  have e : (⟨w.heap.size, 0, none⟩ : Addr).add j = ⟨w.heap.size, j, none⟩ := by cases j <;> simp [Addr.add]
  rw [e, (Blk.new w t cs.toArray).cell j, List.getElem?_toArray, hj]
/-- a slice of bytes in memory, to be read: they are xs -/
def Rd (w : World) (A : Option Addr) (n : Nat) (xs : List Int) : Prop :=
  xs.length = n ∧ Bytes xs ∧ (n = 0 ∨ ∃ b o, A = some ⟨b, o, none⟩ ∧ ∀ i, i < n → w.cell? ⟨b, o + i, none⟩ = some (.int .u8 (at_ xs i)))
theorem Rd.keep {w w' : World} {A : Option Addr} {n : Nat} {xs : List Int} {l : List Nat} (r : Rd w A n xs) (b : Bar l w w') (hl : ∀ x ∈ l, w.heap.size ≤ x ∨ ∀ o, A ≠ some ⟨x, o, none⟩) : Rd w' A n xs := by
  obtain ⟨h1, h2, h3⟩ := r
  refine ⟨h1, h2, h3.imp id ?_⟩
  rintro ⟨bb, o, rfl, hc⟩
  refine ⟨bb, o, rfl, fun i hi => ?_⟩
  have hlt : bb < w.heap.size := World.block_lt_of_cell? _ _ (hc i hi)
  rw [← hc i hi]
  refine World.cell?_of_block (w := w) (b.block bb hlt (fun hm => ?_))
  rcases hl bb hm with h | h
  · omega
  · exact h o rfl
theorem Rd.blk {w : World} {M n : Nat} {T : TypeId} {xs : List Int} (h : Blk w M T (arr .u8 xs)) (hb : Bytes xs) (hn : xs.length = n) : Rd w (some ⟨M, 0, none⟩) n xs :=
  ⟨hn, hb, .inr ⟨M, 0, rfl, fun i hi => by rw [Nat.zero_add]; exact h.at_ i (by omega)⟩⟩
theorem Rd.nil_ {w : World} {A : Option Addr} : Rd w A 0 [] := ⟨rfl, by intro x hx; simp at hx, .inl rfl⟩
theorem below_drewN {B : Nat} {a w : World} (h : Below B a w) (n : Nat) : Below B a (w.drewN n) := ⟨h.os, h.tape, h.output, h.size, h.block⟩
theorem Rd.made {w : World} {M n : Nat} {T : TypeId} {fr : Nat × Nat} {xs : List Int} (h : w.heap[M]? = some (.cells (arr .u8 xs) T fr)) (hb : Bytes xs) (hn : xs.length = n) : Rd w (some ⟨M, 0, none⟩) n xs :=
  ⟨hn, hb, .inr ⟨M, 0, rfl, fun i hi => by rw [Nat.zero_add, cell_of_row w M i _ T fr h]; exact arr_at _ _ _ (by omega)⟩⟩
theorem own_cell {w : World} {base : Nat} {e : TypeId} {g cap n : Nat} {xs : List Int} (h : w.ownsRow base e 1 (.slice (some ⟨g, 0, none⟩) n cap) n (ints .u8 xs)) (i : Nat) (hi : i < n) : w.cell? ⟨g, i, none⟩ = some (.int .u8 (at_ xs i)) := by
  have hl : xs.length = n := by have := h.1; rw [ints_len] at this; omega
  rw [World.ownsRow.cellAt h i (by omega)]
  exact ints_at _ _ _ (by omega)
theorem own_below {w w' : World} {base size : Nat} {e : TypeId} {v : Value} {n : Nat} {xs : List Value} (h : w.ownsRow base e size v n xs) (hg : w.grownBy w' v.ownBlock) (hB : base ≤ w.heap.size) : Below base w w' :=
  ⟨hg.os, hg.tape, hg.output, hg.size, fun k hk => hg.block k (by omega) (fun e => by have := (h.lt k e.symm).1; omega)⟩
/-- a slice of memory that is new since w -/
def NewA (w : World) (A : Option Addr) : Prop := ∀ g o, A = some ⟨g, o, none⟩ → w.heap.size ≤ g
theorem newA_none (w : World) : NewA w none := fun _ _ h => by cases h
theorem own_newA {w w0 : World} {base k s n c : Nat} {e : TypeId} {A : Option Addr} {xs : List Value} (h : w.ownsRow base e s (.slice A n c) k xs) (hb : w0.heap.size ≤ base) : NewA w0 A := fun g o ea => by
  subst ea
  exact Nat.le_trans hb (h.lt g rfl).1
theorem Rd.drew {w : World} {A : Option Addr} {n : Nat} {xs : List Int} (h : Rd w A n xs) : Rd w.drew A n xs := h
theorem own_bar {w w' : World} {base : Nat} {e : TypeId} {v : Value} {n : Nat} {xs : List Value} {l : List Nat} (h : w.ownsRow base e 1 v n xs) (b : Bar l w w') (hl : ∀ x ∈ l, x < base) : w'.ownsRow base e 1 v n xs := by
  refine ⟨h.1, h.2.imp id ?_⟩
  rintro ⟨g, cap, cur, hv, hg, hh, r⟩
  refine ⟨g, cap, cur, hv, hg, ?_, r⟩
  have hlt : g < w.heap.size := (Array.getElem?_eq_some_iff.1 hh).1
  rw [b.block g hlt (fun hm => by have := hl g hm; omega)]
  exact hh
theorem run_append_nil_any {P : Program} (w : World) (base : Nat) (t ty e : TypeId) (i : TypeInfo) (size : Nat) (ht : P.underlying t = some (.slice e)) (hi : P.info? e = some i)
    (v : Value) (n : Nat) (xs : List Value) (hown : w.ownsRow base e size v n xs) (c : Nat) : (Builtin.append_ #[t, t] ty #[v, .slice none 0 c]).run P w = .ok v w := by
  rcases hown.2 with ⟨rfl, rfl⟩ | ⟨g, cap, cur, rfl, _, _, hnc, _⟩
  · simp [Builtin.append_, run_underlying ht, sizeOf, typeInfo, hi, Builtin.lenOf, Builtin.firstCells]
  · simp [Builtin.append_, run_underlying ht, sizeOf, typeInfo, hi, Builtin.lenOf, Builtin.firstCells, hnc, storeCells]
/-- bytes that are read in memory go behind what the call made -/
theorem wpList_append_rd {P : Program} {w : World} {ops : Array Oper} {rest : List Oper} {o : Oper} {a : Act} {Q : Exit → Act → World → Prop} (hgd : o.guard = none) (s x : Operand) (t : TypeId)
    (ho : o.op = .call { callee := .builtin .append, args := #[s, x], argTypes := #[t, t] })
    (base : Nat) (e : TypeId) (ht : P.underlying t = some (.slice e)) (hi : (P.info? e).map (fun i => (i.zero, i.size, i.bytes)) = some (some (.int .u8 0), 1, 1))
    (v : Value) (n : Nat) (xs : List Value) (hs : a.eval s = v) (hown : w.ownsRow base e 1 v n xs)
    (A : Option Addr) (m c : Nat) (news : List Int) (hx : a.eval x = .slice A m c) (hr : Rd w A m news)
    (hsmall : n + m ≤ 4294967296) (hbase : base ≤ w.heap.size)
    (h : ∀ v' w', Kept (w'.ownsRow base e 1 v' (n + m) (xs ++ ints .u8 news)) → w.grownBy w' v.ownBlock → wpList P ops Q rest (a.put o.dst v') w') : wpList P ops Q (o :: rest) a w := by
  obtain ⟨iu, hi, hz0, hz1, hz2⟩ := info_parts hi
  obtain ⟨h1, h2, h3⟩ := hr
  have app : ∀ ad, a.eval x = .slice (some ad) m c → (∀ j u, (ints .u8 news)[j]? = some u → w.cell? (ad.add j) = some u) → wpList P ops Q (o :: rest) a w := by
    intro ad hx hc
    exact wpList_append_own w hgd s x t ho base e iu (.int .u8 0) 1 1 ht hi hz0 hz1 hz2 rfl (by omega) v n xs hs hown ad m c (ints .u8 news) hx (by rw [ints_len, h1]; omega) hc (ints_one _ _) (by unfold maxLen; omega) (by omega) hbase (fun v' w' a1 a2 _ => h v' w' ⟨a1⟩ a2)
  cases A with
  | none =>
    have h0 : m = 0 := by
      rcases h3 with h3 | ⟨_, _, h4, _⟩
      · exact h3
      · cases h4
    subst h0
    obtain rfl : news = [] := List.eq_nil_of_length_eq_zero h1
    refine wpList_plain hgd fun K hK => ?_
    have hrun := run_append_nil_any (P := P) w base t o.type e iu 1 ht hi v n xs hown c
    unfold Oper.wp
    simp [execOp, ho, resolve, invoke, builtin, hs, hx, hrun, Result.andThen]
    exact hK _ _ (h v w ⟨by simpa [ints] using hown⟩ (World.grownBy.refl _ _))
  | some ad =>
    refine app ad hx fun j u hj => ?_
    have hjl : j < news.length := by have := (List.getElem?_eq_some_iff.1 hj).1; rwa [ints_len] at this
    rcases h3 with h3 | ⟨b, o', h4, hc⟩
    · omega
    · injection h4 with h4
      subst h4
      rw [ints_at _ _ _ hjl] at hj
      rw [← hj, show (⟨b, o', none⟩ : Addr).add j = ⟨b, o' + j, none⟩ by cases j <;> simp [Addr.add]]
      exact hc j (by omega)
theorem wp_gen {P : Program} {ops : Array Oper} {Q : Exit → Act → World → Prop} {rest : List Oper} {a : Act} {w : World} (p : World → Prop) (hp : p w) (h : ∀ w', p w' → wpList P ops Q rest a w') : wpList P ops Q rest a w := h w hp
theorem Rd.below {w w' : World} {A : Option Addr} {n : Nat} {xs : List Int} (r : Rd w A n xs) (b : Below w.heap.size w w') : Rd w' A n xs :=
  r.keep (l := []) (barOf b []) (by simp)
/-- a row of the law's argument holds bytes -/
theorem rd_of_row {W : World} {a : Option Addr} {len cap : Nat} {zs : List Int} (h : (a = none ∧ len = 0 ∧ cap = 0 ∧ zs = []) ∨ ∃ x, a = some x ∧ len ≤ cap ∧ cap ≤ maxLen ∧ zs.length = cap ∧ (∀ i, i < zs.length → W.cell? (x.add i) = some (.int .u8 (zs.getD i 0))) ∧ ∀ n ∈ zs, (Lit.int .u8 n).wf = true) :
    Rd W a len (zs.take len) := by
  rcases h with ⟨rfl, rfl, rfl, rfl⟩ | ⟨x, rfl, hl, hm, hz, hcell, hw⟩
  · exact Rd.nil_
  · refine ⟨by simp; omega, fun y hy => ?_, ?_⟩
    · have := (Lit.wf_int_iff _ _).1 (hw y (List.mem_of_mem_take hy))
      simp only [show IntKind.u8.min = 0 from rfl, show IntKind.u8.max = 255 from rfl] at this
      omega
    · by_cases h0 : len = 0
      · exact .inl h0
      · refine .inr ?_
        obtain ⟨b, off, spot⟩ := x
        have hspot : spot = none := by
          have hc := hcell 0 (by omega)
          simpa [Addr.add] using World.cell?_spot hc
        subst hspot
        refine ⟨b, off, rfl, fun i hi => ?_⟩
        have := hcell i (by omega)
        have e : (⟨b, off, none⟩ : Addr).add i = ⟨b, off + i, none⟩ := by cases i <;> simp [Addr.add]
        rw [e] at this
        rw [this]
        unfold at_
        simp [List.getD_eq_getElem?_getD, hi]
theorem row_cap8 {W : World} {a : Option Addr} {len cap : Nat} {zs : List Int} (h : (a = none ∧ len = 0 ∧ cap = 0 ∧ zs = []) ∨ ∃ x, a = some x ∧ len ≤ cap ∧ cap ≤ maxLen ∧ zs.length = cap ∧ (∀ i, i < zs.length → W.cell? (x.add i) = some (.int .u8 (zs.getD i 0))) ∧ ∀ n ∈ zs, (Lit.int .u8 n).wf = true) :
    len ≤ cap ∧ cap ≤ 9223372036854775807 := by
  rcases h with ⟨-, rfl, rfl, -⟩ | ⟨x, -, hl, hm, -⟩
  · omega
  · unfold maxLen at hm; omega
theorem own_rd {w : World} {base : Nat} {e : TypeId} {v : Value} {n : Nat} {xs : List Int} (h : w.ownsRow base e 1 v n (ints .u8 xs)) (hb : Bytes xs) : ∃ A cap, v = .slice A n cap ∧ n ≤ cap ∧ cap ≤ 9223372036854775807 ∧ Rd w A n xs := by
  have hl : xs.length = n := by have := h.1; rw [ints_len] at this; omega
  rcases h.2 with ⟨rfl, rfl⟩ | ⟨g, cap, cur, rfl, hg, _, h1, h2, _⟩
  · obtain rfl := List.eq_nil_of_length_eq_zero hl
    exact ⟨none, 0, rfl, by omega, by omega, Rd.nil_⟩
  · unfold maxLen at h2
    refine ⟨some ⟨g, 0, none⟩, cap, rfl, h1, by omega, hl, hb, .inr ⟨g, 0, rfl, fun i hi => ?_⟩⟩
    rw [Nat.zero_add]
    exact own_cell h i hi
theorem wpList_unguard {P : Program} {ops : Array Oper} {Q : Exit → Act → World → Prop} {rest : List Oper} {a : Act} {w : World} {d : Option Nat} {op : Op} {ty : TypeId} {p : String} {e : Array Edge} {g : Nat × Bool}
    (hw : Region.wanted { dst := d, op := op, type := ty, pos := p, after := e, guard := some g } (yielded ops a.tmps) = true)
    (h : wpList P ops Q ({ dst := d, op := op, type := ty, pos := p, after := e, guard := none } :: rest) a w) : wpList P ops Q ({ dst := d, op := op, type := ty, pos := p, after := e, guard := some g } :: rest) a w := by
  unfold wpList at h ⊢
  rw [if_pos hw]
  rw [if_pos (by rfl)] at h
  exact h
/-- two rows of the call's own that share no block -/
def Apart (v u : Value) : Prop := ∀ g, v.ownBlock = some g → u.ownBlock ≠ some g
/-- bytes that are read in memory go behind what the call made; where the row lies then -/
theorem wpList_append_rda {P : Program} {w : World} {ops : Array Oper} {rest : List Oper} {o : Oper} {a : Act} {Q : Exit → Act → World → Prop} (hgd : o.guard = none) (s x : Operand) (t : TypeId)
    (ho : o.op = .call { callee := .builtin .append, args := #[s, x], argTypes := #[t, t] })
    (base : Nat) (e : TypeId) (ht : P.underlying t = some (.slice e)) (hi : (P.info? e).map (fun i => (i.zero, i.size, i.bytes)) = some (some (.int .u8 0), 1, 1))
    (v : Value) (n : Nat) (xs : List Value) (hs : a.eval s = v) (hown : w.ownsRow base e 1 v n xs)
    (A : Option Addr) (m c : Nat) (news : List Int) (hx : a.eval x = .slice A m c) (hr : Rd w A m news)
    (hsmall : n + m ≤ 4294967296) (hbase : base ≤ w.heap.size)
    (h : ∀ v' w', Kept (w'.ownsRow base e 1 v' (n + m) (xs ++ ints .u8 news)) → w.grownBy w' v.ownBlock → (v'.ownBlock = v.ownBlock ∨ v'.ownBlock = some w.heap.size) → wpList P ops Q rest (a.put o.dst v') w') : wpList P ops Q (o :: rest) a w := by
  obtain ⟨iu, hi, hz0, hz1, hz2⟩ := info_parts hi
  have hr0 := hr
  obtain ⟨h1, h2, h3⟩ := hr
  cases A with
  | none =>
    have h0 : m = 0 := by
      rcases h3 with h3 | ⟨_, _, h4, _⟩
      · exact h3
      · cases h4
    subst h0
    obtain rfl : news = [] := List.eq_nil_of_length_eq_zero h1
    refine wpList_plain hgd fun K hK => ?_
    have hrun := run_append_nil_any (P := P) w base t o.type e iu 1 ht hi v n xs hown c
    unfold Oper.wp
    simp [execOp, ho, resolve, invoke, builtin, hs, hx, hrun, Result.andThen]
    exact hK _ _ (h v w ⟨by simpa [ints] using hown⟩ (World.grownBy.refl _ _) (.inl rfl))
  | some ad =>
    have hc : ∀ j u, (ints .u8 news)[j]? = some u → w.cell? (ad.add j) = some u := by
      intro j u hj
      have hjl : j < news.length := by have := (List.getElem?_eq_some_iff.1 hj).1; rwa [ints_len] at this
      rcases h3 with h3 | ⟨b, o', h4, hc⟩
      · omega
      · injection h4 with h4
        subst h4
        rw [Sha.ints_at _ _ _ hjl] at hj
        rw [← hj, show (⟨b, o', none⟩ : Addr).add j = ⟨b, o' + j, none⟩ by cases j <;> simp [Addr.add]]
        exact hc j (by omega)
    exact wpList_append_own_at w hgd s x t ho base e iu (.int .u8 0) 1 1 ht hi hz0 hz1 hz2 rfl (by omega) v n xs hs hown ad m c (ints .u8 news) hx (by rw [ints_len, h1]; omega) hc (ints_one _ _) (by unfold maxLen; omega) (by omega) hbase (fun v' w' a1 a2 _ a3 => h v' w' ⟨a1⟩ a2 a3)
/-- behind an append to one row the other is as it was, and they still share nothing -/
theorem apart_in {w1 w2 : World} {base n : Nat} {e : TypeId} {v v' u : Value} {xs : List Value} (ha : Apart v u) (h : w1.ownsRow base e 1 u n xs) (hg : w1.grownBy w2 v.ownBlock)
    (hat : v'.ownBlock = v.ownBlock ∨ v'.ownBlock = some w1.heap.size) : w2.ownsRow base e 1 u n xs ∧ Apart u v' := by
  have hne : u.ownBlock = none ∨ u.ownBlock ≠ v.ownBlock := by
    cases hu : u.ownBlock with
    | none => exact .inl rfl
    | some g => exact .inr fun hv => ha g hv.symm hu
  refine ⟨h.kept hg hne, fun g hu hv => ?_⟩
  rcases hat with hat | hat
  · rw [hat] at hv
    exact ha g hv hu
  · rw [hat] at hv
    injection hv with hv
    have := (h.lt g hu).2
    omega
/-- F becomes F': only the blocks of F, and new ones, may have changed; what F' has more is new -/
def Fp (F F' : List Nat) (w w' : World) : Prop := Bar F w w' ∧ ∀ k ∈ F', k ∈ F ∨ w.heap.size ≤ k
theorem Fp.refl (F : List Nat) (w : World) : Fp F F w w := ⟨Bar.refl _ _, fun _ h => .inl h⟩
theorem Fp.trans {F F' F'' : List Nat} {a b c : World} (h : Fp F F' a b) (k : Fp F' F'' b c) : Fp F F'' a c :=
  ⟨h.1.trans k.1 h.2, fun x hx => by
    rcases k.2 x hx with h1 | h1
    · exact h.2 x h1
    · exact .inr (Nat.le_trans h.1.size h1)⟩
theorem Fp.below {F F' : List Nat} {B : Nat} {w w' : World} (h : Fp F F' w w') (hF : ∀ k ∈ F, B ≤ k) (hB : B ≤ w.heap.size) : Below B w w' := h.1.below hB hF
theorem Fp.least {F F' : List Nat} {B : Nat} {w w' : World} (h : Fp F F' w w') (hF : ∀ k ∈ F, B ≤ k) (hB : B ≤ w.heap.size) : ∀ k ∈ F', B ≤ k := fun k hk => by
  rcases h.2 k hk with h1 | h1
  · exact hF k h1
  · omega
/-- two that share no block -/
def Disj (F G : List Nat) : Prop := ∀ k ∈ F, k ∉ G
theorem Disj.symm {F G : List Nat} (h : Disj F G) : Disj G F := fun k h1 h2 => h k h2 h1
theorem Disj.step {F F' G : List Nat} {w w' : World} (h : Disj F G) (k : Fp F F' w w') (hG : ∀ g ∈ G, g < w.heap.size) : Disj F' G := fun x hx hg => by
  rcases k.2 x hx with h1 | h1
  · exact h x h1 hg
  · have := hG x hg; omega
theorem Disj.new {F G : List Nat} {n : Nat} (hF : ∀ k ∈ F, n ≤ k) (hG : ∀ g ∈ G, g < n) : Disj F G := fun x hx hg => by
  have := hF x hx; have := hG x hg; omega
theorem own_keep {w w' : World} {base size : Nat} {e : TypeId} {v : Value} {n : Nat} {xs : List Value} {l : List Nat} (h : w.ownsRow base e size v n xs) (b : Bar l w w') (hl : ∀ g ∈ v.ownBlock.toList, g ∉ l) : w'.ownsRow base e size v n xs := by
  refine ⟨h.1, h.2.imp id ?_⟩
  rintro ⟨g, cap, cur, rfl, hg, hh, r⟩
  refine ⟨g, cap, cur, rfl, hg, ?_, r⟩
  rw [b.block g (Array.getElem?_eq_some_iff.1 hh).1 (hl g (by simp [Value.ownBlock]))]
  exact hh
theorem own_lt {w : World} {base size : Nat} {e : TypeId} {v : Value} {n : Nat} {xs : List Value} (h : w.ownsRow base e size v n xs) : ∀ g ∈ v.ownBlock.toList, g < w.heap.size := fun g hg => (h.lt g (by simpa using hg)).2
theorem own_shape {w : World} {base size : Nat} {e : TypeId} {v : Value} {n : Nat} {xs : List Value} (h : w.ownsRow base e size v n xs) : ∃ A cap, v = .slice A n cap := by
  rcases h.2 with ⟨rfl, rfl⟩ | ⟨g, cap, cur, rfl, _⟩
  · exact ⟨none, 0, rfl⟩
  · exact ⟨_, cap, rfl⟩
/-- a row's block holds its elements: it is no block of another type -/
theorem own_far {w : World} {base size B : Nat} {e t : TypeId} {v : Value} {n : Nat} {xs : List Value} {cs : Array Value} (h : w.ownsRow base e size v n xs) (b : Blk w B t cs) (ht : e ≠ t) : v.ownBlock ≠ some B := by
  intro hb
  rcases h.2 with ⟨rfl, _⟩ | ⟨g, cap, cur, rfl, _, hg, _⟩
  · simp [Value.ownBlock] at hb
  · simp [Value.ownBlock] at hb
    subst hb
    unfold Blk at b
    rw [hg] at b
    injection b with b
    injection b with _ b
    exact ht b
theorem rd_cells {w : World} {g n : Nat} {xs : List Int} (r : Rd w (some ⟨g, 0, none⟩) n xs) : ∀ j u, (ints .u8 xs)[j]? = some u → w.cell? ((⟨g, 0, none⟩ : Addr).add j) = some u := by
  intro j u hj
  have hjl : j < xs.length := by have := (List.getElem?_eq_some_iff.1 hj).1; rwa [ints_len] at this
  obtain ⟨h1, _, h3⟩ := r
  rcases h3 with h3 | ⟨b, o, hA, hc⟩
  · omega
  · injection hA with hA
    injection hA with e1 e2
    subst e1 e2
    rw [ints_at _ _ _ hjl] at hj
    rw [← hj, show (⟨g, 0, none⟩ : Addr).add j = ⟨g, 0 + j, none⟩ by cases j <;> simp [Addr.add]]
    exact hc j (by omega)
/-- the row lies in none of these blocks -/
def Off (A : Option Addr) (n : Nat) (F : List Nat) : Prop := n = 0 ∨ ∃ g o, A = some ⟨g, o, none⟩ ∧ g ∉ F
theorem Rd.far {w w' : World} {A : Option Addr} {n : Nat} {xs : List Int} {F : List Nat} (r : Rd w A n xs) (b : Bar F w w') (h : Off A n F) : Rd w' A n xs := by
  rcases h with rfl | ⟨g, o, rfl, hg⟩
  · exact ⟨r.1, r.2.1, .inl rfl⟩
  · exact r.keep b (fun x hx => .inr fun o' ho => by injection ho with ho; injection ho with ho; exact hg (ho ▸ hx))
theorem Rd.off {w : World} {A : Option Addr} {n : Nat} {xs : List Int} {F : List Nat} (r : Rd w A n xs) (h : ∀ k ∈ F, w.heap.size ≤ k) : Off A n F := by
  rcases r.2.2 with h0 | ⟨b, o, rfl, hc⟩
  · exact .inl h0
  · by_cases h0 : n = 0
    · exact .inl h0
    · refine .inr ⟨b, o, rfl, fun hb => ?_⟩
      have := World.block_lt_of_cell? _ _ (hc 0 (by omega))
      have := h b hb
      simp at *
      omega
theorem own_off {w : World} {base size : Nat} {e : TypeId} {A : Option Addr} {n c : Nat} {xs : List Value} {F : List Nat} (h : w.ownsRow base e size (.slice A n c) n xs) (hf : ∀ k ∈ (Value.slice A n c).ownBlock.toList, k ∉ F) : Off A n F := by
  rcases h.2 with ⟨_, h0⟩ | ⟨g, cap, cur, hv, _⟩
  · exact .inl h0
  · injection hv with hA
    subst hA
    exact .inr ⟨g, 0, rfl, hf g (by simp [Value.ownBlock])⟩
theorem Off.step {A : Option Addr} {n : Nat} {xs : List Int} {F F' : List Nat} {w w' : World} (h : Off A n F) (r : Rd w A n xs) (k : Fp F F' w w') : Off A n F' := by
  rcases h with h | ⟨g, o, rfl, hg⟩
  · exact .inl h
  · rcases r.2.2 with h0 | ⟨b, o', hA, hc⟩
    · exact .inl h0
    · by_cases h0 : n = 0
      · exact .inl h0
      · injection hA with hA
        injection hA with h1 h2
        subst h1
        refine .inr ⟨g, o, rfl, fun hb => ?_⟩
        rcases k.2 g hb with h3 | h3
        · exact hg h3
        · have := World.block_lt_of_cell? _ _ (hc 0 (by omega))
          simp at this
          omega
theorem Bar.grownRow {w w' : World} {v : Value} (h : w.grownBy w' v.ownBlock) : Bar v.ownBlock.toList w w' := ⟨h.os, h.tape, h.output, h.size, fun k hk hn => h.block k hk (fun he => hn (by simp [← he]))⟩
theorem blk_ne {w : World} {g h : Nat} {t u : TypeId} {cs ds : Array Value} (a : Blk w g t cs) (b : Blk w h u ds) (ht : t ≠ u) : g ≠ h := by
  rintro rfl
  unfold Blk at a b
  rw [a] at b
  injection b with b
  injection b with _ b
  exact ht b

/-- an element of an array that is a value -/
theorem index_arr {P : Program} {T e : TypeId} {N : Nat} {k k' : IntKind} {l : List Int} (hT : P.underlying T = some (.array N e)) (hE : P.underlying e = some (.int k')) (hi : (P.info? e).map (·.size) = some 1) (hl : l.length = N) (i : Nat) (h : i < N) (w : World) :
    (Instr.index T (.agg (arr k l)) (.int .i64 (i : Int))).run P w = .ok (.int k (at_ l i)) w := by
  have ha := arr_at k l i (by omega)
  cases hq : P.info? e with
  | none => simp [hq] at hi
  | some j =>
    have hs : j.size = 1 := by simpa [hq] using hi
    have hagg : (isAgg e).run P w = .ok false w := by
      unfold isAgg
      rw [Sem.run_bind, run_underlying hE w]
      rfl
    simp [Instr.index, asIntOf, run_underlying hT, h, sizeOf, typeInfo, hq, hs, part, hagg, ha, Result.andThen]
theorem bar_setRow (w : World) (g : Nat) (cs : Array Value) : Bar [g] w (w.setRow g cs) := ⟨rfl, rfl, rfl, by simp [World.setRow], fun k _ hn => setRow_other w g k cs (by simpa using hn)⟩
theorem wpList_copy_bar {P : Program} {w : World} {ops : Array Oper} {rest : List Oper} {o : Oper} {a : Act} {Q : Exit → Act → World → Prop} (hgd : o.guard = none) (d s : Operand) (dT sT : TypeId)
    (ho : o.op = .call { callee := .builtin .copy, args := #[d, s], argTypes := #[dT, sT] }) (elem : TypeId) (hu : P.underlying dT = some (.slice elem)) (hsz : (P.info? elem).map (·.size) = some 1)
    (dp sp : Option Addr) (dLen dCap sLen sCap : Nat) (hd : a.eval d = .slice dp dLen dCap) (hs : a.eval s = .slice sp sLen sCap)
    (g off : Nat) (cur : List Value) (t : TypeId) (hg : Blk w g t cur.toArray) (cs : List Value) (hn : cs.length = Nat.min sLen dLen)
    (hpos : 0 < cs.length → dp = some ⟨g, off, none⟩ ∧ ∃ ad, sp = some ad ∧ ∀ j v, cs[j]? = some v → w.cell? (ad.add j) = some v)
    (hfit : off + cs.length ≤ cur.length) (h1 : ∀ v ∈ cs, v.oneCell' = true)
    (h : ∀ w', Hid (Blk w' g t (splice cur off cs).toArray) → Bar [g] w w' → wpList P ops Q rest (a.put o.dst (goInt cs.length)) w') :
    wpList P ops Q (o :: rest) a w := by
  by_cases h0 : cs.length = 0
  · obtain rfl : cs = [] := List.eq_nil_of_length_eq_zero h0
    refine wpList_copy_nothing hgd d s dT sT ho elem hu hsz dp sp dLen dCap sLen sCap hd hs (by simpa using hn.symm) ?_
    exact h w (show Blk w g t _ by rw [show splice cur off [] = cur by simp [splice]]; exact hg) (Bar.refl _ _)
  · obtain ⟨rfl, ad, rfl, hsrc⟩ := hpos (by omega)
    refine wpList_copy_own hgd d s dT sT ho elem hu hsz g off dLen dCap ad sLen sCap hd hs cur.toArray t hg cs hn hsrc (by simpa using hfit) h1 ?_
    exact h _ (show Blk _ g t _ by unfold Blk; simpa [splice] using setRow_heap w g _ _ t _ hg) (bar_setRow _ _ _)
def lenOf : Value → Nat | .slice _ l _ => l | _ => 0
end Go.Proofs.Ythhjmbbfibgjpaa.Sha
