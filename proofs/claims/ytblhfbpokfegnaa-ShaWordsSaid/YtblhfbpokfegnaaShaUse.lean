/-
  What is used of package sha by all that stands on it: facts of memory that outlast a call; an argument's bytes; rows of the call's own.
-/
import Derived.Test.YtblhfbpokfegnaaShaRHash
import Derived.DataShut
import Derived.Laws.OwnMore
namespace Go.Proofs.Ytblhfbpokfegnaa.Sha
open Go.RowKit

theorem wp_gen {P : Program} {ops : Array Oper} {Q : Exit → Act → World → Prop} {rest : List Oper} {a : Act} {w : World} (p : World → Prop) (hp : p w) (h : ∀ w', p w' → wpList P ops Q rest a w') : wpList P ops Q rest a w := h w hp

theorem Rd.below {w w' : World} {A : Option Addr} {n : Nat} {xs : List Int} (r : Rd w A n xs) (b : Below w.heap.size w w') : Rd w' A n xs :=
  r.keep (l := []) (barOf b []) (by simp)
theorem Tab.lt {w : World} {t : Nat} (h : Tab w t) : t < w.heap.size := by
  rcases h with h | h <;> exact Blk.lt h
theorem Tab.below {w w' : World} {t B : Nat} (h : Tab w t) (b : Below B w w') (hB : t < B) : Tab w' t := by
  rcases h with h | h
  · exact .inl (Blk.below h b hB)
  · exact .inr (Blk.below h b hB)

/-- a row of the law's argument holds bytes -/
theorem rd_of_row {W : World} {a : Option Addr} {len cap : Nat} {zs : List Int} (h : (a = none ∧ len = 0 ∧ cap = 0 ∧ zs = []) ∨ ∃ x, a = some x ∧ len ≤ cap ∧ cap ≤ maxLen ∧ zs.length = cap ∧ (∀ i, i < zs.length → W.cell? (x.add i) = some (.int .u8 (zs.getD i 0))) ∧ ∀ n ∈ zs, (Lit.int .u8 n).wf = true) :
    Rd W a len (zs.take len) := by
  rcases h with ⟨rfl, rfl, rfl, rfl⟩ | ⟨x, rfl, hl, hm, hz, hcell, hw⟩
  · exact Rd.nil_
  · refine ⟨by simp; omega, fun y hy => ?_, ?_⟩
    · have := (Lit.wf_int_iff _ _).1 (hw y (List.mem_of_mem_take hy))
      simp only [show IntKind.u8.min = 0 from rfl, show IntKind.u8.max = 255 from rfl] at this
      omega
    · by_cases h0 : len = 0
      · exact .inl h0
      · refine .inr ?_
        obtain ⟨b, off, spot⟩ := x
        have hspot : spot = none := by
          have hc := hcell 0 (by omega)
          simpa [Addr.add] using World.cell?_spot hc
        subst hspot
        refine ⟨b, off, rfl, fun i hi => ?_⟩
        have := hcell i (by omega)
        have e : (⟨b, off, none⟩ : Addr).add i = ⟨b, off + i, none⟩ := by cases i <;> simp [Addr.add]
        rw [e] at this
        rw [this]
        unfold at_
        simp [List.getD_eq_getElem?_getD, hi]

theorem row_cap8 {W : World} {a : Option Addr} {len cap : Nat} {zs : List Int} (h : (a = none ∧ len = 0 ∧ cap = 0 ∧ zs = []) ∨ ∃ x, a = some x ∧ len ≤ cap ∧ cap ≤ maxLen ∧ zs.length = cap ∧ (∀ i, i < zs.length → W.cell? (x.add i) = some (.int .u8 (zs.getD i 0))) ∧ ∀ n ∈ zs, (Lit.int .u8 n).wf = true) :
    len ≤ cap ∧ cap ≤ 9223372036854775807 := by
  rcases h with ⟨-, rfl, rfl, -⟩ | ⟨x, -, hl, hm, -⟩
  · omega
  · unfold maxLen at hm; omega

theorem Tab.bar {w w' : World} {t : Nat} {l : List Nat} (h : Tab w t) (b : Bar l w w') (hl : t ∉ l) : Tab w' t := by
  rcases h with h | h
  · exact .inl (Blk.bar h b hl)
  · exact .inr (Blk.bar h b hl)
theorem Hs.lt {w : World} {h t : Nat} {text : List Int} (x : Hs w h t text) : h < w.heap.size := by
  obtain ⟨_, _, _, r, _, _, _, k⟩ := x
  exact k.lt
theorem Hs.bar {w w' : World} {h t : Nat} {text : List Int} {l : List Nat} (x : Hs w h t text) (b : Bar l w w') (hh : h ∉ l) (ht : t ∉ l) : Hs w' h t text := by
  obtain ⟨h1, h2, h3, r, h4, h5, h6, k⟩ := x
  exact ⟨h1, Blk.bar h2 b ht, h3, r, h4, h5, h6, k.bar b hh⟩
theorem Hs.other {w w' : World} {h t : Nat} {text : List Int} (x : Hs w h t text) (b : Bar [t] w w') (m : Made w' t) : Hs w' h t text := by
  obtain ⟨h1, h2, h3, r, h4, h5, h6, k⟩ := x
  exact ⟨h1, m, h3, r, h4, h5, h6, k.bar b (by simpa using h1)⟩
theorem Rd.sl2 {w w' : World} {A : Option Addr} {n h : Nat} {xs : List Int} (r : Rd w A n xs) (b : Below w.heap.size w w') (hh : w.heap.size ≤ h) : Sl w' A n xs h := by
  obtain ⟨h1, h2, h3⟩ := r
  refine ⟨h1, h2, ?_⟩
  by_cases h0 : n = 0
  · exact .inl h0
  · obtain ⟨bb, o, rfl, hc⟩ := h3.resolve_left h0
    have hlt : bb < w.heap.size := World.block_lt_of_cell? _ _ (hc 0 (by omega))
    exact .inr ⟨bb, o, rfl, by omega, fun i hi => by rw [← hc i hi]; exact World.cell?_of_block (w := w) (b.block bb hlt)⟩
theorem own_rd {w : World} {base : Nat} {e : TypeId} {v : Value} {n : Nat} {xs : List Int} (h : w.ownsRow base e 1 v n (ints .u8 xs)) (hb : Bytes xs) : ∃ A cap, v = .slice A n cap ∧ n ≤ cap ∧ cap ≤ 9223372036854775807 ∧ Rd w A n xs := by
  have hl : xs.length = n := by have := h.1; rw [ints_len] at this; omega
  rcases h.2 with ⟨rfl, rfl⟩ | ⟨g, cap, cur, rfl, hg, _, h1, h2, _⟩
  · obtain rfl := List.eq_nil_of_length_eq_zero hl
    exact ⟨none, 0, rfl, by omega, by omega, Rd.nil_⟩
  · unfold maxLen at h2
    refine ⟨some ⟨g, 0, none⟩, cap, rfl, h1, by omega, hl, hb, .inr ⟨g, 0, rfl, fun i hi => ?_⟩⟩
    rw [Nat.zero_add]
    exact own_cell h i hi

theorem wpList_unguard {P : Program} {ops : Array Oper} {Q : Exit → Act → World → Prop} {rest : List Oper} {a : Act} {w : World} {d : Option Nat} {op : Op} {ty : TypeId} {p : String} {e : Array Edge} {g : Nat × Bool}
    (hw : Region.wanted { dst := d, op := op, type := ty, pos := p, after := e, guard := some g } (yielded ops a.tmps) = true)
    (h : wpList P ops Q ({ dst := d, op := op, type := ty, pos := p, after := e, guard := none } :: rest) a w) : wpList P ops Q ({ dst := d, op := op, type := ty, pos := p, after := e, guard := some g } :: rest) a w := by
  unfold wpList at h ⊢
  rw [if_pos hw]
  rw [if_pos (by rfl)] at h
  exact h

theorem own_rd2 {w : World} {base : Nat} {v : Value} {n : Nat} {xs : List Int} (h : w.ownsRow base 5 1 v n (ints .u8 xs)) (hb : Bytes xs) : ∃ A cap, v = .slice A n cap ∧ n ≤ cap ∧ cap ≤ 9223372036854775807 ∧ Rd w A n xs ∧
    (n = 0 ∨ ∃ g cs, A = some ⟨g, 0, none⟩ ∧ base ≤ g ∧ Blk w g 5 cs ∧ ∀ j, j < n → cs[j]? = some (.int .u8 (at_ xs j))) := by
  obtain ⟨A, cap, rfl, h1, h2, h3⟩ := own_rd h hb
  refine ⟨A, cap, rfl, h1, h2, h3, ?_⟩
  rcases h.2 with ⟨_, h0⟩ | ⟨g, cap, cur, hv, hg, hh, _⟩
  · exact .inl h0
  · injection hv with hA
    subst hA
    refine .inr ⟨g, cur, rfl, hg, hh, fun j hj => ?_⟩
    rw [← Blk.cell hh j]
    exact own_cell h j hj

theorem make_zeros (w : World) (n : Nat) (hn : n ≤ 400) : ∃ w', (Instr.makeSlice 29 (.int .i64 (n : Int)) (.int .i64 (n : Int))).run Try.prog w = .ok (.slice (some ⟨w.heap.size, 0, none⟩) n n) w' ∧ Rd w' (some ⟨w.heap.size, 0, none⟩) n (List.replicate n 0) ∧ Below w.heap.size w w' := by
  obtain ⟨iu, hi, hz0, hz1, hz2⟩ := info_parts info_u8
  obtain ⟨w', hm, own, gr⟩ := run_makeSlice_full (P := Try.prog) w w.heap.size 29 5 iu _ 1 Try.underlying29 hi hz0 hz1 .i64 .i64 n (by omega) (by rw [hz2]; omega) (by unfold maxLen; omega) (Nat.le_refl _)
  refine ⟨w', hm, ?_, ⟨gr.os, gr.tape, gr.output, gr.size, fun k hk => gr.block k hk (by simp)⟩⟩
  have e : (madeCells (Value.int .u8 0).cells (n * 1)).toList = ints .u8 (List.replicate n 0) := by
    rw [show (Value.int .u8 0).cells = #[.int .u8 0] from rfl, toList_madeCells_one, Nat.mul_one]
    simp [ints]
  rw [e] at own
  refine ⟨by simp, fun x hx => ?_, ?_⟩
  · have := List.eq_of_mem_replicate hx
    omega
  · exact .inr ⟨_, 0, rfl, fun i hi => by rw [Nat.zero_add]; exact own_cell own i hi⟩
end Go.Proofs.Ytblhfbpokfegnaa.Sha
