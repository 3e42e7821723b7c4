/-
  The table of package sha in memory: made by who asks first, by sync.Once; what its functions give back.
-/
import Derived.Test.YtblhfbpokfegnaaShaNum
import Derived.Deep.QuietTactic
import Derived.BigQuiet
import Derived.StillTailTactics
import Derived.Laws.Rows
import Derived.Deep.Draws
import Derived.Below
import Derived.Laws.OwnMore
import Derived.Defers
import Derived.Laws.LoneSync
import Derived.RegionTactic
import Derived.RegionCalls
namespace Go.Proofs.Ytblhfbpokfegnaa.Sha
open Go.RowKit

def Blk (w : World) (g : Nat) (t : TypeId) (cs : Array Value) : Prop := w.heap[g]? = some (.cells cs t (0, 0))
section
variable {w w' : World} {g : Nat} {t : TypeId} {cs : Array Value}
theorem Blk.lt (h : Blk w g t cs) : g < w.heap.size := by
  rcases Nat.lt_or_ge g w.heap.size with hlt | hge
  · exact hlt
  · unfold Blk at h; rw [Array.getElem?_eq_none hge] at h; cases h
theorem Blk.cell (h : Blk w g t cs) (i : Nat) : w.cell? ⟨g, i, none⟩ = cs[i]? := cell_of_row w g i cs t (0, 0) h
theorem Blk.frozen (h : Blk w g t cs) (i : Nat) : w.frozen? ⟨g, i, none⟩ = false := by
  unfold Blk at h
  simp [World.frozen?, h]
theorem Blk.new (w : World) (t : TypeId) (cs : Array Value) : Blk (w.alloc (.cells cs t)) w.heap.size t cs := heap_alloc_new w _
theorem Blk.new_at (w : World) (t : TypeId) (cs : Array Value) (n : Nat) (hn : n = w.heap.size) : Blk (w.alloc (.cells cs t)) n t cs := by subst hn; exact heap_alloc_new w _
theorem Blk.row (h : Blk w g t cs) (cs' : Array Value) : Blk (w.setRow g cs') g t cs' := setRow_heap w g _ cs' t (0, 0) h
theorem Blk.drew (h : Blk w g t cs) : Blk w.drew g t cs := h
theorem Blk.drewN (h : Blk w g t cs) (n : Nat) : Blk (w.drewN n) g t cs := h
theorem Blk.alloc (h : Blk w g t cs) (o : Obj) : Blk (w.alloc o) g t cs := (Below.heap_alloc w o g h.lt).trans h
theorem Blk.set_ (h : Blk w g t cs) (i : Nat) (u : Value) : Blk (w.setCell ⟨g, i, none⟩ u) g t (cs.setIfInBounds i u) := by
  unfold Blk at h ⊢
  simp [World.setCell, Array.getElem?_modify, h]
theorem Blk.far (h : Blk w g t cs) {p : Addr} (hp : g ≠ p.block) (u : Value) : Blk (w.setCell p u) g t cs := (Below.heap_setCell w p u g hp).trans h
theorem Blk.below {B : Nat} (h : Blk w g t cs) (hb : Below B w w') (hg : g < B) : Blk w' g t cs := (hb.block g hg).trans h
theorem Blk.grown {row : Option Nat} (h : Blk w g t cs) (hb : w.grownBy w' row) (hg : some g ≠ row) : Blk w' g t cs := (hb.block g h.lt hg).trans h
end

/-- Only the blocks of l, and new ones, may have changed from w to w'. -/
structure Bar (l : List Nat) (w w' : World) : Prop where
  os : w'.os = w.os
  tape : w'.tape = w.tape
  output : w'.output = w.output
  size : w.heap.size ≤ w'.heap.size
  block : ∀ k, k < w.heap.size → k ∉ l → w'.heap[k]? = w.heap[k]?
theorem Bar.refl (l : List Nat) (w : World) : Bar l w w := ⟨rfl, rfl, rfl, Nat.le_refl _, fun _ _ _ => rfl⟩
theorem Bar.trans {l l' : List Nat} {a b c : World} (h : Bar l a b) (k : Bar l' b c) (hl : ∀ x ∈ l', x ∈ l ∨ a.heap.size ≤ x) : Bar l a c :=
  ⟨k.os.trans h.os, k.tape.trans h.tape, k.output.trans h.output, Nat.le_trans h.size k.size, fun i hi hn => (k.block i (Nat.lt_of_lt_of_le hi h.size) (fun hm => by
    rcases hl i hm with h1 | h1
    · exact hn h1
    · omega)).trans (h.block i hi hn)⟩
theorem Bar.mono {l l' : List Nat} {w w' : World} (h : Bar l w w') (hl : ∀ x ∈ l, x ∈ l' ∨ w.heap.size ≤ x) : Bar l' w w' := ⟨h.os, h.tape, h.output, h.size, fun i hi hn => h.block i hi fun hm => by
    rcases hl i hm with h1 | h1
    · exact hn h1
    · omega⟩
theorem Bar.same {l : List Nat} {a w : World} (h : Bar l a w) : Bar l a w := h
theorem Bar.drew {l : List Nat} {a w : World} (h : Bar l a w) : Bar l a w.drew := ⟨h.os, h.tape, h.output, h.size, h.block⟩
theorem Bar.drewN {l : List Nat} {a w : World} (h : Bar l a w) (n : Nat) : Bar l a (w.drewN n) := ⟨h.os, h.tape, h.output, h.size, h.block⟩
theorem Bar.alloc {l : List Nat} {a w : World} (h : Bar l a w) (o : Obj) : Bar l a (w.alloc o) :=
  h.trans (l' := []) ⟨rfl, rfl, rfl, by simp, fun k hk _ => Below.heap_alloc _ _ _ (by omega)⟩ (by simp)
theorem Bar.setCell {l : List Nat} {a w : World} (h : Bar l a w) {p : Addr} (hp : p.block ∈ l ∨ a.heap.size ≤ p.block) (u : Value) : Bar l a (w.setCell p u) :=
  h.trans (l' := [p.block]) ⟨rfl, rfl, rfl, by simp [World.setCell], fun k _ hn => Below.heap_setCell _ _ _ _ (by simpa using hn)⟩ (by simpa using hp)
theorem Bar.grown {l : List Nat} {a w w' : World} {row : Option Nat} (h : Bar l a w) (hg : w.grownBy w' row) (hr : ∀ k, row = some k → k ∈ l ∨ a.heap.size ≤ k) : Bar l a w' :=
  h.trans (l' := row.toList) ⟨hg.os, hg.tape, hg.output, hg.size, fun k hk hn => hg.block k hk (fun e => hn (by simp [← e]))⟩ (by
    intro x hx
    exact hr x (by simpa using hx))
theorem Bar.below {a w : World} {B : Nat} {l : List Nat} (h : Bar l a w) (hB : B ≤ a.heap.size) (hl : ∀ x ∈ l, B ≤ x) : Below B a w :=
  ⟨h.os, h.tape, h.output, h.size, fun k hk => h.block k (by omega) (fun hm => by have := hl k hm; omega)⟩
theorem barOf {a w : World} (h : Below a.heap.size a w) (l : List Nat) : Bar l a w := ⟨h.os, h.tape, h.output, h.size, fun k hk _ => h.block k hk⟩
theorem Blk.bar {w w' : World} {g : Nat} {t : TypeId} {cs : Array Value} {l : List Nat} (h : Blk w g t cs) (hb : Bar l w w') (hg : g ∉ l) : Blk w' g t cs := (hb.block g h.lt hg).trans h

def partK (L : Nat → Nat) (n k : Nat) : List Value := (List.range n).map fun i => .int .u32 ((if i < k then L i else 0 : Nat) : Int)
theorem partK_len (L : Nat → Nat) (n k : Nat) : (partK L n k).length = n := by simp [partK]
theorem partK_at (L : Nat → Nat) (n k i : Nat) (hi : i < n) : (partK L n k)[i]? = some (.int .u32 ((if i < k then L i else 0 : Nat) : Int)) := by simp [partK, hi]
theorem partK_set (L : Nat → Nat) (n k : Nat) : (partK L n k).set k (.int .u32 (L k : Nat)) = partK L n (k + 1) := by
  apply List.ext_getElem?
  intro i
  rw [List.getElem?_set]
  by_cases hi : i < n
  · rw [partK_at _ _ _ _ hi]
    by_cases h : k = i
    · subst h; rw [partK_at _ _ _ _ hi, if_pos (by omega), if_pos (by rw [partK_len]; exact hi), if_pos (by omega)]
    · rw [if_neg h, partK_at _ _ _ _ hi]
      by_cases h2 : i < k
      · rw [if_pos h2, if_pos (by omega)]
      · rw [if_neg h2, if_neg (by omega)]
  · rw [List.getElem?_eq_none (by rw [partK_len]; omega), List.getElem?_eq_none (by rw [partK_len]; omega)]
    simp [partK_len]
    omega

/-- a table's cells: what Once holds (a, b, c), a words, b starting words reckoned so far -/
def tbl (x y z : Value) (a b : Nat) : Array Value := ([x, y, z] ++ partK kW 64 a ++ partK hW 8 b).toArray
theorem tbl_0 (x y z : Value) (a b : Nat) : (tbl x y z a b)[0]? = some x := by simp [tbl]
theorem tbl_1 (x y z : Value) (a b : Nat) : (tbl x y z a b)[1]? = some y := by simp [tbl]
theorem tbl_2 (x y z : Value) (a b : Nat) : (tbl x y z a b)[2]? = some z := by simp [tbl]
theorem tbl_word (x y z : Value) (a b i : Nat) (hi : i < 64) : (tbl x y z a b)[3 + i]? = some (.int .u32 ((if i < a then kW i else 0 : Nat) : Int)) := by
  unfold tbl
  rw [List.getElem?_toArray, List.append_assoc, List.getElem?_append_right (by simp), List.getElem?_append_left (by simp [partK_len]; omega)]
  simpa using partK_at kW 64 a i hi
theorem tbl_start (x y z : Value) (a b i : Nat) (hi : i < 8) : (tbl x y z a b)[67 + i]? = some (.int .u32 ((if i < b then hW i else 0 : Nat) : Int)) := by
  unfold tbl
  rw [List.getElem?_toArray, List.getElem?_append_right (by simp [partK_len])]
  simpa [partK_len, show 67 + i - (3 + 64) = i by omega] using partK_at hW 8 b i hi
theorem tbl_set0 (x y z u : Value) (a b : Nat) : (tbl x y z a b).setIfInBounds 0 u = tbl u y z a b := by simp [tbl]
theorem tbl_set1 (x y z u : Value) (a b : Nat) : (tbl x y z a b).setIfInBounds 1 u = tbl x u z a b := by simp [tbl]
theorem tbl_setw (x y z : Value) (a b : Nat) (ha : a < 64) : (tbl x y z a b).setIfInBounds (3 + a) (.int .u32 (kW a : Nat)) = tbl x y z (a + 1) b := by
  unfold tbl
  rw [List.setIfInBounds_toArray, List.append_assoc, List.set_append_right _ _ (by simp), List.set_append_left _ _ (by simp [partK_len]; omega)]
  simp [partK_set, Nat.add_sub_cancel_left]
theorem tbl_sets (x y z : Value) (a b : Nat) : (tbl x y z a b).setIfInBounds (67 + b) (.int .u32 (hW b : Nat)) = tbl x y z a (b + 1) := by
  unfold tbl
  rw [List.setIfInBounds_toArray, List.set_append_right _ _ (by simp [partK_len])]
  simp [partK_set, partK_len, show 67 + b - (3 + 64) = b by omega]

set_option maxHeartbeats 400000 in
theorem newtable_any (w : World) : Calls Try.prog 11 #[] w fun e w' => e = .returned (.pointer (some ⟨w.heap.size, 0, none⟩)) ∧ w' = w.alloc (.cells (tbl (.int .u32 0) (.int .i32 0) (.int .u32 0) 0 0) 66) := by
  go_enter Try.func11, Try.ntmps11
  go_wp2
  go_ret
  exact ⟨rfl, rfl⟩

theorem still_of {P : Program} {f : FuncId} {args : Array Value} {w : World} {v : Value} (h : Calls P f args w fun e w' => e = .returned v ∧ w = w') : Calls P f args w fun e w'' => e = .returned v ∧ w'' = w := h.mono fun _ _ ⟨a, b⟩ => ⟨a, b.symm⟩

theorem frac_cu_i (p : Nat) (v : Nat) (hp : p < 1000) (hv : frac cuTop (p * 4294967296) = v) (w : World) : Calls Try.prog 47 #[.int .u64 (IntKind.u64.wrap ((p : Int) * 4294967296)), .func (.func 49) #[] #[]] w fun e w' => e = .returned (.int .u32 (v : Nat)) ∧ w = w' := by
  have := frac_cu (p * 4294967296) w
  rw [hv, Int.natCast_mul] at this
  rw [show IntKind.u64.wrap ((p : Int) * 4294967296) = (p : Int) * 4294967296 by rw [IntKind.wrap_u64]; omega]
  exact this
theorem frac_sq_i (p : Nat) (v : Nat) (hv : frac sqTop p = v) (w : World) : Calls Try.prog 47 #[.int .u64 (p : Int), .func (.func 48) #[] #[]] w fun e w' => e = .returned (.int .u32 (v : Nat)) ∧ w = w' := by
  have := frac_sq p w
  rw [hv] at this
  exact this

set_option maxRecDepth 100000 in
set_option maxHeartbeats 400000 in
theorem reckon_any (t : Nat) (x y z : Value) (w : World) (ht : Blk w t 66 (tbl x y z 0 0)) : Calls Try.prog 41 #[.pointer (some ⟨t, 0, none⟩)] w fun e w' => e = .returned (.tuple #[]) ∧ Blk w' t 66 (tbl x y z 64 8) ∧ Bar [t] w w' := by
  go_enter Try.func41, Try.ntmps41
  go_wp2
  go_loopw [2, 4] (fun p i wr => ∃ k : Nat, k ≤ 64 ∧ p = .int .u64 (pW k : Nat) ∧ i = .int .i64 k ∧ Hid (Blk wr t 66 (tbl x y z k (min k 8))) ∧ Bar [t] w wr) (fun _ i _ => 64 - (intOf i).toNat)
  case atStart => exact ⟨0, by omega, rfl, rfl, ht, Bar.refl _ _⟩
  case round =>
    obtain ⟨k, hk, rfl, rfl, hblk, hbar⟩ := hrel
    obtain ⟨p, hp⟩ : ∃ p, pW k = p := ⟨_, rfl⟩
    by_cases hlt : k < 64
    · obtain ⟨q, hq⟩ : ∃ q, pW (k + 1) = q := ⟨_, rfl⟩
      obtain ⟨n1, n2, n3, n4, n5⟩ := pW_next k hlt
      have hK := K_is k hlt
      rw [hq] at n1 n2 n4 n5
      rw [hp] at n1 n3 n5 hK ⊢
      have cn := Lib.hid fun w => next_any p q n3 n1 n2 n4 n5 w
      have cw := Lib.hid fun w => frac_cu_i p (kW k) (by omega) hK w
      have Hq := Lib.hid hq
      clear hq hK n4 n5
      by_cases h8 : k < 8
      · have hH := H_is k h8
        rw [hp] at hH
        have cs := Lib.hid fun w => frac_sq_i p (hW k) hH w
        clear hH
        have Hp := Lib.hid hp
        clear hp
        have hz0 := hblk.out.frozen (67 + k)
        have hc0 := hblk.out.cell (67 + k)
        rw [tbl_start _ _ _ _ _ _ h8] at hc0
        have hb2 : Hid (Blk (wr.setCell ⟨t, 67 + k, none⟩ (.int .u32 (hW k : Nat))).drew t 66 (tbl x y z k (min (k + 1) 8))) := by
          have := hblk.out.set_ (67 + k) (.int .u32 (hW k : Nat))
          rw [show min k 8 = k by omega, tbl_sets] at this
          rw [show min (k + 1) 8 = k + 1 by omega]
          exact this.drew
        have hbar2 : Bar [t] w (wr.setCell ⟨t, 67 + k, none⟩ (.int .u32 (hW k : Nat))).drew := (hbar.setCell (by simp) _).drew
        go_wp2
        refine wp_region_still_tail 7 (by kernel_rfl) (by kernel_rfl) ?_
        simp only [List.take_succ_cons, List.take_zero, List.drop_succ_cons, List.drop_zero]
        repeat still_step
        still_call (still_of (cs.out _))
        repeat still_step
        refine wpStill_nil ?_
        change wpList _ _ _ _ _ wr.drew
        go_wp2
        clear hz0 hc0
        generalize (wr.setCell ⟨t, 67 + k, none⟩ (.int .u32 (hW k : Nat))).drew = w2 at *
        have hz0 := hb2.out.frozen (3 + k)
        have hc0 := hb2.out.cell (3 + k)
        rw [tbl_word _ _ _ _ _ _ hlt] at hc0
        refine wp_region_still_tail 8 (by kernel_rfl) (by kernel_rfl) ?_
        simp only [List.take_succ_cons, List.take_zero, List.drop_succ_cons, List.drop_zero]
        repeat still_step
        still_call (still_of (cw.out _))
        repeat still_step
        refine wpStill_nil ?_
        change wpList _ _ _ _ _ w2.drew
        go_wp2_with (go_at_call 50; refine (cn.out _).mono ?_; rintro e w' ⟨rfl, rfl⟩)
        have hb3 : Blk (w2.setCell ⟨t, 3 + k, none⟩ (.int .u32 (kW k : Nat))).drew t 66 (tbl x y z (k + 1) (min (k + 1) 8)) := by
          have := hb2.out.set_ (3 + k) (.int .u32 (kW k : Nat))
          rw [tbl_setw _ _ _ _ _ hlt] at this
          exact this.drew
        have hbar3 : Bar [t] w (w2.setCell ⟨t, 3 + k, none⟩ (.int .u32 (kW k : Nat))).drew := (hbar2.setCell (by simp) _).drew
        go_roundw
        case rel => exact ⟨k + 1, by omega, by rw [Hq.out], by go_num, hb3, hbar3⟩
        case measure => simp [intOf]; omega

      · have hb2 := hblk
        have hbar2 := hbar
        rw [show min k 8 = min (k + 1) 8 by omega] at hb2
        clear hblk hbar hp
        have hz0 := hb2.out.frozen (3 + k)
        have hc0 := hb2.out.cell (3 + k)
        rw [tbl_word _ _ _ _ _ _ hlt] at hc0
        go_wp2
        refine wp_region_still_tail 8 (by kernel_rfl) (by kernel_rfl) ?_
        simp only [List.take_succ_cons, List.take_zero, List.drop_succ_cons, List.drop_zero]
        repeat still_step
        still_call (still_of (cw.out _))
        repeat still_step
        refine wpStill_nil ?_
        change wpList _ _ _ _ _ wr.drew
        go_wp2_with (go_at_call 50; refine (cn.out _).mono ?_; rintro e w' ⟨rfl, rfl⟩)
        have hb3 : Blk (wr.setCell ⟨t, 3 + k, none⟩ (.int .u32 (kW k : Nat))).drew t 66 (tbl x y z (k + 1) (min (k + 1) 8)) := by
          have := hb2.out.set_ (3 + k) (.int .u32 (kW k : Nat))
          rw [tbl_setw _ _ _ _ _ hlt] at this
          exact this.drew
        have hbar3 : Bar [t] w (wr.setCell ⟨t, 3 + k, none⟩ (.int .u32 (kW k : Nat))).drew := (hbar2.setCell (by simp) _).drew
        go_roundw
        case rel => exact ⟨k + 1, by omega, by rw [Hq.out], by go_num, hb3, hbar3⟩
        case measure => simp [intOf]; omega
    · obtain rfl : k = 64 := by omega
      have hb := hblk.out
      go_wp2
      go_end0
      exact ⟨rfl, hb, hbar⟩
end Go.Proofs.Ytblhfbpokfegnaa.Sha
