/-
  Package purse: rows that grow, behind New's loops and Copy's.
-/
import Derived.Test.YtlgeckgeiknmjaaPurseCode
import Derived.Test.YtlgeckgeiknmjaaAppI
namespace Go.Proofs.Ytlgeckgeiknmjaa.Purse
open Go.RowKit Go.Proofs.Ytlgeckgeiknmjaa.Sha Go.Proofs.Ytlgeckgeiknmjaa.Num

/-- rows of the call's own behind the struct at p: row a holds L a; its slice is V a -/
structure Gr (T : TypeId) (w : World) (N p g na : Nat) (L : Nat → List Int) (V : Nat → Value) : Prop where
  hT : T ≠ 41 ∧ T ≠ 3
  hp : Blk w p T #[.slice (some ⟨g, 0, none⟩) na na]
  hg : ∃ cur : Array Value, Blk w g 41 cur ∧ ∀ a, a < na → cur[a]? = some (V a)
  own : ∀ a, a < na → w.ownsRow N 3 1 (V a) (L a).length (ints .i64 (L a))
  ap : ∀ a b, a < na → b < na → a ≠ b → Apart (V a) (V b)
  lo : N ≤ p ∧ N ≤ g ∧ na ≤ 100
section
variable {T : TypeId} {w w' : World} {N p g na a : Nat} {x : Int} {L : Nat → List Int} {V : Nat → Value}
theorem Gr.gt (h : Gr T w N p g na L V) : g < w.heap.size := by obtain ⟨cur, h1, -⟩ := h.hg; exact h1.lt
theorem Gr.below (h : Gr T w N p g na L V) (b : Below w.heap.size w w') : Gr T w' N p g na L V := by
  obtain ⟨cur, h1, h2⟩ := h.hg
  exact ⟨h.hT, h.hp.below b h.hp.lt, ⟨cur, h1.below b h1.lt, h2⟩, fun a ha => own_keep (h.own a ha) (barOf b []) (by simp), h.ap, h.lo⟩
theorem Gr.p0 (h : Gr T w N p g na L V) : w.cell? ⟨p, 0, none⟩ = some (.slice (some ⟨g, 0, none⟩) na na) := h.hp.cell 0
theorem Gr.ga (h : Gr T w N p g na L V) {a : Nat} (ha : a < na) : w.cell? ⟨g, a, none⟩ = some (V a) := by
  obtain ⟨cur, h1, h2⟩ := h.hg
  rw [h1.cell, h2 a ha]
theorem Gr.fz (h : Gr T w N p g na L V) (a : Nat) : w.frozen? ⟨g, a, none⟩ = false := by
  obtain ⟨cur, h1, h2⟩ := h.hg
  exact h1.frozen a
theorem Gr.pg (h : Gr T w N p g na L V) : p ≠ g := by obtain ⟨cur, h1, -⟩ := h.hg; exact blk_ne h.hp h1 h.hT.1
theorem Gr.far_g (h : Gr T w N p g na L V) {a : Nat} (ha : a < na) : (V a).ownBlock ≠ some g := by
  obtain ⟨cur, h1, h2⟩ := h.hg
  exact own_far (h.own a ha) h1 (by decide)
theorem Gr.far_p (h : Gr T w N p g na L V) {a : Nat} (ha : a < na) : (V a).ownBlock ≠ some p := own_far (h.own a ha) h.hp (fun e => h.hT.2 e.symm)
/-- the rows' own row behind a row that grew -/
theorem Gr.past (h : Gr T w N p g na L V) {row : Option Nat} (hg : w.grownBy w' row) (hr : row ≠ some g) {a : Nat} (ha : a < na) {v : Value} (hv : V a = v) : w'.cell? ⟨g, a, none⟩ = some v ∧ w'.frozen? ⟨g, a, none⟩ = false := by
  obtain ⟨cur, c1, c2⟩ := h.hg
  have k := c1.grown hg (fun e => hr e.symm)
  exact ⟨by rw [k.cell, c2 a ha, hv], k.frozen a⟩
theorem Gr.pastp (h : Gr T w N p g na L V) {row : Option Nat} (hg : w.grownBy w' row) (hr : row ≠ some p) : w'.cell? ⟨p, 0, none⟩ = some (.slice (some ⟨g, 0, none⟩) na na) := (h.hp.grown hg (fun e => hr e.symm)).cell 0
/-- row a has another list in another place: it grew, or it is new -/
theorem Gr.turn (h : Gr T w N p g na L V) {a : Nat} (ha : a < na) {v' : Value} {l : List Int} {w1 : World} (hgrow : w.grownBy w1 (V a).ownBlock) (hown : w1.ownsRow N 3 1 v' l.length (ints .i64 l))
    (hat : v'.ownBlock = (V a).ownBlock ∨ ∀ k, v'.ownBlock = some k → w.heap.size ≤ k) {L' : Nat → List Int} (hL : L' a = l) (hL' : ∀ b, b < na → b ≠ a → L' b = L b) :
    Gr T (w1.setCell ⟨g, a, none⟩ v') N p g na L' (fun b => if b = a then v' else V b) ∧ Below N w (w1.setCell ⟨g, a, none⟩ v') := by
  have bg : Bar (V a).ownBlock.toList w w1 := Bar.grownRow hgrow
  have hp1 : Blk w1 p T #[.slice (some ⟨g, 0, none⟩) na na] := h.hp.bar bg (by simpa using h.far_p ha)
  obtain ⟨cur, c1, c2⟩ := h.hg
  have hg1 : Blk w1 g 41 cur := c1.bar bg (by simpa using h.far_g ha)
  have hne : v'.ownBlock ≠ some g := own_far hown hg1 (by decide)
  have bs : Bar [g] w1 (w1.setCell ⟨g, a, none⟩ v') := (Bar.refl _ w1).setCell (by simp) _
  have others : ∀ b, b < na → b ≠ a → w1.ownsRow N 3 1 (V b) (L b).length (ints .i64 (L b)) ∧ Apart (V b) v' ∧ Apart v' (V b) := by
    intro b hb hba
    have e1 := h.ap a b ha hb (fun e => hba e.symm)
    have e2 := h.ap b a hb ha hba
    refine ⟨(h.own b hb).kept hgrow ?_, ?_, ?_⟩
    · cases hq : (V b).ownBlock with
      | none => exact .inl rfl
      | some k => exact .inr (fun he => e2 k hq he.symm)
    · intro k hk hv
      rcases hat with hat | hat
      · rw [hat] at hv; exact e2 k hk hv
      · have := ((h.own b hb).lt k hk).2; have := hat k hv; omega
    · intro k hv hk
      rcases hat with hat | hat
      · rw [hat] at hv; exact e1 k hv hk
      · have := ((h.own b hb).lt k hk).2; have := hat k hv; omega
  refine ⟨⟨h.hT, hp1.bar bs (by simpa using h.pg), ⟨_, hg1.set_ a v', fun b hb => ?_⟩, fun b hb => ?_, fun b c hb hc hbc => ?_, h.lo⟩, ?_⟩
  · rw [Array.getElem?_setIfInBounds]
    by_cases e : a = b
    · subst e
      simp [(Array.getElem?_eq_some_iff.1 (c2 a hb)).1]
    · rw [if_neg e, if_neg (fun k => e k.symm)]; exact c2 b hb
  · by_cases e : b = a
    · subst e
      simp only [if_true]
      rw [hL]
      exact own_keep hown bs (by
        intro k hk
        simp only [Option.mem_toList] at hk
        simp only [List.mem_cons, List.not_mem_nil, or_false]
        rintro rfl
        exact hne hk)
    · simp only [e, if_false]
      rw [hL' b hb e]
      exact own_keep (others b hb e).1 bs (by
        intro k hk
        simp only [Option.mem_toList] at hk
        simp only [List.mem_cons, List.not_mem_nil, or_false]
        rintro rfl
        exact h.far_g hb hk)
  · by_cases e : b = a
    · subst e
      have e2 : c ≠ b := fun k => hbc k.symm
      simp only [if_true, e2, if_false]
      exact (others c hc e2).2.2
    · by_cases e2 : c = a
      · subst e2
        simp only [e, if_false, if_true]
        exact (others b hb e).2.1
      · simp only [e, e2, if_false]
        exact h.ap b c hb hc hbc
  · have b1 : Below N w w1 := own_below (h.own a ha) hgrow (by have := h.gt; have := h.lo; omega)
    exact b1.setCell (by have := h.lo; simpa using h.lo.2.1) _
/-- a number goes behind row a -/
theorem Gr.pushed (h : Gr T (w.alloc (.cells #[.int .i64 x] 3)).drew N p g na L V) {v : Value} {k : Nat} (HV : Kept (V a = v)) (ha : a < na) {w3 : World} {gg cg : Nat} {l l' : List Int} (hl : l' = l ++ [x]) (hk : l'.length = k + 1)
    (hgrow : (w.alloc (.cells #[.int .i64 x] 3)).drew.grownBy w3 v.ownBlock) (hown : w3.ownsRow N 3 1 (.slice (some ⟨gg, 0, none⟩) (k + 1) cg) (k + 1) (ints .i64 l ++ [.int .i64 x]))
    (hat : v.ownBlock = some gg ∨ gg = w.heap.size + 1) {L' : Nat → List Int} (hL' : L' a = l') (hF : ∀ b, b < na → b ≠ a → L' b = L b) {w0 : World} (B : Kept (Below N w0 w)) (NN : N ≤ w.heap.size) :
    ∃ V', Kept (Gr T (w3.setCell ⟨g, a, none⟩ (.slice (some ⟨gg, 0, none⟩) (k + 1) cg)) N p g na L' V') ∧ Kept (Below N w0 (w3.setCell ⟨g, a, none⟩ (.slice (some ⟨gg, 0, none⟩) (k + 1) cg))) := by
  have hv := HV.out
  subst hv
  have h1 := h.turn ha (v' := .slice (some ⟨gg, 0, none⟩) (k + 1) cg) (l := l') hgrow (by rw [hk, hl, ints_append]; exact hown) (by
    rcases hat with e | e
    · exact .inl e.symm
    · exact .inr (fun q hq => by simp [Value.ownBlock] at hq; subst hq; simp; omega)) hL' hF
  exact ⟨_, ⟨h1.1⟩, ⟨((B.out.alloc NN _).drew).trans h1.2⟩⟩
/-- the first of it: no row has anything -/
theorem Gr.start (hT : T ≠ 41 ∧ T ≠ 3) (hp : Blk w p T #[.slice (some ⟨g, 0, none⟩) na na]) (hg : Blk w g 41 (List.replicate na (Value.slice none 0 0)).toArray) (h1 : N ≤ p) (h2 : N ≤ g) (h3 : na ≤ 100) :
    Gr T w N p g na (fun _ => []) (fun _ => .slice none 0 0) :=
  ⟨hT, hp, ⟨_, hg, fun a ha => by simp [ha]⟩, fun a _ => World.ownsRow_nil _ _ _ _, fun a b _ _ _ k hk => by simp [Value.ownBlock] at hk, h1, h2, h3⟩
theorem Gr.congr (h : Gr T w N p g na L V) {L' : Nat → List Int} (e : ∀ a, a < na → L' a = L a) : Gr T w N p g na L' V :=
  ⟨h.hT, h.hp, h.hg, fun a ha => by rw [e a ha]; exact h.own a ha, h.ap, h.lo⟩
/-- a row, to be summed -/
theorem Gr.ints (h : Gr T w N p g na L V) (ha : a < na) {m : Nat} (hL : (L a).length = m) : ∃ A c, V a = .slice A m c ∧ Num.Ints w A m (L a) := by
  have ho := h.own a ha
  rw [hL] at ho
  rcases ho.2 with ⟨hv, hx⟩ | ⟨r, c, cur, hv, hr, hb, h1, h2, h3, h4⟩
  · subst hx
    exact ⟨none, 0, hv, hL, by omega, .inl rfl⟩
  · refine ⟨_, c, hv, hL, by unfold maxLen at h2; omega, .inr ⟨r, 0, rfl, fun i hi => ?_⟩⟩
    rw [hv] at ho
    have h5 := World.ownsRow.cellAt ho i (by omega)
    rw [Sha.ints_at _ _ _ (by omega)] at h5
    rw [Nat.zero_add, h5]
    rfl
def slBlk : Value → Nat
  | .slice (some ad) _ _ => ad.block
  | _ => 0
def slCap : Value → Nat
  | .slice _ _ c => c
  | _ => 0
/-- at the end: a Purse's memory -/
theorem Gr.mx (h : Gr T w N p g na L V) {m : Nat} (hm : 1 ≤ m) (hL : ∀ a, a < na → (L a).length = m) : ∃ F, Mx T w F p na m (fun a i => at_ (L a) i) ∧ ∀ k ∈ F, N ≤ k := by
  have sh : ∀ a, a < na → ∃ r c cur, V a = .slice (some ⟨r, 0, none⟩) m c ∧ N ≤ r ∧ Blk w r 3 cur ∧ m ≤ c ∧ c ≤ 9223372036854775807 ∧ ∀ j, j < m → cur[j]? = some (.int .i64 (at_ (L a) j)) := by
    intro a ha
    have ho := h.own a ha
    rcases ho.2 with ⟨hv, hx⟩ | ⟨r, c, cur, hv, hr, hb, h1, h2, h3, h4⟩
    · have := hL a ha
      omega
    · rw [hL a ha] at hv h1
      refine ⟨r, c, cur, hv, hr, hb, h1, by unfold maxLen at h2; omega, fun j hj => ?_⟩
      rw [hv, hL a ha] at ho
      have h5 := World.ownsRow.cellAt ho j (by omega)
      rw [show w.cell? ⟨r, j, none⟩ = cur[j]? from cell_of_row w r j cur _ (0, 0) hb, Sha.ints_at _ _ _ (by rw [hL a ha]; exact hj)] at h5
      exact h5
  have vb : ∀ a, a < na → V a = .slice (some ⟨slBlk (V a), 0, none⟩) m (slCap (V a)) ∧ N ≤ slBlk (V a) ∧ m ≤ slCap (V a) ∧ slCap (V a) ≤ 9223372036854775807 ∧ RowOf w (slBlk (V a)) m (fun i => at_ (L a) i) := by
    intro a ha
    obtain ⟨r, c, cur, hv, hr, hb, h1, h2, h3⟩ := sh a ha
    rw [hv]
    exact ⟨rfl, hr, h1, h2, cur, hb, h3⟩
  obtain ⟨cur, c1, c2⟩ := h.hg
  have hlo := h.lo
  refine ⟨_, ⟨g, na, fun a => slBlk (V a), fun a => slCap (V a), h.hT, h.hp, ⟨cur, c1, fun a ha => by rw [c2 a ha, ← (vb a ha).1]⟩, ⟨Nat.le_refl _, by omega⟩, fun a ha => (vb a ha).2.2, fun a b ha hb hab => ?_, rfl⟩, ?_⟩
  · by_cases e : a = b
    · exact e
    · exfalso
      refine h.ap a b ha hb e (slBlk (V a)) ?_ ?_
      · rw [(vb a ha).1]; rfl
      · rw [(vb b hb).1]
        show some (slBlk (V b)) = some (slBlk (V a))
        rw [hab]
  · intro k hk
    simp only [List.mem_cons, List.mem_map, List.mem_range] at hk
    rcases hk with rfl | rfl | ⟨a, ha, rfl⟩
    · exact hlo.1
    · exact hlo.2.1
    · exact (vb a ha).2.1
end
theorem info_row : (Try.prog.info? 41).map (fun i => (i.zero, i.size, i.bytes)) = some (some (.slice none 0 0), 1, 24) := by kernel_rfl
/-- make([][]int, n): a new row of rows that have nothing -/
theorem make_rows (w : World) (n : Nat) (hn : n ≤ 100) : ∃ w', (Instr.makeSlice 22 (.int .i64 (n : Int)) (.int .i64 (n : Int))).run Try.prog w = .ok (.slice (some ⟨w.heap.size, 0, none⟩) n n) w' ∧ Blk w' w.heap.size 41 (List.replicate n (Value.slice none 0 0)).toArray ∧ Below w.heap.size w w' := by
  obtain ⟨iu, hi, hz0, hz1, hz2⟩ := info_parts info_row
  obtain ⟨w', hm, own, gr⟩ := run_makeSlice_full (P := Try.prog) w w.heap.size 22 41 iu _ 1 Try.underlying22 hi hz0 hz1 .i64 .i64 n (by omega) (by rw [hz2]; omega) (by unfold maxLen; omega) (Nat.le_refl _)
  refine ⟨w', hm, ?_, ⟨gr.os, gr.tape, gr.output, gr.size, fun k hk => gr.block k hk (by simp)⟩⟩
  have e : (madeCells (Value.slice none 0 0).cells (n * 1)).toList = List.replicate n (Value.slice none 0 0) := by
    rw [show (Value.slice none 0 0).cells = #[.slice none 0 0] from rfl, toList_madeCells_one, Nat.mul_one]
  rw [e] at own
  rcases own.2 with ⟨h0, -⟩ | ⟨g, cap, cur, hv, -, hh, h1, -, hs, ht⟩
  · cases h0
  · have hv2 : w.heap.size = g ∧ n = cap := by
      have := hv
      simp only [Value.slice.injEq, Option.some.injEq, Addr.mk.injEq] at this
      omega
    obtain ⟨hg, rfl⟩ := hv2
    rw [hg]
    have : cur = (List.replicate n (Value.slice none 0 0)).toArray := by
      apply Array.toList_inj.1
      rw [List.take_of_length_le (by simp; omega)] at ht
      rw [ht]
    rw [← this]
    exact hh
end Go.Proofs.Ytlgeckgeiknmjaa.Purse
