/-
  Rows of whole numbers behind a struct's one field: a Purse in memory, the code's and the document's.
-/
import Derived.Test.YtlgeckgeiknmjaaPurseSpec
import Derived.Test.YtlgeckgeiknmjaaMem
import Derived.Test.YtlgeckgeiknmjaaNumInts
namespace Go.Proofs.Ytlgeckgeiknmjaa.Purse
open Go.RowKit Go.Proofs.Ytlgeckgeiknmjaa.Sha

/-- a row of whole numbers at block r: the first m are h -/
def RowOf (w : World) (r m : Nat) (h : Nat → Int) : Prop := ∃ cur : Array Value, Blk w r 3 cur ∧ ∀ j, j < m → cur[j]? = some (.int .i64 (h j))
/-- the row behind the struct at p: n rows of m numbers each; where they lie -/
structure MxAt (T : TypeId) (w : World) (F : List Nat) (p n m : Nat) (f : Nat → Nat → Int) (g c : Nat) (R C : Nat → Nat) : Prop where
  hT : T ≠ 41 ∧ T ≠ 3
  hp : Blk w p T #[.slice (some ⟨g, 0, none⟩) n c]
  hg : ∃ cur : Array Value, Blk w g 41 cur ∧ ∀ i, i < n → cur[i]? = some (.slice (some ⟨R i, 0, none⟩) m (C i))
  hc : n ≤ c ∧ c ≤ 9223372036854775807
  hr : ∀ i, i < n → m ≤ C i ∧ C i ≤ 9223372036854775807 ∧ RowOf w (R i) m (f i)
  inj : ∀ i j, i < n → j < n → R i = R j → i = j
  hF : F = p :: g :: (List.range n).map R
def Mx (T : TypeId) (w : World) (F : List Nat) (p n m : Nat) (f : Nat → Nat → Int) : Prop := ∃ g c R C, MxAt T w F p n m f g c R C
section
variable {T : TypeId} {w w' : World} {F G : List Nat} {p n m g c : Nat} {f : Nat → Nat → Int} {R C : Nat → Nat}
theorem RowOf.lt {r : Nat} {h : Nat → Int} (k : RowOf w r m h) : r < w.heap.size := by obtain ⟨cur, h1, -⟩ := k; exact h1.lt
theorem RowOf.bar {r : Nat} {h : Nat → Int} {l : List Nat} (k : RowOf w r m h) (b : Bar l w w') (hr : r ∉ l) : RowOf w' r m h := by
  obtain ⟨cur, h1, h2⟩ := k
  exact ⟨cur, h1.bar b hr, h2⟩
theorem MxAt.gt (h : MxAt T w F p n m f g c R C) : g < w.heap.size := by obtain ⟨cur, h1, -⟩ := h.hg; exact h1.lt
theorem MxAt.mem (h : MxAt T w F p n m f g c R C) {k : Nat} : k ∈ F ↔ k = p ∨ k = g ∨ ∃ i, i < n ∧ R i = k := by
  rw [h.hF]; simp
theorem MxAt.lts (h : MxAt T w F p n m f g c R C) : ∀ k ∈ F, k < w.heap.size := by
  intro k hk
  rcases h.mem.1 hk with rfl | rfl | ⟨i, hi, rfl⟩
  · exact h.hp.lt
  · exact h.gt
  · exact (h.hr i hi).2.2.lt
theorem MxAt.keep (h : MxAt T w F p n m f g c R C) (b : Bar G w w') (j : Disj F G) : MxAt T w' F p n m f g c R C := by
  obtain ⟨cur, h1, h2⟩ := h.hg
  exact ⟨h.hT, h.hp.bar b (j p (h.mem.2 (.inl rfl))), ⟨cur, h1.bar b (j g (h.mem.2 (.inr (.inl rfl)))), h2⟩, h.hc, fun i hi => ⟨(h.hr i hi).1, (h.hr i hi).2.1, (h.hr i hi).2.2.bar b (j _ (h.mem.2 (.inr (.inr ⟨i, hi, rfl⟩))))⟩, h.inj, h.hF⟩
theorem MxAt.p0 (h : MxAt T w F p n m f g c R C) : w.cell? ⟨p, 0, none⟩ = some (.slice (some ⟨g, 0, none⟩) n c) := h.hp.cell 0
theorem MxAt.gi (h : MxAt T w F p n m f g c R C) {i : Nat} (hi : i < n) : w.cell? ⟨g, i, none⟩ = some (.slice (some ⟨R i, 0, none⟩) m (C i)) := by
  obtain ⟨cur, h1, h2⟩ := h.hg
  rw [h1.cell, h2 i hi]
theorem MxAt.rij (h : MxAt T w F p n m f g c R C) {i j : Nat} (hi : i < n) (hj : j < m) : w.cell? ⟨R i, j, none⟩ = some (.int .i64 (f i j)) := by
  obtain ⟨cur, h1, h2⟩ := (h.hr i hi).2.2
  rw [h1.cell, h2 j hj]
theorem MxAt.fz (h : MxAt T w F p n m f g c R C) {i : Nat} (hi : i < n) (j : Nat) : w.frozen? ⟨R i, j, none⟩ = false := by
  obtain ⟨cur, h1, h2⟩ := (h.hr i hi).2.2
  exact h1.frozen j
theorem MxAt.ints (h : MxAt T w F p n m f g c R C) {i : Nat} (hi : i < n) : Num.Ints w (some ⟨R i, 0, none⟩) m ((List.range m).map (f i)) :=
  ⟨by simp, by have := (h.hr i hi).1; have := (h.hr i hi).2.1; omega, .inr ⟨R i, 0, rfl, fun j hj => by rw [Nat.zero_add, h.rij hi hj]; simp [hj]⟩⟩
theorem MxAt.ne_pg (h : MxAt T w F p n m f g c R C) : p ≠ g := by obtain ⟨cur, h1, -⟩ := h.hg; exact blk_ne h.hp h1 h.hT.1
theorem MxAt.ne_pr (h : MxAt T w F p n m f g c R C) {i : Nat} (hi : i < n) : p ≠ R i := by obtain ⟨cur, h1, -⟩ := (h.hr i hi).2.2; exact blk_ne h.hp h1 h.hT.2
theorem MxAt.ne_gr (h : MxAt T w F p n m f g c R C) {i : Nat} (hi : i < n) : g ≠ R i := by
  obtain ⟨cur, h1, -⟩ := (h.hr i hi).2.2
  obtain ⟨cur', h2, -⟩ := h.hg
  exact blk_ne h2 h1 (by decide)
/-- one number is turned -/
theorem MxAt.set (h : MxAt T w F p n m f g c R C) {i : Nat} (hi : i < n) (j : Nat) (x : Int) : MxAt T (w.setCell ⟨R i, j, none⟩ (.int .i64 x)) F p n m (upd f i j x) g c R C := by
  have b : Bar [R i] w (w.setCell ⟨R i, j, none⟩ (.int .i64 x)) := (Bar.refl _ w).setCell (by simp) _
  obtain ⟨cur, h1, h2⟩ := h.hg
  refine ⟨h.hT, h.hp.bar b (by simpa using h.ne_pr hi), ⟨cur, h1.bar b (by simpa using h.ne_gr hi), h2⟩, h.hc, fun k hk => ⟨(h.hr k hk).1, (h.hr k hk).2.1, ?_⟩, h.inj, h.hF⟩
  by_cases e : k = i
  · subst e
    obtain ⟨cs, k1, k2⟩ := (h.hr k hk).2.2
    refine ⟨_, k1.set_ j (.int .i64 x), fun q hq => ?_⟩
    rw [Array.getElem?_setIfInBounds]
    by_cases e2 : j = q
    · subst e2
      rw [if_pos rfl, if_pos (Array.getElem?_eq_some_iff.1 (k2 j hq)).1, upd_same]
    · rw [if_neg e2, upd_other _ _ _ _ (by omega), k2 q hq]
  · have : RowOf w (R k) m (upd f i j x k) := by
      obtain ⟨cs, k1, k2⟩ := (h.hr k hk).2.2
      exact ⟨cs, k1, fun q hq => by rw [upd_other _ _ _ _ (by simp [e]), k2 q hq]⟩
    exact this.bar b (by simpa using fun e2 => e (h.inj k i hk hi e2))
theorem MxAt.fp (h : MxAt T w F p n m f g c R C) {i j : Nat} (hi : i < n) (u : Value) : Fp F F w (w.setCell ⟨R i, j, none⟩ u) :=
  ⟨(Bar.refl _ w).setCell (.inl (h.mem.2 (.inr (.inr ⟨i, hi, rfl⟩)))) _, fun _ hk => .inl hk⟩
theorem Mx.lts (h : Mx T w F p n m f) : ∀ k ∈ F, k < w.heap.size := by obtain ⟨g, c, R, C, h⟩ := h; exact h.lts
theorem Mx.keep (h : Mx T w F p n m f) (b : Bar G w w') (j : Disj F G) : Mx T w' F p n m f := by obtain ⟨g, c, R, C, h⟩ := h; exact ⟨g, c, R, C, h.keep b j⟩
theorem Mx.below (h : Mx T w F p n m f) (b : Below w.heap.size w w') : Mx T w' F p n m f := h.keep (barOf b []) (fun _ _ => by simp)
theorem Mx.congr {f' : Nat → Nat → Int} (h : Mx T w F p n m f) (e : ∀ i j, i < n → j < m → f' i j = f i j) : Mx T w F p n m f' := by
  obtain ⟨g, c, R, C, h⟩ := h
  exact ⟨g, c, R, C, h.hT, h.hp, h.hg, h.hc, fun i hi => ⟨(h.hr i hi).1, (h.hr i hi).2.1, by
    obtain ⟨cs, k1, k2⟩ := (h.hr i hi).2.2
    exact ⟨cs, k1, fun q hq => by rw [e i q hi hq, k2 q hq]⟩⟩, h.inj, h.hF⟩
end
end Go.Proofs.Ytlgeckgeiknmjaa.Purse
