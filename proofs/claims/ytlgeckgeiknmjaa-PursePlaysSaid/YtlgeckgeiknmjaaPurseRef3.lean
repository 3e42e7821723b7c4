/-
  The document's own Purse: rows that are laid one behind the other; NewPurse.
-/
import Derived.Test.YtlgeckgeiknmjaaPurseRef2
import Derived.Test.YtlgeckgeiknmjaaRowsI
import Derived.Test.YtlgeckgeiknmjaaCopyI
import Derived.Test.YtlgeckgeiknmjaaNumRSum
import Derived.Test.YtlgeckgeiknmjaaLast
import Derived.Deep.AppendLies
namespace Go.Proofs.Ytlgeckgeiknmjaa.Purse
open Go.RowKit Go.Proofs.Ytlgeckgeiknmjaa.Sha Go.Proofs.Ytlgeckgeiknmjaa.Num

/-- k rows of the call's own, in a row of the call's own, behind the struct at p -/
structure Gp (T : TypeId) (w : World) (N p k : Nat) (L : Nat → List Int) (v : Value) (V : Nat → Value) : Prop where
  hT : T ≠ 41 ∧ T ≠ 3
  hp : Blk w p T #[v]
  hv : w.ownsRow N 41 1 v k ((List.range k).map V)
  own : ∀ r, r < k → w.ownsRow N 3 1 (V r) (L r).length (Sha.ints .i64 (L r))
  ap : ∀ a b, a < k → b < k → a ≠ b → Apart (V a) (V b)
  lo : N ≤ p
section
variable {T : TypeId} {w w' : World} {N p k : Nat} {L : Nat → List Int} {v : Value} {V : Nat → Value} {o : Obj}
theorem own_ne {w : World} {b b' : Nat} {e e' : TypeId} {s s' : Nat} {u v : Value} {n m : Nat} {xs ys : List Value} (h : w.ownsRow b e s u n xs) (h' : w.ownsRow b' e' s' v m ys) (he : e ≠ e') : Apart u v := by
  intro g hu hv
  rcases h.2 with ⟨rfl, _⟩ | ⟨g1, c1, cur1, rfl, _, hg1, _⟩
  · simp [Value.ownBlock] at hu
  · rcases h'.2 with ⟨rfl, _⟩ | ⟨g2, c2, cur2, rfl, _, hg2, _⟩
    · simp [Value.ownBlock] at hv
    · simp [Value.ownBlock] at hu hv
      subst hu; subst hv
      rw [hg1] at hg2
      injection hg2 with hg2
      injection hg2 with _ hg2
      exact he hg2
theorem Gp.below (h : Gp T w N p k L v V) (b : Below w.heap.size w w') : Gp T w' N p k L v V :=
  ⟨h.hT, h.hp.below b h.hp.lt, own_keep h.hv (barOf b []) (by simp), fun r hr => own_keep (h.own r hr) (barOf b []) (by simp), h.ap, h.lo⟩
theorem Gp.p0 (h : Gp T w N p k L v V) : w.cell? ⟨p, 0, none⟩ = some v := h.hp.cell 0
theorem Gp.fz (h : Gp T w N p k L v V) : w.frozen? ⟨p, 0, none⟩ = false := h.hp.frozen 0
theorem Gp.far (h : Gp T w N p k L v V) : v.ownBlock ≠ some p := own_far h.hv h.hp (fun e => h.hT.1 e.symm)
/-- behind a row of numbers that grew beside it -/
theorem Gp.grownI (h : Gp T (w.alloc o) N p k L v V) {N' n : Nat} {u : Value} {xs : List Value} (hu : w.ownsRow N' 3 1 u n xs) (hg : (w.alloc o).grownBy w' u.ownBlock) (hap : ∀ r, r < k → Apart (V r) u) : Gp T w' N p k L v V := by
  have hu2 := hu.alloc o
  refine ⟨h.hT, h.hp.grown hg (fun e => own_far hu2 h.hp (fun e => h.hT.2 e.symm) e.symm), h.hv.kept hg ?_, fun r hr => (h.own r hr).kept hg ?_, h.ap, h.lo⟩
  · cases hq : v.ownBlock with
    | none => exact .inl rfl
    | some g => exact .inr (fun he => own_ne h.hv hu2 (by decide) g hq he.symm)
  · cases hq : (V r).ownBlock with
    | none => exact .inl rfl
    | some g => exact .inr (fun he => hap r hr g hq he.symm)
theorem Gp.apartI (h : Gp T w N p k L v V) {u v' : Value} (ap : ∀ r, r < k → Apart (V r) u) (hat : v'.ownBlock = u.ownBlock ∨ v'.ownBlock = some (w.alloc o).heap.size) : ∀ r, r < k → Apart (V r) v' := by
  intro r hr g hg he
  rcases hat with e | e
  · rw [e] at he; exact ap r hr g hg he
  · rw [e] at he
    injection he with he
    have := ((h.own r hr).lt g hg).2
    simp at he
    omega
theorem own_ints {b : Nat} {u : Value} {n : Nat} {l : List Int} (ho : w.ownsRow b 3 1 u n (Sha.ints .i64 l)) : ∃ A c, u = .slice A n c ∧ Num.Ints w A n l := by
  have hn : l.length = n := by have := ho.1; rw [ints_len] at this; omega
  rcases ho.2 with ⟨hv, hx⟩ | ⟨r, c, cur, hv, hr, hb, h1, h2, h3, h4⟩
  · subst hx
    exact ⟨none, 0, hv, hn, by omega, .inl rfl⟩
  · refine ⟨_, c, hv, hn, by unfold maxLen at h2; omega, .inr ⟨r, 0, rfl, fun i hi => ?_⟩⟩
    rw [hv] at ho
    have h5 := World.ownsRow.cellAt ho i (by omega)
    rw [Sha.ints_at _ _ _ (by omega)] at h5
    rw [Nat.zero_add, h5]
    rfl
theorem Gp.start (hT : T ≠ 41 ∧ T ≠ 3) (hp : Blk w p T #[.slice none 0 0]) (h : N ≤ p) : Gp T w N p 0 L (.slice none 0 0) V :=
  ⟨hT, hp, World.ownsRow_nil _ _ _ _, fun r hr => by omega, fun a b ha => by omega, h⟩
/-- one row more -/
theorem Gp.pushed (h : Gp T w N p k L v V) {w1 w2 : World} {u v' : Value} {l : List Int} {L' : Nat → List Int} (b1 : Below w.heap.size w w1) (hu : w1.ownsRow N 3 1 u l.length (Sha.ints .i64 l)) (hnew : ∀ q, u.ownBlock = some q → w.heap.size ≤ q)
    (hgrow : w1.grownBy w2 v.ownBlock) (hv' : w2.ownsRow N 41 1 v' (k + 1) ((List.range k).map V ++ [u])) (hL : ∀ r, r < k → L' r = L r) (hl : L' k = l) :
    Gp T (w2.setCell ⟨p, 0, none⟩ v') N p (k + 1) L' v' (fun r => if r = k then u else V r) := by
  have h1 := h.below b1
  have bs : Bar [p] w2 (w2.setCell ⟨p, 0, none⟩ v') := (Bar.refl _ w2).setCell (by simp) _
  have hp2 : Blk w2 p T #[v] := h1.hp.grown hgrow (fun e => h1.far e.symm)
  have far2 : ∀ (b : Nat) (x : Value) (n : Nat) (xs : List Value), w2.ownsRow N b 1 x n xs → T ≠ b → ∀ q ∈ x.ownBlock.toList, q ∉ [p] := by
    intro b x n xs hx hb q hq
    have := own_far hx hp2 (fun e => hb e.symm)
    simp only [Option.mem_toList] at hq
    simp only [List.mem_cons, List.not_mem_nil, or_false]
    rintro rfl
    exact this hq
  have k1 : ∀ (x : Value) (n : Nat) (xs : List Value), w1.ownsRow N 3 1 x n xs → w2.ownsRow N 3 1 x n xs := by
    intro x n xs hx
    refine hx.kept hgrow ?_
    cases hq : x.ownBlock with
    | none => exact .inl rfl
    | some g => exact .inr (fun he => own_ne hx h1.hv (by decide) g hq he.symm)
  refine ⟨h.hT, ?_, own_keep ?_ bs (far2 _ _ _ _ hv' h.hT.1), fun r hr => ?_, fun a b ha hb hab => ?_, h.lo⟩
  · have := hp2.set_ 0 v'
    simpa using this
  · have e : (List.range (k + 1)).map (fun r => if r = k then u else V r) = (List.range k).map V ++ [u] := by
      rw [List.range_succ, List.map_append]
      congr 1
      · apply List.map_congr_left
        intro r hr
        rw [List.mem_range] at hr
        rw [if_neg (by omega)]
      · simp
    rw [e]
    exact hv'
  · by_cases e : r = k
    · subst e
      simp only [if_true]
      rw [hl]
      have := k1 _ _ _ hu
      exact own_keep this bs (far2 _ _ _ _ this h.hT.2)
    · simp only [e, if_false]
      rw [hL r (by omega)]
      have := k1 _ _ _ (h1.own r (by omega))
      exact own_keep this bs (far2 _ _ _ _ this h.hT.2)
  · have old : ∀ r, r < k → ∀ q, (V r).ownBlock = some q → q < w.heap.size := fun r hr q hq => ((h.own r hr).lt q hq).2
    by_cases e : a = k
    · subst e
      have e2 : b ≠ a := fun h => hab h.symm
      simp only [if_true, e2, if_false]
      intro q hq hv
      have := hnew q hq; have := old b (by omega) q hv; omega
    · by_cases e2 : b = k
      · subst e2
        simp only [e, if_false, if_true]
        intro q hq hv
        have := hnew q hv; have := old a (by omega) q hq; omega
      · simp only [e, e2, if_false]
        exact h.ap a b (by omega) (by omega) hab
def slBlk' : Value → Nat
  | .slice (some ad) _ _ => ad.block
  | _ => 0
def slCap' : Value → Nat
  | .slice _ _ c => c
  | _ => 0
theorem Gp.mx (h : Gp T w N p k L v V) {m : Nat} (hk : 1 ≤ k) (hm : 1 ≤ m) (hL : ∀ r, r < k → (L r).length = m) : ∃ F, Mx T w F p k m (fun r i => at_ (L r) i) ∧ ∀ q ∈ F, N ≤ q := by
  have sh : ∀ a, a < k → ∃ r c cur, V a = .slice (some ⟨r, 0, none⟩) m c ∧ N ≤ r ∧ Blk w r 3 cur ∧ m ≤ c ∧ c ≤ 9223372036854775807 ∧ ∀ j, j < m → cur[j]? = some (.int .i64 (at_ (L a) j)) := by
    intro a ha
    have ho := h.own a ha
    rcases ho.2 with ⟨hv, hx⟩ | ⟨r, c, cur, hv, hr, hb, h1, h2, h3, h4⟩
    · have := hL a ha
      omega
    · rw [hL a ha] at hv h1
      refine ⟨r, c, cur, hv, hr, hb, h1, by unfold maxLen at h2; omega, fun j hj => ?_⟩
      rw [hv, hL a ha] at ho
      have h5 := World.ownsRow.cellAt ho j (by omega)
      rw [show w.cell? ⟨r, j, none⟩ = cur[j]? from cell_of_row w r j cur _ (0, 0) hb, Sha.ints_at _ _ _ (by rw [hL a ha]; exact hj)] at h5
      exact h5
  have vb : ∀ a, a < k → V a = .slice (some ⟨slBlk' (V a), 0, none⟩) m (slCap' (V a)) ∧ N ≤ slBlk' (V a) ∧ m ≤ slCap' (V a) ∧ slCap' (V a) ≤ 9223372036854775807 ∧ RowOf w (slBlk' (V a)) m (fun i => at_ (L a) i) := by
    intro a ha
    obtain ⟨r, c, cur, hv, hr, hb, h1, h2, h3⟩ := sh a ha
    rw [hv]
    exact ⟨rfl, hr, h1, h2, cur, hb, h3⟩
  have ho := h.hv
  rcases h.hv.2 with ⟨hv, hx⟩ | ⟨g, c, cur, hv, hg, hb, h1, h2, h3, h4⟩
  · omega
  · refine ⟨_, ⟨g, c, fun a => slBlk' (V a), fun a => slCap' (V a), h.hT, by rw [← hv]; exact h.hp, ⟨cur, hb, fun a ha => ?_⟩, ⟨h1, by unfold maxLen at h2; omega⟩, fun a ha => (vb a ha).2.2, fun a b ha hb hab => ?_, rfl⟩, ?_⟩
    · rw [hv] at ho
      have h5 := World.ownsRow.cellAt ho a (by omega)
      rw [show w.cell? ⟨g, a, none⟩ = cur[a]? from cell_of_row w g a cur _ (0, 0) hb] at h5
      rw [h5, ← (vb a ha).1]
      simp [ha]
    · by_cases e : a = b
      · exact e
      · exfalso
        refine h.ap a b ha hb e (slBlk' (V a)) ?_ ?_
        · rw [(vb a ha).1]; rfl
        · rw [(vb b hb).1]
          show some (slBlk' (V b)) = some (slBlk' (V a))
          rw [hab]
    · intro q hq
      simp only [List.mem_cons, List.mem_map, List.mem_range] at hq
      rcases hq with rfl | rfl | ⟨a, ha, rfl⟩
      · exact h.lo
      · exact hg
      · exact (vb a ha).2.1
end
end Go.Proofs.Ytlgeckgeiknmjaa.Purse
