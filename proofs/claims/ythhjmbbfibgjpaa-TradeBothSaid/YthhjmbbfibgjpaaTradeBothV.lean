/-
  The law TradeBoth, over plain values.
-/
import Derived.Test.YthhjmbbfibgjpaaTradeSpec
namespace Go.Proofs.Ythhjmbbfibgjpaa.Trade
open Go.Proofs.Ythhjmbbfibgjpaa.Sha

/-- what holds of all that was confirmed: each by one of its two sides, of each ID at most once by each -/
structure Wf (C : List CV) : Prop where
  side : ∀ z ∈ C, sideB z.who z.t = true
  diff : ∀ z ∈ C, z.t.buyer ≠ z.t.seller
  once : C.Pairwise (fun x y => ¬ (x.who = y.who ∧ x.t.id = y.t.id))
theorem Wf.nil : Wf [] := ⟨by simp, by simp, .nil⟩
theorem Wf.put {p c a : Int} {C : List CV} (h : Wf C) {who : Int} {t : TV} (hp : putE p c a C who t = 0) : Wf (C ++ [⟨who, t⟩]) := by
  unfold putE at hp
  by_cases hm : mayE t p c a = 0
  · rw [if_pos hm] at hp
    by_cases hs : sideB who t = true
    · rw [if_pos hs] at hp
      by_cases hh : hasC C who t.id = true
      · rw [if_pos hh] at hp; omega
      · have hd : t.buyer ≠ t.seller := by
          unfold mayE at hm
          split at hm
          · split at hm
            · omega
            · assumption
          · omega
        refine ⟨fun z hz => ?_, fun z hz => ?_, ?_⟩
        · rcases List.mem_append.1 hz with hz | hz
          · exact h.side z hz
          · rw [List.mem_singleton] at hz; subst hz; exact hs
        · rcases List.mem_append.1 hz with hz | hz
          · exact h.diff z hz
          · rw [List.mem_singleton] at hz; subst hz; exact hd
        · refine List.pairwise_append.2 ⟨h.once, List.pairwise_singleton _ _, fun x hx y hy hxy => hh ?_⟩
          rw [List.mem_singleton] at hy
          subst hy
          unfold hasC
          rw [List.any_eq_true]
          exact ⟨x, hx, by simp [hxy.1, hxy.2]⟩
    · rw [if_neg hs] at hp; omega
  · rw [if_neg hm] at hp; exact absurd hp hm
/-- how many of these said t -/
def cnt (t : TV) (C : List CV) : Nat := C.countP (fun z => decide (z.t = t))
theorem cnt_snoc {t : TV} {C : List CV} {z : CV} : cnt t (C ++ [z]) = cnt t C + (if z.t = t then 1 else 0) := by
  unfold cnt
  rw [List.countP_append, List.countP_singleton]
  by_cases h : z.t = t <;> simp [h]
/-- at most one of a kind of who, whose ID is i -/
theorem one_of {C : List CV} (h : C.Pairwise (fun x y => ¬ (x.who = y.who ∧ x.t.id = y.t.id))) (w : Int) (t : TV) : C.countP (fun z => decide (z.t = t) && decide (z.who = w)) ≤ 1 := by
  induction C with
  | nil => simp
  | cons x C ih =>
    rw [List.pairwise_cons] at h
    rw [List.countP_cons]
    by_cases hx : x.t = t ∧ x.who = w
    · have : C.countP (fun z => decide (z.t = t) && decide (z.who = w)) = 0 := by
        rw [List.countP_eq_zero]
        intro y hy hyt
        simp only [Bool.and_eq_true, decide_eq_true_eq] at hyt
        exact h.1 y hy ⟨by rw [hx.2, hyt.2], by rw [hx.1, hyt.1]⟩
      rw [this]; simp; split <;> omega
    · have e : (decide (x.t = t) && decide (x.who = w)) = false := by
        simp only [Bool.and_eq_false_iff, decide_eq_false_iff_not]
        by_cases h1 : x.t = t
        · exact .inr (fun h2 => hx ⟨h1, h2⟩)
        · exact .inl h1
      have := ih h.2
      rw [e]; simp; exact this
theorem cnt_two {C : List CV} (h : Wf C) (t : TV) : cnt t C ≤ 2 := by
  have h1 := one_of h.once t.buyer t
  have h2 := one_of h.once t.seller t
  have e : cnt t C ≤ C.countP (fun z => decide (z.t = t) && decide (z.who = t.buyer)) + C.countP (fun z => decide (z.t = t) && decide (z.who = t.seller)) := by
    have hs := h.side
    clear h h1 h2
    induction C with
    | nil => simp [cnt]
    | cons x C ih =>
      have ih := ih (fun z hz => hs z (by simp [hz]))
      have hx := hs x (by simp)
      unfold cnt at ih ⊢
      simp only [List.countP_cons]
      by_cases ht : x.t = t
      · have : x.who = t.buyer ∨ x.who = t.seller := by
          unfold sideB at hx
          rw [ht] at hx
          simpa using hx
        rcases this with hw | hw
        · simp [ht, hw]; omega
        · simp [ht, hw]; omega
      · simp [ht]; exact ih
  omega
/-- one that comes again is there twice -/
theorem alike_two {l : List TV} {t : TV} (h : alike l = some t) : 2 ≤ l.countP (fun z => decide (z = t)) := by
  induction l with
  | nil => cases h
  | cons u l ih =>
    unfold alike at h
    rw [List.countP_cons]
    split at h
    · rename_i hm
      injection h with h
      subst h
      have : 1 ≤ l.countP (fun z => decide (z = u)) := List.countP_pos_iff.2 ⟨u, hm, by simp⟩
      simp; omega
    · have := ih h
      omega
theorem cnt_tr (t : TV) (C : List CV) : cnt t C = (tr C).countP (fun z => decide (z = t)) := by
  unfold cnt tr
  rw [List.countP_map]
  rfl
theorem cnt_of {i : Int} {l : List TV} {t : TV} : (ofID i l).countP (fun z => decide (z = t)) ≤ l.countP (fun z => decide (z = t)) := List.Sublist.countP_le List.filter_sublist
/-- what is matched was said by two -/
theorem mat_two {C : List CV} (h : Wf C) {t : TV} (hm : t ∈ matched (tr C)) : cnt t C = 2 := by
  unfold matched at hm
  obtain ⟨i, -, ha⟩ := List.mem_filterMap.1 hm
  have h1 := alike_two ha
  have h2 := cnt_of (i := i) (l := tr C) (t := t)
  have h3 := cnt_two h t
  rw [cnt_tr] at h3 ⊢
  omega
theorem mat_id {l : List TV} {t : TV} (hm : t ∈ matched l) : t.id ∈ ids l ∧ alike (ofID t.id l) = some t := by
  unfold matched at hm
  obtain ⟨i, hi, ha⟩ := List.mem_filterMap.1 hm
  have := (ofID_id (alike_mem ha)).2
  subst this
  exact ⟨hi, ha⟩
theorem mat_open {l : List TV} {t : TV} (hm : t ∈ matched l) : t.id ∉ openI l := by
  intro h
  unfold openI at h
  have := (List.mem_filter.1 h).2
  rw [(mat_id hm).2] at this
  cases this
/-- each ID is open or matched -/
theorem open_or {l : List TV} {u : TV} (hu : u ∈ l) : u.id ∈ openI l ∨ ∃ t ∈ matched l, t.id = u.id := by
  have hi : u.id ∈ ids l := (ids_mem _ _).2 ⟨u, hu, rfl⟩
  cases ha : alike (ofID u.id l) with
  | none => exact .inl (List.mem_filter.2 ⟨hi, by rw [ha]; rfl⟩)
  | some t => exact .inr ⟨t, List.mem_filterMap.2 ⟨u.id, hi, ha⟩, (ofID_id (alike_mem ha)).2⟩
/-- rising by ID -/
theorem mat_rise (l : List TV) : (matched l).Pairwise (fun a b => a.id < b.id) := by
  unfold matched
  rw [List.pairwise_filterMap]
  exact (ids_rise l).imp (fun {a b} hab t ht u hu => by
    rw [(ofID_id (alike_mem ht)).2, (ofID_id (alike_mem hu)).2]
    exact hab)
theorem mat_lt {l : List TV} {i : Nat} {t u : TV} (h1 : (matched l)[i]? = some t) (h2 : (matched l)[i + 1]? = some u) : t.id < u.id := by
  obtain ⟨a1, rfl⟩ := List.getElem?_eq_some_iff.1 h1
  obtain ⟨a2, rfl⟩ := List.getElem?_eq_some_iff.1 h2
  exact List.pairwise_iff_getElem.1 (mat_rise l) i (i + 1) a1 a2 (by omega)
/-- one that is alike stays so -/
theorem alike_more {l m : List TV} (h : (alike l).isSome = true) : (alike (l ++ m)).isSome = true := by
  induction l with
  | nil => cases h
  | cons u l ih =>
    rw [List.cons_append]
    unfold alike at h ⊢
    by_cases hm : u ∈ l
    · rw [if_pos (List.mem_append_left _ hm)]; rfl
    · rw [if_neg hm] at h
      split
      · rfl
      · exact ih h
theorem mat_count (l : List TV) : (matched l).length = (ids l).countP (fun i => (alike (ofID i l)).isSome) := by
  unfold matched
  rw [List.length_filterMap_eq_countP]
theorem ids_sub (i : Int) (l : List Int) : l.Sublist (insI i l) := by
  induction l with
  | nil => simp [insI]
  | cons k l ih =>
    unfold insI
    split
    · exact ih.cons_cons k
    · split
      · exact List.Sublist.refl _
      · exact List.sublist_cons_self _ _
/-- what was matched stays so -/
theorem mat_grow (l : List TV) (t : TV) : (matched l).length ≤ (matched (l ++ [t])).length := by
  rw [mat_count, mat_count, ids_snoc]
  refine Nat.le_trans (List.countP_mono_left (fun i _ h => ?_)) (List.Sublist.countP_le (ids_sub _ _))
  rw [ofID_snoc]
  exact alike_more h
end Go.Proofs.Ythhjmbbfibgjpaa.Trade
