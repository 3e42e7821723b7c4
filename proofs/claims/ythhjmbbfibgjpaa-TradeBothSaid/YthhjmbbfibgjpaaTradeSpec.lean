/-
  Chapter 18: trades, and what both sides say, as values. No program in sight.
-/
import Derived.Test.YthhjmbbfibgjpaaPure
namespace Go.Proofs.Ythhjmbbfibgjpaa.Trade
open Go.Proofs.Ythhjmbbfibgjpaa.Sha

/-- a trade -/
structure TV where
  id : Int
  buyer : Int
  seller : Int
  cash : Int
  price : Int
  asset : Int
  qty : Int
theorem TV.same {a b : TV} (h : a.id = b.id ∧ a.buyer = b.buyer ∧ a.seller = b.seller ∧ a.cash = b.cash ∧ a.price = b.price ∧ a.asset = b.asset ∧ a.qty = b.qty) : a = b := by
  obtain ⟨a1, a2, a3, a4, a5, a6, a7⟩ := a
  obtain ⟨b1, b2, b3, b4, b5, b6, b7⟩ := b
  obtain ⟨h1, h2, h3, h4, h5, h6, h7⟩ := h
  dsimp only at h1 h2 h3 h4 h5 h6 h7
  subst h1 h2 h3 h4 h5 h6 h7
  rfl
instance : DecidableEq TV := fun a b => decidable_of_iff (a.id = b.id ∧ a.buyer = b.buyer ∧ a.seller = b.seller ∧ a.cash = b.cash ∧ a.price = b.price ∧ a.asset = b.asset ∧ a.qty = b.qty) ⟨TV.same, fun h => by subst h; simp⟩
/-- what one says -/
structure CV where
  who : Int
  t : TV
def belowB (n m : Int) : Bool := decide (0 ≤ n ∧ n < m)
def someB (n : Int) : Bool := decide (0 < n ∧ n ≤ 4611686018427387904)
def okT (t : TV) (p c a : Int) : Bool := belowB t.id 65536 && (belowB t.buyer p && (belowB t.seller p && (belowB t.cash c && (belowB t.asset a && (someB t.price && someB t.qty)))))
def mayE (t : TV) (p c a : Int) : Int := if okT t p c a = true then (if t.buyer = t.seller then 14 else 0) else 1
def newOk (p c a : Int) : Bool := decide (2 ≤ p ∧ p ≤ 16) && (decide (1 ≤ c ∧ c ≤ 4) && decide (1 ≤ a ∧ a ≤ 4))
def hasC (l : List CV) (who id : Int) : Bool := l.any (fun c => decide (c.who = who) && decide (c.t.id = id))
def sideB (who : Int) (t : TV) : Bool := decide (who = t.buyer) || decide (who = t.seller)
def putE (p c a : Int) (l : List CV) (who : Int) (t : TV) : Int :=
  if mayE t p c a = 0 then (if sideB who t = true then (if hasC l who t.id = true then 15 else if l.length = 400 then 12 else 0) else 14) else mayE t p c a
def putC (p c a : Int) (l : List CV) (who : Int) (t : TV) : List CV := if putE p c a l who t = 0 then l ++ [⟨who, t⟩] else l
def ofID (i : Int) (l : List TV) : List TV := l.filter (fun t => decide (t.id = i))
/-- the first one that comes again -/
def alike : List TV → Option TV
  | [] => none
  | t :: l => if t ∈ l then some t else alike l
def insI (i : Int) : List Int → List Int
  | [] => [i]
  | k :: l => if k < i then k :: insI i l else if k = i then k :: l else i :: k :: l
def ids (l : List TV) : List Int := l.foldl (fun o t => insI t.id o) []
def matched (l : List TV) : List TV := (ids l).filterMap (fun i => alike (ofID i l))
def openI (l : List TV) : List Int := (ids l).filter (fun i => (alike (ofID i l)).isNone)
def tr (l : List CV) : List TV := l.map CV.t

theorem insI_mem (i j : Int) (l : List Int) : j ∈ insI i l ↔ j = i ∨ j ∈ l := by
  induction l with
  | nil => simp [insI]
  | cons k l ih =>
    unfold insI
    split
    · simp only [List.mem_cons, ih]
      constructor
      · rintro (h | h | h) <;> simp [h]
      · rintro (h | h | h) <;> simp [h]
    · split
      · rename_i e; subst e; simp
      · simp
theorem insI_rise (i : Int) (l : List Int) (h : l.Pairwise (· < ·)) : (insI i l).Pairwise (· < ·) := by
  induction l with
  | nil => simp [insI]
  | cons k l ih =>
    rw [List.pairwise_cons] at h
    unfold insI
    split
    · rename_i hk
      rw [List.pairwise_cons]
      refine ⟨fun a ha => ?_, ih h.2⟩
      rcases (insI_mem i a l).1 ha with rfl | ha
      · exact hk
      · exact h.1 a ha
    · split
      · exact List.pairwise_cons.2 h
      · rename_i h1 h2
        refine List.pairwise_cons.2 ⟨fun a ha => ?_, List.pairwise_cons.2 h⟩
        rcases List.mem_cons.1 ha with rfl | ha
        · omega
        · have := h.1 a ha; omega
theorem ids_snoc (l : List TV) (t : TV) : ids (l ++ [t]) = insI t.id (ids l) := by simp [ids, List.foldl_append]
theorem snoc_ind {α : Type} {P : List α → Prop} (h0 : P []) (h1 : ∀ l x, P l → P (l ++ [x])) (l : List α) : P l := by
  have : ∀ r : List α, P r.reverse := fun r => by
    induction r with
    | nil => exact h0
    | cons x r ih => rw [List.reverse_cons]; exact h1 _ _ ih
  simpa using this l.reverse
theorem ids_mem (i : Int) (l : List TV) : i ∈ ids l ↔ ∃ t ∈ l, t.id = i := by
  induction l using snoc_ind with
  | h0 => simp [ids]
  | h1 l x ih =>
    rw [ids_snoc, insI_mem, ih]
    constructor
    · rintro (rfl | ⟨t, ht, rfl⟩)
      · exact ⟨x, by simp, rfl⟩
      · exact ⟨t, by simp [ht], rfl⟩
    · rintro ⟨t, ht, rfl⟩
      rcases List.mem_append.1 ht with ht | ht
      · exact .inr ⟨t, ht, rfl⟩
      · rw [List.mem_singleton] at ht; subst ht; exact .inl rfl
theorem ids_rise (l : List TV) : (ids l).Pairwise (· < ·) := by
  induction l using snoc_ind with
  | h0 => simp [ids]
  | h1 l x ih => rw [ids_snoc]; exact insI_rise _ _ ih
theorem insI_len (i : Int) (l : List Int) : (insI i l).length ≤ l.length + 1 := by
  induction l with
  | nil => simp [insI]
  | cons k l ih =>
    unfold insI
    split
    · simp; omega
    · split <;> simp
theorem ids_len (l : List TV) : (ids l).length ≤ l.length := by
  induction l using snoc_ind with
  | h0 => simp [ids]
  | h1 l x ih => rw [ids_snoc]; have := insI_len x.id (ids l); simp; omega
/-- one that is there: the numbers stay -/
theorem insI_same {i : Int} {l : List Int} (hr : l.Pairwise (· < ·)) (h : i ∈ l) : insI i l = l := by
  induction l with
  | nil => cases h
  | cons k l ih =>
    rw [List.pairwise_cons] at hr
    unfold insI
    by_cases e : k = i
    · subst e; simp
    · have hm : i ∈ l := (List.mem_cons.1 h).resolve_left (fun e' => e e'.symm)
      have := hr.1 i hm
      rw [if_pos this, ih hr.2 hm]
theorem ofID_snoc (i : Int) (l : List TV) (t : TV) : ofID i (l ++ [t]) = ofID i l ++ (if t.id = i then [t] else []) := by
  unfold ofID
  rw [List.filter_append]
  by_cases h : t.id = i <;> simp [h]
theorem ofID_id {i : Int} {l : List TV} {t : TV} (h : t ∈ ofID i l) : t ∈ l ∧ t.id = i := by simpa [ofID] using h
theorem ofID_len (i : Int) (l : List TV) : (ofID i l).length ≤ l.length := List.length_filter_le _ _
theorem ofID_nil {i : Int} {l : List TV} (h : i ∉ ids l) : ofID i l = [] := by
  refine List.eq_nil_iff_forall_not_mem.2 fun t ht => h ?_
  obtain ⟨h1, h2⟩ := ofID_id ht
  exact (ids_mem i l).2 ⟨t, h1, h2⟩
theorem ofID_some {i : Int} {l : List TV} (h : i ∈ ids l) : ∃ t r, ofID i l = t :: r ∧ t.id = i := by
  obtain ⟨t, ht, hi⟩ := (ids_mem i l).1 h
  cases hl : ofID i l with
  | nil =>
    have : t ∈ ofID i l := by simp [ofID, ht, hi]
    rw [hl] at this; cases this
  | cons u r => exact ⟨u, r, rfl, (ofID_id (by rw [hl]; simp : u ∈ ofID i l)).2⟩
theorem alike_drop {l : List TV} {k : Nat} {t : TV} (h : l[k]? = some t) : alike (l.drop k) = if t ∈ l.drop (k + 1) then some t else alike (l.drop (k + 1)) := by
  have hk : k < l.length := (List.getElem?_eq_some_iff.1 h).1
  rw [List.drop_eq_getElem_cons hk]
  have : l[k] = t := (List.getElem?_eq_some_iff.1 h).2
  rw [this]; rfl
theorem alike_mem {l : List TV} {t : TV} (h : alike l = some t) : t ∈ l := by
  induction l with
  | nil => cases h
  | cons u l ih =>
    unfold alike at h
    split at h
    · injection h with h; subst h; simp
    · simp [ih h]
/-- the document's: where the first of an ID that comes again lies; -1 -/
def pairK (i : Int) : List TV → Nat → Int
  | [], _ => -1
  | t :: l, k => if t.id = i ∧ t ∈ l then (k : Int) else pairK i l (k + 1)
theorem pair_cases (i : Int) (l : List TV) (k : Nat) : (pairK i l k = -1 ∧ alike (ofID i l) = none) ∨ ∃ (j : Nat) (t : TV), pairK i l k = ((k + j : Nat) : Int) ∧ l[j]? = some t ∧ alike (ofID i l) = some t := by
  induction l generalizing k with
  | nil => exact .inl ⟨rfl, rfl⟩
  | cons t l ih =>
    unfold pairK
    by_cases h : t.id = i
    · have e : ofID i (t :: l) = t :: ofID i l := by simp [ofID, h]
      by_cases h2 : t ∈ l
      · rw [if_pos ⟨h, h2⟩]
        refine .inr ⟨0, t, by simp, rfl, ?_⟩
        rw [e]
        unfold alike
        rw [if_pos (by simp [ofID, h, h2])]
      · rw [if_neg (fun x => h2 x.2)]
        have e2 : alike (ofID i (t :: l)) = alike (ofID i l) := by
          rw [e]
          show (if t ∈ ofID i l then some t else alike (ofID i l)) = _
          rw [if_neg (fun x => h2 (ofID_id x).1)]
        rcases ih (k + 1) with ⟨a, b⟩ | ⟨j, u, a, b, c⟩
        · exact .inl ⟨a, e2.trans b⟩
        · exact .inr ⟨j + 1, u, by rw [a]; congr 1; omega, by simpa using b, e2.trans c⟩
    · have e : ofID i (t :: l) = ofID i l := by simp [ofID, h]
      rw [if_neg (fun x => h x.1), e]
      rcases ih (k + 1) with ⟨a, b⟩ | ⟨j, u, a, b, c⟩
      · exact .inl ⟨a, b⟩
      · exact .inr ⟨j + 1, u, by rw [a]; congr 1; omega, by simpa using b, c⟩
theorem pairK_drop {i : Int} {l : List TV} {k : Nat} {t : TV} (h : l[k]? = some t) : pairK i (l.drop k) k = if t.id = i ∧ t ∈ l.drop (k + 1) then (k : Int) else pairK i (l.drop (k + 1)) (k + 1) := by
  have hk : k < l.length := (List.getElem?_eq_some_iff.1 h).1
  rw [List.drop_eq_getElem_cons hk]
  have : l[k] = t := (List.getElem?_eq_some_iff.1 h).2
  rw [this]; rfl
theorem has_take {C : List CV} {k : Nat} {u : CV} {who id : Int} (h : C[k]? = some u) : hasC (C.take (k + 1)) who id = (hasC (C.take k) who id || (decide (u.who = who) && decide (u.t.id = id))) := by
  obtain ⟨hk, rfl⟩ := List.getElem?_eq_some_iff.1 h
  unfold hasC
  rw [List.take_add_one, List.getElem?_eq_getElem hk, List.any_append]
  simp
theorem has_yes {C : List CV} {k : Nat} {u : CV} {who id : Int} (h : C[k]? = some u) (h1 : u.who = who) (h2 : u.t.id = id) : hasC C who id = true := by
  unfold hasC
  rw [List.any_eq_true]
  exact ⟨u, List.mem_of_getElem? h, by simp [h1, h2]⟩
theorem sideB_cases (who : Int) (t : TV) : ((who != t.buyer) = true ∧ (who != t.seller) = true ∧ sideB who t = false) ∨ ((who != t.buyer) = false ∧ sideB who t = true) ∨ ((who != t.buyer) = true ∧ (who != t.seller) = false ∧ sideB who t = true) := by
  unfold sideB
  by_cases h1 : who = t.buyer
  · exact .inr (.inl ⟨by simpa using h1, by simp [h1]⟩)
  · by_cases h2 : who = t.seller
    · exact .inr (.inr ⟨by simpa using h1, by simpa using h2, by simp [h2]⟩)
    · exact .inl ⟨by simpa using h1, by simpa using h2, by simp [h1, h2]⟩
end Go.Proofs.Ythhjmbbfibgjpaa.Trade
