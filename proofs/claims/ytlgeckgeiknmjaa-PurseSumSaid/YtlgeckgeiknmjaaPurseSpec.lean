/-
  Chapter 9 over plain values: who has what, and what each call makes of it. No program in sight; for any seat.
-/
import Derived.Test.YtlgeckgeiknmjaaNumMath
import Derived.Test.YtlgeckgeiknmjaaPure
namespace Go.Proofs.Ytlgeckgeiknmjaa.Purse
open Go.Proofs.Ytlgeckgeiknmjaa.Num Go.Proofs.Ytlgeckgeiknmjaa.Sha

/-- who has what: so many parties, so many assets; v party asset -/
structure PS where
  np : Nat
  na : Nat
  v : Nat → Nat → Int
/-- what the first k parties have of asset a -/
def tot (v : Nat → Nat → Int) : Nat → Nat → Int
  | 0, _ => 0
  | k + 1, a => tot v k a + v k a
def upd (v : Nat → Nat → Int) (i a : Nat) (x : Int) : Nat → Nat → Int := fun j b => if j = i ∧ b = a then x else v j b
theorem upd_same (v : Nat → Nat → Int) (i a : Nat) (x : Int) : upd v i a x i a = x := by simp [upd]
theorem upd_other (v : Nat → Nat → Int) (i a : Nat) (x : Int) {j b : Nat} (h : ¬ (j = i ∧ b = a)) : upd v i a x j b = v j b := by simp [upd, h]
theorem tot_upd (v : Nat → Nat → Int) (i a : Nat) (x : Int) : ∀ (k b : Nat), tot (upd v i a x) k b = tot v k b + if i < k ∧ b = a then x - v i a else 0
  | 0, b => by simp [tot]
  | k + 1, b => by
    simp only [tot, tot_upd v i a x k b]
    by_cases hb : b = a
    · subst hb
      by_cases h1 : i < k
      · rw [if_pos ⟨h1, rfl⟩, if_pos ⟨by omega, rfl⟩, upd_other _ _ _ _ (by omega)]; omega
      · by_cases h2 : i = k
        · subst h2
          rw [if_neg (by omega), if_pos ⟨by omega, rfl⟩, upd_same]; omega
        · rw [if_neg (by omega), if_neg (by omega), upd_other _ _ _ _ (by omega)]; omega
    · rw [if_neg (by simp [hb]), if_neg (by simp [hb]), upd_other _ _ _ _ (by simp [hb])]; omega
theorem tot_nonneg {v : Nat → Nat → Int} {a : Nat} : ∀ {n : Nat}, (∀ i, i < n → 0 ≤ v i a) → 0 ≤ tot v n a
  | 0, _ => by simp [tot]
  | n + 1, h => by
    have h1 := tot_nonneg (v := v) (a := a) (n := n) (fun i hi => h i (by omega))
    have h2 := h n (by omega)
    simp only [tot]; omega
theorem tot_mono {v : Nat → Nat → Int} {a : Nat} {m : Nat} : ∀ {n : Nat}, m ≤ n → (∀ i, i < n → 0 ≤ v i a) → tot v m a ≤ tot v n a
  | 0, hm, _ => by
    have : m = 0 := by omega
    subst this; exact Int.le_refl _
  | n + 1, hm, h => by
    by_cases he : m = n + 1
    · subst he; exact Int.le_refl _
    · have h1 := tot_mono (v := v) (a := a) (m := m) (n := n) (by omega) (fun i hi => h i (by omega))
      have h2 := h n (by omega)
      simp only [tot]; omega
theorem le_tot {v : Nat → Nat → Int} {a i n : Nat} (hi : i < n) (h : ∀ j, j < n → 0 ≤ v j a) : v i a ≤ tot v n a := by
  have h1 := tot_mono (v := v) (a := a) (m := i + 1) (n := n) (by omega) h
  have h2 := tot_nonneg (v := v) (a := a) (n := i) (fun j hj => h j (by omega))
  simp only [tot] at h1; omega
/-- two share of one total -/
theorem two_tot {v : Nat → Nat → Int} {a i j n : Nat} (hi : i < n) (hj : j < n) (hij : i ≠ j) (h : ∀ k, k < n → 0 ≤ v k a) : v i a + v j a ≤ tot v n a := by
  have h1 := le_tot (v := upd v i a 0) (a := a) (i := j) (n := n) hj (fun k hk => by
    by_cases e : k = i
    · subst e; rw [upd_same]; exact Int.le_refl _
    · rw [upd_other _ _ _ _ (by omega)]; exact h k hk)
  rw [upd_other _ _ _ _ (by omega), tot_upd, if_pos ⟨hi, rfl⟩] at h1
  omega
/-- what holds of every Purse -/
structure WF (s : PS) : Prop where
  p2 : 2 ≤ s.np
  p16 : s.np ≤ 16
  a1 : 1 ≤ s.na
  a4 : s.na ≤ 4
  pos : ∀ i a, i < s.np → a < s.na → 0 ≤ s.v i a
  sum : ∀ a, a < s.na → tot s.v s.np a ≤ 4611686018427387904
theorem WF.le {s : PS} (h : WF s) {i a : Nat} (hi : i < s.np) (ha : a < s.na) : 0 ≤ s.v i a ∧ s.v i a ≤ 4611686018427387904 :=
  ⟨h.pos i a hi ha, Int.le_trans (le_tot hi (fun j hj => h.pos j a hj ha)) (h.sum a ha)⟩
theorem WF.tot0 {s : PS} (h : WF s) {a : Nat} (ha : a < s.na) : 0 ≤ tot s.v s.np a := tot_nonneg (fun i hi => h.pos i a hi ha)
def isP (s : PS) (i : Int) : Bool := decide (0 ≤ i ∧ i < s.np)
def isA (s : PS) (a : Int) : Bool := decide (0 ≤ a ∧ a < s.na)
theorem isP_iff {s : PS} {i : Int} : isP s i = true ↔ 0 ≤ i ∧ i < s.np := by unfold isP; exact decide_eq_true_iff
theorem isA_iff {s : PS} {i : Int} : isA s i = true ↔ 0 ≤ i ∧ i < s.na := by unfold isA; exact decide_eq_true_iff
theorem isP_nat {s : PS} {i : Int} (h : isP s i = true) : ∃ k : Nat, i = k ∧ k < s.np := by
  obtain ⟨h1, h2⟩ := isP_iff.1 h
  exact ⟨i.toNat, by omega, by omega⟩
theorem isA_nat {s : PS} {i : Int} (h : isA s i = true) : ∃ k : Nat, i = k ∧ k < s.na := by
  obtain ⟨h1, h2⟩ := isA_iff.1 h
  exact ⟨i.toNat, by omega, by omega⟩
/-- of what there is: a number that fits -/
def fitB (s : PS) (i a n : Int) : Bool := isP s i && isA s a && amtB n
theorem fitB_iff {s : PS} {i a n : Int} : fitB s i a n = true ↔ (∃ k : Nat, i = k ∧ k < s.np) ∧ (∃ b : Nat, a = b ∧ b < s.na) ∧ 0 ≤ n ∧ n ≤ 4611686018427387904 := by
  unfold fitB
  simp only [Bool.and_eq_true, amt_iff]
  constructor
  · rintro ⟨⟨h1, h2⟩, h3⟩; exact ⟨isP_nat h1, isA_nat h2, h3⟩
  · rintro ⟨⟨k, rfl, hk⟩, ⟨b, rfl, hb⟩, h3⟩; exact ⟨⟨isP_iff.2 (by omega), isA_iff.2 (by omega)⟩, h3⟩
def hasP (s : PS) (i a : Int) : Int := if isP s i && isA s a then s.v i.toNat a.toNat else 0
def totP (s : PS) (a : Int) : Int := if isA s a then tot s.v s.np a.toNat else 0
def put (s : PS) (i a : Nat) (x : Int) : PS := { s with v := upd s.v i a x }
def giveP (s : PS) (i a n : Int) : Int × PS := if fitB s i a n && decide (totP s a + n ≤ 4611686018427387904) then (0, put s i.toNat a.toNat (s.v i.toNat a.toNat + n)) else (1, s)
def takeP (s : PS) (i a n : Int) : Int × PS := if fitB s i a n then (if s.v i.toNat a.toNat < n then (7, s) else (0, put s i.toNat a.toNat (s.v i.toNat a.toNat - n))) else (1, s)
def moveP (s : PS) (i j a n : Int) : Int × PS :=
  if fitB s i a n && isP s j then (if i = j then (14, s) else if s.v i.toNat a.toNat < n then (7, s) else
    (0, put (put s i.toNat a.toNat (s.v i.toNat a.toNat - n)) j.toNat a.toNat (s.v j.toNat a.toNat + n))) else (1, s)
/-- one balance is turned, and its total with it -/
theorem WF.put {s : PS} (h : WF s) {i a : Nat} {x : Int} (hi : i < s.np) (ha : a < s.na) (hx : 0 ≤ x) (ht : tot s.v s.np a + (x - s.v i a) ≤ 4611686018427387904) : WF (put s i a x) := by
  refine ⟨h.p2, h.p16, h.a1, h.a4, fun j b hj hb => ?_, fun b hb => ?_⟩
  · show 0 ≤ upd s.v i a x j b
    by_cases e : j = i ∧ b = a
    · obtain ⟨rfl, rfl⟩ := e; rw [upd_same]; exact hx
    · rw [upd_other _ _ _ _ e]; exact h.pos j b hj hb
  · show tot (upd s.v i a x) s.np b ≤ _
    rw [tot_upd]
    by_cases e : b = a
    · subst e; rw [if_pos ⟨hi, rfl⟩]; exact ht
    · rw [if_neg (by simp [e])]; have := h.sum b hb; omega
theorem giveP_wf {s : PS} (h : WF s) (i a n : Int) : WF (giveP s i a n).2 := by
  unfold giveP
  split
  · rename_i hc
    rw [Bool.and_eq_true, decide_eq_true_eq] at hc
    obtain ⟨⟨k, rfl, hk⟩, ⟨b, rfl, hb⟩, h0, h1⟩ := fitB_iff.1 hc.1
    have ht := hc.2
    unfold totP at ht
    rw [if_pos (isA_iff.2 ⟨by omega, by omega⟩), Int.toNat_natCast] at ht
    simp only [Int.toNat_natCast]
    exact h.put hk hb (by have := h.pos k b hk hb; omega) (by omega)
  · exact h
theorem takeP_wf {s : PS} (h : WF s) (i a n : Int) : WF (takeP s i a n).2 := by
  unfold takeP
  split
  · rename_i hc
    obtain ⟨⟨k, rfl, hk⟩, ⟨b, rfl, hb⟩, h0, h1⟩ := fitB_iff.1 hc
    simp only [Int.toNat_natCast]
    split
    · exact h
    · exact h.put hk hb (by omega) (by have := h.sum b hb; omega)
  · exact h
theorem put_np (s : PS) (i a : Nat) (x : Int) : (put s i a x).np = s.np := rfl
theorem put_na (s : PS) (i a : Nat) (x : Int) : (put s i a x).na = s.na := rfl
theorem put_v (s : PS) (i a : Nat) (x : Int) : (put s i a x).v = upd s.v i a x := rfl
theorem moveP_wf {s : PS} (h : WF s) (i j a n : Int) : WF (moveP s i j a n).2 := by
  unfold moveP
  split
  · rename_i hc
    rw [Bool.and_eq_true] at hc
    obtain ⟨⟨k, rfl, hk⟩, ⟨b, rfl, hb⟩, h0, h1⟩ := fitB_iff.1 hc.1
    obtain ⟨q, rfl, hq⟩ := isP_nat hc.2
    simp only [Int.toNat_natCast]
    split
    · exact h
    · rename_i hne
      split
      · exact h
      · have hkq : q ≠ k := fun e => hne (by rw [e])
        refine (h.put hk hb (x := s.v k b - n) (by omega) (by have := h.sum b hb; omega)).put (i := q) hq hb (by have := h.pos q b hq hb; omega) ?_
        rw [put_v, put_np, tot_upd, if_pos ⟨hk, rfl⟩, upd_other _ _ _ _ (by omega)]
        have := h.sum b hb; omega
  · exact h
theorem totP_nat {s : PS} {b : Nat} (hb : b < s.na) : totP s b = tot s.v s.np b := by
  unfold totP
  rw [if_pos (isA_iff.2 ⟨by omega, by omega⟩), Int.toNat_natCast]
theorem give_yes {s : PS} {k b : Nat} {n : Int} (hf : fitB s k b n = true) (ht : totP s b + n ≤ 4611686018427387904) : giveP s k b n = (0, put s k b (s.v k b + n)) := by
  unfold giveP
  rw [if_pos (by rw [hf, decide_eq_true ht]; rfl)]
  simp only [Int.toNat_natCast]
theorem give_no {s : PS} {i a n : Int} (h : fitB s i a n = false ∨ ¬ (totP s a + n ≤ 4611686018427387904)) : giveP s i a n = (1, s) := by
  unfold giveP
  rw [if_neg]
  rcases h with h | h <;> simp [h]
theorem take_yes {s : PS} {k b : Nat} {n : Int} (hf : fitB s k b n = true) (hn : ¬ s.v k b < n) : takeP s k b n = (0, put s k b (s.v k b - n)) := by
  unfold takeP
  rw [if_pos hf]
  simp only [Int.toNat_natCast]
  rw [if_neg hn]
theorem take_less {s : PS} {k b : Nat} {n : Int} (hf : fitB s k b n = true) (hn : s.v k b < n) : takeP s k b n = (7, s) := by
  unfold takeP
  rw [if_pos hf]
  simp only [Int.toNat_natCast]
  rw [if_pos hn]
theorem take_no {s : PS} {i a n : Int} (hf : fitB s i a n = false) : takeP s i a n = (1, s) := by
  unfold takeP
  rw [if_neg (by simp [hf])]
theorem move_no {s : PS} {i j a n : Int} (h : fitB s i a n = false ∨ isP s j = false) : moveP s i j a n = (1, s) := by
  unfold moveP
  rw [if_neg]
  rcases h with h | h <;> simp [h]
theorem move_same {s : PS} {i a n : Int} (hf : fitB s i a n = true) (hj : isP s i = true) : moveP s i i a n = (14, s) := by
  unfold moveP
  rw [if_pos (by rw [hf, hj]; rfl), if_pos rfl]
theorem move_less {s : PS} {k b : Nat} {j n : Int} (hf : fitB s k b n = true) (hj : isP s j = true) (hne : (k : Int) ≠ j) (hn : s.v k b < n) : moveP s k j b n = (7, s) := by
  unfold moveP
  rw [if_pos (by rw [hf, hj]; rfl), if_neg hne]
  simp only [Int.toNat_natCast]
  rw [if_pos hn]
theorem move_yes {s : PS} {k b q : Nat} {n : Int} (hf : fitB s k b n = true) (hj : isP s q = true) (hne : (k : Int) ≠ q) (hn : ¬ s.v k b < n) : moveP s k q b n = (0, put (put s k b (s.v k b - n)) q b (s.v q b + n)) := by
  unfold moveP
  rw [if_pos (by rw [hf, hj]; rfl), if_neg hne]
  simp only [Int.toNat_natCast]
  rw [if_neg hn]
theorem totP_put {s : PS} {i b : Nat} (hi : i < s.np) (hb : b < s.na) (x : Int) : totP (put s i b x) b = totP s b + (x - s.v i b) := by
  rw [totP_nat (s := put s i b x) hb, totP_nat hb]
  show tot (upd s.v i b x) s.np b = _
  rw [tot_upd, if_pos ⟨hi, rfl⟩]
theorem fitB_at {s : PS} {i b : Nat} {n : Int} (hi : i < s.np) (hb : b < s.na) (h0 : 0 ≤ n) (h1 : n ≤ 4611686018427387904) : fitB s i b n = true := fitB_iff.2 ⟨⟨i, rfl, hi⟩, ⟨b, rfl, hb⟩, h0, h1⟩
/-- Move changes no total -/
theorem moveP_tot (s : PS) (i j a n : Int) (c : Nat) : tot (moveP s i j a n).2.v s.np c = tot s.v s.np c := by
  unfold moveP
  split
  · rename_i hc
    rw [Bool.and_eq_true] at hc
    obtain ⟨⟨k, rfl, hk⟩, ⟨b, rfl, hb⟩, h0, h1⟩ := fitB_iff.1 hc.1
    obtain ⟨q, rfl, hq⟩ := isP_nat hc.2
    simp only [Int.toNat_natCast]
    split
    · rfl
    · rename_i hne
      split
      · rfl
      · have hkq : q ≠ k := fun e => hne (by rw [e])
        rw [put_v, put_v, tot_upd, tot_upd]
        by_cases hcb : c = b
        · subst hcb
          rw [if_pos ⟨hk, rfl⟩, if_pos ⟨hq, rfl⟩, upd_other _ _ _ _ (by omega)]
          omega
        · rw [if_neg (by simp [hcb]), if_neg (by simp [hcb])]
          omega
  · rfl
/-- what each call leaves of the sizes -/
theorem giveP_size (s : PS) (i a n : Int) : (giveP s i a n).2.np = s.np ∧ (giveP s i a n).2.na = s.na := by unfold giveP; split <;> exact ⟨rfl, rfl⟩
theorem takeP_size (s : PS) (i a n : Int) : (takeP s i a n).2.np = s.np ∧ (takeP s i a n).2.na = s.na := by unfold takeP; split <;> (try split) <;> exact ⟨rfl, rfl⟩
theorem moveP_size (s : PS) (i j a n : Int) : (moveP s i j a n).2.np = s.np ∧ (moveP s i j a n).2.na = s.na := by unfold moveP; split <;> (try split) <;> (try split) <;> exact ⟨rfl, rfl⟩

/-- asset a of the first n parties of a beginning -/
def col (X : Nat → List Int) (n a : Nat) : List Int := (List.range n).map fun i => at_ (X i) a
theorem col_len (X : Nat → List Int) (n a : Nat) : (col X n a).length = n := by simp [col]
theorem col_at (X : Nat → List Int) (n a i : Nat) (h : i < n) : at_ (col X n a) i = at_ (X i) a := at_range _ _ _ h
theorem col_succ (X : Nat → List Int) (n a : Nat) : col X (n + 1) a = col X n a ++ [at_ (X n) a] := by simp [col, List.range_succ]
theorem sumGo_append : ∀ (t : Int) (l m : List Int), sumGo t (l ++ m) = (sumGo t l).bind (fun u => sumGo u m)
  | t, [], m => rfl
  | t, n :: r, m => by
    simp only [List.cons_append, sumGo]
    split
    · exact sumGo_append _ r m
    · rfl
def startV (X : Nat → List Int) : Nat → Nat → Int := fun i a => at_ (X i) a
/-- a sum that goes through: all of it are amounts -/
theorem sumGo_col {X : Nat → List Int} {a : Nat} : ∀ {n : Nat}, (sumGo 0 (col X n a)).isSome = true →
    sumGo 0 (col X n a) = some (tot (startV X) n a) ∧ (∀ i, i < n → 0 ≤ at_ (X i) a) ∧ tot (startV X) n a ≤ 4611686018427387904
  | 0, _ => ⟨rfl, by intro i hi; omega, by simp [tot]⟩
  | n + 1, h => by
    rw [col_succ, sumGo_append] at h ⊢
    have h1 : (sumGo 0 (col X n a)).isSome = true := by
      cases hq : sumGo 0 (col X n a) with
      | none => rw [hq] at h; simp at h
      | some u => rfl
    obtain ⟨e1, e2, e3⟩ := sumGo_col (n := n) h1
    rw [e1] at h ⊢
    simp only [Option.bind_some, sumGo] at h ⊢
    split at h
    · rename_i hb
      obtain ⟨b1, b2, b3⟩ := add_iff.1 hb
      rw [if_pos hb]
      refine ⟨rfl, fun i hi => ?_, b3⟩
      by_cases e : i = n
      · subst e; exact b2
      · exact e2 i (by omega)
    · simp at h
theorem sum_col {X : Nat → List Int} {n a : Nat} (h : sumE (col X n a) = 0) : sumN (col X n a) = tot (startV X) n a ∧ (∀ i, i < n → 0 ≤ at_ (X i) a) ∧ tot (startV X) n a ≤ 4611686018427387904 := by
  have : (sumGo 0 (col X n a)).isSome = true := by
    unfold sumE bit at h
    cases hq : (sumGo 0 (col X n a)).isSome with
    | true => rfl
    | false => rw [hq] at h; simp at h
  obtain ⟨e1, e2, e3⟩ := sumGo_col this
  exact ⟨by simp [sumN, e1], e2, e3⟩
/-- the numbers of an asset, as a list -/
def colV (v : Nat → Nat → Int) (n a : Nat) : List Int := (List.range n).map fun i => v i a
theorem colV_len (v : Nat → Nat → Int) (n a : Nat) : (colV v n a).length = n := by simp [colV]
theorem colV_at (v : Nat → Nat → Int) (n a i : Nat) (h : i < n) : at_ (colV v n a) i = v i a := at_range _ _ _ h
theorem colV_succ (v : Nat → Nat → Int) (n a : Nat) : colV v (n + 1) a = colV v n a ++ [v n a] := by simp [colV, List.range_succ]
theorem sumV_ok {v : Nat → Nat → Int} {a : Nat} : ∀ {n : Nat}, (∀ i, i < n → 0 ≤ v i a) → tot v n a ≤ 4611686018427387904 → sumGo 0 (colV v n a) = some (tot v n a)
  | 0, _, _ => rfl
  | n + 1, h, ht => by
    have h0 := tot_nonneg (v := v) (a := a) (n := n) (fun i hi => h i (by omega))
    have hn : 0 ≤ v n a := h n (by omega)
    have h1 := sumV_ok (v := v) (a := a) (n := n) (fun i hi => h i (by omega)) (by simp only [tot] at ht; omega)
    rw [colV_succ, sumGo_append, h1]
    simp only [Option.bind_some, sumGo]
    rw [if_pos (add_iff.2 ⟨h0, hn, by simp only [tot] at ht; exact ht⟩)]
    rfl
theorem WF.sumGo {s : PS} (h : WF s) {a : Nat} (ha : a < s.na) : Num.sumGo 0 (colV s.v s.np a) = some (tot s.v s.np a) := sumV_ok (fun i hi => h.pos i a hi ha) (h.sum a ha)
theorem WF.sumN {s : PS} (h : WF s) {a : Nat} (ha : a < s.na) : Num.sumN (colV s.v s.np a) = tot s.v s.np a := by simp [Num.sumN, h.sumGo ha]
theorem WF.sumE {s : PS} (h : WF s) {a : Nat} (ha : a < s.na) : Num.sumE (colV s.v s.np a) = 0 := by simp [Num.sumE, h.sumGo ha, bit]
/-- is it a beginning? -/
def newOk (n : Nat) (X : Nat → List Int) : Prop := (2 ≤ n ∧ n ≤ 16) ∧ (1 ≤ (X 0).length ∧ (X 0).length ≤ 4) ∧ (∀ i, i < n → (X i).length = (X 0).length) ∧ ∀ a, a < (X 0).length → sumE (col X n a) = 0
def newP (n : Nat) (X : Nat → List Int) : PS := ⟨n, (X 0).length, startV X⟩
theorem newOk.wf {n : Nat} {X : Nat → List Int} (h : newOk n X) : WF (newP n X) :=
  ⟨h.1.1, h.1.2, h.2.1.1, h.2.1.2, fun i a hi ha => (sum_col (h.2.2.2 a ha)).2.1 i hi, fun a ha => (sum_col (h.2.2.2 a ha)).2.2⟩
end Go.Proofs.Ytlgeckgeiknmjaa.Purse
