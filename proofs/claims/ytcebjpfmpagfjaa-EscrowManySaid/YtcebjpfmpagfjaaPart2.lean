/-
  Parts laid together: Pure PurseSpec PurseBackSpec.
-/
import Derived.ProofKit
import Derived.KernelRfl
import Derived.Test.YtcebjpfmpagfjaaPart1

namespace Go.Proofs.Ytcebjpfmpagfjaa.Sha

/-- a fact that no tactic looks into (a structure: 'contradiction' unfolds the library's Hid, and reckons what stands in it) -/
structure Kept (p : Prop) : Prop where
  out : p
/-- element i of a list of numbers, 0 behind its end (a name of its own: simp leaves it alone) -/
def at_ (l : List Int) (i : Nat) : Int := l.getD i 0
theorem at_eq {l : List Int} {i : Nat} (h : i < l.length) : l[i]? = some (at_ l i) := by simp [at_, h]
theorem at_append_left {l m : List Int} {i : Nat} (h : i < l.length) : at_ (l ++ m) i = at_ l i := by simp [at_, List.getD_eq_getElem?_getD, List.getElem?_append_left h]
theorem at_append_right {l m : List Int} {i : Nat} (h : l.length ≤ i) : at_ (l ++ m) i = at_ m (i - l.length) := by simp [at_, List.getD_eq_getElem?_getD, List.getElem?_append_right h]
theorem at_take {l : List Int} {n i : Nat} (h : i < n) : at_ (l.take n) i = at_ l i := by simp [at_, List.getD_eq_getElem?_getD, h]
theorem at_drop (l : List Int) (n i : Nat) : at_ (l.drop n) i = at_ l (n + i) := by simp [at_, List.getD_eq_getElem?_getD]
theorem at_range (f : Nat → Int) (n i : Nat) (h : i < n) : at_ ((List.range n).map f) i = f i := by simp [at_, List.getD_eq_getElem?_getD, h]
theorem at_ext {l m : List Int} (hl : l.length = m.length) (h : ∀ i, i < l.length → at_ l i = at_ m i) : l = m := by
  apply List.ext_getElem hl
  intro i h1 h2
  have := h i h1
  simpa [at_, h1, h2] using this
/-- bytes -/
def Bytes (l : List Int) : Prop := ∀ x ∈ l, 0 ≤ x ∧ x ≤ 255
theorem Bytes.at_ {l : List Int} (h : Bytes l) (i : Nat) : 0 ≤ at_ l i ∧ at_ l i ≤ 255 := by
  unfold Sha.at_
  by_cases hi : i < l.length
  · have := h l[i] (List.getElem_mem hi)
    simpa [hi] using this
  · simp [List.getElem?_eq_none (Nat.le_of_not_lt hi)]
theorem Bytes.append {l m : List Int} (h : Bytes l) (k : Bytes m) : Bytes (l ++ m) := fun x hx => by
  rcases List.mem_append.1 hx with h1 | h1
  · exact h x h1
  · exact k x h1
theorem Bytes.take {l : List Int} (h : Bytes l) (n : Nat) : Bytes (l.take n) := fun x hx => h x (List.mem_of_mem_take hx)
theorem Bytes.drop {l : List Int} (h : Bytes l) (n : Nat) : Bytes (l.drop n) := fun x hx => h x (List.mem_of_mem_drop hx)
theorem at_out {l : List Int} {i : Nat} (h : l.length ≤ i) : at_ l i = 0 := by simp [at_, List.getD_eq_getElem?_getD, List.getElem?_eq_none h]
/-- are both the same? -/
def sameB (xs ys : List Int) : Bool := decide (xs = ys)
theorem sameB_self (xs : List Int) : sameB xs xs = true := by simp [sameB]
theorem sameB_len {xs ys : List Int} (hl : xs.length ≠ ys.length) : sameB xs ys = false := by
  unfold sameB
  rw [decide_eq_false_iff_not]
  rintro rfl
  exact hl rfl
def ints (k : IntKind) (l : List Int) : List Value := l.map (Value.int k)
theorem ints_len (k : IntKind) (l : List Int) : (ints k l).length = l.length := by simp [ints]
theorem ints_at (k : IntKind) (l : List Int) (i : Nat) (h : i < l.length) : (ints k l)[i]? = some (.int k (at_ l i)) := by simp [ints, at_, h]
theorem ints_one (k : IntKind) (l : List Int) : ∀ v ∈ ints k l, v.oneCell' = true := by
  intro v hv
  obtain ⟨x, _, rfl⟩ := List.mem_map.1 hv
  rfl
theorem ints_set (k : IntKind) (l : List Int) (i : Nat) (x : Int) : (ints k l).set i (.int k x) = ints k (l.set i x) := by simp [ints, List.map_set]
/-- the first m of f, noughts behind, n in all -/
def upto (f : Nat → Int) (n m : Nat) : List Int := (List.range n).map fun i => if i < m then f i else 0
theorem upto_len (f : Nat → Int) (n m : Nat) : (upto f n m).length = n := by simp [upto]
theorem upto_at (f : Nat → Int) (n m i : Nat) (h : i < n) : at_ (upto f n m) i = if i < m then f i else 0 := at_range _ _ _ h
theorem at_set (l : List Int) (k i : Nat) (x : Int) (h : i < l.length) : at_ (l.set k x) i = if k = i then x else at_ l i := by
  simp [at_, List.getD_eq_getElem?_getD, List.getElem?_set]
  by_cases hk : k = i
  · subst hk; simp [h]
  · simp [hk]
theorem upto_set (f : Nat → Int) (n m : Nat) : (upto f n m).set m (f m) = upto f n (m + 1) := by
  apply at_ext
  · simp [upto_len]
  · intro i hi
    rw [List.length_set, upto_len] at hi
    rw [at_set _ _ _ _ (by rw [upto_len]; exact hi), upto_at _ _ _ _ hi, upto_at _ _ _ _ hi]
    by_cases h : m = i
    · subst h; simp
    · rw [if_neg h]
      by_cases h2 : i < m
      · rw [if_pos h2, if_pos (by omega)]
      · rw [if_neg h2, if_neg (by omega)]
theorem upto_all (l : List Int) (n : Nat) (h : l.length = n) : upto (at_ l) n n = l := by
  apply at_ext
  · rw [upto_len, h]
  · intro i hi
    rw [upto_len] at hi
    rw [upto_at _ _ _ _ hi, if_pos hi]
def arr (k : IntKind) (l : List Int) : Array Value := (ints k l).toArray
theorem arr_at (k : IntKind) (l : List Int) (i : Nat) (h : i < l.length) : (arr k l)[i]? = some (.int k (at_ l i)) := by
  rw [arr, List.getElem?_toArray]; exact ints_at k l i h
theorem arr_set (k : IntKind) (l : List Int) (i : Nat) (x : Int) : (arr k l).setIfInBounds i (.int k x) = arr k (l.set i x) := by
  rw [arr, List.setIfInBounds_toArray, ints_set, arr]
theorem arr_size (k : IntKind) (l : List Int) : (arr k l).size = l.length := by simp [arr, ints_len]
theorem zeros (n : Nat) (k : IntKind) (f : Nat → Int) : arr k (upto f n 0) = (List.replicate n (Value.int k 0)).toArray := by
  unfold arr ints upto
  congr 1
  apply List.ext_getElem
  · simp
  · intro i h1 h2; simp
theorem ints_append (k : IntKind) (l m : List Int) : ints k (l ++ m) = ints k l ++ ints k m := by simp [ints]
/-- the first k rows, one behind the other -/
def cat (X : Nat → List Int) : Nat → List Int
  | 0 => []
  | k + 1 => cat X k ++ X k
end Go.Proofs.Ytcebjpfmpagfjaa.Sha

namespace Go.Proofs.Ytcebjpfmpagfjaa.Purse
open Go.Proofs.Ytcebjpfmpagfjaa.Num Go.Proofs.Ytcebjpfmpagfjaa.Sha

/-- who has what: so many parties, so many assets; v party asset -/
structure PS where
  np : Nat
  na : Nat
  v : Nat → Nat → Int
/-- what the first k parties have of asset a -/
def tot (v : Nat → Nat → Int) : Nat → Nat → Int
  | 0, _ => 0
  | k + 1, a => tot v k a + v k a
def upd (v : Nat → Nat → Int) (i a : Nat) (x : Int) : Nat → Nat → Int := fun j b => if j = i ∧ b = a then x else v j b
theorem upd_same (v : Nat → Nat → Int) (i a : Nat) (x : Int) : upd v i a x i a = x := by simp [upd]
theorem upd_other (v : Nat → Nat → Int) (i a : Nat) (x : Int) {j b : Nat} (h : ¬ (j = i ∧ b = a)) : upd v i a x j b = v j b := by simp [upd, h]
theorem tot_upd (v : Nat → Nat → Int) (i a : Nat) (x : Int) : ∀ (k b : Nat), tot (upd v i a x) k b = tot v k b + if i < k ∧ b = a then x - v i a else 0
  | 0, b => by simp [tot]
  | k + 1, b => by
    simp only [tot, tot_upd v i a x k b]
    by_cases hb : b = a
    · subst hb
      by_cases h1 : i < k
      · rw [if_pos ⟨h1, rfl⟩, if_pos ⟨by omega, rfl⟩, upd_other _ _ _ _ (by omega)]; omega
      · by_cases h2 : i = k
        · subst h2
          rw [if_neg (by omega), if_pos ⟨by omega, rfl⟩, upd_same]; omega
        · rw [if_neg (by omega), if_neg (by omega), upd_other _ _ _ _ (by omega)]; omega
    · rw [if_neg (by simp [hb]), if_neg (by simp [hb]), upd_other _ _ _ _ (by simp [hb])]; omega
theorem tot_nonneg {v : Nat → Nat → Int} {a : Nat} : ∀ {n : Nat}, (∀ i, i < n → 0 ≤ v i a) → 0 ≤ tot v n a
  | 0, _ => by simp [tot]
  | n + 1, h => by
    have h1 := tot_nonneg (v := v) (a := a) (n := n) (fun i hi => h i (by omega))
    have h2 := h n (by omega)
    simp only [tot]; omega
theorem tot_mono {v : Nat → Nat → Int} {a : Nat} {m : Nat} : ∀ {n : Nat}, m ≤ n → (∀ i, i < n → 0 ≤ v i a) → tot v m a ≤ tot v n a
  | 0, hm, _ => by
    have : m = 0 := by omega
    subst this; exact Int.le_refl _
  | n + 1, hm, h => by
    by_cases he : m = n + 1
    · subst he; exact Int.le_refl _
    · have h1 := tot_mono (v := v) (a := a) (m := m) (n := n) (by omega) (fun i hi => h i (by omega))
      have h2 := h n (by omega)
      simp only [tot]; omega
theorem le_tot {v : Nat → Nat → Int} {a i n : Nat} (hi : i < n) (h : ∀ j, j < n → 0 ≤ v j a) : v i a ≤ tot v n a := by
  have h1 := tot_mono (v := v) (a := a) (m := i + 1) (n := n) (by omega) h
  have h2 := tot_nonneg (v := v) (a := a) (n := i) (fun j hj => h j (by omega))
  simp only [tot] at h1; omega
/-- two share of one total -/
theorem two_tot {v : Nat → Nat → Int} {a i j n : Nat} (hi : i < n) (hj : j < n) (hij : i ≠ j) (h : ∀ k, k < n → 0 ≤ v k a) : v i a + v j a ≤ tot v n a := by
  have h1 := le_tot (v := upd v i a 0) (a := a) (i := j) (n := n) hj (fun k hk => by
    by_cases e : k = i
    · subst e; rw [upd_same]; exact Int.le_refl _
    · rw [upd_other _ _ _ _ (by omega)]; exact h k hk)
  rw [upd_other _ _ _ _ (by omega), tot_upd, if_pos ⟨hi, rfl⟩] at h1
  omega
/-- what holds of every Purse -/
structure WF (s : PS) : Prop where
  p2 : 2 ≤ s.np
  p16 : s.np ≤ 16
  a1 : 1 ≤ s.na
  a4 : s.na ≤ 4
  pos : ∀ i a, i < s.np → a < s.na → 0 ≤ s.v i a
  sum : ∀ a, a < s.na → tot s.v s.np a ≤ 4611686018427387904
theorem WF.le {s : PS} (h : WF s) {i a : Nat} (hi : i < s.np) (ha : a < s.na) : 0 ≤ s.v i a ∧ s.v i a ≤ 4611686018427387904 :=
  ⟨h.pos i a hi ha, Int.le_trans (le_tot hi (fun j hj => h.pos j a hj ha)) (h.sum a ha)⟩
theorem WF.tot0 {s : PS} (h : WF s) {a : Nat} (ha : a < s.na) : 0 ≤ tot s.v s.np a := tot_nonneg (fun i hi => h.pos i a hi ha)
def isP (s : PS) (i : Int) : Bool := decide (0 ≤ i ∧ i < s.np)
def isA (s : PS) (a : Int) : Bool := decide (0 ≤ a ∧ a < s.na)
theorem isP_iff {s : PS} {i : Int} : isP s i = true ↔ 0 ≤ i ∧ i < s.np := by unfold isP; exact decide_eq_true_iff
theorem isA_iff {s : PS} {i : Int} : isA s i = true ↔ 0 ≤ i ∧ i < s.na := by unfold isA; exact decide_eq_true_iff
theorem isP_nat {s : PS} {i : Int} (h : isP s i = true) : ∃ k : Nat, i = k ∧ k < s.np := by
  obtain ⟨h1, h2⟩ := isP_iff.1 h
  exact ⟨i.toNat, by omega, by omega⟩
theorem isA_nat {s : PS} {i : Int} (h : isA s i = true) : ∃ k : Nat, i = k ∧ k < s.na := by
  obtain ⟨h1, h2⟩ := isA_iff.1 h
  exact ⟨i.toNat, by omega, by omega⟩
/-- of what there is: a number that fits -/
def fitB (s : PS) (i a n : Int) : Bool := isP s i && isA s a && amtB n
theorem fitB_iff {s : PS} {i a n : Int} : fitB s i a n = true ↔ (∃ k : Nat, i = k ∧ k < s.np) ∧ (∃ b : Nat, a = b ∧ b < s.na) ∧ 0 ≤ n ∧ n ≤ 4611686018427387904 := by
  unfold fitB
  simp only [Bool.and_eq_true, amt_iff]
  constructor
  · rintro ⟨⟨h1, h2⟩, h3⟩; exact ⟨isP_nat h1, isA_nat h2, h3⟩
  · rintro ⟨⟨k, rfl, hk⟩, ⟨b, rfl, hb⟩, h3⟩; exact ⟨⟨isP_iff.2 (by omega), isA_iff.2 (by omega)⟩, h3⟩
def hasP (s : PS) (i a : Int) : Int := if isP s i && isA s a then s.v i.toNat a.toNat else 0
def totP (s : PS) (a : Int) : Int := if isA s a then tot s.v s.np a.toNat else 0
def put (s : PS) (i a : Nat) (x : Int) : PS := { s with v := upd s.v i a x }
def giveP (s : PS) (i a n : Int) : Int × PS := if fitB s i a n && decide (totP s a + n ≤ 4611686018427387904) then (0, put s i.toNat a.toNat (s.v i.toNat a.toNat + n)) else (1, s)
def takeP (s : PS) (i a n : Int) : Int × PS := if fitB s i a n then (if s.v i.toNat a.toNat < n then (7, s) else (0, put s i.toNat a.toNat (s.v i.toNat a.toNat - n))) else (1, s)
def moveP (s : PS) (i j a n : Int) : Int × PS :=
  if fitB s i a n && isP s j then (if i = j then (14, s) else if s.v i.toNat a.toNat < n then (7, s) else
    (0, put (put s i.toNat a.toNat (s.v i.toNat a.toNat - n)) j.toNat a.toNat (s.v j.toNat a.toNat + n))) else (1, s)
/-- one balance is turned, and its total with it -/
theorem WF.put {s : PS} (h : WF s) {i a : Nat} {x : Int} (hi : i < s.np) (ha : a < s.na) (hx : 0 ≤ x) (ht : tot s.v s.np a + (x - s.v i a) ≤ 4611686018427387904) : WF (put s i a x) := by
  refine ⟨h.p2, h.p16, h.a1, h.a4, fun j b hj hb => ?_, fun b hb => ?_⟩
  · show 0 ≤ upd s.v i a x j b
    by_cases e : j = i ∧ b = a
    · obtain ⟨rfl, rfl⟩ := e; rw [upd_same]; exact hx
    · rw [upd_other _ _ _ _ e]; exact h.pos j b hj hb
  · show tot (upd s.v i a x) s.np b ≤ _
    rw [tot_upd]
    by_cases e : b = a
    · subst e; rw [if_pos ⟨hi, rfl⟩]; exact ht
    · rw [if_neg (by simp [e])]; have := h.sum b hb; omega
theorem giveP_wf {s : PS} (h : WF s) (i a n : Int) : WF (giveP s i a n).2 := by
  unfold giveP
  split
  · rename_i hc
    rw [Bool.and_eq_true, decide_eq_true_eq] at hc
    obtain ⟨⟨k, rfl, hk⟩, ⟨b, rfl, hb⟩, h0, h1⟩ := fitB_iff.1 hc.1
    have ht := hc.2
    unfold totP at ht
    rw [if_pos (isA_iff.2 ⟨by omega, by omega⟩), Int.toNat_natCast] at ht
    simp only [Int.toNat_natCast]
    exact h.put hk hb (by have := h.pos k b hk hb; omega) (by omega)
  · exact h
theorem takeP_wf {s : PS} (h : WF s) (i a n : Int) : WF (takeP s i a n).2 := by
  unfold takeP
  split
  · rename_i hc
    obtain ⟨⟨k, rfl, hk⟩, ⟨b, rfl, hb⟩, h0, h1⟩ := fitB_iff.1 hc
    simp only [Int.toNat_natCast]
    split
    · exact h
    · exact h.put hk hb (by omega) (by have := h.sum b hb; omega)
  · exact h
theorem put_np (s : PS) (i a : Nat) (x : Int) : (put s i a x).np = s.np := rfl
theorem put_na (s : PS) (i a : Nat) (x : Int) : (put s i a x).na = s.na := rfl
theorem put_v (s : PS) (i a : Nat) (x : Int) : (put s i a x).v = upd s.v i a x := rfl
theorem moveP_wf {s : PS} (h : WF s) (i j a n : Int) : WF (moveP s i j a n).2 := by
  unfold moveP
  split
  · rename_i hc
    rw [Bool.and_eq_true] at hc
    obtain ⟨⟨k, rfl, hk⟩, ⟨b, rfl, hb⟩, h0, h1⟩ := fitB_iff.1 hc.1
    obtain ⟨q, rfl, hq⟩ := isP_nat hc.2
    simp only [Int.toNat_natCast]
    split
    · exact h
    · rename_i hne
      split
      · exact h
      · have hkq : q ≠ k := fun e => hne (by rw [e])
        refine (h.put hk hb (x := s.v k b - n) (by omega) (by have := h.sum b hb; omega)).put (i := q) hq hb (by have := h.pos q b hq hb; omega) ?_
        rw [put_v, put_np, tot_upd, if_pos ⟨hk, rfl⟩, upd_other _ _ _ _ (by omega)]
        have := h.sum b hb; omega
  · exact h
theorem totP_nat {s : PS} {b : Nat} (hb : b < s.na) : totP s b = tot s.v s.np b := by
  unfold totP
  rw [if_pos (isA_iff.2 ⟨by omega, by omega⟩), Int.toNat_natCast]
theorem give_yes {s : PS} {k b : Nat} {n : Int} (hf : fitB s k b n = true) (ht : totP s b + n ≤ 4611686018427387904) : giveP s k b n = (0, put s k b (s.v k b + n)) := by
  unfold giveP
  rw [if_pos (by rw [hf, decide_eq_true ht]; rfl)]
  simp only [Int.toNat_natCast]
theorem give_no {s : PS} {i a n : Int} (h : fitB s i a n = false ∨ ¬ (totP s a + n ≤ 4611686018427387904)) : giveP s i a n = (1, s) := by
  unfold giveP
  rw [if_neg]
  rcases h with h | h <;> simp [h]
theorem take_yes {s : PS} {k b : Nat} {n : Int} (hf : fitB s k b n = true) (hn : ¬ s.v k b < n) : takeP s k b n = (0, put s k b (s.v k b - n)) := by
  unfold takeP
  rw [if_pos hf]
  simp only [Int.toNat_natCast]
  rw [if_neg hn]
theorem take_less {s : PS} {k b : Nat} {n : Int} (hf : fitB s k b n = true) (hn : s.v k b < n) : takeP s k b n = (7, s) := by
  unfold takeP
  rw [if_pos hf]
  simp only [Int.toNat_natCast]
  rw [if_pos hn]
theorem take_no {s : PS} {i a n : Int} (hf : fitB s i a n = false) : takeP s i a n = (1, s) := by
  unfold takeP
  rw [if_neg (by simp [hf])]
theorem move_no {s : PS} {i j a n : Int} (h : fitB s i a n = false ∨ isP s j = false) : moveP s i j a n = (1, s) := by
  unfold moveP
  rw [if_neg]
  rcases h with h | h <;> simp [h]
theorem move_same {s : PS} {i a n : Int} (hf : fitB s i a n = true) (hj : isP s i = true) : moveP s i i a n = (14, s) := by
  unfold moveP
  rw [if_pos (by rw [hf, hj]; rfl), if_pos rfl]
theorem move_less {s : PS} {k b : Nat} {j n : Int} (hf : fitB s k b n = true) (hj : isP s j = true) (hne : (k : Int) ≠ j) (hn : s.v k b < n) : moveP s k j b n = (7, s) := by
  unfold moveP
  rw [if_pos (by rw [hf, hj]; rfl), if_neg hne]
  simp only [Int.toNat_natCast]
  rw [if_pos hn]
theorem move_yes {s : PS} {k b q : Nat} {n : Int} (hf : fitB s k b n = true) (hj : isP s q = true) (hne : (k : Int) ≠ q) (hn : ¬ s.v k b < n) : moveP s k q b n = (0, put (put s k b (s.v k b - n)) q b (s.v q b + n)) := by
  unfold moveP
  rw [if_pos (by rw [hf, hj]; rfl), if_neg hne]
  simp only [Int.toNat_natCast]
  rw [if_neg hn]
theorem totP_put {s : PS} {i b : Nat} (hi : i < s.np) (hb : b < s.na) (x : Int) : totP (put s i b x) b = totP s b + (x - s.v i b) := by
  rw [totP_nat (s := put s i b x) hb, totP_nat hb]
  show tot (upd s.v i b x) s.np b = _
  rw [tot_upd, if_pos ⟨hi, rfl⟩]
theorem fitB_at {s : PS} {i b : Nat} {n : Int} (hi : i < s.np) (hb : b < s.na) (h0 : 0 ≤ n) (h1 : n ≤ 4611686018427387904) : fitB s i b n = true := fitB_iff.2 ⟨⟨i, rfl, hi⟩, ⟨b, rfl, hb⟩, h0, h1⟩
/-- Move changes no total -/
theorem moveP_tot (s : PS) (i j a n : Int) (c : Nat) : tot (moveP s i j a n).2.v s.np c = tot s.v s.np c := by
  unfold moveP
  split
  · rename_i hc
    rw [Bool.and_eq_true] at hc
    obtain ⟨⟨k, rfl, hk⟩, ⟨b, rfl, hb⟩, h0, h1⟩ := fitB_iff.1 hc.1
    obtain ⟨q, rfl, hq⟩ := isP_nat hc.2
    simp only [Int.toNat_natCast]
    split
    · rfl
    · rename_i hne
      split
      · rfl
      · have hkq : q ≠ k := fun e => hne (by rw [e])
        rw [put_v, put_v, tot_upd, tot_upd]
        by_cases hcb : c = b
        · subst hcb
          rw [if_pos ⟨hk, rfl⟩, if_pos ⟨hq, rfl⟩, upd_other _ _ _ _ (by omega)]
          omega
        · rw [if_neg (by simp [hcb]), if_neg (by simp [hcb])]
          omega
  · rfl
/-- what each call leaves of the sizes -/
theorem giveP_size (s : PS) (i a n : Int) : (giveP s i a n).2.np = s.np ∧ (giveP s i a n).2.na = s.na := by unfold giveP; split <;> exact ⟨rfl, rfl⟩
theorem takeP_size (s : PS) (i a n : Int) : (takeP s i a n).2.np = s.np ∧ (takeP s i a n).2.na = s.na := by unfold takeP; split <;> (try split) <;> exact ⟨rfl, rfl⟩
theorem moveP_size (s : PS) (i j a n : Int) : (moveP s i j a n).2.np = s.np ∧ (moveP s i j a n).2.na = s.na := by unfold moveP; split <;> (try split) <;> (try split) <;> exact ⟨rfl, rfl⟩

/-- asset a of the first n parties of a beginning -/
def col (X : Nat → List Int) (n a : Nat) : List Int := (List.range n).map fun i => at_ (X i) a
theorem col_len (X : Nat → List Int) (n a : Nat) : (col X n a).length = n := by simp [col]
theorem col_at (X : Nat → List Int) (n a i : Nat) (h : i < n) : at_ (col X n a) i = at_ (X i) a := at_range _ _ _ h
theorem col_succ (X : Nat → List Int) (n a : Nat) : col X (n + 1) a = col X n a ++ [at_ (X n) a] := by simp [col, List.range_succ]
theorem sumGo_append : ∀ (t : Int) (l m : List Int), sumGo t (l ++ m) = (sumGo t l).bind (fun u => sumGo u m)
  | t, [], m => rfl
  | t, n :: r, m => by
    simp only [List.cons_append, sumGo]
    split
    · exact sumGo_append _ r m
    · rfl
def startV (X : Nat → List Int) : Nat → Nat → Int := fun i a => at_ (X i) a
/-- a sum that goes through: all of it are amounts -/
theorem sumGo_col {X : Nat → List Int} {a : Nat} : ∀ {n : Nat}, (sumGo 0 (col X n a)).isSome = true →
    sumGo 0 (col X n a) = some (tot (startV X) n a) ∧ (∀ i, i < n → 0 ≤ at_ (X i) a) ∧ tot (startV X) n a ≤ 4611686018427387904
  | 0, _ => ⟨rfl, by intro i hi; omega, by simp [tot]⟩
  | n + 1, h => by
    rw [col_succ, sumGo_append] at h ⊢
    have h1 : (sumGo 0 (col X n a)).isSome = true := by
      cases hq : sumGo 0 (col X n a) with
      | none => rw [hq] at h; simp at h
      | some u => rfl
    obtain ⟨e1, e2, e3⟩ := sumGo_col (n := n) h1
    rw [e1] at h ⊢
    simp only [Option.bind_some, sumGo] at h ⊢
    split at h
    · rename_i hb
      obtain ⟨b1, b2, b3⟩ := add_iff.1 hb
      rw [if_pos hb]
      refine ⟨rfl, fun i hi => ?_, b3⟩
      by_cases e : i = n
      · subst e; exact b2
      · exact e2 i (by omega)
    · simp at h
theorem sum_col {X : Nat → List Int} {n a : Nat} (h : sumE (col X n a) = 0) : sumN (col X n a) = tot (startV X) n a ∧ (∀ i, i < n → 0 ≤ at_ (X i) a) ∧ tot (startV X) n a ≤ 4611686018427387904 := by
  have : (sumGo 0 (col X n a)).isSome = true := by
    unfold sumE bit at h
    cases hq : (sumGo 0 (col X n a)).isSome with
    | true => rfl
    | false => rw [hq] at h; simp at h
  obtain ⟨e1, e2, e3⟩ := sumGo_col this
  exact ⟨by simp [sumN, e1], e2, e3⟩
/-- the numbers of an asset, as a list -/
def colV (v : Nat → Nat → Int) (n a : Nat) : List Int := (List.range n).map fun i => v i a
theorem colV_len (v : Nat → Nat → Int) (n a : Nat) : (colV v n a).length = n := by simp [colV]
theorem colV_at (v : Nat → Nat → Int) (n a i : Nat) (h : i < n) : at_ (colV v n a) i = v i a := at_range _ _ _ h
theorem colV_succ (v : Nat → Nat → Int) (n a : Nat) : colV v (n + 1) a = colV v n a ++ [v n a] := by simp [colV, List.range_succ]
theorem sumV_ok {v : Nat → Nat → Int} {a : Nat} : ∀ {n : Nat}, (∀ i, i < n → 0 ≤ v i a) → tot v n a ≤ 4611686018427387904 → sumGo 0 (colV v n a) = some (tot v n a)
  | 0, _, _ => rfl
  | n + 1, h, ht => by
    have h0 := tot_nonneg (v := v) (a := a) (n := n) (fun i hi => h i (by omega))
    have hn : 0 ≤ v n a := h n (by omega)
    have h1 := sumV_ok (v := v) (a := a) (n := n) (fun i hi => h i (by omega)) (by simp only [tot] at ht; omega)
    rw [colV_succ, sumGo_append, h1]
    simp only [Option.bind_some, sumGo]
    rw [if_pos (add_iff.2 ⟨h0, hn, by simp only [tot] at ht; exact ht⟩)]
    rfl
theorem WF.sumGo {s : PS} (h : WF s) {a : Nat} (ha : a < s.na) : Num.sumGo 0 (colV s.v s.np a) = some (tot s.v s.np a) := sumV_ok (fun i hi => h.pos i a hi ha) (h.sum a ha)
theorem WF.sumN {s : PS} (h : WF s) {a : Nat} (ha : a < s.na) : Num.sumN (colV s.v s.np a) = tot s.v s.np a := by simp [Num.sumN, h.sumGo ha]
theorem WF.sumE {s : PS} (h : WF s) {a : Nat} (ha : a < s.na) : Num.sumE (colV s.v s.np a) = 0 := by simp [Num.sumE, h.sumGo ha, bit]
/-- is it a beginning? -/
def newOk (n : Nat) (X : Nat → List Int) : Prop := (2 ≤ n ∧ n ≤ 16) ∧ (1 ≤ (X 0).length ∧ (X 0).length ≤ 4) ∧ (∀ i, i < n → (X i).length = (X 0).length) ∧ ∀ a, a < (X 0).length → sumE (col X n a) = 0
def newP (n : Nat) (X : Nat → List Int) : PS := ⟨n, (X 0).length, startV X⟩
theorem newOk.wf {n : Nat} {X : Nat → List Int} (h : newOk n X) : WF (newP n X) :=
  ⟨h.1.1, h.1.2, h.2.1.1, h.2.1.2, fun i a hi ha => (sum_col (h.2.2.2 a ha)).2.1 i hi, fun a ha => (sum_col (h.2.2.2 a ha)).2.2⟩
end Go.Proofs.Ytcebjpfmpagfjaa.Purse

namespace Go.Proofs.Ytcebjpfmpagfjaa.Purse
open Go.Proofs.Ytcebjpfmpagfjaa.Num Go.Proofs.Ytcebjpfmpagfjaa.Sha

theorem PS.ext_ {s t : PS} (h1 : s.np = t.np) (h2 : s.na = t.na) (h3 : ∀ i a, s.v i a = t.v i a) : s = t := by
  obtain ⟨a, b, c⟩ := s
  obtain ⟨a', b', c'⟩ := t
  simp only at h1 h2 h3
  subst h1 h2
  have : c = c' := funext fun i => funext fun a => h3 i a
  rw [this]
theorem has_at {s : PS} {k b : Nat} (hk : k < s.np) (hb : b < s.na) : hasP s k b = s.v k b := by
  unfold hasP
  rw [if_pos (by rw [isP_iff.2 ⟨by omega, by omega⟩, isA_iff.2 ⟨by omega, by omega⟩]; rfl)]
  simp only [Int.toNat_natCast]
/-- Take: nothing, or less by n; and Give of as much brings it back -/
theorem take_cases {s : PS} (h : WF s) (i a n : Int) : (∃ e : Int, e ≠ 0 ∧ takeP s i a n = (e, s)) ∨
    ∃ s', takeP s i a n = (0, s') ∧ hasP s' i a = hasP s i a - n ∧ giveP s' i a n = (0, s) ∧ (0 ≤ n ∧ n ≤ hasP s i a ∧ hasP s i a ≤ 4611686018427387904) := by
  cases hf : fitB s i a n with
  | false => exact .inl ⟨1, by decide, take_no hf⟩
  | true =>
    obtain ⟨⟨k, rfl, hk⟩, ⟨b, rfl, hb⟩, h0, h1⟩ := fitB_iff.1 hf
    by_cases ht : s.v k b < n
    · exact .inl ⟨7, by decide, take_less hf ht⟩
    · have hv := h.le hk hb
      refine .inr ⟨put s k b (s.v k b - n), take_yes hf ht, ?_, ?_, h0, ?_⟩
      · rw [has_at (s := put s k b (s.v k b - n)) hk hb, has_at hk hb, put_v, upd_same]
      · have e1 : fitB (put s k b (s.v k b - n)) k b n = true := fitB_at (s := put s k b (s.v k b - n)) hk hb h0 h1
        have e2 := totP_put hk hb (s.v k b - n)
        have e3 := h.sum b hb
        rw [← totP_nat hb] at e3
        rw [give_yes e1 (by rw [e2]; omega)]
        congr 1
        refine PS.ext_ rfl rfl fun j c => ?_
        show upd (upd s.v k b (s.v k b - n)) k b (upd s.v k b (s.v k b - n) k b + n) j c = s.v j c
        unfold upd
        by_cases e : j = k ∧ c = b
        · obtain ⟨rfl, rfl⟩ := e
          simp
        · simp [e]
      · rw [has_at hk hb]; omega
/-- Move: nothing, or from one to the other; and back -/
theorem move_cases {s : PS} (h : WF s) (i j a n : Int) : (∃ e : Int, e ≠ 0 ∧ moveP s i j a n = (e, s)) ∨
    ∃ s', moveP s i j a n = (0, s') ∧ hasP s' i a = hasP s i a - n ∧ hasP s' j a = hasP s j a + n ∧ moveP s' j i a n = (0, s) ∧ i ≠ j ∧ (0 ≤ n ∧ n ≤ hasP s i a ∧ hasP s i a ≤ 4611686018427387904 ∧ 0 ≤ hasP s j a ∧ hasP s j a + n ≤ 4611686018427387904) := by
  cases hf : fitB s i a n with
  | false => exact .inl ⟨1, by decide, move_no (.inl hf)⟩
  | true =>
    cases hj : isP s j with
    | false => exact .inl ⟨1, by decide, move_no (.inr hj)⟩
    | true =>
      by_cases hij : i = j
      · subst hij; exact .inl ⟨14, by decide, move_same hf hj⟩
      · obtain ⟨⟨k, rfl, hk⟩, ⟨b, rfl, hb⟩, h0, h1⟩ := fitB_iff.1 hf
        obtain ⟨q, rfl, hq⟩ := isP_nat hj
        have hkq : k ≠ q := by omega
        by_cases ht : s.v k b < n
        · exact .inl ⟨7, by decide, move_less hf hj hij ht⟩
        · have hv := h.le hk hb
          have hv2 := h.le hq hb
          have h2 := two_tot (v := s.v) (a := b) hk hq hkq (fun j hj => h.pos j b hj hb)
          have h3 := h.sum b hb
          refine .inr ⟨_, move_yes hf hj hij ht, ?_, ?_, ?_, hij, h0, ?_⟩
          · rw [has_at (s := put (put s k b (s.v k b - n)) q b (s.v q b + n)) hk hb, has_at hk hb, put_v, upd_other _ _ _ _ (by omega), put_v, upd_same]
          · rw [has_at (s := put (put s k b (s.v k b - n)) q b (s.v q b + n)) hq hb, has_at hq hb, put_v, upd_same]
          · have e1 : fitB (put (put s k b (s.v k b - n)) q b (s.v q b + n)) q b n = true := fitB_at (s := put (put s k b (s.v k b - n)) q b (s.v q b + n)) hq hb h0 h1
            have e2 : isP (put (put s k b (s.v k b - n)) q b (s.v q b + n)) k = true := isP_iff.2 ⟨by omega, by show (k : Int) < s.np; omega⟩
            rw [move_yes e1 e2 (by omega) (by rw [put_v, upd_same]; omega)]
            congr 1
            refine PS.ext_ rfl rfl fun j c => ?_
            show upd (upd (upd (upd s.v k b (s.v k b - n)) q b (s.v q b + n)) q b (upd (upd s.v k b (s.v k b - n)) q b (s.v q b + n) q b - n)) k b (upd (upd s.v k b (s.v k b - n)) q b (s.v q b + n) k b + n) j c = s.v j c
            unfold upd
            by_cases e : j = k ∧ c = b
            · obtain ⟨rfl, rfl⟩ := e
              simp [hkq]
            · by_cases e3 : j = q ∧ c = b
              · obtain ⟨rfl, rfl⟩ := e3
                simp [Ne.symm hkq]
              · simp [e, e3]
          · rw [has_at hk hb, has_at hq hb]; omega
end Go.Proofs.Ytcebjpfmpagfjaa.Purse
