/-
  Parts laid together: Pure DiskSpec WireSpec DiskPl.
-/
import Derived.ProofKit
import Derived.KernelRfl

namespace Go.Proofs.YtkbehjdglgpgjaaGreat.Sha

structure Kept (p : Prop) : Prop where
 out : p
def at_ (l : List Int) (i : Nat) : Int := l.getD i 0
theorem at_append_left {l m : List Int} {i : Nat} (h : i < l.length) : at_ (l ++ m) i = at_ l i := by simp [at_, List.getD_eq_getElem?_getD, List.getElem?_append_left h]
theorem at_append_right {l m : List Int} {i : Nat} (h : l.length ≤ i) : at_ (l ++ m) i = at_ m (i - l.length) := by simp [at_, List.getD_eq_getElem?_getD, List.getElem?_append_right h]
theorem at_take {l : List Int} {n i : Nat} (h : i < n) : at_ (l.take n) i = at_ l i := by simp [at_, List.getD_eq_getElem?_getD, h]
theorem at_drop (l : List Int) (n i : Nat) : at_ (l.drop n) i = at_ l (n + i) := by simp [at_, List.getD_eq_getElem?_getD]
theorem at_range (f : Nat → Int) (n i : Nat) (h : i < n) : at_ ((List.range n).map f) i = f i := by simp [at_, List.getD_eq_getElem?_getD, h]
theorem at_ext {l m : List Int} (hl : l.length = m.length) (h : ∀ i, i < l.length → at_ l i = at_ m i) : l = m := by
 apply List.ext_getElem hl
 intro i h1 h2
 have := h i h1
 simpa [at_, h1, h2] using this
def Bytes (l : List Int) : Prop := ∀ x ∈ l, 0 ≤ x ∧ x ≤ 255
theorem Bytes.at_ {l : List Int} (h : Bytes l) (i : Nat) : 0 ≤ at_ l i ∧ at_ l i ≤ 255 := by
 unfold Sha.at_
 by_cases hi : i < l.length
 ·have := h l[i] (List.getElem_mem hi)
  simpa [hi] using this
 ·simp [List.getElem?_eq_none (Nat.le_of_not_lt hi)]
theorem Bytes.append {l m : List Int} (h : Bytes l) (k : Bytes m) : Bytes (l ++ m) := fun x hx => by
 rcases List.mem_append.1 hx with h1 | h1
 ·exact h x h1
 ·exact k x h1
theorem Bytes.take {l : List Int} (h : Bytes l) (n : Nat) : Bytes (l.take n) := fun x hx => h x (List.mem_of_mem_take hx)
theorem Bytes.drop {l : List Int} (h : Bytes l) (n : Nat) : Bytes (l.drop n) := fun x hx => h x (List.mem_of_mem_drop hx)
def sameB (xs ys : List Int) : Bool := decide (xs = ys)
theorem sameB_self (xs : List Int) : sameB xs xs = true := by simp [sameB]
def ints (k : IntKind) (l : List Int) : List Value := l.map (Value.int k)
theorem ints_len (k : IntKind) (l : List Int) : (ints k l).length = l.length := by simp [ints]
theorem ints_at (k : IntKind) (l : List Int) (i : Nat) (h : i < l.length) : (ints k l)[i]? = some (.int k (at_ l i)) := by simp [ints, at_, h]
theorem ints_one (k : IntKind) (l : List Int) : ∀ v ∈ ints k l, v.oneCell' = true := by
 intro v hv
 obtain ⟨x, _, rfl⟩ := List.mem_map.1 hv
 rfl
theorem ints_set (k : IntKind) (l : List Int) (i : Nat) (x : Int) : (ints k l).set i (.int k x) = ints k (l.set i x) := by simp [ints, List.map_set]
def upto (f : Nat → Int) (n m : Nat) : List Int := (List.range n).map fun i => if i < m then f i else 0
theorem upto_len (f : Nat → Int) (n m : Nat) : (upto f n m).length = n := by simp [upto]
theorem upto_at (f : Nat → Int) (n m i : Nat) (h : i < n) : at_ (upto f n m) i = if i < m then f i else 0 := at_range _ _ _ h
theorem at_set (l : List Int) (k i : Nat) (x : Int) (h : i < l.length) : at_ (l.set k x) i = if k = i then x else at_ l i := by
 simp [at_, List.getD_eq_getElem?_getD, List.getElem?_set]
 by_cases hk : k = i
 ·subst hk; simp [h]
 ·simp [hk]
theorem upto_set (f : Nat → Int) (n m : Nat) : (upto f n m).set m (f m) = upto f n (m + 1) := by
 apply at_ext
 ·simp [upto_len]
 ·intro i hi
  rw [List.length_set, upto_len] at hi
  rw [at_set _ _ _ _ (by rw [upto_len]; exact hi), upto_at _ _ _ _ hi, upto_at _ _ _ _ hi]
  by_cases h : m = i
  ·subst h; simp
  ·rw [if_neg h]
   by_cases h2 : i < m
   ·rw [if_pos h2, if_pos (by omega)]
   ·rw [if_neg h2, if_neg (by omega)]
theorem upto_all (l : List Int) (n : Nat) (h : l.length = n) : upto (at_ l) n n = l := by
 apply at_ext
 ·rw [upto_len, h]
 ·intro i hi
  rw [upto_len] at hi
  rw [upto_at _ _ _ _ hi, if_pos hi]
def arr (k : IntKind) (l : List Int) : Array Value := (ints k l).toArray
theorem arr_at (k : IntKind) (l : List Int) (i : Nat) (h : i < l.length) : (arr k l)[i]? = some (.int k (at_ l i)) := by
 rw [arr, List.getElem?_toArray]; exact ints_at k l i h
theorem arr_set (k : IntKind) (l : List Int) (i : Nat) (x : Int) : (arr k l).setIfInBounds i (.int k x) = arr k (l.set i x) := by
 rw [arr, List.setIfInBounds_toArray, ints_set, arr]
theorem arr_size (k : IntKind) (l : List Int) : (arr k l).size = l.length := by simp [arr, ints_len]
theorem zeros (n : Nat) (k : IntKind) (f : Nat → Int) : arr k (upto f n 0) = (List.replicate n (Value.int k 0)).toArray := by
 unfold arr ints upto
 congr 1
 apply List.ext_getElem
 ·simp
 ·intro i h1 h2; simp
theorem ints_append (k : IntKind) (l m : List Int) : ints k (l ++ m) = ints k l ++ ints k m := by simp [ints]
def cat (X : Nat → List Int) : Nat → List Int
 | 0 => []
 | k + 1 => cat X k ++ X k
end Go.Proofs.YtkbehjdglgpgjaaGreat.Sha

namespace Go.Proofs.YtkbehjdglgpgjaaGreat.Disk
open Go.Proofs.YtkbehjdglgpgjaaGreat.Sha

structure DS where
 now : List (List Int)
 last : List (List Int)
 pend : List Nat
 fuse : Int
 down : Bool
def zeros64 : List Int := List.replicate 64 0
def rowOf (l : List (List Int)) (i : Nat) : List Int := l.getD i []
def newD (n : Nat) : DS := ⟨List.replicate n zeros64, List.replicate n zeros64, [], -1, false⟩
def burnD (s : DS) : Bool × DS := if s.fuse = 0 then (true, { s with down := true }) else if 0 < s.fuse then (false, { s with fuse := s.fuse - 1 }) else (false, s)
def ins (i : Nat) : List Nat → List Nat
 | [] => [i]
 | k :: l => if k < i then k :: ins i l else if k = i then k :: l else i :: k :: l
def noSector (s : DS) (i : Int) : Prop := i < 0 ∨ (s.now.length : Int) ≤ i
instance (s : DS) (i : Int) : Decidable (noSector s i) := by unfold noSector; infer_instance
def putD (s : DS) (i : Nat) (xs : List Int) : DS := { s with now := s.now.set i xs, pend := ins i s.pend }
def writeD (s : DS) (i : Int) (xs : List Int) : Int × DS :=
 if s.down = true then (13, s) else if noSector s i then (1, s) else if xs.length ≠ 64 then (2, s) else if (burnD s).1 = true then (13, (burnD s).2) else (0, putD (burnD s).2 i.toNat xs)
def readD (s : DS) (i : Int) : Int × List Int := if s.down = true then (13, []) else if noSector s i then (1, []) else (0, rowOf s.now i.toNat)
def keptD (s : DS) : DS := { s with last := s.now, pend := [] }
def syncD (s : DS) : Int × DS := if s.down = true then (13, s) else if (burnD s).1 = true then (13, (burnD s).2) else (0, keptD (burnD s).2)
def fuseD (s : DS) (n : Int) : DS := { s with fuse := if n < -1 then -1 else n }
def crashGo (keep : List Bool) : Nat → List Nat → List (List Int) × List (List Int) → List (List Int) × List (List Int)
 | _, [], p => p
 | k, i :: l, p => crashGo keep (k + 1) l (if keep.getD k false = true then (p.1, p.2.set i (rowOf p.1 i)) else (p.1.set i (rowOf p.2 i), p.2))
def crashD (s : DS) (keep : List Bool) : DS := ⟨(crashGo keep 0 s.pend (s.now, s.last)).1, (crashGo keep 0 s.pend (s.now, s.last)).2, [], -1, false⟩
def Sec (l : List Int) : Prop := l.length = 64 ∧ Bytes l
theorem sec_zeros : Sec zeros64 := ⟨by simp [zeros64], fun x hx => by have := List.eq_of_mem_replicate hx; omega⟩
structure WF (n : Nat) (s : DS) : Prop where
 n1 : 1 ≤ n
 n2 : n ≤ 8192
 now : s.now.length = n
 last : s.last.length = n
 secs : ∀ i, i < n → Sec (rowOf s.now i) ∧ Sec (rowOf s.last i)
 pend : ∀ i ∈ s.pend, i < n
 rise : s.pend.Pairwise (· < ·)
 same : ∀ i, i < n → i ∉ s.pend → rowOf s.now i = rowOf s.last i
 fuse : -1 ≤ s.fuse ∧ s.fuse ≤ 9223372036854775807
theorem rowOf_replicate (n i : Nat) (h : i < n) : rowOf (List.replicate n zeros64) i = zeros64 := by simp [rowOf, h]
theorem rowOf_set (l : List (List Int)) (i j : Nat) (x : List Int) (h : j < l.length) : rowOf (l.set i x) j = if i = j then x else rowOf l j := by
 simp only [rowOf, List.getD_eq_getElem?_getD, List.getElem?_set]
 by_cases hij : i = j
 ·subst hij; simp [h]
 ·simp [hij]
theorem wf_new (n : Nat) (h1 : 1 ≤ n) (h2 : n ≤ 8192) : WF n (newD n) :=
 ⟨h1, h2, by simp [newD], by simp [newD], fun i hi => by simp only [newD]; rw [rowOf_replicate _ _ hi]; exact ⟨sec_zeros, sec_zeros⟩, by simp [newD], by simp [newD], fun _ _ _ => rfl, by simp [newD]⟩
theorem ins_mem (i j : Nat) (l : List Nat) : j ∈ ins i l ↔ j = i ∨ j ∈ l := by
  induction l with
  | nil => simp [ins]
  | cons k l ih =>
    unfold ins
    split
    · rw [List.mem_cons, ih, List.mem_cons]
      constructor
      · rintro (h | h | h) <;> simp [h]
      · rintro (h | h | h) <;> simp [h]
    · split
      · rename_i h; subst h
        rw [List.mem_cons]
        constructor
        · intro h; exact .inr h
        · rintro (h | h)
          · exact .inl h
          · exact h
      · rw [List.mem_cons]
theorem ins_rise (i : Nat) (l : List Nat) (h : l.Pairwise (· < ·)) : (ins i l).Pairwise (· < ·) := by
  induction l with
  | nil => simp [ins]
  | cons k l ih =>
    rw [List.pairwise_cons] at h
    unfold ins
    split
    · rename_i hk
      rw [List.pairwise_cons]
      refine ⟨fun j hj => ?_, ih h.2⟩
      rcases (ins_mem i j l).1 hj with h1 | h1
      · omega
      · exact h.1 j h1
    · split
      · exact List.pairwise_cons.2 h
      · rename_i hk hk2
        rw [List.pairwise_cons]
        refine ⟨fun j hj => ?_, List.pairwise_cons.2 h⟩
        rcases List.mem_cons.1 hj with h1 | h1
        · omega
        · have := h.1 j h1; omega
theorem wf_burn {n : Nat} {s : DS} (h : WF n s) : WF n (burnD s).2 := by
 unfold burnD
 split
 ·exact ⟨h.n1, h.n2, h.now, h.last, h.secs, h.pend, h.rise, h.same, h.fuse⟩
 ·split
  ·have := h.fuse
   exact ⟨h.n1, h.n2, h.now, h.last, h.secs, h.pend, h.rise, h.same, by simp only; omega⟩
  ·exact h
theorem burn_now (s : DS) : (burnD s).2.now = s.now := by unfold burnD; split; rfl; split <;> rfl
theorem burn_last (s : DS) : (burnD s).2.last = s.last := by unfold burnD; split; rfl; split <;> rfl
theorem burn_pend (s : DS) : (burnD s).2.pend = s.pend := by unfold burnD; split; rfl; split <;> rfl
theorem wf_put {n : Nat} {s : DS} (h : WF n s) (i : Nat) (xs : List Int) (hi : i < n) (hx : Sec xs) : WF n (putD s i xs) := by
 refine ⟨h.n1, h.n2, by simp [putD, h.now], h.last, fun j hj => ?_, fun j hj => ?_, ins_rise i _ h.rise, fun j hj hn => ?_, h.fuse⟩
 ·simp only [putD]
  rw [rowOf_set _ _ _ _ (by rw [h.now]; exact hj)]
  split
  ·exact ⟨hx, (h.secs j hj).2⟩
  ·exact h.secs j hj
 ·rcases (ins_mem i j s.pend).1 hj with h1 | h1
  ·omega
  ·exact h.pend j h1
 ·simp only [putD] at hn ⊢
  rw [rowOf_set _ _ _ _ (by rw [h.now]; exact hj)]
  rw [ins_mem] at hn
  rw [if_neg (fun e => hn (.inl e.symm))]
  exact h.same j hj (fun hm => hn (.inr hm))
theorem wf_write {n : Nat} {s : DS} (h : WF n s) (i : Int) (xs : List Int) (hx : Bytes xs) : WF n (writeD s i xs).2 := by
 unfold writeD
 split
 ·exact h
 ·split
  ·exact h
  ·rename_i hi
   split
   ·exact h
   ·rename_i hl
    split
    ·exact wf_burn h
    ·unfold noSector at hi
     exact wf_put (wf_burn h) _ _ (by have := h.now; omega) ⟨by omega, hx⟩
theorem wf_kept {n : Nat} {s : DS} (h : WF n s) : WF n (keptD s) :=
 ⟨h.n1, h.n2, h.now, h.now, fun i hi => ⟨(h.secs i hi).1, (h.secs i hi).1⟩, by simp [keptD], by simp [keptD], fun _ _ _ => rfl, h.fuse⟩
theorem wf_sync {n : Nat} {s : DS} (h : WF n s) : WF n (syncD s).2 := by
 unfold syncD
 split
 ·exact h
 ·split
  ·exact wf_burn h
  ·exact wf_kept (wf_burn h)
theorem wf_fuse {n : Nat} {s : DS} (h : WF n s) (f : Int) (hf : f ≤ 9223372036854775807) : WF n (fuseD s f) :=
 ⟨h.n1, h.n2, h.now, h.last, h.secs, h.pend, h.rise, h.same, by simp only [fuseD]; split <;> omega⟩
structure Mid (n : Nat) (p : List (List Int) × List (List Int)) (l : List Nat) : Prop where
 a : p.1.length = n
 b : p.2.length = n
 secs : ∀ i, i < n → Sec (rowOf p.1 i) ∧ Sec (rowOf p.2 i)
 same : ∀ i, i < n → i ∉ l → rowOf p.1 i = rowOf p.2 i
def crash1 (keep : List Bool) (k i : Nat) (p : List (List Int) × List (List Int)) : List (List Int) × List (List Int) :=
 if keep.getD k false = true then (p.1, p.2.set i (rowOf p.1 i)) else (p.1.set i (rowOf p.2 i), p.2)
theorem crashGo_cons (keep : List Bool) (k i : Nat) (l : List Nat) (p : List (List Int) × List (List Int)) : crashGo keep k (i :: l) p = crashGo keep (k + 1) l (crash1 keep k i p) := rfl
theorem mid_step {n : Nat} {p : List (List Int) × List (List Int)} {i : Nat} {l : List Nat} (h : Mid n p (i :: l)) (keep : List Bool) (k : Nat) : Mid n (crash1 keep k i p) l := by
 unfold crash1
 split
 ·refine ⟨h.a, by simp [h.b], fun j hj => ?_, fun j hj hn => ?_⟩
  ·simp only; rw [rowOf_set _ _ _ _ (by rw [h.b]; exact hj)]
   split
   ·rename_i e; subst e; exact ⟨(h.secs i hj).1, (h.secs i hj).1⟩
   ·exact h.secs j hj
  ·simp only; rw [rowOf_set _ _ _ _ (by rw [h.b]; exact hj)]
   split
   ·rename_i e; subst e; rfl
   ·rename_i e
    exact h.same j hj (fun hm => (List.mem_cons.1 hm).elim (fun h1 => e h1.symm) hn)
 ·refine ⟨by simp [h.a], h.b, fun j hj => ?_, fun j hj hn => ?_⟩
  ·simp only; rw [rowOf_set _ _ _ _ (by rw [h.a]; exact hj)]
   split
   ·rename_i e; subst e; exact ⟨(h.secs i hj).2, (h.secs i hj).2⟩
   ·exact h.secs j hj
  ·simp only; rw [rowOf_set _ _ _ _ (by rw [h.a]; exact hj)]
   split
   ·rename_i e; subst e; rfl
   ·rename_i e
    exact h.same j hj (fun hm => (List.mem_cons.1 hm).elim (fun h1 => e h1.symm) hn)
theorem mid_go {n : Nat} (keep : List Bool) (l : List Nat) (k : Nat) (p : List (List Int) × List (List Int)) (h : Mid n p l) : Mid n (crashGo keep k l p) [] := by
 induction l generalizing k p with
 | nil => exact h
 | cons i l ih => rw [crashGo_cons]; exact ih _ _ (mid_step h keep k)
theorem wf_crash {n : Nat} {s : DS} (h : WF n s) (keep : List Bool) : WF n (crashD s keep) := by
 have m := mid_go keep s.pend 0 (s.now, s.last) ⟨h.now, h.last, h.secs, h.same⟩
 exact ⟨h.n1, h.n2, m.a, m.b, m.secs, by simp [crashD], by simp [crashD], fun i hi _ => m.same i hi (by simp), by simp [crashD]⟩
theorem ins_split (i : Nat) (l : List Nat) (k : Nat) (hk : k ≤ l.length) (h : ∀ j, j < k → l.getD j 0 < i) (h2 : k < l.length → ¬ l.getD k 0 < i) :
    ins i l = if k < l.length ∧ l.getD k 0 = i then l else l.take k ++ i :: l.drop k := by
  induction l generalizing k with
  | nil =>
    have hk0 : k = 0 := by simpa using hk
    subst hk0
    simp [ins]
  | cons x l ih =>
    cases k with
    | zero =>
      have hx : ¬ x < i := by simpa using h2 (by simp)
      unfold ins
      rw [if_neg hx]
      by_cases hxi : x = i
      · rw [if_pos hxi, if_pos ⟨by simp, by simpa using hxi⟩]
      · rw [if_neg hxi, if_neg (fun hc => hxi (by simpa using hc.2))]
        simp
    | succ k =>
      have hx : x < i := by simpa using h 0 (by omega)
      unfold ins
      rw [if_pos hx, ih k (by simpa using hk) (fun j hj => by simpa using h (j + 1) (by omega)) (fun hl => by simpa using h2 (by simpa using hl))]
      simp only [List.length_cons, Nat.add_lt_add_iff_right, List.getD_cons_succ, List.take_succ_cons, List.drop_succ_cons]
      split <;> simp
end Go.Proofs.YtkbehjdglgpgjaaGreat.Disk

namespace Go.Proofs.YtkbehjdglgpgjaaGreat.Wire
open Go.Proofs.YtkbehjdglgpgjaaGreat.Sha

def be (n : Nat) : Nat → List Int
 | 0 => []
 | k + 1 => ((n / 256 ^ k % 256 : Nat) : Int) :: be n k
theorem be_len (n k : Nat) : (be n k).length = k := by
 induction k with
 | zero => rfl
 | succ k ih => simp [be, ih]
theorem be_bytes (n k : Nat) : Bytes (be n k) := by
  induction k with
  | zero => intro x hx; simp [be] at hx
  | succ k ih =>
    intro x hx
    rcases List.mem_cons.1 hx with rfl | h
    · have : n / 256 ^ k % 256 < 256 := Nat.mod_lt _ (by omega)
      omega
    · exact ih x h
def valA (a : Nat) : List Int → Nat
 | [] => a
 | b :: l => valA (a * 256 + b.toNat) l
def val (l : List Int) : Nat := valA 0 l
theorem valA_append (a : Nat) (l m : List Int) : valA a (l ++ m) = valA (valA a l) m := by
 induction l generalizing a with
 | nil => rfl
 | cons b l ih => exact ih _
theorem valA_lt (a : Nat) (l : List Int) (h : Bytes l) (b : Nat) (ha : a < b) : valA a l < b * 256 ^ l.length := by
  induction l generalizing a b with
  | nil => simpa [valA] using ha
  | cons x l ih =>
    have hx := h x (List.mem_cons_self ..)
    have := ih (a * 256 + x.toNat) (fun y hy => h y (List.mem_cons_of_mem _ hy)) (b * 256) (by omega)
    rw [List.length_cons, Nat.pow_succ', ← Nat.mul_assoc]
    exact this
theorem val_lt (l : List Int) (h : Bytes l) : val l < 256 ^ l.length := by
 have := valA_lt 0 l h 1 (by omega)
 simpa [val] using this
theorem valA_be (a n k : Nat) : valA a (be n k) = a * 256 ^ k + n % 256 ^ k := by
  induction k generalizing a with
  | zero => simp [be, valA, Nat.mod_one]
  | succ k ih =>
    rw [be, valA, ih]
    have h1 : n % 256 ^ (k + 1) = n % 256 ^ k + 256 ^ k * (n / 256 ^ k % 256) := by rw [Nat.pow_succ, Nat.mod_mul]
    rw [h1, Int.toNat_natCast, Nat.add_mul, Nat.pow_succ, Nat.mul_comm (256 ^ k) (n / 256 ^ k % 256), Nat.mul_comm (256 ^ k) 256, Nat.mul_assoc]
    omega
theorem val_be (n k : Nat) (h : n < 256 ^ k) : val (be n k) = n := by
 rw [val, valA_be, Nat.mod_eq_of_lt h]; omega
theorem be_val (l : List Int) (h : Bytes l) : be (val l) l.length = l := by
  have key : ∀ (l : List Int), Bytes l → ∀ a, be (valA a l) l.length = l := by
    intro l
    induction l with
    | nil => intro _ a; rfl
    | cons x l ih =>
      intro h a
      have hx := h x (List.mem_cons_self ..)
      have hl : Bytes l := fun y hy => h y (List.mem_cons_of_mem _ hy)
      rw [List.length_cons, be, valA, ih hl]
      congr 1
      have hv : ∀ b, valA b l = b * 256 ^ l.length + val l := by
        have g : ∀ (m : List Int) (b c : Nat), valA (b + c) m = b * 256 ^ m.length + valA c m := by
          intro m
          induction m with
          | nil => intro b c; simp [valA]
          | cons y m ihm =>
            intro b c
            rw [valA, valA, show (b + c) * 256 + y.toNat = b * 256 + (c * 256 + y.toNat) by omega, ihm, List.length_cons, Nat.pow_succ', Nat.mul_assoc]
        intro b
        have := g l b 0
        simpa [val] using this
      rw [hv, Nat.mul_comm _ (256 ^ l.length), Nat.mul_add_div (Nat.pow_pos (by omega)), Nat.div_eq_of_lt (val_lt l hl), Nat.add_zero]
      omega
  exact key l h 0
def fits (n s : Int) : Bool := decide (1 ≤ s ∧ s ≤ 8 ∧ 0 ≤ n ∧ n ≤ 4611686018427387904 ∧ n < 256 ^ s.toNat)
abbrev St := Int × List Int
def encNum (st : St) (n s : Int) : St := if st.1 = 0 then (if fits n s then (0, st.2 ++ be n.toNat s.toNat) else (1, [])) else st
def decNum (st : St) (s : Int) : Int × St :=
  if st.1 = 0 then
    (if 1 ≤ s ∧ s ≤ 8 then
      (if s.toNat ≤ st.2.length ∧ val (st.2.take s.toNat) ≤ 4611686018427387904 then ((val (st.2.take s.toNat) : Nat), (0, st.2.drop s.toNat)) else (0, (2, st.2)))
    else (0, (1, st.2)))
  else (0, st)
def frst (xs : List Int) (s : Nat) : Int × Bool := if s ≤ xs.length ∧ val (xs.take s) ≤ 4611686018427387904 then ((val (xs.take s) : Nat), true) else (0, false)
theorem decNum_size (xs : List Int) (s : Int) (h : ¬ (1 ≤ s ∧ s ≤ 8)) : decNum (0, xs) s = (0, (1, xs)) := by
 unfold decNum; simp only [if_true]; rw [if_neg h]
theorem decNum_frst (xs : List Int) (s : Nat) (h1 : 1 ≤ s) (h8 : s ≤ 8) : decNum (0, xs) s = if (frst xs s).2 = true then ((frst xs s).1, (0, xs.drop s)) else (0, (2, xs)) := by
 unfold decNum frst
 simp only [if_true, Int.toNat_natCast]
 rw [if_pos (by omega)]
 by_cases h : s ≤ xs.length ∧ val (xs.take s) ≤ 4611686018427387904
 ·rw [if_pos h, if_pos h]; rfl
 ·rw [if_neg h, if_neg h]; rfl
theorem frst_true {xs : List Int} {s : Nat} (h : (frst xs s).2 = true) : s ≤ xs.length := by
 unfold frst at h
 split at h
 ·rename_i h1; exact h1.1
 ·simp at h
theorem fits_be {n s : Int} (h : fits n s = true) : val (be n.toNat s.toNat) = n.toNat ∧ n.toNat ≤ 4611686018427387904 ∧ 1 ≤ s ∧ s ≤ 8 ∧ 0 ≤ n := by
 simp only [fits, decide_eq_true_eq] at h
 obtain ⟨h1, h2, h3, h4, h5⟩ := h
 refine ⟨val_be _ _ ?_, by omega, h1, h2, h3⟩
 have : ((n.toNat : Nat) : Int) < ((256 ^ s.toNat : Nat) : Int) := by
  rw [Int.toNat_of_nonneg h3]
  simpa using h5
 exact_mod_cast this
theorem decNum_err (st : St) (s : Int) (h : st.1 ≠ 0) : decNum st s = (0, st) := by unfold decNum; rw [if_neg h]
theorem encNum_len (st : St) (n s : Int) : (encNum st n s).2.length ≤ st.2.length + 8 := by
 unfold encNum
 split
 ·split
  ·rename_i h
   have := (fits_be h).2.2.2.1
   simp only [List.length_append, be_len]; omega
  ·simp
 ·omega
theorem shr_byte (n k : Nat) : n / 2 ^ (8 * k) = n / 256 ^ k := by rw [Nat.pow_mul]
end Go.Proofs.YtkbehjdglgpgjaaGreat.Wire

namespace Go.Proofs.YtkbehjdglgpgjaaGreat.Disk
open Go.Proofs.YtkbehjdglgpgjaaGreat.Sha

theorem cpend_len {n : Nat} {s : DS} (h : WF n s) : s.pend.length ≤ n := by
  have h1 := h.rise
  have h2 := h.pend
  generalize s.pend = l at *
  clear h
  have : ∀ (l : List Nat) (a : Nat), l.Pairwise (· < ·) → (∀ i ∈ l, a ≤ i ∧ i < n) → l.length + a ≤ n ∨ l = [] := by
    intro l
    induction l with
    | nil => intro a _ _; exact .inr rfl
    | cons x l ih =>
      intro a hp hb
      rw [List.pairwise_cons] at hp
      have hx := hb x (by simp)
      rcases ih (x + 1) hp.2 (fun i hi => ⟨hp.1 i hi, (hb i (by simp [hi])).2⟩) with h3 | h3
      · left; simp; omega
      · subst h3; left; simp; omega
  rcases this l 0 h1 (fun i hi => ⟨Nat.zero_le _, h2 i hi⟩) with h3 | h3
  · omega
  · subst h3; simp
end Go.Proofs.YtkbehjdglgpgjaaGreat.Disk
