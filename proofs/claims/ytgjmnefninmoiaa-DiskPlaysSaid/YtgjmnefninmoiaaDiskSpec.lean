/-
  Chapter 6: what a disk is, as a value. No program in sight.
-/
import Derived.Test.YtgjmnefninmoiaaPure
namespace Go.Proofs.Ytgjmnefninmoiaa.Disk
open Go.Proofs.Ytgjmnefninmoiaa.Sha

/-- what a disk holds: each sector as it was written last, as it lasts; which are pending, rising; the fuse (-1: none); is it down? -/
structure DS where
  now : List (List Int)
  last : List (List Int)
  pend : List Nat
  fuse : Int
  down : Bool
def zeros64 : List Int := List.replicate 64 0
def rowOf (l : List (List Int)) (i : Nat) : List Int := l.getD i []
def newD (n : Nat) : DS := ⟨List.replicate n zeros64, List.replicate n zeros64, [], -1, false⟩
/-- has the fuse gone? -/
def burnD (s : DS) : Bool × DS := if s.fuse = 0 then (true, { s with down := true }) else if 0 < s.fuse then (false, { s with fuse := s.fuse - 1 }) else (false, s)
/-- one more that is pending -/
def ins (i : Nat) : List Nat → List Nat
  | [] => [i]
  | k :: l => if k < i then k :: ins i l else if k = i then k :: l else i :: k :: l
def noSector (s : DS) (i : Int) : Prop := i < 0 ∨ (s.now.length : Int) ≤ i
instance (s : DS) (i : Int) : Decidable (noSector s i) := by unfold noSector; infer_instance
def putD (s : DS) (i : Nat) (xs : List Int) : DS := { s with now := s.now.set i xs, pend := ins i s.pend }
def writeD (s : DS) (i : Int) (xs : List Int) : Int × DS :=
  if s.down = true then (13, s) else if noSector s i then (1, s) else if xs.length ≠ 64 then (2, s) else if (burnD s).1 = true then (13, (burnD s).2) else (0, putD (burnD s).2 i.toNat xs)
def readD (s : DS) (i : Int) : Int × List Int := if s.down = true then (13, []) else if noSector s i then (1, []) else (0, rowOf s.now i.toNat)
def keptD (s : DS) : DS := { s with last := s.now, pend := [] }
def syncD (s : DS) : Int × DS := if s.down = true then (13, s) else if (burnD s).1 = true then (13, (burnD s).2) else (0, keptD (burnD s).2)
def fuseD (s : DS) (n : Int) : DS := { s with fuse := if n < -1 then -1 else n }
/-- of those that are pending, from the k-th on: what is kept lasts, the others are as they lasted -/
def crashGo (keep : List Bool) : Nat → List Nat → List (List Int) × List (List Int) → List (List Int) × List (List Int)
  | _, [], p => p
  | k, i :: l, p => crashGo keep (k + 1) l (if keep.getD k false = true then (p.1, p.2.set i (rowOf p.1 i)) else (p.1.set i (rowOf p.2 i), p.2))
def crashD (s : DS) (keep : List Bool) : DS := ⟨(crashGo keep 0 s.pend (s.now, s.last)).1, (crashGo keep 0 s.pend (s.now, s.last)).2, [], -1, false⟩

def Sec (l : List Int) : Prop := l.length = 64 ∧ Bytes l
theorem sec_zeros : Sec zeros64 := ⟨by simp [zeros64], fun x hx => by have := List.eq_of_mem_replicate hx; omega⟩
/-- of n sectors, well formed -/
structure WF (n : Nat) (s : DS) : Prop where
  n1 : 1 ≤ n
  n2 : n ≤ 8192
  now : s.now.length = n
  last : s.last.length = n
  secs : ∀ i, i < n → Sec (rowOf s.now i) ∧ Sec (rowOf s.last i)
  pend : ∀ i ∈ s.pend, i < n
  rise : s.pend.Pairwise (· < ·)
  same : ∀ i, i < n → i ∉ s.pend → rowOf s.now i = rowOf s.last i
  fuse : -1 ≤ s.fuse ∧ s.fuse ≤ 9223372036854775807
theorem rowOf_replicate (n i : Nat) (h : i < n) : rowOf (List.replicate n zeros64) i = zeros64 := by simp [rowOf, h]
theorem rowOf_set (l : List (List Int)) (i j : Nat) (x : List Int) (h : j < l.length) : rowOf (l.set i x) j = if i = j then x else rowOf l j := by
  simp only [rowOf, List.getD_eq_getElem?_getD, List.getElem?_set]
  by_cases hij : i = j
  · subst hij; simp [h]
  · simp [hij]
theorem wf_new (n : Nat) (h1 : 1 ≤ n) (h2 : n ≤ 8192) : WF n (newD n) :=
  ⟨h1, h2, by simp [newD], by simp [newD], fun i hi => by simp only [newD]; rw [rowOf_replicate _ _ hi]; exact ⟨sec_zeros, sec_zeros⟩, by simp [newD], by simp [newD], fun _ _ _ => rfl, by simp [newD]⟩
theorem ins_mem (i j : Nat) (l : List Nat) : j ∈ ins i l ↔ j = i ∨ j ∈ l := by
  induction l with
  | nil => simp [ins]
  | cons k l ih =>
    unfold ins
    split
    · rw [List.mem_cons, ih, List.mem_cons]
      constructor
      · rintro (h | h | h) <;> simp [h]
      · rintro (h | h | h) <;> simp [h]
    · split
      · rename_i h; subst h
        rw [List.mem_cons]
        constructor
        · intro h; exact .inr h
        · rintro (h | h)
          · exact .inl h
          · exact h
      · rw [List.mem_cons]
theorem ins_rise (i : Nat) (l : List Nat) (h : l.Pairwise (· < ·)) : (ins i l).Pairwise (· < ·) := by
  induction l with
  | nil => simp [ins]
  | cons k l ih =>
    rw [List.pairwise_cons] at h
    unfold ins
    split
    · rename_i hk
      rw [List.pairwise_cons]
      refine ⟨fun j hj => ?_, ih h.2⟩
      rcases (ins_mem i j l).1 hj with h1 | h1
      · omega
      · exact h.1 j h1
    · split
      · exact List.pairwise_cons.2 h
      · rename_i hk hk2
        rw [List.pairwise_cons]
        refine ⟨fun j hj => ?_, List.pairwise_cons.2 h⟩
        rcases List.mem_cons.1 hj with h1 | h1
        · omega
        · have := h.1 j h1; omega
theorem wf_burn {n : Nat} {s : DS} (h : WF n s) : WF n (burnD s).2 := by
  unfold burnD
  split
  · exact ⟨h.n1, h.n2, h.now, h.last, h.secs, h.pend, h.rise, h.same, h.fuse⟩
  · split
    · have := h.fuse
      exact ⟨h.n1, h.n2, h.now, h.last, h.secs, h.pend, h.rise, h.same, by simp only; omega⟩
    · exact h
theorem burn_now (s : DS) : (burnD s).2.now = s.now := by unfold burnD; split; rfl; split <;> rfl
theorem burn_last (s : DS) : (burnD s).2.last = s.last := by unfold burnD; split; rfl; split <;> rfl
theorem burn_pend (s : DS) : (burnD s).2.pend = s.pend := by unfold burnD; split; rfl; split <;> rfl
theorem wf_put {n : Nat} {s : DS} (h : WF n s) (i : Nat) (xs : List Int) (hi : i < n) (hx : Sec xs) : WF n (putD s i xs) := by
  refine ⟨h.n1, h.n2, by simp [putD, h.now], h.last, fun j hj => ?_, fun j hj => ?_, ins_rise i _ h.rise, fun j hj hn => ?_, h.fuse⟩
  · simp only [putD]
    rw [rowOf_set _ _ _ _ (by rw [h.now]; exact hj)]
    split
    · exact ⟨hx, (h.secs j hj).2⟩
    · exact h.secs j hj
  · rcases (ins_mem i j s.pend).1 hj with h1 | h1
    · omega
    · exact h.pend j h1
  · simp only [putD] at hn ⊢
    rw [rowOf_set _ _ _ _ (by rw [h.now]; exact hj)]
    rw [ins_mem] at hn
    rw [if_neg (fun e => hn (.inl e.symm))]
    exact h.same j hj (fun hm => hn (.inr hm))
theorem wf_write {n : Nat} {s : DS} (h : WF n s) (i : Int) (xs : List Int) (hx : Bytes xs) : WF n (writeD s i xs).2 := by
  unfold writeD
  split
  · exact h
  · split
    · exact h
    · rename_i hi
      split
      · exact h
      · rename_i hl
        split
        · exact wf_burn h
        · unfold noSector at hi
          exact wf_put (wf_burn h) _ _ (by have := h.now; omega) ⟨by omega, hx⟩
theorem wf_kept {n : Nat} {s : DS} (h : WF n s) : WF n (keptD s) :=
  ⟨h.n1, h.n2, h.now, h.now, fun i hi => ⟨(h.secs i hi).1, (h.secs i hi).1⟩, by simp [keptD], by simp [keptD], fun _ _ _ => rfl, h.fuse⟩
theorem wf_sync {n : Nat} {s : DS} (h : WF n s) : WF n (syncD s).2 := by
  unfold syncD
  split
  · exact h
  · split
    · exact wf_burn h
    · exact wf_kept (wf_burn h)
theorem wf_fuse {n : Nat} {s : DS} (h : WF n s) (f : Int) (hf : f ≤ 9223372036854775807) : WF n (fuseD s f) :=
  ⟨h.n1, h.n2, h.now, h.last, h.secs, h.pend, h.rise, h.same, by simp only [fuseD]; split <;> omega⟩
/-- what lies between: the sectors of l are still to be gone through -/
structure Mid (n : Nat) (p : List (List Int) × List (List Int)) (l : List Nat) : Prop where
  a : p.1.length = n
  b : p.2.length = n
  secs : ∀ i, i < n → Sec (rowOf p.1 i) ∧ Sec (rowOf p.2 i)
  same : ∀ i, i < n → i ∉ l → rowOf p.1 i = rowOf p.2 i
def crash1 (keep : List Bool) (k i : Nat) (p : List (List Int) × List (List Int)) : List (List Int) × List (List Int) :=
  if keep.getD k false = true then (p.1, p.2.set i (rowOf p.1 i)) else (p.1.set i (rowOf p.2 i), p.2)
theorem crashGo_cons (keep : List Bool) (k i : Nat) (l : List Nat) (p : List (List Int) × List (List Int)) : crashGo keep k (i :: l) p = crashGo keep (k + 1) l (crash1 keep k i p) := rfl
theorem mid_step {n : Nat} {p : List (List Int) × List (List Int)} {i : Nat} {l : List Nat} (h : Mid n p (i :: l)) (keep : List Bool) (k : Nat) : Mid n (crash1 keep k i p) l := by
  unfold crash1
  split
  · refine ⟨h.a, by simp [h.b], fun j hj => ?_, fun j hj hn => ?_⟩
    · simp only; rw [rowOf_set _ _ _ _ (by rw [h.b]; exact hj)]
      split
      · rename_i e; subst e; exact ⟨(h.secs i hj).1, (h.secs i hj).1⟩
      · exact h.secs j hj
    · simp only; rw [rowOf_set _ _ _ _ (by rw [h.b]; exact hj)]
      split
      · rename_i e; subst e; rfl
      · rename_i e
        exact h.same j hj (fun hm => (List.mem_cons.1 hm).elim (fun h1 => e h1.symm) hn)
  · refine ⟨by simp [h.a], h.b, fun j hj => ?_, fun j hj hn => ?_⟩
    · simp only; rw [rowOf_set _ _ _ _ (by rw [h.a]; exact hj)]
      split
      · rename_i e; subst e; exact ⟨(h.secs i hj).2, (h.secs i hj).2⟩
      · exact h.secs j hj
    · simp only; rw [rowOf_set _ _ _ _ (by rw [h.a]; exact hj)]
      split
      · rename_i e; subst e; rfl
      · rename_i e
        exact h.same j hj (fun hm => (List.mem_cons.1 hm).elim (fun h1 => e h1.symm) hn)
theorem mid_go {n : Nat} (keep : List Bool) (l : List Nat) (k : Nat) (p : List (List Int) × List (List Int)) (h : Mid n p l) : Mid n (crashGo keep k l p) [] := by
  induction l generalizing k p with
  | nil => exact h
  | cons i l ih => rw [crashGo_cons]; exact ih _ _ (mid_step h keep k)
theorem wf_crash {n : Nat} {s : DS} (h : WF n s) (keep : List Bool) : WF n (crashD s keep) := by
  have m := mid_go keep s.pend 0 (s.now, s.last) ⟨h.now, h.last, h.secs, h.same⟩
  exact ⟨h.n1, h.n2, m.a, m.b, m.secs, by simp [crashD], by simp [crashD], fun i hi _ => m.same i hi (by simp), by simp [crashD]⟩
theorem read_len {n : Nat} {s : DS} (h : WF n s) (i : Int) : (readD s i).2.length ≤ 64 ∧ Bytes (readD s i).2 := by
  unfold readD
  split
  · exact ⟨by simp, fun x hx => by simp at hx⟩
  · split
    · exact ⟨by simp, fun x hx => by simp at hx⟩
    · rename_i hi
      unfold noSector at hi
      have := (h.secs i.toNat (by have := h.now; omega)).1
      exact ⟨by have := this.1; simp only; omega, this.2⟩
theorem ins_split (i : Nat) (l : List Nat) (k : Nat) (hk : k ≤ l.length) (h : ∀ j, j < k → l.getD j 0 < i) (h2 : k < l.length → ¬ l.getD k 0 < i) :
    ins i l = if k < l.length ∧ l.getD k 0 = i then l else l.take k ++ i :: l.drop k := by
  induction l generalizing k with
  | nil =>
    have hk0 : k = 0 := by simpa using hk
    subst hk0
    simp [ins]
  | cons x l ih =>
    cases k with
    | zero =>
      have hx : ¬ x < i := by simpa using h2 (by simp)
      unfold ins
      rw [if_neg hx]
      by_cases hxi : x = i
      · rw [if_pos hxi, if_pos ⟨by simp, by simpa using hxi⟩]
      · rw [if_neg hxi, if_neg (fun hc => hxi (by simpa using hc.2))]
        simp
    | succ k =>
      have hx : x < i := by simpa using h 0 (by omega)
      unfold ins
      rw [if_pos hx, ih k (by simpa using hk) (fun j hj => by simpa using h (j + 1) (by omega)) (fun hl => by simpa using h2 (by simpa using hl))]
      simp only [List.length_cons, Nat.add_lt_add_iff_right, List.getD_cons_succ, List.take_succ_cons, List.drop_succ_cons]
      split <;> simp
theorem ins_range (k : Nat) : ins k (List.range k) = List.range (k + 1) := by
  rw [ins_split k (List.range k) k (by simp) (fun j hj => by simp [hj]) (fun h => by simp at h)]
  rw [if_neg (fun hc => by simp at hc)]
  rw [List.take_of_length_le (by simp), List.drop_of_length_le (by simp), List.range_succ]
end Go.Proofs.Ytgjmnefninmoiaa.Disk
