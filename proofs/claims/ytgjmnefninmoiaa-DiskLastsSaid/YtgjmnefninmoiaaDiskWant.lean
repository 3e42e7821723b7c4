/-
  What lasts of the sectors that a law wrote.
-/
import Derived.Test.YtgjmnefninmoiaaDiskText
namespace Go.Proofs.Ytgjmnefninmoiaa.Disk
open Go.Proofs.Ytgjmnefninmoiaa.Sha

theorem ins_last (i : Nat) (l : List Nat) (h : ∀ x ∈ l, x < i) : ins i l = l ++ [i] := by
  induction l with
  | nil => rfl
  | cons x l ih =>
    unfold ins
    rw [if_pos (h x (by simp)), ih (fun y hy => h y (by simp [hy]))]
    rfl
/-- which sectors are written anew -/
def odd_ (ys : List Int) (j : Nat) : Bool := decide (at_ ys j % 2 = 1)
/-- .. of the first i -/
def chg (ys : List Int) : Nat → List Nat
  | 0 => []
  | i + 1 => if odd_ ys i = true then chg ys i ++ [i] else chg ys i
theorem chg_lt (ys : List Int) (i : Nat) : ∀ x ∈ chg ys i, x < i := by
  induction i with
  | zero => intro x hx; simp [chg] at hx
  | succ i ih =>
    intro x hx
    unfold chg at hx
    split at hx
    · rcases List.mem_append.1 hx with h | h
      · have := ih x h; omega
      · simp at h; omega
    · have := ih x hx; omega
theorem chg_len (ys : List Int) (i : Nat) : (chg ys i).length ≤ i := by
  induction i with
  | zero => simp [chg]
  | succ i ih =>
    unfold chg
    split
    · simp; omega
    · omega
def wantOf (xs ys : List Int) (bs : List Bool) (j : Nat) : Int := if odd_ ys j = true ∧ bs.getD (chg ys j).length false = true then at_ ys j else at_ xs j
theorem crashGo_append (bs : List Bool) (l m : List Nat) (k : Nat) (p : List (List Int) × List (List Int)) : crashGo bs k (l ++ m) p = crashGo bs (k + l.length) m (crashGo bs k l p) := by
  induction l generalizing k p with
  | nil => rfl
  | cons i l ih => rw [List.cons_append, crashGo_cons, crashGo_cons, ih]; congr 1; simp; omega
theorem crash_want (n : Nat) (xs ys : List Int) (bs : List Bool) (M N : List (List Int)) (hM : M.length = n) (hN : N.length = n)
    (rM : ∀ j, j < n → rowOf M j = if odd_ ys j = true then textOf 64 (at_ ys j) else textOf 64 (at_ xs j)) (rN : ∀ j, j < n → rowOf N j = textOf 64 (at_ xs j)) (i : Nat) (hi : i ≤ n) :
    (crashGo bs 0 (chg ys i) (M, N)).1.length = n ∧ (crashGo bs 0 (chg ys i) (M, N)).2.length = n ∧ ∀ j, j < n → rowOf (crashGo bs 0 (chg ys i) (M, N)).1 j = (if j < i then textOf 64 (wantOf xs ys bs j) else rowOf M j) ∧ (i ≤ j → rowOf (crashGo bs 0 (chg ys i) (M, N)).2 j = rowOf N j) := by
  induction i with
  | zero => exact ⟨hM, hN, fun j hj => ⟨rfl, fun _ => rfl⟩⟩
  | succ i ih =>
    obtain ⟨l1, l2, h⟩ := ih (by omega)
    by_cases ho : odd_ ys i = true
    · have e : crashGo bs 0 (chg ys (i + 1)) (M, N) = crash1 bs (chg ys i).length i (crashGo bs 0 (chg ys i) (M, N)) := by
        rw [chg, if_pos ho, crashGo_append, crashGo_cons, Nat.zero_add]; rfl
      rw [e]
      generalize crashGo bs 0 (chg ys i) (M, N) = R at *
      unfold crash1
      by_cases hk : bs.getD (chg ys i).length false = true
      · rw [if_pos hk]
        refine ⟨l1, by simp [l2], fun j hj => ⟨?_, fun hij => ?_⟩⟩
        · obtain ⟨h1, -⟩ := h j hj
          simp only
          rw [h1]
          by_cases hji : j < i
          · rw [if_pos hji, if_pos (by omega)]
          · rw [if_neg hji]
            by_cases hj2 : j < i + 1
            · obtain rfl : j = i := by omega
              rw [if_pos (by omega), rM j hj, if_pos ho]
              unfold wantOf
              rw [if_pos ⟨ho, hk⟩]
            · rw [if_neg (by omega)]
        · simp only
          rw [rowOf_set _ _ _ _ (by omega), if_neg (by omega)]
          exact (h j hj).2 (by omega)
      · rw [if_neg hk]
        refine ⟨by simp [l1], l2, fun j hj => ⟨?_, fun hij => (h j hj).2 (by omega)⟩⟩
        simp only
        rw [rowOf_set _ _ _ _ (by omega)]
        by_cases hij : i = j
        · subst hij
          rw [if_pos rfl, if_pos (by omega), (h i hj).2 (Nat.le_refl _), rN i hj]
          unfold wantOf
          rw [if_neg (fun hc => hk hc.2)]
        · rw [if_neg hij, (h j hj).1]
          by_cases hji : j < i
          · rw [if_pos hji, if_pos (by omega)]
          · rw [if_neg hji, if_neg (by omega)]
    · have e : chg ys (i + 1) = chg ys i := by rw [chg, if_neg ho]
      rw [e]
      refine ⟨l1, l2, fun j hj => ⟨?_, fun hij => (h j hj).2 (by omega)⟩⟩
      rw [(h j hj).1]
      by_cases hji : j < i
      · rw [if_pos hji, if_pos (by omega)]
      · rw [if_neg hji]
        by_cases hj2 : j < i + 1
        · obtain rfl : j = i := by omega
          rw [if_pos (by omega), rM j hj, if_neg ho]
          unfold wantOf
          rw [if_neg (fun hc => ho hc.1)]
        · rw [if_neg (by omega)]
theorem and1 : ∀ k : Fin 256, bits .and .u8 ((k.val : Nat) : Int) 1 = ((k.val % 2 : Nat) : Int) := by decide +kernel
theorem and1_is (y : Int) (h : 0 ≤ y ∧ y ≤ 255) : bits .and .u8 y 1 = y % 2 := by
  have := and1 ⟨y.toNat, by omega⟩
  simp only at this
  rw [show ((y.toNat : Nat) : Int) = y by omega] at this
  rw [this]
  omega
/-- what is wanted of the first k, noughts behind -/
def wants (xs ys : List Int) (bs : List Bool) (n k : Nat) : List Int := (List.range n).map fun j => if j < k then wantOf xs ys bs j else 0
theorem wants_len (xs ys : List Int) (bs : List Bool) (n k : Nat) : (wants xs ys bs n k).length = n := by simp [wants]
theorem wants_0 (xs ys : List Int) (bs : List Bool) (n : Nat) : wants xs ys bs n 0 = List.replicate n 0 := by
  apply List.ext_getElem
  · simp [wants]
  · intro i h1 h2
    simp only [wants, List.getElem_map, List.getElem_replicate, Nat.not_lt_zero, if_false]
theorem wants_at (xs ys : List Int) (bs : List Bool) (n i : Nat) (h : i < n) : at_ (wants xs ys bs n n) i = wantOf xs ys bs i := by
  unfold wants; rw [at_range _ _ _ h, if_pos h]
theorem wants_step (xs ys : List Int) (bs : List Bool) (n k : Nat) (x : Int) (hx : wantOf xs ys bs k = x) : (wants xs ys bs n k).set k x = wants xs ys bs n (k + 1) := by
  apply at_ext
  · simp [wants]
  · intro i hi
    rw [List.length_set, wants_len] at hi
    rw [at_set _ _ _ _ (by rw [wants_len]; exact hi)]
    unfold wants
    rw [at_range _ _ _ hi, at_range _ _ _ hi]
    by_cases hk : k = i
    · subst hk; rw [if_pos rfl, if_pos (by omega), hx]
    · rw [if_neg hk]
      by_cases h2 : i < k
      · rw [if_pos h2, if_pos (by omega)]
      · rw [if_neg h2, if_neg (by omega)]
theorem set_set_ (l : List Int) (k : Nat) (x y : Int) : (l.set k x).set k y = l.set k y := List.set_set ..
end Go.Proofs.Ytgjmnefninmoiaa.Disk
