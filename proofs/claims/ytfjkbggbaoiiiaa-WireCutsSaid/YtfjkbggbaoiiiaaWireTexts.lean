/-
  Rows of texts written and read: WireCuts' own 'reads', as lists, and walked.
-/
import Derived.Test.YtfjkbggbaoiiiaaWireUse
import Derived.Test.YtfjkbggbaoiiiaaWireOps
import Derived.Test.YtfjkbggbaoiiiaaBytes
namespace Go.Proofs.Ytfjkbggbaoiiiaa.Wire
open Go.RowKit Go.Proofs.Ytfjkbggbaoiiiaa.Sha

/-- a text, its place; a text, its place; .. -/
def opsT (X : Nat → List Int) (j : Nat) : OpV := if j % 2 = 0 then ⟨1, 0, 0, X (j / 2)⟩ else ⟨0, (j / 2 : Nat), 3, []⟩
theorem opsT_txt (X : Nat → List Int) (k : Nat) : opsT X (2 * k) = ⟨1, 0, 0, X k⟩ := by
  unfold opsT; rw [if_pos (by omega), show 2 * k / 2 = k by omega]
theorem opsT_num (X : Nat → List Int) (k : Nat) : opsT X (2 * k + 1) = ⟨0, (k : Nat), 3, []⟩ := by
  unfold opsT; rw [if_neg (by omega), show (2 * k + 1) / 2 = k by omega]
theorem fits_3 (k : Nat) (h : k < 16777216) : fits (k : Nat) 3 = true := by
  unfold fits
  apply decide_eq_true
  refine ⟨by omega, by omega, by omega, by omega, ?_⟩
  have : (256 : Int) ^ (3 : Int).toNat = 16777216 := by decide +kernel
  rw [this]; omega
theorem opsT_ok (X : Nat → List Int) (n : Nat) (hn : n ≤ 20) (hX : ∀ k, k < n → (X k).length ≤ 2000) (j : Nat) (hj : j < 2 * n) : okOp (opsT X j) = true := by
  rcases Nat.mod_two_eq_zero_or_one j with h | h
  · obtain ⟨k, rfl⟩ : ∃ k, j = 2 * k := ⟨j / 2, by omega⟩
    rw [opsT_txt]
    have := hX k (by omega)
    unfold okOp
    simp; omega
  · obtain ⟨k, rfl⟩ : ∃ k, j = 2 * k + 1 := ⟨j / 2, by omega⟩
    rw [opsT_num]
    unfold okOp
    simp only [if_true]
    exact fits_3 k (by omega)
theorem encAll_all (X : Nat → OpV) (n : Nat) (h : ∀ k, k < n → okOp (X k) = true) : encAll X n = (0, items X 0 n) := by
  induction n with
  | zero => rfl
  | succ n ih => rw [encAll, ih (fun k hk => h k (by omega)), encOp_ok _ _ (h n (by omega)), items_snoc, Nat.zero_add]

/-- one text and its place read: the answers, and what is left -/
def rdOne (st : St) : List Int × Int × St := ((decTxt st).1, (decNum (decTxt st).2 3).1, (decNum (decTxt st).2 3).2)
/-- behind k of n: what the bytes were so far, and what is left where they are those of the texts -/
def RdInv (X : Nat → List Int) (n : Nat) (xs : List Int) (k : Nat) (st : St) : Prop :=
  Bytes st.2 ∧ st.2.length ≤ xs.length ∧ (st.1 = 0 → xs = items (opsT X) 0 (2 * k) ++ st.2) ∧ (xs = items (opsT X) 0 (2 * n) → st = (0, items (opsT X) (2 * k) (2 * n - 2 * k)))
theorem rdInv_0 (X : Nat → List Int) (n : Nat) (xs : List Int) (h : Bytes xs) : RdInv X n xs 0 (0, xs) :=
  ⟨h, Nat.le_refl _, fun _ => by simp [items], fun e => by rw [Nat.mul_zero, Nat.sub_zero, ← e]⟩
theorem decTxt_err0 (st : St) (h : (decTxt st).2.1 = 0) : st.1 = 0 := by
  unfold decTxt at h
  split at h
  · assumption
  · exact h
theorem decNum_err0 (st : St) (s : Int) (h : (decNum st s).2.1 = 0) : st.1 = 0 := by
  unfold decNum at h
  split at h
  · assumption
  · exact h
theorem rdInv_good (X : Nat → List Int) (n : Nat) (hn : n ≤ 20) (hX : ∀ k, k < n → (X k).length ≤ 2000) (xs : List Int) (k : Nat) (hk : k < n) (st : St) (h : RdInv X n xs k st) (e : xs = items (opsT X) 0 (2 * n)) :
    (decTxt st).1 = X k ∧ (decNum (decTxt st).2 3).1 = k ∧ (decNum (decTxt st).2 3).2 = (0, items (opsT X) (2 * (k + 1)) (2 * n - 2 * (k + 1))) := by
  have hst := h.2.2.2 e
  subst hst
  have h1 := items_txt (opsT X) (2 * k) (2 * n) (by omega) (by rw [opsT_txt]; simp) (opsT_ok X n hn hX _ (by omega))
  rw [opsT_txt] at h1
  rw [h1]
  have h2 := items_num (opsT X) (2 * k + 1) (2 * n) (by omega) (by rw [opsT_num]) (opsT_ok X n hn hX _ (by omega))
  rw [opsT_num] at h2
  refine ⟨rfl, ?_, ?_⟩
  · simp only [h2]
  · simp only [h2]; rw [show 2 * k + 1 + 1 = 2 * (k + 1) by omega]
theorem rdInv_step (X : Nat → List Int) (n : Nat) (hn : n ≤ 20) (hX : ∀ k, k < n → (X k).length ≤ 2000) (xs : List Int) (k : Nat) (hk : k < n) (st : St) (h : RdInv X n xs k st)
    (e1 : (decTxt st).1 = X k) (e2 : (decNum (decTxt st).2 3).1 = k) : RdInv X n xs (k + 1) (decNum (decTxt st).2 3).2 := by
  have hb1 := (decTxt_bytes st h.1).1
  refine ⟨decNum_bytes _ _ hb1, Nat.le_trans (decNum_len _ _) (Nat.le_trans (decTxt_len _) h.2.1), fun h0 => ?_, fun e => (rdInv_good X n hn hX xs k hk st h e).2.2⟩
  have h1 := decNum_err0 _ _ h0
  have h2 := decTxt_err0 _ h1
  have hx := h.2.2.1 h2
  have es : st = (0, st.2) := Prod.ext h2 rfl
  have ed : decTxt (0, st.2) = (X k, (0, (decTxt st).2.2)) := by
    rw [← es]; exact Prod.ext e1 (Prod.ext h1 rfl)
  have p1 := dec_txt_back st.2 h.1 _ _ ed
  have en : decNum (0, (decTxt st).2.2) 3 = ((k : Int), (0, (decNum (decTxt st).2 3).2.2)) := by
    have : (decTxt st).2 = (0, (decTxt st).2.2) := Prod.ext h1 rfl
    rw [← this]; exact Prod.ext e2 (Prod.ext h0 rfl)
  have p2 := (dec_num_back _ hb1 _ _ _ en).2
  rw [hx, p1, p2, show 2 * (k + 1) = 2 * k + 1 + 1 by omega, items_snoc, items_snoc, Nat.zero_add, Nat.zero_add, opsT_txt, opsT_num]
  simp [item, List.append_assoc]
theorem rdInv_end (X : Nat → List Int) (n : Nat) (xs : List Int) (st : St) (h : RdInv X n xs n st) : endOf st = 0 ↔ xs = items (opsT X) 0 (2 * n) := by
  constructor
  · intro h0
    unfold endOf at h0
    split at h0
    · rename_i h1
      split at h0
      · rename_i h2
        have := h.2.2.1 h1
        rw [this, List.eq_nil_of_length_eq_zero h2, List.append_nil]
      · cases h0
    · rename_i h1; exact absurd h0 h1
  · intro e
    rw [h.2.2.2 e, Nat.sub_self]; rfl

def ReadsPost (X : Nat → List Int) (n : Nat) (xs : List Int) (w : World) (e : Ending) (w' : World) : Prop := ∃ r : Bool, e = .returned (.bool r) ∧ (r = true ↔ xs = items (opsT X) 0 (2 * n)) ∧ Below w.heap.size w w'
end Go.Proofs.Ytfjkbggbaoiiiaa.Wire
