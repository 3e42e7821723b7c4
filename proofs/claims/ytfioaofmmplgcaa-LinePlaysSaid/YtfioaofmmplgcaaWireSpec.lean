/-
  Chapter 4 as plain lists of whole numbers: a number in so many bytes, what is written, what is read. No program in sight.
-/
import Derived.Test.YtfioaofmmplgcaaPure
namespace Go.Proofs.Ytfioaofmmplgcaa.Wire
open Go.Proofs.Ytfioaofmmplgcaa.Sha

/-- n in k bytes, the greatest first -/
def be (n : Nat) : Nat → List Int
  | 0 => []
  | k + 1 => ((n / 256 ^ k % 256 : Nat) : Int) :: be n k
theorem be_len (n k : Nat) : (be n k).length = k := by
  induction k with
  | zero => rfl
  | succ k ih => simp [be, ih]
theorem be_bytes (n k : Nat) : Bytes (be n k) := by
  induction k with
  | zero => intro x hx; simp [be] at hx
  | succ k ih =>
    intro x hx
    rcases List.mem_cons.1 hx with rfl | h
    · have : n / 256 ^ k % 256 < 256 := Nat.mod_lt _ (by omega)
      omega
    · exact ih x h
/-- the number of some bytes -/
def valA (a : Nat) : List Int → Nat
  | [] => a
  | b :: l => valA (a * 256 + b.toNat) l
def val (l : List Int) : Nat := valA 0 l
theorem valA_append (a : Nat) (l m : List Int) : valA a (l ++ m) = valA (valA a l) m := by
  induction l generalizing a with
  | nil => rfl
  | cons b l ih => exact ih _
theorem valA_lt (a : Nat) (l : List Int) (h : Bytes l) (b : Nat) (ha : a < b) : valA a l < b * 256 ^ l.length := by
  induction l generalizing a b with
  | nil => simpa [valA] using ha
  | cons x l ih =>
    have hx := h x (List.mem_cons_self ..)
    have := ih (a * 256 + x.toNat) (fun y hy => h y (List.mem_cons_of_mem _ hy)) (b * 256) (by omega)
    rw [List.length_cons, Nat.pow_succ', ← Nat.mul_assoc]
    exact this
theorem val_lt (l : List Int) (h : Bytes l) : val l < 256 ^ l.length := by
  have := valA_lt 0 l h 1 (by omega)
  simpa [val] using this
theorem valA_be (a n k : Nat) : valA a (be n k) = a * 256 ^ k + n % 256 ^ k := by
  induction k generalizing a with
  | zero => simp [be, valA, Nat.mod_one]
  | succ k ih =>
    rw [be, valA, ih]
    have h1 : n % 256 ^ (k + 1) = n % 256 ^ k + 256 ^ k * (n / 256 ^ k % 256) := by rw [Nat.pow_succ, Nat.mod_mul]
    rw [h1, Int.toNat_natCast, Nat.add_mul, Nat.pow_succ, Nat.mul_comm (256 ^ k) (n / 256 ^ k % 256), Nat.mul_comm (256 ^ k) 256, Nat.mul_assoc]
    omega
theorem val_be (n k : Nat) (h : n < 256 ^ k) : val (be n k) = n := by
  rw [val, valA_be, Nat.mod_eq_of_lt h]; omega
theorem be_val (l : List Int) (h : Bytes l) : be (val l) l.length = l := by
  have key : ∀ (l : List Int), Bytes l → ∀ a, be (valA a l) l.length = l := by
    intro l
    induction l with
    | nil => intro _ a; rfl
    | cons x l ih =>
      intro h a
      have hx := h x (List.mem_cons_self ..)
      have hl : Bytes l := fun y hy => h y (List.mem_cons_of_mem _ hy)
      rw [List.length_cons, be, valA, ih hl]
      congr 1
      have hv : ∀ b, valA b l = b * 256 ^ l.length + val l := by
        have g : ∀ (m : List Int) (b c : Nat), valA (b + c) m = b * 256 ^ m.length + valA c m := by
          intro m
          induction m with
          | nil => intro b c; simp [valA]
          | cons y m ihm =>
            intro b c
            rw [valA, valA, show (b + c) * 256 + y.toNat = b * 256 + (c * 256 + y.toNat) by omega, ihm, List.length_cons, Nat.pow_succ', Nat.mul_assoc]
        intro b
        have := g l b 0
        simpa [val] using this
      rw [hv, Nat.mul_comm _ (256 ^ l.length), Nat.mul_add_div (Nat.pow_pos (by omega)), Nat.div_eq_of_lt (val_lt l hl), Nat.add_zero]
      omega
  exact key l h 0

/-- does a number go into so many bytes? -/
def fits (n s : Int) : Bool := decide (1 ≤ s ∧ s ≤ 8 ∧ 0 ≤ n ∧ n ≤ 4611686018427387904 ∧ n < 256 ^ s.toNat)

/-- an error (0: none), and what was written, or is left to be read -/
abbrev St := Int × List Int
def encNum (st : St) (n s : Int) : St := if st.1 = 0 then (if fits n s then (0, st.2 ++ be n.toNat s.toNat) else (1, [])) else st
def encTxt (st : St) (b : List Int) : St := if st.1 = 0 then (if b.length ≤ 65535 then (0, st.2 ++ (be b.length 2 ++ b)) else (3, [])) else st
def decNum (st : St) (s : Int) : Int × St :=
  if st.1 = 0 then
    (if 1 ≤ s ∧ s ≤ 8 then
      (if s.toNat ≤ st.2.length ∧ val (st.2.take s.toNat) ≤ 4611686018427387904 then ((val (st.2.take s.toNat) : Nat), (0, st.2.drop s.toNat)) else (0, (2, st.2)))
    else (0, (1, st.2)))
  else (0, st)
def decTxt (st : St) : List Int × St :=
  if st.1 = 0 then
    (if 2 + val (st.2.take 2) ≤ st.2.length then ((st.2.drop 2).take (val (st.2.take 2)), (0, st.2.drop (2 + val (st.2.take 2)))) else ([], (2, st.2)))
  else ([], st)
/-- k bytes as they are -/
def rawD (st : St) (k : Nat) : List Int × St := if st.1 = 0 then (if k ≤ st.2.length then (st.2.take k, (0, st.2.drop k)) else ([], (2, st.2))) else ([], st)
/-- the number of the first s bytes, if there are so many and it is an amount -/
def frst (xs : List Int) (s : Nat) : Int × Bool := if s ≤ xs.length ∧ val (xs.take s) ≤ 4611686018427387904 then ((val (xs.take s) : Nat), true) else (0, false)
def endOf (st : St) : Int := if st.1 = 0 then (if st.2.length = 0 then 0 else 2) else st.1

theorem decNum_size (xs : List Int) (s : Int) (h : ¬ (1 ≤ s ∧ s ≤ 8)) : decNum (0, xs) s = (0, (1, xs)) := by
  unfold decNum; simp only [if_true]; rw [if_neg h]
theorem decNum_frst (xs : List Int) (s : Nat) (h1 : 1 ≤ s) (h8 : s ≤ 8) : decNum (0, xs) s = if (frst xs s).2 = true then ((frst xs s).1, (0, xs.drop s)) else (0, (2, xs)) := by
  unfold decNum frst
  simp only [if_true, Int.toNat_natCast]
  rw [if_pos (by omega)]
  by_cases h : s ≤ xs.length ∧ val (xs.take s) ≤ 4611686018427387904
  · rw [if_pos h, if_pos h]; rfl
  · rw [if_neg h, if_neg h]; rfl
theorem frst_true {xs : List Int} {s : Nat} (h : (frst xs s).2 = true) : s ≤ xs.length := by
  unfold frst at h
  split at h
  · rename_i h1; exact h1.1
  · simp at h
theorem frst_two (xs : List Int) (hb : Bytes xs) : frst xs 2 = if 2 ≤ xs.length then (((val (xs.take 2) : Nat) : Int), true) else (0, false) := by
  unfold frst
  by_cases h : 2 ≤ xs.length
  · have h1 := val_lt (xs.take 2) (hb.take 2)
    rw [List.length_take, Nat.min_eq_left h] at h1
    rw [if_pos ⟨h, by omega⟩, if_pos h]
  · rw [if_neg (fun hh => h hh.1), if_neg h]
theorem decTxt_ok (xs : List Int) (h : 2 + val (xs.take 2) ≤ xs.length) : decTxt (0, xs) = ((xs.drop 2).take (val (xs.take 2)), (0, xs.drop (2 + val (xs.take 2)))) := by
  unfold decTxt; simp only [if_true]; rw [if_pos h]
theorem decTxt_no (xs : List Int) (h : ¬ 2 + val (xs.take 2) ≤ xs.length) : decTxt (0, xs) = ([], (2, xs)) := by
  unfold decTxt; simp only [if_true]; rw [if_neg h]
theorem fits_be {n s : Int} (h : fits n s = true) : val (be n.toNat s.toNat) = n.toNat ∧ n.toNat ≤ 4611686018427387904 ∧ 1 ≤ s ∧ s ≤ 8 ∧ 0 ≤ n := by
  simp only [fits, decide_eq_true_eq] at h
  obtain ⟨h1, h2, h3, h4, h5⟩ := h
  refine ⟨val_be _ _ ?_, by omega, h1, h2, h3⟩
  have : ((n.toNat : Nat) : Int) < ((256 ^ s.toNat : Nat) : Int) := by
    rw [Int.toNat_of_nonneg h3]
    simpa using h5
  exact_mod_cast this
/-- what was written is read -/
theorem dec_num (n s : Int) (r : List Int) (h : fits n s = true) : decNum (0, be n.toNat s.toNat ++ r) s = (n, (0, r)) := by
  obtain ⟨h1, h2, h3, h4, h5⟩ := fits_be h
  have hl := be_len n.toNat s.toNat
  unfold decNum
  simp only [if_true]
  rw [if_pos ⟨h3, h4⟩, List.take_left' hl, List.drop_left' hl, h1, if_pos ⟨by rw [List.length_append, hl]; omega, h2⟩, Int.toNat_of_nonneg h5]
theorem dec_txt (b r : List Int) (h : b.length ≤ 65535) : decTxt (0, be b.length 2 ++ b ++ r) = (b, (0, r)) := by
  have hl := be_len b.length 2
  have hv := val_be b.length 2 (by omega)
  unfold decTxt
  simp only [if_true]
  have h1 : (be b.length 2 ++ b ++ r).take 2 = be b.length 2 := by rw [List.append_assoc, List.take_left' hl]
  have h2 : (be b.length 2 ++ b ++ r).drop 2 = b ++ r := by rw [List.append_assoc, List.drop_left' hl]
  rw [h1, hv, if_pos (by simp only [List.length_append, hl]; omega), h2, List.take_left' rfl]
  rw [← List.drop_drop, h2, List.drop_left' rfl]
/-- what is read without an error stood there as it is written -/
theorem dec_num_back (x : List Int) (hx : Bytes x) (s : Int) (r : List Int) (v : Int) (h : decNum (0, x) s = (v, (0, r))) : 0 ≤ v ∧ x = be v.toNat s.toNat ++ r := by
  unfold decNum at h
  simp only [if_true] at h
  split at h
  · split at h
    · rename_i h1 h2
      simp only [Prod.mk.injEq, true_and] at h
      obtain ⟨rfl, rfl⟩ := h
      refine ⟨by omega, ?_⟩
      have := be_val (x.take s.toNat) (hx.take _)
      rw [List.length_take, Nat.min_eq_left h2.1] at this
      rw [Int.toNat_natCast, this, List.take_append_drop]
    · simp at h
  · simp at h
theorem dec_txt_back (x : List Int) (hx : Bytes x) (b r : List Int) (h : decTxt (0, x) = (b, (0, r))) : x = be b.length 2 ++ b ++ r := by
  unfold decTxt at h
  simp only [if_true] at h
  split at h
  · rename_i h1
    simp only [Prod.mk.injEq, true_and] at h
    obtain ⟨rfl, rfl⟩ := h
    have h2 : ((x.drop 2).take (val (x.take 2))).length = val (x.take 2) := by
      rw [List.length_take, List.length_drop]; omega
    have := be_val (x.take 2) (hx.take _)
    rw [List.length_take, Nat.min_eq_left (by omega)] at this
    rw [h2, this, ← List.drop_drop, List.append_assoc, List.take_append_drop, List.take_append_drop]
  · simp at h
theorem decNum_err (st : St) (s : Int) (h : st.1 ≠ 0) : decNum st s = (0, st) := by unfold decNum; rw [if_neg h]
theorem decTxt_err (st : St) (h : st.1 ≠ 0) : decTxt st = ([], st) := by unfold decTxt; rw [if_neg h]
theorem decNum_bytes (st : St) (s : Int) (h : Bytes st.2) : Bytes (decNum st s).2.2 := by
  unfold decNum
  split
  · split
    · split
      · exact h.drop _
      · exact h
    · exact h
  · exact h
theorem decTxt_bytes (st : St) (h : Bytes st.2) : Bytes (decTxt st).2.2 ∧ Bytes (decTxt st).1 := by
  unfold decTxt
  split
  · split
    · exact ⟨h.drop _, (h.drop _).take _⟩
    · exact ⟨h, fun x hx => by simp at hx⟩
  · exact ⟨h, fun x hx => by simp at hx⟩
theorem encNum_len (st : St) (n s : Int) : (encNum st n s).2.length ≤ st.2.length + 8 := by
  unfold encNum
  split
  · split
    · rename_i h
      have := (fits_be h).2.2.2.1
      simp only [List.length_append, be_len]; omega
    · simp
  · omega
theorem encTxt_len (st : St) (b : List Int) : (encTxt st b).2.length ≤ st.2.length + 65537 := by
  unfold encTxt
  split
  · split
    · simp only [List.length_append, be_len]; omega
    · simp
  · omega

/-- a byte of a number, as the program reckons it -/
theorem shr_byte (n k : Nat) : n / 2 ^ (8 * k) = n / 256 ^ k := by rw [Nat.pow_mul]
/-- numbers of one size are in order as their bytes are -/
theorem be_at (n k i : Nat) (h : i < k) : at_ (be n k) i = ((n / 256 ^ (k - 1 - i) % 256 : Nat) : Int) := by
  induction k generalizing i with
  | zero => omega
  | succ k ih =>
    cases i with
    | zero => simp [be, at_]
    | succ i =>
      have := ih i (by omega)
      rw [show k + 1 - 1 - (i + 1) = k - 1 - i by omega]
      simpa [be, at_] using this
end Go.Proofs.Ytfioaofmmplgcaa.Wire
