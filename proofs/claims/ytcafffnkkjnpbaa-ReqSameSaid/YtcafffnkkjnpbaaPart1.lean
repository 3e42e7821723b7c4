/-
  Parts laid together: Pure WireSpec ReqSpec ReqLen ReqCodeSpec.
-/
import Derived.ProofKit
import Derived.KernelRfl

namespace Go.Proofs.Ytcafffnkkjnpbaa.Sha

/-- a fact that no tactic looks into (a structure: 'contradiction' unfolds the library's Hid, and reckons what stands in it) -/
structure Kept (p : Prop) : Prop where
  out : p
/-- element i of a list of numbers, 0 behind its end (a name of its own: simp leaves it alone) -/
def at_ (l : List Int) (i : Nat) : Int := l.getD i 0
theorem at_eq {l : List Int} {i : Nat} (h : i < l.length) : l[i]? = some (at_ l i) := by simp [at_, h]
theorem at_append_left {l m : List Int} {i : Nat} (h : i < l.length) : at_ (l ++ m) i = at_ l i := by simp [at_, List.getD_eq_getElem?_getD, List.getElem?_append_left h]
theorem at_append_right {l m : List Int} {i : Nat} (h : l.length ≤ i) : at_ (l ++ m) i = at_ m (i - l.length) := by simp [at_, List.getD_eq_getElem?_getD, List.getElem?_append_right h]
theorem at_take {l : List Int} {n i : Nat} (h : i < n) : at_ (l.take n) i = at_ l i := by simp [at_, List.getD_eq_getElem?_getD, h]
theorem at_drop (l : List Int) (n i : Nat) : at_ (l.drop n) i = at_ l (n + i) := by simp [at_, List.getD_eq_getElem?_getD]
theorem at_range (f : Nat → Int) (n i : Nat) (h : i < n) : at_ ((List.range n).map f) i = f i := by simp [at_, List.getD_eq_getElem?_getD, h]
theorem at_ext {l m : List Int} (hl : l.length = m.length) (h : ∀ i, i < l.length → at_ l i = at_ m i) : l = m := by
  apply List.ext_getElem hl
  intro i h1 h2
  have := h i h1
  simpa [at_, h1, h2] using this
/-- bytes -/
def Bytes (l : List Int) : Prop := ∀ x ∈ l, 0 ≤ x ∧ x ≤ 255
theorem Bytes.at_ {l : List Int} (h : Bytes l) (i : Nat) : 0 ≤ at_ l i ∧ at_ l i ≤ 255 := by
  unfold Sha.at_
  by_cases hi : i < l.length
  · have := h l[i] (List.getElem_mem hi)
    simpa [hi] using this
  · simp [List.getElem?_eq_none (Nat.le_of_not_lt hi)]
theorem Bytes.append {l m : List Int} (h : Bytes l) (k : Bytes m) : Bytes (l ++ m) := fun x hx => by
  rcases List.mem_append.1 hx with h1 | h1
  · exact h x h1
  · exact k x h1
theorem Bytes.take {l : List Int} (h : Bytes l) (n : Nat) : Bytes (l.take n) := fun x hx => h x (List.mem_of_mem_take hx)
theorem Bytes.drop {l : List Int} (h : Bytes l) (n : Nat) : Bytes (l.drop n) := fun x hx => h x (List.mem_of_mem_drop hx)
theorem at_out {l : List Int} {i : Nat} (h : l.length ≤ i) : at_ l i = 0 := by simp [at_, List.getD_eq_getElem?_getD, List.getElem?_eq_none h]
/-- are both the same? -/
def sameB (xs ys : List Int) : Bool := decide (xs = ys)
theorem sameB_self (xs : List Int) : sameB xs xs = true := by simp [sameB]
theorem sameB_len {xs ys : List Int} (hl : xs.length ≠ ys.length) : sameB xs ys = false := by
  unfold sameB
  rw [decide_eq_false_iff_not]
  rintro rfl
  exact hl rfl
def ints (k : IntKind) (l : List Int) : List Value := l.map (Value.int k)
theorem ints_len (k : IntKind) (l : List Int) : (ints k l).length = l.length := by simp [ints]
theorem ints_at (k : IntKind) (l : List Int) (i : Nat) (h : i < l.length) : (ints k l)[i]? = some (.int k (at_ l i)) := by simp [ints, at_, h]
theorem ints_one (k : IntKind) (l : List Int) : ∀ v ∈ ints k l, v.oneCell' = true := by
  intro v hv
  obtain ⟨x, _, rfl⟩ := List.mem_map.1 hv
  rfl
theorem ints_set (k : IntKind) (l : List Int) (i : Nat) (x : Int) : (ints k l).set i (.int k x) = ints k (l.set i x) := by simp [ints, List.map_set]
/-- the first m of f, noughts behind, n in all -/
def upto (f : Nat → Int) (n m : Nat) : List Int := (List.range n).map fun i => if i < m then f i else 0
theorem upto_len (f : Nat → Int) (n m : Nat) : (upto f n m).length = n := by simp [upto]
theorem upto_at (f : Nat → Int) (n m i : Nat) (h : i < n) : at_ (upto f n m) i = if i < m then f i else 0 := at_range _ _ _ h
theorem at_set (l : List Int) (k i : Nat) (x : Int) (h : i < l.length) : at_ (l.set k x) i = if k = i then x else at_ l i := by
  simp [at_, List.getD_eq_getElem?_getD, List.getElem?_set]
  by_cases hk : k = i
  · subst hk; simp [h]
  · simp [hk]
theorem upto_set (f : Nat → Int) (n m : Nat) : (upto f n m).set m (f m) = upto f n (m + 1) := by
  apply at_ext
  · simp [upto_len]
  · intro i hi
    rw [List.length_set, upto_len] at hi
    rw [at_set _ _ _ _ (by rw [upto_len]; exact hi), upto_at _ _ _ _ hi, upto_at _ _ _ _ hi]
    by_cases h : m = i
    · subst h; simp
    · rw [if_neg h]
      by_cases h2 : i < m
      · rw [if_pos h2, if_pos (by omega)]
      · rw [if_neg h2, if_neg (by omega)]
theorem upto_all (l : List Int) (n : Nat) (h : l.length = n) : upto (at_ l) n n = l := by
  apply at_ext
  · rw [upto_len, h]
  · intro i hi
    rw [upto_len] at hi
    rw [upto_at _ _ _ _ hi, if_pos hi]
def arr (k : IntKind) (l : List Int) : Array Value := (ints k l).toArray
theorem arr_at (k : IntKind) (l : List Int) (i : Nat) (h : i < l.length) : (arr k l)[i]? = some (.int k (at_ l i)) := by
  rw [arr, List.getElem?_toArray]; exact ints_at k l i h
theorem arr_set (k : IntKind) (l : List Int) (i : Nat) (x : Int) : (arr k l).setIfInBounds i (.int k x) = arr k (l.set i x) := by
  rw [arr, List.setIfInBounds_toArray, ints_set, arr]
theorem arr_size (k : IntKind) (l : List Int) : (arr k l).size = l.length := by simp [arr, ints_len]
theorem zeros (n : Nat) (k : IntKind) (f : Nat → Int) : arr k (upto f n 0) = (List.replicate n (Value.int k 0)).toArray := by
  unfold arr ints upto
  congr 1
  apply List.ext_getElem
  · simp
  · intro i h1 h2; simp
theorem ints_append (k : IntKind) (l m : List Int) : ints k (l ++ m) = ints k l ++ ints k m := by simp [ints]
/-- the first k rows, one behind the other -/
def cat (X : Nat → List Int) : Nat → List Int
  | 0 => []
  | k + 1 => cat X k ++ X k
end Go.Proofs.Ytcafffnkkjnpbaa.Sha

namespace Go.Proofs.Ytcafffnkkjnpbaa.Wire
open Go.Proofs.Ytcafffnkkjnpbaa.Sha

/-- n in k bytes, the greatest first -/
def be (n : Nat) : Nat → List Int
  | 0 => []
  | k + 1 => ((n / 256 ^ k % 256 : Nat) : Int) :: be n k
theorem be_len (n k : Nat) : (be n k).length = k := by
  induction k with
  | zero => rfl
  | succ k ih => simp [be, ih]
theorem be_bytes (n k : Nat) : Bytes (be n k) := by
  induction k with
  | zero => intro x hx; simp [be] at hx
  | succ k ih =>
    intro x hx
    rcases List.mem_cons.1 hx with rfl | h
    · have : n / 256 ^ k % 256 < 256 := Nat.mod_lt _ (by omega)
      omega
    · exact ih x h
/-- the number of some bytes -/
def valA (a : Nat) : List Int → Nat
  | [] => a
  | b :: l => valA (a * 256 + b.toNat) l
def val (l : List Int) : Nat := valA 0 l
theorem valA_append (a : Nat) (l m : List Int) : valA a (l ++ m) = valA (valA a l) m := by
  induction l generalizing a with
  | nil => rfl
  | cons b l ih => exact ih _
theorem valA_lt (a : Nat) (l : List Int) (h : Bytes l) (b : Nat) (ha : a < b) : valA a l < b * 256 ^ l.length := by
  induction l generalizing a b with
  | nil => simpa [valA] using ha
  | cons x l ih =>
    have hx := h x (List.mem_cons_self ..)
    have := ih (a * 256 + x.toNat) (fun y hy => h y (List.mem_cons_of_mem _ hy)) (b * 256) (by omega)
    rw [List.length_cons, Nat.pow_succ', ← Nat.mul_assoc]
    exact this
theorem val_lt (l : List Int) (h : Bytes l) : val l < 256 ^ l.length := by
  have := valA_lt 0 l h 1 (by omega)
  simpa [val] using this
theorem valA_be (a n k : Nat) : valA a (be n k) = a * 256 ^ k + n % 256 ^ k := by
  induction k generalizing a with
  | zero => simp [be, valA, Nat.mod_one]
  | succ k ih =>
    rw [be, valA, ih]
    have h1 : n % 256 ^ (k + 1) = n % 256 ^ k + 256 ^ k * (n / 256 ^ k % 256) := by rw [Nat.pow_succ, Nat.mod_mul]
    rw [h1, Int.toNat_natCast, Nat.add_mul, Nat.pow_succ, Nat.mul_comm (256 ^ k) (n / 256 ^ k % 256), Nat.mul_comm (256 ^ k) 256, Nat.mul_assoc]
    omega
theorem val_be (n k : Nat) (h : n < 256 ^ k) : val (be n k) = n := by
  rw [val, valA_be, Nat.mod_eq_of_lt h]; omega
theorem be_val (l : List Int) (h : Bytes l) : be (val l) l.length = l := by
  have key : ∀ (l : List Int), Bytes l → ∀ a, be (valA a l) l.length = l := by
    intro l
    induction l with
    | nil => intro _ a; rfl
    | cons x l ih =>
      intro h a
      have hx := h x (List.mem_cons_self ..)
      have hl : Bytes l := fun y hy => h y (List.mem_cons_of_mem _ hy)
      rw [List.length_cons, be, valA, ih hl]
      congr 1
      have hv : ∀ b, valA b l = b * 256 ^ l.length + val l := by
        have g : ∀ (m : List Int) (b c : Nat), valA (b + c) m = b * 256 ^ m.length + valA c m := by
          intro m
          induction m with
          | nil => intro b c; simp [valA]
          | cons y m ihm =>
            intro b c
            rw [valA, valA, show (b + c) * 256 + y.toNat = b * 256 + (c * 256 + y.toNat) by omega, ihm, List.length_cons, Nat.pow_succ', Nat.mul_assoc]
        intro b
        have := g l b 0
        simpa [val] using this
      rw [hv, Nat.mul_comm _ (256 ^ l.length), Nat.mul_add_div (Nat.pow_pos (by omega)), Nat.div_eq_of_lt (val_lt l hl), Nat.add_zero]
      omega
  exact key l h 0

/-- does a number go into so many bytes? -/
def fits (n s : Int) : Bool := decide (1 ≤ s ∧ s ≤ 8 ∧ 0 ≤ n ∧ n ≤ 4611686018427387904 ∧ n < 256 ^ s.toNat)

/-- an error (0: none), and what was written, or is left to be read -/
abbrev St := Int × List Int
def encNum (st : St) (n s : Int) : St := if st.1 = 0 then (if fits n s then (0, st.2 ++ be n.toNat s.toNat) else (1, [])) else st
def encTxt (st : St) (b : List Int) : St := if st.1 = 0 then (if b.length ≤ 65535 then (0, st.2 ++ (be b.length 2 ++ b)) else (3, [])) else st
def decNum (st : St) (s : Int) : Int × St :=
  if st.1 = 0 then
    (if 1 ≤ s ∧ s ≤ 8 then
      (if s.toNat ≤ st.2.length ∧ val (st.2.take s.toNat) ≤ 4611686018427387904 then ((val (st.2.take s.toNat) : Nat), (0, st.2.drop s.toNat)) else (0, (2, st.2)))
    else (0, (1, st.2)))
  else (0, st)
def decTxt (st : St) : List Int × St :=
  if st.1 = 0 then
    (if 2 + val (st.2.take 2) ≤ st.2.length then ((st.2.drop 2).take (val (st.2.take 2)), (0, st.2.drop (2 + val (st.2.take 2)))) else ([], (2, st.2)))
  else ([], st)
/-- k bytes as they are -/
def rawD (st : St) (k : Nat) : List Int × St := if st.1 = 0 then (if k ≤ st.2.length then (st.2.take k, (0, st.2.drop k)) else ([], (2, st.2))) else ([], st)
/-- the number of the first s bytes, if there are so many and it is an amount -/
def frst (xs : List Int) (s : Nat) : Int × Bool := if s ≤ xs.length ∧ val (xs.take s) ≤ 4611686018427387904 then ((val (xs.take s) : Nat), true) else (0, false)
def endOf (st : St) : Int := if st.1 = 0 then (if st.2.length = 0 then 0 else 2) else st.1

theorem decNum_size (xs : List Int) (s : Int) (h : ¬ (1 ≤ s ∧ s ≤ 8)) : decNum (0, xs) s = (0, (1, xs)) := by
  unfold decNum; simp only [if_true]; rw [if_neg h]
theorem decNum_frst (xs : List Int) (s : Nat) (h1 : 1 ≤ s) (h8 : s ≤ 8) : decNum (0, xs) s = if (frst xs s).2 = true then ((frst xs s).1, (0, xs.drop s)) else (0, (2, xs)) := by
  unfold decNum frst
  simp only [if_true, Int.toNat_natCast]
  rw [if_pos (by omega)]
  by_cases h : s ≤ xs.length ∧ val (xs.take s) ≤ 4611686018427387904
  · rw [if_pos h, if_pos h]; rfl
  · rw [if_neg h, if_neg h]; rfl
theorem frst_true {xs : List Int} {s : Nat} (h : (frst xs s).2 = true) : s ≤ xs.length := by
  unfold frst at h
  split at h
  · rename_i h1; exact h1.1
  · simp at h
theorem frst_two (xs : List Int) (hb : Bytes xs) : frst xs 2 = if 2 ≤ xs.length then (((val (xs.take 2) : Nat) : Int), true) else (0, false) := by
  unfold frst
  by_cases h : 2 ≤ xs.length
  · have h1 := val_lt (xs.take 2) (hb.take 2)
    rw [List.length_take, Nat.min_eq_left h] at h1
    rw [if_pos ⟨h, by omega⟩, if_pos h]
  · rw [if_neg (fun hh => h hh.1), if_neg h]
theorem decTxt_ok (xs : List Int) (h : 2 + val (xs.take 2) ≤ xs.length) : decTxt (0, xs) = ((xs.drop 2).take (val (xs.take 2)), (0, xs.drop (2 + val (xs.take 2)))) := by
  unfold decTxt; simp only [if_true]; rw [if_pos h]
theorem decTxt_no (xs : List Int) (h : ¬ 2 + val (xs.take 2) ≤ xs.length) : decTxt (0, xs) = ([], (2, xs)) := by
  unfold decTxt; simp only [if_true]; rw [if_neg h]
theorem fits_be {n s : Int} (h : fits n s = true) : val (be n.toNat s.toNat) = n.toNat ∧ n.toNat ≤ 4611686018427387904 ∧ 1 ≤ s ∧ s ≤ 8 ∧ 0 ≤ n := by
  simp only [fits, decide_eq_true_eq] at h
  obtain ⟨h1, h2, h3, h4, h5⟩ := h
  refine ⟨val_be _ _ ?_, by omega, h1, h2, h3⟩
  have : ((n.toNat : Nat) : Int) < ((256 ^ s.toNat : Nat) : Int) := by
    rw [Int.toNat_of_nonneg h3]
    simpa using h5
  exact_mod_cast this
/-- what was written is read -/
theorem dec_num (n s : Int) (r : List Int) (h : fits n s = true) : decNum (0, be n.toNat s.toNat ++ r) s = (n, (0, r)) := by
  obtain ⟨h1, h2, h3, h4, h5⟩ := fits_be h
  have hl := be_len n.toNat s.toNat
  unfold decNum
  simp only [if_true]
  rw [if_pos ⟨h3, h4⟩, List.take_left' hl, List.drop_left' hl, h1, if_pos ⟨by rw [List.length_append, hl]; omega, h2⟩, Int.toNat_of_nonneg h5]
theorem dec_txt (b r : List Int) (h : b.length ≤ 65535) : decTxt (0, be b.length 2 ++ b ++ r) = (b, (0, r)) := by
  have hl := be_len b.length 2
  have hv := val_be b.length 2 (by omega)
  unfold decTxt
  simp only [if_true]
  have h1 : (be b.length 2 ++ b ++ r).take 2 = be b.length 2 := by rw [List.append_assoc, List.take_left' hl]
  have h2 : (be b.length 2 ++ b ++ r).drop 2 = b ++ r := by rw [List.append_assoc, List.drop_left' hl]
  rw [h1, hv, if_pos (by simp only [List.length_append, hl]; omega), h2, List.take_left' rfl]
  rw [← List.drop_drop, h2, List.drop_left' rfl]
/-- what is read without an error stood there as it is written -/
theorem dec_num_back (x : List Int) (hx : Bytes x) (s : Int) (r : List Int) (v : Int) (h : decNum (0, x) s = (v, (0, r))) : 0 ≤ v ∧ x = be v.toNat s.toNat ++ r := by
  unfold decNum at h
  simp only [if_true] at h
  split at h
  · split at h
    · rename_i h1 h2
      simp only [Prod.mk.injEq, true_and] at h
      obtain ⟨rfl, rfl⟩ := h
      refine ⟨by omega, ?_⟩
      have := be_val (x.take s.toNat) (hx.take _)
      rw [List.length_take, Nat.min_eq_left h2.1] at this
      rw [Int.toNat_natCast, this, List.take_append_drop]
    · simp at h
  · simp at h
theorem dec_txt_back (x : List Int) (hx : Bytes x) (b r : List Int) (h : decTxt (0, x) = (b, (0, r))) : x = be b.length 2 ++ b ++ r := by
  unfold decTxt at h
  simp only [if_true] at h
  split at h
  · rename_i h1
    simp only [Prod.mk.injEq, true_and] at h
    obtain ⟨rfl, rfl⟩ := h
    have h2 : ((x.drop 2).take (val (x.take 2))).length = val (x.take 2) := by
      rw [List.length_take, List.length_drop]; omega
    have := be_val (x.take 2) (hx.take _)
    rw [List.length_take, Nat.min_eq_left (by omega)] at this
    rw [h2, this, ← List.drop_drop, List.append_assoc, List.take_append_drop, List.take_append_drop]
  · simp at h
theorem decNum_err (st : St) (s : Int) (h : st.1 ≠ 0) : decNum st s = (0, st) := by unfold decNum; rw [if_neg h]
theorem decTxt_err (st : St) (h : st.1 ≠ 0) : decTxt st = ([], st) := by unfold decTxt; rw [if_neg h]
theorem decNum_bytes (st : St) (s : Int) (h : Bytes st.2) : Bytes (decNum st s).2.2 := by
  unfold decNum
  split
  · split
    · split
      · exact h.drop _
      · exact h
    · exact h
  · exact h
theorem decTxt_bytes (st : St) (h : Bytes st.2) : Bytes (decTxt st).2.2 ∧ Bytes (decTxt st).1 := by
  unfold decTxt
  split
  · split
    · exact ⟨h.drop _, (h.drop _).take _⟩
    · exact ⟨h, fun x hx => by simp at hx⟩
  · exact ⟨h, fun x hx => by simp at hx⟩
theorem encNum_len (st : St) (n s : Int) : (encNum st n s).2.length ≤ st.2.length + 8 := by
  unfold encNum
  split
  · split
    · rename_i h
      have := (fits_be h).2.2.2.1
      simp only [List.length_append, be_len]; omega
    · simp
  · omega
theorem encTxt_len (st : St) (b : List Int) : (encTxt st b).2.length ≤ st.2.length + 65537 := by
  unfold encTxt
  split
  · split
    · simp only [List.length_append, be_len]; omega
    · simp
  · omega

/-- a byte of a number, as the program reckons it -/
theorem shr_byte (n k : Nat) : n / 2 ^ (8 * k) = n / 256 ^ k := by rw [Nat.pow_mul]
/-- numbers of one size are in order as their bytes are -/
theorem be_at (n k i : Nat) (h : i < k) : at_ (be n k) i = ((n / 256 ^ (k - 1 - i) % 256 : Nat) : Int) := by
  induction k generalizing i with
  | zero => omega
  | succ k ih =>
    cases i with
    | zero => simp [be, at_]
    | succ i =>
      have := ih i (by omega)
      rw [show k + 1 - 1 - (i + 1) = k - 1 - i by omega]
      simpa [be, at_] using this
end Go.Proofs.Ytcafffnkkjnpbaa.Wire

namespace Go.Proofs.Ytcafffnkkjnpbaa.Req
open Go.Proofs.Ytcafffnkkjnpbaa.Sha Go.Proofs.Ytcafffnkkjnpbaa.Wire

/-- a request -/
structure RV where
  kind : Int
  dst : Int
  asset : Int
  amount : Int
  id : Int
  due : Int
  hash : List Int
  sec : List Int
/-- an event -/
structure VV where
  kind : Int
  src : Int
  dst : Int
  asset : Int
  amount : Int
  id : Int
  due : Int
  hash : List Int
  sec : List Int
/-- a reply -/
structure PV where
  code : Int
  id : Int
structure BV where
  seen : Int
  l : List RV
structure AV where
  clock : Int
  seen : Int
  p : List PV
  v : List VV
def R0 : RV := ⟨0, 0, 0, 0, 0, 0, [], []⟩
def V0 : VV := ⟨0, 0, 0, 0, 0, 0, 0, [], []⟩
def sameR (a b : RV) : Bool := a.kind == b.kind && (a.dst == b.dst && (a.asset == b.asset && (a.amount == b.amount && (a.id == b.id && (a.due == b.due && (sameB a.hash b.hash && sameB a.sec b.sec))))))
def sameV (a b : VV) : Bool := a.kind == b.kind && (a.src == b.src && (a.dst == b.dst && (a.asset == b.asset && (a.amount == b.amount && (a.id == b.id && (a.due == b.due && (sameB a.hash b.hash && sameB a.sec b.sec)))))))
def sameP (a b : PV) : Bool := a.code == b.code && a.id == b.id
theorem sameR_iff {a b : RV} : sameR a b = true ↔ a = b := by
  cases a; cases b
  simp [sameR, sameB]
theorem sameV_iff {a b : VV} : sameV a b = true ↔ a = b := by
  cases a; cases b
  simp [sameV, sameB]
theorem sameP_iff {a b : PV} : sameP a b = true ↔ a = b := by
  cases a; cases b
  simp [sameP]

def B8 (n : Int) : Prop := 0 ≤ n ∧ n ≤ 255
def I16 (n : Int) : Prop := 0 ≤ n ∧ n ≤ 65535
def Amt (n : Int) : Prop := 0 ≤ n ∧ n ≤ 4611686018427387904
def Tck (n : Int) : Prop := 0 ≤ n ∧ n ≤ 1099511627776
instance (n : Int) : Decidable (B8 n) := by unfold B8; infer_instance
instance (n : Int) : Decidable (I16 n) := by unfold I16; infer_instance
instance (n : Int) : Decidable (Amt n) := by unfold Amt; infer_instance
instance (n : Int) : Decidable (Tck n) := by unfold Tck; infer_instance
/-- what a request has and has not -/
def MayR (r : RV) : Prop :=
  (r.kind = 1 ∧ B8 r.dst ∧ B8 r.asset ∧ Amt r.amount ∧ r.id = 0 ∧ r.due = 0 ∧ r.hash = [] ∧ r.sec = []) ∨
  (r.kind = 2 ∧ B8 r.dst ∧ B8 r.asset ∧ Amt r.amount ∧ r.id = 0 ∧ Tck r.due ∧ r.hash.length = 32 ∧ r.sec = []) ∨
  (r.kind = 3 ∧ r.dst = 0 ∧ r.asset = 0 ∧ r.amount = 0 ∧ I16 r.id ∧ r.due = 0 ∧ r.hash = [] ∧ r.sec.length = 32) ∨
  (r.kind = 4 ∧ r.dst = 0 ∧ r.asset = 0 ∧ r.amount = 0 ∧ I16 r.id ∧ r.due = 0 ∧ r.hash = [] ∧ r.sec = [])
def MayV (r : VV) : Prop :=
  (r.kind = 1 ∧ B8 r.src ∧ B8 r.dst ∧ B8 r.asset ∧ Amt r.amount ∧ r.id = 0 ∧ r.due = 0 ∧ r.hash = [] ∧ r.sec = []) ∨
  (r.kind = 2 ∧ B8 r.src ∧ B8 r.dst ∧ B8 r.asset ∧ Amt r.amount ∧ I16 r.id ∧ Tck r.due ∧ r.hash.length = 32 ∧ r.sec = []) ∨
  (r.kind = 3 ∧ r.src = 0 ∧ r.dst = 0 ∧ r.asset = 0 ∧ r.amount = 0 ∧ I16 r.id ∧ r.due = 0 ∧ r.hash = [] ∧ r.sec.length = 32) ∨
  (r.kind = 4 ∧ r.src = 0 ∧ r.dst = 0 ∧ r.asset = 0 ∧ r.amount = 0 ∧ I16 r.id ∧ r.due = 0 ∧ r.hash = [] ∧ r.sec = [])
def MayP (p : PV) : Prop := B8 p.code ∧ I16 p.id
instance (r : RV) : Decidable (MayR r) := by unfold MayR; infer_instance
instance (r : VV) : Decidable (MayV r) := by unfold MayV; infer_instance
instance (r : PV) : Decidable (MayP r) := by unfold MayP; infer_instance
/-- their texts spell bytes -/
def RV.ok (r : RV) : Prop := Bytes r.hash ∧ Bytes r.sec
def VV.ok (r : VV) : Prop := Bytes r.hash ∧ Bytes r.sec

def putR (r : RV) : List Int := be r.kind.toNat 1 ++ ((if r.kind = 1 ∨ r.kind = 2 then be r.dst.toNat 1 ++ (be r.asset.toNat 1 ++ be r.amount.toNat 8) else []) ++ ((if r.kind = 2 then r.hash ++ be r.due.toNat 8 else []) ++ ((if 2 < r.kind then be r.id.toNat 2 else []) ++ r.sec)))
def putV (r : VV) : List Int := be r.kind.toNat 1 ++ ((if r.kind < 3 then be r.src.toNat 1 ++ (be r.dst.toNat 1 ++ (be r.asset.toNat 1 ++ be r.amount.toNat 8)) else []) ++ ((if 1 < r.kind then be r.id.toNat 2 else []) ++ ((if r.kind = 2 then r.hash ++ be r.due.toNat 8 else []) ++ r.sec)))
def putP (p : PV) : List Int := be p.code.toNat 1 ++ be p.id.toNat 2

def OkB (x : BV) : Prop := I16 x.seen ∧ x.l.length ≤ 64 ∧ ∀ r ∈ x.l, MayR r
def OkA (x : AV) : Prop := Tck x.clock ∧ I16 x.seen ∧ x.p.length ≤ 64 ∧ x.v.length ≤ 400 ∧ (∀ p ∈ x.p, MayP p) ∧ ∀ v ∈ x.v, MayV v
instance (x : BV) : Decidable (OkB x) := by unfold OkB; infer_instance
instance (x : AV) : Decidable (OkA x) := by unfold OkA; infer_instance
def bytesB (x : BV) : List Int := be x.seen.toNat 2 ++ (be x.l.length 1 ++ x.l.flatMap putR)
def bytesA (x : AV) : List Int := be x.clock.toNat 8 ++ (be x.seen.toNat 2 ++ (be x.p.length 1 ++ (x.p.flatMap putP ++ (be x.v.length 2 ++ x.v.flatMap putV))))
def encB (x : BV) : Int × List Int := if OkB x then (0, bytesB x) else (1, [])
def encA (x : AV) : Int × List Int := if OkA x then (0, bytesA x) else (1, [])
theorem encB_yes {x : BV} (h : OkB x) : encB x = (0, bytesB x) := if_pos h
theorem encB_no {x : BV} (h : ¬ OkB x) : encB x = (1, []) := if_neg h
theorem encA_yes {x : AV} (h : OkA x) : encA x = (0, bytesA x) := if_pos h
theorem encA_no {x : AV} (h : ¬ OkA x) : encA x = (1, []) := if_neg h
theorem encB_inv {x : BV} {b : List Int} (h : encB x = (0, b)) : OkB x ∧ b = bytesB x := by
  unfold encB at h
  split at h
  · rename_i k
    injection h with _ h
    exact ⟨k, h.symm⟩
  · injection h with h; omega
theorem encA_inv {x : AV} {b : List Int} (h : encA x = (0, b)) : OkA x ∧ b = bytesA x := by
  unfold encA at h
  split at h
  · rename_i k
    injection h with _ h
    exact ⟨k, h.symm⟩
  · injection h with h; omega

theorem raw_back (b r : List Int) (k : Nat) (h : b.length = k) : rawD (0, b ++ r) k = (b, (0, r)) := by
  unfold rawD
  simp only [if_true]
  rw [if_pos (by rw [List.length_append]; omega), List.take_left' h, List.drop_left' h]
theorem num_back (n : Int) (k : Nat) (r : List Int) (h1 : 1 ≤ k) (h8 : k ≤ 8) (h0 : 0 ≤ n) (hm : n ≤ 4611686018427387904) (hn : n < 256 ^ k) : decNum (0, be n.toNat k ++ r) k = (n, (0, r)) := by
  have := dec_num n k r (by
    unfold fits
    apply decide_eq_true
    exact ⟨by omega, by omega, h0, hm, by rw [Int.toNat_natCast]; exact hn⟩)
  rwa [Int.toNat_natCast] at this

def getR (st : St) : RV × St :=
  let a := decNum st 1
  let b := if a.1 = 1 ∨ a.1 = 2 then decNum a.2 1 else (0, a.2)
  let c := if a.1 = 1 ∨ a.1 = 2 then decNum b.2 1 else (0, b.2)
  let d := if a.1 = 1 ∨ a.1 = 2 then decNum c.2 8 else (0, c.2)
  let e := if a.1 = 2 then rawD d.2 32 else ([], d.2)
  let f := if a.1 = 2 then decNum e.2 8 else (0, e.2)
  let g := if 2 < a.1 then decNum f.2 2 else (0, f.2)
  let h := if a.1 = 3 then rawD g.2 32 else ([], g.2)
  (⟨a.1, b.1, c.1, d.1, g.1, f.1, e.1, h.1⟩, h.2)
def getV (st : St) : VV × St :=
  let a := decNum st 1
  let s := if a.1 < 3 then decNum a.2 1 else (0, a.2)
  let b := if a.1 < 3 then decNum s.2 1 else (0, s.2)
  let c := if a.1 < 3 then decNum b.2 1 else (0, b.2)
  let d := if a.1 < 3 then decNum c.2 8 else (0, c.2)
  let g := if 1 < a.1 then decNum d.2 2 else (0, d.2)
  let e := if a.1 = 2 then rawD g.2 32 else ([], g.2)
  let f := if a.1 = 2 then decNum e.2 8 else (0, e.2)
  let h := if a.1 = 3 then rawD f.2 32 else ([], f.2)
  (⟨a.1, s.1, b.1, c.1, d.1, g.1, f.1, e.1, h.1⟩, h.2)
def getP (st : St) : PV × St :=
  let a := decNum st 1
  let b := decNum a.2 2
  (⟨a.1, b.1⟩, b.2)
theorem nb1 {n : Int} (r : List Int) (h : B8 n) : decNum (0, be n.toNat 1 ++ r) 1 = (n, (0, r)) := num_back n 1 r (by omega) (by omega) h.1 (by have := h.2; omega) (by have := h.2; omega)
theorem nb2 {n : Int} (r : List Int) (h : I16 n) : decNum (0, be n.toNat 2 ++ r) 2 = (n, (0, r)) := num_back n 2 r (by omega) (by omega) h.1 (by have := h.2; omega) (by have := h.2; omega)
theorem nb8 {n : Int} (r : List Int) (h : Amt n) : decNum (0, be n.toNat 8 ++ r) 8 = (n, (0, r)) := num_back n 8 r (by omega) (by omega) h.1 h.2 (by have := h.2; omega)
theorem Tck.amt {n : Int} (h : Tck n) : Amt n := ⟨h.1, by have := h.2; omega⟩
theorem getR_back {r : RV} (h : MayR r) (t : List Int) : getR (0, putR r ++ t) = (r, (0, t)) := by
  obtain ⟨kind, dst, asset, amount, id, due, hash, sec⟩ := r
  have hk : B8 kind := by rcases h with h | h | h | h <;> have := h.1 <;> exact ⟨by dsimp only at this; omega, by dsimp only at this; omega⟩
  have ha : ∀ u, decNum (0, be kind.toNat 1 ++ u) 1 = (kind, (0, u)) := fun u => nb1 u hk
  unfold putR getR
  simp only [List.append_assoc, ha]
  rcases h with ⟨h1, h2, h3, h4, h5, h6, h7, h8⟩ | ⟨h1, h2, h3, h4, h5, h6, h7, h8⟩ | ⟨h1, h2, h3, h4, h5, h6, h7, h8⟩ | ⟨h1, h2, h3, h4, h5, h6, h7, h8⟩ <;> dsimp only at h1 h2 h3 h4 h5 h6 h7 h8
  · subst h1 h5 h6 h7 h8
    simp [List.append_assoc, nb1 _ h2, nb1 _ h3, nb8 _ h4]
  · subst h1 h5 h8
    simp [List.append_assoc, nb1 _ h2, nb1 _ h3, nb8 _ h4, raw_back hash _ 32 h7, nb8 _ h6.amt]
  · subst h1 h2 h3 h4 h6 h7
    simp [nb2 _ h5, raw_back sec _ 32 h8]
  · subst h1 h2 h3 h4 h6 h7 h8
    simp [nb2 _ h5]
theorem getV_back {r : VV} (h : MayV r) (t : List Int) : getV (0, putV r ++ t) = (r, (0, t)) := by
  obtain ⟨kind, src, dst, asset, amount, id, due, hash, sec⟩ := r
  have hk : B8 kind := by rcases h with h | h | h | h <;> have := h.1 <;> exact ⟨by dsimp only at this; omega, by dsimp only at this; omega⟩
  have ha : ∀ u, decNum (0, be kind.toNat 1 ++ u) 1 = (kind, (0, u)) := fun u => nb1 u hk
  unfold putV getV
  simp only [List.append_assoc, ha]
  rcases h with ⟨h1, hs, h2, h3, h4, h5, h6, h7, h8⟩ | ⟨h1, hs, h2, h3, h4, h5, h6, h7, h8⟩ | ⟨h1, hs, h2, h3, h4, h5, h6, h7, h8⟩ | ⟨h1, hs, h2, h3, h4, h5, h6, h7, h8⟩ <;> dsimp only at h1 hs h2 h3 h4 h5 h6 h7 h8
  · subst h1 h5 h6 h7 h8
    simp [List.append_assoc, nb1 _ hs, nb1 _ h2, nb1 _ h3, nb8 _ h4]
  · subst h1 h8
    simp [List.append_assoc, nb1 _ hs, nb1 _ h2, nb1 _ h3, nb8 _ h4, nb2 _ h5, raw_back hash _ 32 h7, nb8 _ h6.amt]
  · subst h1 hs h2 h3 h4 h6 h7
    simp [nb2 _ h5, raw_back sec _ 32 h8]
  · subst h1 hs h2 h3 h4 h6 h7 h8
    simp [nb2 _ h5]
theorem getP_back {p : PV} (h : MayP p) (t : List Int) : getP (0, putP p ++ t) = (p, (0, t)) := by
  unfold putP getP
  simp only [List.append_assoc, nb1 _ h.1, nb2 _ h.2]

/-- n of them, one behind the other, while nothing is wrong -/
def many {α : Type} (g : St → α × St) : Nat → St → List α × St
  | 0, st => ([], st)
  | n + 1, st => if st.1 = 0 then ((g st).1 :: (many g n (g st).2).1, (many g n (g st).2).2) else ([], st)
theorem many_err {α : Type} (g : St → α × St) (n : Nat) {st : St} (h : st.1 ≠ 0) : many g n st = ([], st) := by
  cases n with
  | zero => rfl
  | succ n => rw [many, if_neg h]
theorem many_back {α : Type} (g : St → α × St) (p : α → List Int) (l : List α) (t : List Int) (h : ∀ x ∈ l, ∀ t, g (0, p x ++ t) = (x, (0, t))) : many g l.length (0, l.flatMap p ++ t) = (l, (0, t)) := by
  induction l with
  | nil => rfl
  | cons x l ih =>
    have hx := h x (List.mem_cons_self ..) (l.flatMap p ++ t)
    have hi := ih (fun y hy => h y (List.mem_cons_of_mem _ hy))
    rw [List.length_cons, many, List.flatMap_cons, List.append_assoc, hx]
    simp only [if_true, hi]
/-- the loop that reads them, one more at its end -/
theorem many_snoc {α : Type} (g : St → α × St) (n : Nat) (st : St) : many g (n + 1) st = if (many g n st).2.1 = 0 then ((many g n st).1 ++ [(g (many g n st).2).1], (g (many g n st).2).2) else many g n st := by
  induction n generalizing st with
  | zero => unfold many; split <;> simp [many]
  | succ n ih =>
    rw [many]
    by_cases h : st.1 = 0
    · rw [if_pos h, ih (g st).2, many, if_pos h]
      by_cases h2 : (many g n (g st).2).2.1 = 0
      · rw [if_pos h2, if_pos h2]; rfl
      · rw [if_neg h2, if_neg h2]
    · rw [if_neg h, many, if_neg h, if_neg h]
def rdB (b : List Int) : BV × St :=
  let s := decNum (0, b) 2
  let n := decNum s.2 1
  let l := many getR n.1.toNat n.2
  (⟨s.1, l.1⟩, l.2)
def rdA (b : List Int) : AV × St :=
  let c := decNum (0, b) 8
  let s := decNum c.2 2
  let n := decNum s.2 1
  let p := many getP n.1.toNat n.2
  let m := decNum p.2 2
  let v := many getV m.1.toNat m.2
  (⟨c.1, s.1, p.1, v.1⟩, v.2)
theorem rdB_back {x : BV} (h : OkB x) : rdB (bytesB x) = (x, (0, [])) := by
  obtain ⟨seen, l⟩ := x
  obtain ⟨h1, h2, h3⟩ := h
  dsimp only at h1 h2 h3
  have hl : B8 (l.length : Int) := ⟨by omega, by omega⟩
  have hm := many_back getR putR l [] (fun x hx t => getR_back (h3 x hx) t)
  rw [List.append_nil] at hm
  have e := nb1 (l.flatMap putR) hl
  rw [Int.toNat_natCast] at e
  unfold rdB bytesB
  simp only [nb2 _ h1, e, Int.toNat_natCast, hm]
theorem rdA_back {x : AV} (h : OkA x) : rdA (bytesA x) = (x, (0, [])) := by
  obtain ⟨clock, seen, p, v⟩ := x
  obtain ⟨h1, h2, h3, h4, h5, h6⟩ := h
  dsimp only at h1 h2 h3 h4 h5 h6
  have hl : B8 (p.length : Int) := ⟨by omega, by omega⟩
  have hv : I16 (v.length : Int) := ⟨by omega, by omega⟩
  have hm := fun t => many_back getP putP p t (fun x hx t => getP_back (h5 x hx) t)
  have hn := many_back getV putV v [] (fun x hx t => getV_back (h6 x hx) t)
  rw [List.append_nil] at hn
  have e1 := fun r => nb1 r hl
  have e2 := fun r => nb2 r hv
  simp only [Int.toNat_natCast] at e1 e2
  unfold rdA bytesA
  simp only [nb8 _ h1.amt, nb2 _ h2, e1, hm, e2, hn, Int.toNat_natCast]
theorem encB_inj {x y : BV} {b : List Int} (h : encB x = (0, b)) (k : encB y = (0, b)) : x = y := by
  obtain ⟨h1, h2⟩ := encB_inv h
  obtain ⟨k1, k2⟩ := encB_inv k
  have e1 := rdB_back h1
  have e2 := rdB_back k1
  rw [← h2] at e1
  rw [← k2, e1] at e2
  injection e2
theorem encA_inj {x y : AV} {b : List Int} (h : encA x = (0, b)) (k : encA y = (0, b)) : x = y := by
  obtain ⟨h1, h2⟩ := encA_inv h
  obtain ⟨k1, k2⟩ := encA_inv k
  have e1 := rdA_back h1
  have e2 := rdA_back k1
  rw [← h2] at e1
  rw [← k2, e1] at e2
  injection e2
/-- what Decode answers -/
def DecB (b : List Int) (e : Int) (x : BV) : Prop := (e = 0 ∧ encB x = (0, b)) ∨ (e = 2 ∧ x = ⟨0, []⟩ ∧ ∀ y, encB y ≠ (0, b))
def DecA (b : List Int) (e : Int) (x : AV) : Prop := (e = 0 ∧ encA x = (0, b)) ∨ (e = 2 ∧ x = ⟨0, 0, [], []⟩ ∧ ∀ y, encA y ≠ (0, b))
theorem DecB.one {b : List Int} {e e' : Int} {x x' : BV} (h : DecB b e x) (k : DecB b e' x') : e = e' ∧ x = x' := by
  rcases h with ⟨rfl, h⟩ | ⟨rfl, rfl, h⟩ <;> rcases k with ⟨rfl, k⟩ | ⟨rfl, rfl, k⟩
  · exact ⟨rfl, encB_inj h k⟩
  · exact absurd h (k _)
  · exact absurd k (h _)
  · exact ⟨rfl, rfl⟩
theorem DecA.one {b : List Int} {e e' : Int} {x x' : AV} (h : DecA b e x) (k : DecA b e' x') : e = e' ∧ x = x' := by
  rcases h with ⟨rfl, h⟩ | ⟨rfl, rfl, h⟩ <;> rcases k with ⟨rfl, k⟩ | ⟨rfl, rfl, k⟩
  · exact ⟨rfl, encA_inj h k⟩
  · exact absurd h (k _)
  · exact absurd k (h _)
  · exact ⟨rfl, rfl⟩
/-- as the document's Decode asks: read, laid anew, held against the bytes -/
theorem DecB.read (b : List Int) : DecB b (if endOf (rdB b).2 = 0 ∧ encB (rdB b).1 = (0, b) then 0 else 2) (if endOf (rdB b).2 = 0 ∧ encB (rdB b).1 = (0, b) then (rdB b).1 else ⟨0, []⟩) := by
  by_cases h : endOf (rdB b).2 = 0 ∧ encB (rdB b).1 = (0, b)
  · rw [if_pos h, if_pos h]; exact .inl ⟨rfl, h.2⟩
  · rw [if_neg h, if_neg h]
    refine .inr ⟨rfl, rfl, fun y hy => h ?_⟩
    obtain ⟨k, e⟩ := encB_inv hy
    have := rdB_back k
    rw [← e] at this
    rw [this]
    exact ⟨rfl, hy⟩
theorem DecA.read (b : List Int) : DecA b (if endOf (rdA b).2 = 0 ∧ encA (rdA b).1 = (0, b) then 0 else 2) (if endOf (rdA b).2 = 0 ∧ encA (rdA b).1 = (0, b) then (rdA b).1 else ⟨0, 0, [], []⟩) := by
  by_cases h : endOf (rdA b).2 = 0 ∧ encA (rdA b).1 = (0, b)
  · rw [if_pos h, if_pos h]; exact .inl ⟨rfl, h.2⟩
  · rw [if_neg h, if_neg h]
    refine .inr ⟨rfl, rfl, fun y hy => h ?_⟩
    obtain ⟨k, e⟩ := encA_inv hy
    have := rdA_back k
    rw [← e] at this
    rw [this]
    exact ⟨rfl, hy⟩
end Go.Proofs.Ytcafffnkkjnpbaa.Req

namespace Go.Proofs.Ytcafffnkkjnpbaa.Req
open Go.Proofs.Ytcafffnkkjnpbaa.Sha Go.Proofs.Ytcafffnkkjnpbaa.Wire

theorem nil_bytes : Bytes [] := by intro x hx; simp at hx
theorem ite_bytes {p : Prop} [Decidable p] {a : List Int} (h : Bytes a) : Bytes (if p then a else []) := by
  split
  · exact h
  · exact nil_bytes
theorem putR_bytes {r : RV} (h : r.ok) : Bytes (putR r) :=
  (be_bytes _ _).append ((ite_bytes ((be_bytes _ _).append ((be_bytes _ _).append (be_bytes _ _)))).append ((ite_bytes (h.1.append (be_bytes _ _))).append ((ite_bytes (be_bytes _ _)).append h.2)))
theorem putV_bytes {r : VV} (h : r.ok) : Bytes (putV r) :=
  (be_bytes _ _).append ((ite_bytes ((be_bytes _ _).append ((be_bytes _ _).append ((be_bytes _ _).append (be_bytes _ _))))).append ((ite_bytes (be_bytes _ _)).append ((ite_bytes (h.1.append (be_bytes _ _))).append h.2)))
theorem putP_bytes (p : PV) : Bytes (putP p) := (be_bytes _ _).append (be_bytes _ _)
theorem flat_bytes {α : Type} {f : α → List Int} : ∀ {l : List α}, (∀ x ∈ l, Bytes (f x)) → Bytes (l.flatMap f)
  | [], _ => nil_bytes
  | x :: l, h => by
    rw [List.flatMap_cons]
    exact (h x (List.mem_cons_self ..)).append (flat_bytes fun y hy => h y (List.mem_cons_of_mem _ hy))
theorem flat_len {α : Type} {f : α → List Int} {m : Nat} : ∀ {l : List α}, (∀ x ∈ l, (f x).length ≤ m) → (l.flatMap f).length ≤ m * l.length
  | [], _ => by simp
  | x :: l, h => by
    have h1 := h x (List.mem_cons_self ..)
    have h2 := flat_len (fun y hy => h y (List.mem_cons_of_mem x hy))
    rw [List.flatMap_cons, List.length_append, List.length_cons, Nat.mul_add]
    omega
theorem putR_is {r : RV} (h : MayR r) : (putR r).length = if r.kind = 1 then 11 else if r.kind = 2 then 51 else if r.kind = 3 then 35 else 3 := by
  obtain ⟨kind, dst, asset, amount, id, due, hash, sec⟩ := r
  unfold putR
  rcases h with ⟨h1, h2, h3, h4, h5, h6, h7, h8⟩ | ⟨h1, h2, h3, h4, h5, h6, h7, h8⟩ | ⟨h1, h2, h3, h4, h5, h6, h7, h8⟩ | ⟨h1, h2, h3, h4, h5, h6, h7, h8⟩ <;> dsimp only at h1 h2 h3 h4 h5 h6 h7 h8 <;> subst h1 <;> simp [be_len, h7, h8]
theorem putR_len {r : RV} (h : MayR r) : (putR r).length ≤ 51 := by
  rw [putR_is h]
  split
  · omega
  · split
    · omega
    · split
      · omega
      · omega
theorem putV_len {r : VV} (h : MayV r) : (putV r).length ≤ 54 := by
  obtain ⟨kind, src, dst, asset, amount, id, due, hash, sec⟩ := r
  unfold putV
  rcases h with ⟨h1, hs, h2, h3, h4, h5, h6, h7, h8⟩ | ⟨h1, hs, h2, h3, h4, h5, h6, h7, h8⟩ | ⟨h1, hs, h2, h3, h4, h5, h6, h7, h8⟩ | ⟨h1, hs, h2, h3, h4, h5, h6, h7, h8⟩ <;> dsimp only at h1 hs h2 h3 h4 h5 h6 h7 h8 <;> subst h1 <;> simp [be_len, h7, h8]
theorem putP_len (p : PV) : (putP p).length = 3 := by simp [putP, be_len]
theorem encB_bytes {x : BV} (h : ∀ r ∈ x.l, r.ok) : Bytes (encB x).2 := by
  unfold encB
  split
  · exact (be_bytes _ _).append ((be_bytes _ _).append (flat_bytes fun r hr => putR_bytes (h r hr)))
  · exact nil_bytes
theorem encA_bytes {x : AV} (h : ∀ r ∈ x.v, r.ok) : Bytes (encA x).2 := by
  unfold encA
  split
  · exact (be_bytes _ _).append ((be_bytes _ _).append ((be_bytes _ _).append ((flat_bytes fun r _ => putP_bytes r).append ((be_bytes _ _).append (flat_bytes fun r hr => putV_bytes (h r hr))))))
  · exact nil_bytes
theorem encB_len (x : BV) : (encB x).2.length ≤ 4000 := by
  unfold encB
  split
  · rename_i h
    have h1 := h.2.1
    have h2 := flat_len (f := putR) (fun r hr => putR_len (h.2.2 r hr))
    simp only [bytesB, List.length_append, be_len]
    omega
  · simp
theorem encA_len (x : AV) : (encA x).2.length ≤ 30000 := by
  unfold encA
  split
  · rename_i h
    have h1 := h.2.2.1; have h3 := h.2.2.2.1
    have h2 := flat_len (f := putV) (fun r hr => putV_len (h.2.2.2.2.2 r hr))
    have h4 := flat_len (f := putP) (m := 3) (fun r (_ : r ∈ x.p) => Nat.le_of_eq (putP_len r))
    simp only [bytesA, List.length_append, be_len]
    omega
  · simp
end Go.Proofs.Ytcafffnkkjnpbaa.Req

namespace Go.Proofs.Ytcafffnkkjnpbaa.Req
open Go.Proofs.Ytcafffnkkjnpbaa.Sha Go.Proofs.Ytcafffnkkjnpbaa.Wire

/-- what the code asks of a request before it is laid; bounds of numbers are the bytes' own -/
def HoldR (r : RV) : Prop :=
  (r.kind = 1 ∧ r.id = 0 ∧ r.due = 0 ∧ r.hash = [] ∧ r.sec = []) ∨
  (r.kind = 2 ∧ r.id = 0 ∧ Tck r.due ∧ r.hash.length = 32 ∧ r.sec = []) ∨
  (r.kind = 3 ∧ r.dst = 0 ∧ r.asset = 0 ∧ r.amount = 0 ∧ r.due = 0 ∧ r.hash = [] ∧ r.sec.length = 32) ∨
  (r.kind = 4 ∧ r.dst = 0 ∧ r.asset = 0 ∧ r.amount = 0 ∧ r.due = 0 ∧ r.hash = [] ∧ r.sec = [])
def HoldV (r : VV) : Prop :=
  (r.kind = 1 ∧ r.id = 0 ∧ r.due = 0 ∧ r.hash = [] ∧ r.sec = []) ∨
  (r.kind = 2 ∧ Tck r.due ∧ r.hash.length = 32 ∧ r.sec = []) ∨
  (r.kind = 3 ∧ r.src = 0 ∧ r.dst = 0 ∧ r.asset = 0 ∧ r.amount = 0 ∧ r.due = 0 ∧ r.hash = [] ∧ r.sec.length = 32) ∨
  (r.kind = 4 ∧ r.src = 0 ∧ r.dst = 0 ∧ r.asset = 0 ∧ r.amount = 0 ∧ r.due = 0 ∧ r.hash = [] ∧ r.sec = [])
def RngR (r : RV) : Prop := B8 r.dst ∧ B8 r.asset ∧ Amt r.amount ∧ I16 r.id
def RngV (r : VV) : Prop := B8 r.src ∧ B8 r.dst ∧ B8 r.asset ∧ Amt r.amount ∧ I16 r.id
instance (r : RV) : Decidable (HoldR r) := by unfold HoldR; infer_instance
instance (r : VV) : Decidable (HoldV r) := by unfold HoldV; infer_instance
instance (r : RV) : Decidable (RngR r) := by unfold RngR; infer_instance
instance (r : VV) : Decidable (RngV r) := by unfold RngV; infer_instance
theorem mayR_iff {r : RV} : MayR r ↔ HoldR r ∧ RngR r := by
  unfold MayR HoldR RngR B8 Amt I16
  constructor
  · rintro (⟨h1, h2, h3, h4, h5, h6, h7, h8⟩ | ⟨h1, h2, h3, h4, h5, h6, h7, h8⟩ | ⟨h1, h2, h3, h4, h5, h6, h7, h8⟩ | ⟨h1, h2, h3, h4, h5, h6, h7, h8⟩)
    · exact ⟨.inl ⟨h1, h5, h6, h7, h8⟩, h2, h3, h4, by omega⟩
    · exact ⟨.inr (.inl ⟨h1, h5, h6, h7, h8⟩), h2, h3, h4, by omega⟩
    · exact ⟨.inr (.inr (.inl ⟨h1, h2, h3, h4, h6, h7, h8⟩)), by omega, by omega, by omega, h5⟩
    · exact ⟨.inr (.inr (.inr ⟨h1, h2, h3, h4, h6, h7, h8⟩)), by omega, by omega, by omega, h5⟩
  · rintro ⟨h, k1, k2, k3, k4⟩
    rcases h with ⟨h1, h2, h3, h4, h5⟩ | ⟨h1, h2, h3, h4, h5⟩ | ⟨h1, h2, h3, h4, h5, h6, h7⟩ | ⟨h1, h2, h3, h4, h5, h6, h7⟩
    · exact .inl ⟨h1, k1, k2, k3, h2, h3, h4, h5⟩
    · exact .inr (.inl ⟨h1, k1, k2, k3, h2, h3, h4, h5⟩)
    · exact .inr (.inr (.inl ⟨h1, h2, h3, h4, k4, h5, h6, h7⟩))
    · exact .inr (.inr (.inr ⟨h1, h2, h3, h4, k4, h5, h6, h7⟩))
theorem mayV_iff {r : VV} : MayV r ↔ HoldV r ∧ RngV r := by
  unfold MayV HoldV RngV B8 Amt I16
  constructor
  · rintro (⟨h1, hs, h2, h3, h4, h5, h6, h7, h8⟩ | ⟨h1, hs, h2, h3, h4, h5, h6, h7, h8⟩ | ⟨h1, hs, h2, h3, h4, h5, h6, h7, h8⟩ | ⟨h1, hs, h2, h3, h4, h5, h6, h7, h8⟩)
    · exact ⟨.inl ⟨h1, h5, h6, h7, h8⟩, hs, h2, h3, h4, by omega⟩
    · exact ⟨.inr (.inl ⟨h1, h6, h7, h8⟩), hs, h2, h3, h4, h5⟩
    · exact ⟨.inr (.inr (.inl ⟨h1, hs, h2, h3, h4, h6, h7, h8⟩)), by omega, by omega, by omega, by omega, h5⟩
    · exact ⟨.inr (.inr (.inr ⟨h1, hs, h2, h3, h4, h6, h7, h8⟩)), by omega, by omega, by omega, by omega, h5⟩
  · rintro ⟨h, ks, k1, k2, k3, k4⟩
    rcases h with ⟨h1, h2, h3, h4, h5⟩ | ⟨h1, h3, h4, h5⟩ | ⟨h1, hs, h2, h3, h4, h5, h6, h7⟩ | ⟨h1, hs, h2, h3, h4, h5, h6, h7⟩
    · exact .inl ⟨h1, ks, k1, k2, k3, h2, h3, h4, h5⟩
    · exact .inr (.inl ⟨h1, ks, k1, k2, k3, k4, h3, h4, h5⟩)
    · exact .inr (.inr (.inl ⟨h1, hs, h2, h3, h4, k4, h5, h6, h7⟩))
    · exact .inr (.inr (.inr ⟨h1, hs, h2, h3, h4, k4, h5, h6, h7⟩))

/-- bytes laid behind, if all is right so far and they are -/
def wr (st : St) (p : Prop) [Decidable p] (b : List Int) : St := if st.1 = 0 then (if p then (0, st.2 ++ b) else (1, [])) else st
theorem wr_wr (st : St) (p q : Prop) [Decidable p] [Decidable q] (a b : List Int) : wr (wr st p a) q b = wr st (p ∧ q) (a ++ b) := by
  unfold wr
  by_cases h : st.1 = 0
  · by_cases hp : p
    · by_cases hq : q
      · simp [h, hp, hq, List.append_assoc]
      · simp [h, hp, hq]
    · simp [h, hp]
  · simp [h]
theorem wr_iff (st : St) {p q : Prop} [Decidable p] [Decidable q] (a : List Int) (h : p ↔ q) : wr st p a = wr st q a := by
  unfold wr; simp [h]
theorem wr_nil (st : St) : wr st True [] = st := by
  unfold wr
  split
  · rename_i h
    obtain ⟨e, xs⟩ := st
    dsimp only at h; subst h; simp
  · rfl
theorem enc_wr (st : St) (n s : Int) : encNum st n s = wr st (fits n s = true) (be n.toNat s.toNat) := rfl
theorem fits1 (n : Int) : fits n 1 = true ↔ B8 n := by
  unfold fits B8
  rw [decide_eq_true_eq]
  constructor
  · rintro ⟨-, -, h1, h2, h3⟩
    exact ⟨h1, by have : (256 : Int) ^ (1 : Int).toNat = 256 := rfl; omega⟩
  · rintro ⟨h1, h2⟩
    exact ⟨by omega, by omega, h1, by omega, by have : (256 : Int) ^ (1 : Int).toNat = 256 := rfl; omega⟩
theorem fits2 (n : Int) : fits n 2 = true ↔ I16 n := by
  unfold fits I16
  rw [decide_eq_true_eq]
  constructor
  · rintro ⟨-, -, h1, h2, h3⟩
    exact ⟨h1, by have : (256 : Int) ^ (2 : Int).toNat = 65536 := rfl; omega⟩
  · rintro ⟨h1, h2⟩
    exact ⟨by omega, by omega, h1, by omega, by have : (256 : Int) ^ (2 : Int).toNat = 65536 := rfl; omega⟩
theorem fits8 (n : Int) : fits n 8 = true ↔ Amt n := by
  unfold fits Amt
  rw [decide_eq_true_eq]
  constructor
  · rintro ⟨-, -, h1, h2, h3⟩
    exact ⟨h1, h2⟩
  · rintro ⟨h1, h2⟩
    exact ⟨by omega, by omega, h1, h2, by have : (256 : Int) ^ (8 : Int).toNat = 18446744073709551616 := rfl; omega⟩
theorem wr1 (st : St) (n : Int) : encNum st n 1 = wr st (B8 n) (be n.toNat 1) := by rw [enc_wr, wr_iff _ _ (fits1 n)]; rfl
theorem wr2 (st : St) (n : Int) : encNum st n 2 = wr st (I16 n) (be n.toNat 2) := by rw [enc_wr, wr_iff _ _ (fits2 n)]; rfl
theorem wr8 (st : St) (n : Int) : encNum st n 8 = wr st (Amt n) (be n.toNat 8) := by rw [enc_wr, wr_iff _ _ (fits8 n)]; rfl
theorem wr_eq (st : St) {p q : Prop} [Decidable p] [Decidable q] {a b : List Int} (h : p ↔ q) (e : a = b) : wr st p a = wr st q b := by
  subst e; exact wr_iff st _ h
theorem k_b (n : Int) (h : 0 ≤ n ∧ n ≤ 255 := by decide) : B8 n = True := eq_true h
theorem k_i : I16 0 = True := eq_true (by decide)
theorem k_a : Amt 0 = True := eq_true (by decide)
/-- to, asset and amount -/
def wMove (st : St) (a b c : Int) : St := encNum (encNum (encNum st a 1) b 1) c 8
theorem wMove_is (st : St) (a b c : Int) : wMove st a b c = wr st (B8 a ∧ B8 b ∧ Amt c) (be a.toNat 1 ++ (be b.toNat 1 ++ be c.toNat 8)) := by
  unfold wMove
  rw [wr1, wr1, wr8, wr_wr, wr_wr]
/-- a text, byte by byte -/
def wText (st : St) (b : List Int) : St := wr st True b
theorem wText_snoc (st : St) (b : List Int) (x : Int) (hx : 0 ≤ x ∧ x ≤ 255) : encNum (wText st b) x 1 = wText st (b ++ [x]) := by
  unfold wText
  rw [wr1, wr_wr]
  have h : be x.toNat 1 = [x] := by
    simp only [be, Nat.pow_zero, Nat.div_one]
    congr 1
    omega
  rw [h]
  exact wr_iff _ _ ⟨fun _ => trivial, fun _ => ⟨trivial, hx⟩⟩
theorem wr_len (st : St) (p : Prop) [Decidable p] (b : List Int) : (wr st p b).2.length ≤ st.2.length + b.length := by
  unfold wr
  split
  · split
    · simp
    · simp
  · omega
/-- a request is laid -/
def wReq (st : St) (r : RV) : St := wr st (RngR r) (putR r)
def wEv (st : St) (r : VV) : St := wr st (RngV r) (putV r)
def wRep (st : St) (r : PV) : St := encNum (encNum st r.code 1) r.id 2
theorem wRep_is (st : St) (r : PV) : wRep st r = wr st (MayP r) (putP r) := by
  unfold wRep
  rw [wr1, wr2, wr_wr]; rfl
theorem wReq1 (st : St) (a b c : Int) : wMove (encNum st 1 1) a b c = wReq st ⟨1, a, b, c, 0, 0, [], []⟩ := by
  rw [wMove_is, wr1, wr_wr, wReq]
  exact wr_eq st (by simp only [RngR, k_b 1, k_i, true_and, and_true]) (by simp [putR])
theorem wReq2 (st : St) (a b c due : Int) (hash : List Int) (hd : Tck due) : encNum (wText (wMove (encNum st 2 1) a b c) hash) due 8 = wReq st ⟨2, a, b, c, 0, due, hash, []⟩ := by
  rw [wText, wMove_is, wr1, wr8, wr_wr, wr_wr, wr_wr, wReq]
  have h : Amt due = True := eq_true hd.amt
  exact wr_eq st (by simp only [RngR, k_b 2, k_i, h, true_and, and_true]) (by simp [putR])
theorem wReq3 (st : St) (id : Int) (sec : List Int) : wText (encNum (encNum st 3 1) id 2) sec = wReq st ⟨3, 0, 0, 0, id, 0, [], sec⟩ := by
  rw [wText, wr1, wr2, wr_wr, wr_wr, wReq]
  exact wr_eq st (by simp only [RngR, k_b 3, k_b 0, k_a, true_and, and_true]) (by simp [putR])
theorem wReq4 (st : St) (id : Int) : encNum (encNum st 4 1) id 2 = wReq st ⟨4, 0, 0, 0, id, 0, [], []⟩ := by
  rw [wr1, wr2, wr_wr, wReq]
  exact wr_eq st (by simp only [RngR, k_b 4, k_b 0, k_a, true_and]) (by simp [putR])
theorem wEv1 (st : St) (s a b c : Int) : wMove (encNum (encNum st 1 1) s 1) a b c = wEv st ⟨1, s, a, b, c, 0, 0, [], []⟩ := by
  rw [wMove_is, wr1, wr1, wr_wr, wr_wr, wEv]
  exact wr_eq st (by simp only [RngV, k_b 1, k_i, true_and, and_true]) (by simp [putV])
theorem wEv2 (st : St) (s a b c id due : Int) (hash : List Int) (hd : Tck due) : encNum (wText (encNum (wMove (encNum (encNum st 2 1) s 1) a b c) id 2) hash) due 8 = wEv st ⟨2, s, a, b, c, id, due, hash, []⟩ := by
  rw [wText, wMove_is, wr1, wr1, wr2, wr8, wr_wr, wr_wr, wr_wr, wr_wr, wr_wr, wEv]
  have h : Amt due = True := eq_true hd.amt
  exact wr_eq st (by simp only [RngV, k_b 2, h, true_and, and_true, and_assoc]) (by simp [putV])
theorem wEv3 (st : St) (id : Int) (sec : List Int) : wText (encNum (encNum st 3 1) id 2) sec = wEv st ⟨3, 0, 0, 0, 0, id, 0, [], sec⟩ := by
  rw [wText, wr1, wr2, wr_wr, wr_wr, wEv]
  exact wr_eq st (by simp only [RngV, k_b 3, k_b 0, k_a, true_and, and_true]) (by simp [putV])
theorem wEv4 (st : St) (id : Int) : encNum (encNum st 4 1) id 2 = wEv st ⟨4, 0, 0, 0, 0, id, 0, [], []⟩ := by
  rw [wr1, wr2, wr_wr, wEv]
  exact wr_eq st (by simp only [RngV, k_b 4, k_b 0, k_a, true_and]) (by simp [putV])
/-- many, one behind the other -/
def wAll {α : Type} (f : St → α → St) (st : St) (l : List α) : St := l.foldl f st
theorem wAll_snoc {α : Type} (f : St → α → St) (st : St) (l : List α) (x : α) : wAll f st (l ++ [x]) = f (wAll f st l) x := by simp [wAll]
theorem wAll_wr {α : Type} (f : St → α → St) (p : α → Prop) [∀ x, Decidable (p x)] (g : α → List Int) (hf : ∀ st x, f st x = wr st (p x) (g x)) (l : List α) (st : St) : wAll f st l = wr st (∀ x ∈ l, p x) (l.flatMap g) := by
  induction l generalizing st with
  | nil =>
    rw [wr_iff st (q := True) _ ⟨fun _ => trivial, fun _ x hx => by simp at hx⟩]
    exact (wr_nil st).symm
  | cons x l ih =>
    show wAll f (f st x) l = _
    rw [ih, hf, wr_wr, List.flatMap_cons]
    exact wr_iff _ _ ⟨fun h y hy => by
      rcases List.mem_cons.1 hy with rfl | hy
      · exact h.1
      · exact h.2 y hy, fun h => ⟨h x (List.mem_cons_self ..), fun y hy => h y (List.mem_cons_of_mem _ hy)⟩⟩
theorem wAll_len {α : Type} {f : St → α → St} {m : Nat} : ∀ {l : List α} {st : St}, (∀ st, ∀ x ∈ l, (f st x).2.length ≤ st.2.length + m) → (wAll f st l).2.length ≤ st.2.length + m * l.length
  | [], st, _ => by simp [wAll]
  | x :: l, st, h => by
    have h1 := h st x (List.mem_cons_self ..)
    have h2 := wAll_len (l := l) (st := f st x) (fun st y hy => h st y (List.mem_cons_of_mem _ hy))
    show (wAll f (f st x) l).2.length ≤ _
    rw [List.length_cons, Nat.mul_add]
    omega
theorem putR_holds {r : RV} (h : HoldR r) : (putR r).length ≤ 51 := by
  obtain ⟨kind, dst, asset, amount, id, due, hash, sec⟩ := r
  unfold putR
  rcases h with ⟨h1, h2, h3, h4, h5⟩ | ⟨h1, h2, h3, h4, h5⟩ | ⟨h1, h2, h3, h4, h5, h6, h7⟩ | ⟨h1, h2, h3, h4, h5, h6, h7⟩ <;> dsimp only at * <;> subst h1 <;> simp [be_len, *]
theorem putV_holds {r : VV} (h : HoldV r) : (putV r).length ≤ 54 := by
  obtain ⟨kind, src, dst, asset, amount, id, due, hash, sec⟩ := r
  unfold putV
  rcases h with ⟨h1, h2, h3, h4, h5⟩ | ⟨h1, h3, h4, h5⟩ | ⟨h1, hs, h2, h3, h4, h5, h6, h7⟩ | ⟨h1, hs, h2, h3, h4, h5, h6, h7⟩ <;> dsimp only at * <;> subst h1 <;> simp [be_len, *]
theorem wReq_len {st : St} {r : RV} (h : HoldR r) : (wReq st r).2.length ≤ st.2.length + 54 := Nat.le_trans (wr_len _ _ _) (by have := putR_holds h; omega)
theorem wEv_len {st : St} {r : VV} (h : HoldV r) : (wEv st r).2.length ≤ st.2.length + 54 := Nat.le_trans (wr_len _ _ _) (by have := putV_holds h; omega)
theorem wRep_len {st : St} {r : PV} : (wRep st r).2.length ≤ st.2.length + 54 := by
  rw [wRep_is]; exact Nat.le_trans (wr_len _ _ _) (by rw [putP_len]; omega)
/-- a whole batch -/
theorem encB_code {seen : Int} {l : List RV} (hl : l.length ≤ 64) (h : ∀ r ∈ l, HoldR r) : wAll wReq (encNum (encNum (0, []) seen 2) l.length 1) l = encB ⟨seen, l⟩ := by
  rw [wAll_wr wReq RngR putR (fun _ _ => rfl), wr2, wr1, wr_wr, wr_wr]
  have e : ∀ (p : Prop) [Decidable p] (b : List Int), wr (0, []) p b = if p then (0, b) else (1, []) := fun p _ b => by simp [wr]
  rw [e]
  have hp : (I16 seen ∧ B8 (l.length : Int) ∧ ∀ r ∈ l, RngR r) ↔ (I16 seen ∧ l.length ≤ 64 ∧ ∀ r ∈ l, MayR r) :=
    ⟨fun k => ⟨k.1, hl, fun r hr => mayR_iff.2 ⟨h r hr, k.2.2 r hr⟩⟩, fun k => ⟨k.1, ⟨by omega, by omega⟩, fun r hr => (mayR_iff.1 (k.2.2 r hr)).2⟩⟩
  by_cases hc : I16 seen ∧ B8 (l.length : Int) ∧ ∀ r ∈ l, RngR r
  · rw [if_pos hc, encB_yes (x := ⟨seen, l⟩) (hp.1 hc), Int.toNat_natCast]; rfl
  · rw [if_neg hc, encB_no (x := ⟨seen, l⟩) (fun k => hc (hp.2 k))]
/-- a whole answer -/
theorem encA_code {clock seen : Int} {p : List PV} {v : List VV} (hc : Tck clock) (hp : p.length ≤ 64) (hv : v.length ≤ 400) (h : ∀ r ∈ v, HoldV r) : wAll wEv (encNum (wAll wRep (encNum (encNum (encNum (0, []) clock 8) seen 2) p.length 1) p) v.length 2) v = encA ⟨clock, seen, p, v⟩ := by
  rw [wAll_wr wEv RngV putV (fun _ _ => rfl), wAll_wr wRep MayP putP wRep_is, wr2, wr2, wr1, wr8, wr_wr, wr_wr, wr_wr, wr_wr, wr_wr]
  have e : ∀ (p : Prop) [Decidable p] (b : List Int), wr (0, []) p b = if p then (0, b) else (1, []) := fun p _ b => by simp [wr]
  rw [e]
  have hq : (Amt clock ∧ I16 seen ∧ B8 (p.length : Int) ∧ (∀ r ∈ p, MayP r) ∧ I16 (v.length : Int) ∧ ∀ r ∈ v, RngV r) ↔ (Tck clock ∧ I16 seen ∧ p.length ≤ 64 ∧ v.length ≤ 400 ∧ (∀ r ∈ p, MayP r) ∧ ∀ r ∈ v, MayV r) :=
    ⟨fun k => ⟨hc, k.2.1, hp, hv, k.2.2.2.1, fun r hr => mayV_iff.2 ⟨h r hr, k.2.2.2.2.2 r hr⟩⟩, fun k => ⟨k.1.amt, k.2.1, ⟨by omega, by omega⟩, k.2.2.2.2.1, ⟨by omega, by omega⟩, fun r hr => (mayV_iff.1 (k.2.2.2.2.2 r hr)).2⟩⟩
  by_cases hh : Amt clock ∧ I16 seen ∧ B8 (p.length : Int) ∧ (∀ r ∈ p, MayP r) ∧ I16 (v.length : Int) ∧ ∀ r ∈ v, RngV r
  · rw [if_pos hh, encA_yes (x := ⟨clock, seen, p, v⟩) (hq.1 hh)]
    simp only [Int.toNat_natCast]; rfl
  · rw [if_neg hh, encA_no (x := ⟨clock, seen, p, v⟩) (fun k => hh (hq.2 k))]
end Go.Proofs.Ytcafffnkkjnpbaa.Req
