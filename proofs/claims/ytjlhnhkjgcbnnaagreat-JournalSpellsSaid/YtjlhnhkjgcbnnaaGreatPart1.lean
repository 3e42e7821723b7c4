/-
  Parts laid together: Pure WireSpec ShaMath ShaSpec FrameSpec FrameGetSpec FrameBackSpec ShaNum Mem MemB ShaTab.
-/
import Derived.ProofKit
import Derived.KernelRfl
import Derived.Laws.BitsLemmas
import Derived.Laws.BitsAllLaws
import Derived.Laws.Bits64b
import Derived.Test.YtjlhnhkjgcbnnaaGreatChecked
import Derived.WalkKit
import Derived.WalkSpells
import Derived.WalkLawsBesides
import Derived.OpenShut
import Derived.Lib.Hide
import Derived.Lib.Mul64
import Derived.Tactics
import Derived.Tactics2
import Derived.Deep.QuietTactic
import Derived.BigQuiet
import Derived.StillTailTactics
import Derived.Laws.Rows
import Derived.Laws.Tables
import Derived.Deep.Draws
import Derived.Below
import Derived.Laws.OwnMore
import Derived.Laws.Pointers
import Derived.RegionTactic
import Derived.RegionCalls
import Derived.Laws.NewBlocks
import Derived.Deep.MidRow
import Derived.Deep.Cut
import Derived.Laws.CopyOwn
import Derived.Maps.AppendAt
import Derived.DataShut
import Derived.Defers
import Derived.Laws.LoneSync

/-
  Lists of whole numbers, read as bytes; a fact that no tactic looks into. No program in sight; for any seat.
-/


namespace Go.Proofs.YtjlhnhkjgcbnnaaGreat.Sha

/-- a fact that no tactic looks into (a structure: 'contradiction' unfolds the library's Hid, and reckons what stands in it) -/
structure Kept (p : Prop) : Prop where
  out : p
/-- element i of a list of numbers, 0 behind its end (a name of its own: simp leaves it alone) -/
def at_ (l : List Int) (i : Nat) : Int := l.getD i 0
theorem at_eq {l : List Int} {i : Nat} (h : i < l.length) : l[i]? = some (at_ l i) := by simp [at_, h]
theorem at_append_left {l m : List Int} {i : Nat} (h : i < l.length) : at_ (l ++ m) i = at_ l i := by simp [at_, List.getD_eq_getElem?_getD, List.getElem?_append_left h]
theorem at_append_right {l m : List Int} {i : Nat} (h : l.length ≤ i) : at_ (l ++ m) i = at_ m (i - l.length) := by simp [at_, List.getD_eq_getElem?_getD, List.getElem?_append_right h]
theorem at_take {l : List Int} {n i : Nat} (h : i < n) : at_ (l.take n) i = at_ l i := by simp [at_, List.getD_eq_getElem?_getD, h]
theorem at_drop (l : List Int) (n i : Nat) : at_ (l.drop n) i = at_ l (n + i) := by simp [at_, List.getD_eq_getElem?_getD]
theorem at_range (f : Nat → Int) (n i : Nat) (h : i < n) : at_ ((List.range n).map f) i = f i := by simp [at_, List.getD_eq_getElem?_getD, h]
theorem at_ext {l m : List Int} (hl : l.length = m.length) (h : ∀ i, i < l.length → at_ l i = at_ m i) : l = m := by
  apply List.ext_getElem hl
  intro i h1 h2
  have := h i h1
  simpa [at_, h1, h2] using this
/-- bytes -/
def Bytes (l : List Int) : Prop := ∀ x ∈ l, 0 ≤ x ∧ x ≤ 255
theorem Bytes.at_ {l : List Int} (h : Bytes l) (i : Nat) : 0 ≤ at_ l i ∧ at_ l i ≤ 255 := by
  unfold Sha.at_
  by_cases hi : i < l.length
  · have := h l[i] (List.getElem_mem hi)
    simpa [hi] using this
  · simp [List.getElem?_eq_none (Nat.le_of_not_lt hi)]
theorem Bytes.append {l m : List Int} (h : Bytes l) (k : Bytes m) : Bytes (l ++ m) := fun x hx => by
  rcases List.mem_append.1 hx with h1 | h1
  · exact h x h1
  · exact k x h1
theorem Bytes.take {l : List Int} (h : Bytes l) (n : Nat) : Bytes (l.take n) := fun x hx => h x (List.mem_of_mem_take hx)
theorem Bytes.drop {l : List Int} (h : Bytes l) (n : Nat) : Bytes (l.drop n) := fun x hx => h x (List.mem_of_mem_drop hx)
theorem at_out {l : List Int} {i : Nat} (h : l.length ≤ i) : at_ l i = 0 := by simp [at_, List.getD_eq_getElem?_getD, List.getElem?_eq_none h]
/-- are both the same? -/
def sameB (xs ys : List Int) : Bool := decide (xs = ys)
theorem sameB_self (xs : List Int) : sameB xs xs = true := by simp [sameB]
theorem sameB_len {xs ys : List Int} (hl : xs.length ≠ ys.length) : sameB xs ys = false := by
  unfold sameB
  rw [decide_eq_false_iff_not]
  rintro rfl
  exact hl rfl
def ints (k : IntKind) (l : List Int) : List Value := l.map (Value.int k)
theorem ints_len (k : IntKind) (l : List Int) : (ints k l).length = l.length := by simp [ints]
theorem ints_at (k : IntKind) (l : List Int) (i : Nat) (h : i < l.length) : (ints k l)[i]? = some (.int k (at_ l i)) := by simp [ints, at_, h]
theorem ints_one (k : IntKind) (l : List Int) : ∀ v ∈ ints k l, v.oneCell' = true := by
  intro v hv
  obtain ⟨x, _, rfl⟩ := List.mem_map.1 hv
  rfl
theorem ints_set (k : IntKind) (l : List Int) (i : Nat) (x : Int) : (ints k l).set i (.int k x) = ints k (l.set i x) := by simp [ints, List.map_set]
/-- the first m of f, noughts behind, n in all -/
def upto (f : Nat → Int) (n m : Nat) : List Int := (List.range n).map fun i => if i < m then f i else 0
theorem upto_len (f : Nat → Int) (n m : Nat) : (upto f n m).length = n := by simp [upto]
theorem upto_at (f : Nat → Int) (n m i : Nat) (h : i < n) : at_ (upto f n m) i = if i < m then f i else 0 := at_range _ _ _ h
theorem at_set (l : List Int) (k i : Nat) (x : Int) (h : i < l.length) : at_ (l.set k x) i = if k = i then x else at_ l i := by
  simp [at_, List.getD_eq_getElem?_getD, List.getElem?_set]
  by_cases hk : k = i
  · subst hk; simp [h]
  · simp [hk]
theorem upto_set (f : Nat → Int) (n m : Nat) : (upto f n m).set m (f m) = upto f n (m + 1) := by
  apply at_ext
  · simp [upto_len]
  · intro i hi
    rw [List.length_set, upto_len] at hi
    rw [at_set _ _ _ _ (by rw [upto_len]; exact hi), upto_at _ _ _ _ hi, upto_at _ _ _ _ hi]
    by_cases h : m = i
    · subst h; simp
    · rw [if_neg h]
      by_cases h2 : i < m
      · rw [if_pos h2, if_pos (by omega)]
      · rw [if_neg h2, if_neg (by omega)]
theorem upto_all (l : List Int) (n : Nat) (h : l.length = n) : upto (at_ l) n n = l := by
  apply at_ext
  · rw [upto_len, h]
  · intro i hi
    rw [upto_len] at hi
    rw [upto_at _ _ _ _ hi, if_pos hi]
def arr (k : IntKind) (l : List Int) : Array Value := (ints k l).toArray
theorem arr_at (k : IntKind) (l : List Int) (i : Nat) (h : i < l.length) : (arr k l)[i]? = some (.int k (at_ l i)) := by
  rw [arr, List.getElem?_toArray]; exact ints_at k l i h
theorem arr_set (k : IntKind) (l : List Int) (i : Nat) (x : Int) : (arr k l).setIfInBounds i (.int k x) = arr k (l.set i x) := by
  rw [arr, List.setIfInBounds_toArray, ints_set, arr]
theorem arr_size (k : IntKind) (l : List Int) : (arr k l).size = l.length := by simp [arr, ints_len]
theorem zeros (n : Nat) (k : IntKind) (f : Nat → Int) : arr k (upto f n 0) = (List.replicate n (Value.int k 0)).toArray := by
  unfold arr ints upto
  congr 1
  apply List.ext_getElem
  · simp
  · intro i h1 h2; simp
theorem ints_append (k : IntKind) (l m : List Int) : ints k (l ++ m) = ints k l ++ ints k m := by simp [ints]
/-- the first k rows, one behind the other -/
def cat (X : Nat → List Int) : Nat → List Int
  | 0 => []
  | k + 1 => cat X k ++ X k
end Go.Proofs.YtjlhnhkjgcbnnaaGreat.Sha

/-
  Chapter 4 as plain lists of whole numbers: a number in so many bytes, what is written, what is read. No program in sight.
-/

namespace Go.Proofs.YtjlhnhkjgcbnnaaGreat.Wire
open Go.Proofs.YtjlhnhkjgcbnnaaGreat.Sha

/-- n in k bytes, the greatest first -/
def be (n : Nat) : Nat → List Int
  | 0 => []
  | k + 1 => ((n / 256 ^ k % 256 : Nat) : Int) :: be n k
theorem be_len (n k : Nat) : (be n k).length = k := by
  induction k with
  | zero => rfl
  | succ k ih => simp [be, ih]
theorem be_bytes (n k : Nat) : Bytes (be n k) := by
  induction k with
  | zero => intro x hx; simp [be] at hx
  | succ k ih =>
    intro x hx
    rcases List.mem_cons.1 hx with rfl | h
    · have : n / 256 ^ k % 256 < 256 := Nat.mod_lt _ (by omega)
      omega
    · exact ih x h
/-- the number of some bytes -/
def valA (a : Nat) : List Int → Nat
  | [] => a
  | b :: l => valA (a * 256 + b.toNat) l
def val (l : List Int) : Nat := valA 0 l
theorem valA_append (a : Nat) (l m : List Int) : valA a (l ++ m) = valA (valA a l) m := by
  induction l generalizing a with
  | nil => rfl
  | cons b l ih => exact ih _
theorem valA_lt (a : Nat) (l : List Int) (h : Bytes l) (b : Nat) (ha : a < b) : valA a l < b * 256 ^ l.length := by
  induction l generalizing a b with
  | nil => simpa [valA] using ha
  | cons x l ih =>
    have hx := h x (List.mem_cons_self ..)
    have := ih (a * 256 + x.toNat) (fun y hy => h y (List.mem_cons_of_mem _ hy)) (b * 256) (by omega)
    rw [List.length_cons, Nat.pow_succ', ← Nat.mul_assoc]
    exact this
theorem val_lt (l : List Int) (h : Bytes l) : val l < 256 ^ l.length := by
  have := valA_lt 0 l h 1 (by omega)
  simpa [val] using this
theorem valA_be (a n k : Nat) : valA a (be n k) = a * 256 ^ k + n % 256 ^ k := by
  induction k generalizing a with
  | zero => simp [be, valA, Nat.mod_one]
  | succ k ih =>
    rw [be, valA, ih]
    have h1 : n % 256 ^ (k + 1) = n % 256 ^ k + 256 ^ k * (n / 256 ^ k % 256) := by rw [Nat.pow_succ, Nat.mod_mul]
    rw [h1, Int.toNat_natCast, Nat.add_mul, Nat.pow_succ, Nat.mul_comm (256 ^ k) (n / 256 ^ k % 256), Nat.mul_comm (256 ^ k) 256, Nat.mul_assoc]
    omega
theorem val_be (n k : Nat) (h : n < 256 ^ k) : val (be n k) = n := by
  rw [val, valA_be, Nat.mod_eq_of_lt h]; omega
theorem be_val (l : List Int) (h : Bytes l) : be (val l) l.length = l := by
  have key : ∀ (l : List Int), Bytes l → ∀ a, be (valA a l) l.length = l := by
    intro l
    induction l with
    | nil => intro _ a; rfl
    | cons x l ih =>
      intro h a
      have hx := h x (List.mem_cons_self ..)
      have hl : Bytes l := fun y hy => h y (List.mem_cons_of_mem _ hy)
      rw [List.length_cons, be, valA, ih hl]
      congr 1
      have hv : ∀ b, valA b l = b * 256 ^ l.length + val l := by
        have g : ∀ (m : List Int) (b c : Nat), valA (b + c) m = b * 256 ^ m.length + valA c m := by
          intro m
          induction m with
          | nil => intro b c; simp [valA]
          | cons y m ihm =>
            intro b c
            rw [valA, valA, show (b + c) * 256 + y.toNat = b * 256 + (c * 256 + y.toNat) by omega, ihm, List.length_cons, Nat.pow_succ', Nat.mul_assoc]
        intro b
        have := g l b 0
        simpa [val] using this
      rw [hv, Nat.mul_comm _ (256 ^ l.length), Nat.mul_add_div (Nat.pow_pos (by omega)), Nat.div_eq_of_lt (val_lt l hl), Nat.add_zero]
      omega
  exact key l h 0

/-- does a number go into so many bytes? -/
def fits (n s : Int) : Bool := decide (1 ≤ s ∧ s ≤ 8 ∧ 0 ≤ n ∧ n ≤ 4611686018427387904 ∧ n < 256 ^ s.toNat)

/-- an error (0: none), and what was written, or is left to be read -/
abbrev St := Int × List Int
def encNum (st : St) (n s : Int) : St := if st.1 = 0 then (if fits n s then (0, st.2 ++ be n.toNat s.toNat) else (1, [])) else st
def encTxt (st : St) (b : List Int) : St := if st.1 = 0 then (if b.length ≤ 65535 then (0, st.2 ++ (be b.length 2 ++ b)) else (3, [])) else st
def decNum (st : St) (s : Int) : Int × St :=
  if st.1 = 0 then
    (if 1 ≤ s ∧ s ≤ 8 then
      (if s.toNat ≤ st.2.length ∧ val (st.2.take s.toNat) ≤ 4611686018427387904 then ((val (st.2.take s.toNat) : Nat), (0, st.2.drop s.toNat)) else (0, (2, st.2)))
    else (0, (1, st.2)))
  else (0, st)
def decTxt (st : St) : List Int × St :=
  if st.1 = 0 then
    (if 2 + val (st.2.take 2) ≤ st.2.length then ((st.2.drop 2).take (val (st.2.take 2)), (0, st.2.drop (2 + val (st.2.take 2)))) else ([], (2, st.2)))
  else ([], st)
/-- the number of the first s bytes, if there are so many and it is an amount -/
def frst (xs : List Int) (s : Nat) : Int × Bool := if s ≤ xs.length ∧ val (xs.take s) ≤ 4611686018427387904 then ((val (xs.take s) : Nat), true) else (0, false)
def endOf (st : St) : Int := if st.1 = 0 then (if st.2.length = 0 then 0 else 2) else st.1

theorem decNum_size (xs : List Int) (s : Int) (h : ¬ (1 ≤ s ∧ s ≤ 8)) : decNum (0, xs) s = (0, (1, xs)) := by
  unfold decNum; simp only [if_true]; rw [if_neg h]
theorem decNum_frst (xs : List Int) (s : Nat) (h1 : 1 ≤ s) (h8 : s ≤ 8) : decNum (0, xs) s = if (frst xs s).2 = true then ((frst xs s).1, (0, xs.drop s)) else (0, (2, xs)) := by
  unfold decNum frst
  simp only [if_true, Int.toNat_natCast]
  rw [if_pos (by omega)]
  by_cases h : s ≤ xs.length ∧ val (xs.take s) ≤ 4611686018427387904
  · rw [if_pos h, if_pos h]; rfl
  · rw [if_neg h, if_neg h]; rfl
theorem frst_true {xs : List Int} {s : Nat} (h : (frst xs s).2 = true) : s ≤ xs.length := by
  unfold frst at h
  split at h
  · rename_i h1; exact h1.1
  · simp at h
theorem frst_two (xs : List Int) (hb : Bytes xs) : frst xs 2 = if 2 ≤ xs.length then (((val (xs.take 2) : Nat) : Int), true) else (0, false) := by
  unfold frst
  by_cases h : 2 ≤ xs.length
  · have h1 := val_lt (xs.take 2) (hb.take 2)
    rw [List.length_take, Nat.min_eq_left h] at h1
    rw [if_pos ⟨h, by omega⟩, if_pos h]
  · rw [if_neg (fun hh => h hh.1), if_neg h]
theorem decTxt_ok (xs : List Int) (h : 2 + val (xs.take 2) ≤ xs.length) : decTxt (0, xs) = ((xs.drop 2).take (val (xs.take 2)), (0, xs.drop (2 + val (xs.take 2)))) := by
  unfold decTxt; simp only [if_true]; rw [if_pos h]
theorem decTxt_no (xs : List Int) (h : ¬ 2 + val (xs.take 2) ≤ xs.length) : decTxt (0, xs) = ([], (2, xs)) := by
  unfold decTxt; simp only [if_true]; rw [if_neg h]
theorem fits_be {n s : Int} (h : fits n s = true) : val (be n.toNat s.toNat) = n.toNat ∧ n.toNat ≤ 4611686018427387904 ∧ 1 ≤ s ∧ s ≤ 8 ∧ 0 ≤ n := by
  simp only [fits, decide_eq_true_eq] at h
  obtain ⟨h1, h2, h3, h4, h5⟩ := h
  refine ⟨val_be _ _ ?_, by omega, h1, h2, h3⟩
  have : ((n.toNat : Nat) : Int) < ((256 ^ s.toNat : Nat) : Int) := by
    rw [Int.toNat_of_nonneg h3]
    simpa using h5
  exact_mod_cast this
/-- what was written is read -/
theorem dec_num (n s : Int) (r : List Int) (h : fits n s = true) : decNum (0, be n.toNat s.toNat ++ r) s = (n, (0, r)) := by
  obtain ⟨h1, h2, h3, h4, h5⟩ := fits_be h
  have hl := be_len n.toNat s.toNat
  unfold decNum
  simp only [if_true]
  rw [if_pos ⟨h3, h4⟩, List.take_left' hl, List.drop_left' hl, h1, if_pos ⟨by rw [List.length_append, hl]; omega, h2⟩, Int.toNat_of_nonneg h5]
theorem dec_txt (b r : List Int) (h : b.length ≤ 65535) : decTxt (0, be b.length 2 ++ b ++ r) = (b, (0, r)) := by
  have hl := be_len b.length 2
  have hv := val_be b.length 2 (by omega)
  unfold decTxt
  simp only [if_true]
  have h1 : (be b.length 2 ++ b ++ r).take 2 = be b.length 2 := by rw [List.append_assoc, List.take_left' hl]
  have h2 : (be b.length 2 ++ b ++ r).drop 2 = b ++ r := by rw [List.append_assoc, List.drop_left' hl]
  rw [h1, hv, if_pos (by simp only [List.length_append, hl]; omega), h2, List.take_left' rfl]
  rw [← List.drop_drop, h2, List.drop_left' rfl]
/-- what is read without an error stood there as it is written -/
theorem dec_num_back (x : List Int) (hx : Bytes x) (s : Int) (r : List Int) (v : Int) (h : decNum (0, x) s = (v, (0, r))) : 0 ≤ v ∧ x = be v.toNat s.toNat ++ r := by
  unfold decNum at h
  simp only [if_true] at h
  split at h
  · split at h
    · rename_i h1 h2
      simp only [Prod.mk.injEq, true_and] at h
      obtain ⟨rfl, rfl⟩ := h
      refine ⟨by omega, ?_⟩
      have := be_val (x.take s.toNat) (hx.take _)
      rw [List.length_take, Nat.min_eq_left h2.1] at this
      rw [Int.toNat_natCast, this, List.take_append_drop]
    · simp at h
  · simp at h
theorem dec_txt_back (x : List Int) (hx : Bytes x) (b r : List Int) (h : decTxt (0, x) = (b, (0, r))) : x = be b.length 2 ++ b ++ r := by
  unfold decTxt at h
  simp only [if_true] at h
  split at h
  · rename_i h1
    simp only [Prod.mk.injEq, true_and] at h
    obtain ⟨rfl, rfl⟩ := h
    have h2 : ((x.drop 2).take (val (x.take 2))).length = val (x.take 2) := by
      rw [List.length_take, List.length_drop]; omega
    have := be_val (x.take 2) (hx.take _)
    rw [List.length_take, Nat.min_eq_left (by omega)] at this
    rw [h2, this, ← List.drop_drop, List.append_assoc, List.take_append_drop, List.take_append_drop]
  · simp at h
theorem decNum_err (st : St) (s : Int) (h : st.1 ≠ 0) : decNum st s = (0, st) := by unfold decNum; rw [if_neg h]
theorem decTxt_err (st : St) (h : st.1 ≠ 0) : decTxt st = ([], st) := by unfold decTxt; rw [if_neg h]
theorem decNum_bytes (st : St) (s : Int) (h : Bytes st.2) : Bytes (decNum st s).2.2 := by
  unfold decNum
  split
  · split
    · split
      · exact h.drop _
      · exact h
    · exact h
  · exact h
theorem decTxt_bytes (st : St) (h : Bytes st.2) : Bytes (decTxt st).2.2 ∧ Bytes (decTxt st).1 := by
  unfold decTxt
  split
  · split
    · exact ⟨h.drop _, (h.drop _).take _⟩
    · exact ⟨h, fun x hx => by simp at hx⟩
  · exact ⟨h, fun x hx => by simp at hx⟩
theorem encNum_len (st : St) (n s : Int) : (encNum st n s).2.length ≤ st.2.length + 8 := by
  unfold encNum
  split
  · split
    · rename_i h
      have := (fits_be h).2.2.2.1
      simp only [List.length_append, be_len]; omega
    · simp
  · omega
theorem encTxt_len (st : St) (b : List Int) : (encTxt st b).2.length ≤ st.2.length + 65537 := by
  unfold encTxt
  split
  · split
    · simp only [List.length_append, be_len]; omega
    · simp
  · omega

/-- a byte of a number, as the program reckons it -/
theorem shr_byte (n k : Nat) : n / 2 ^ (8 * k) = n / 256 ^ k := by rw [Nat.pow_mul]
/-- numbers of one size are in order as their bytes are -/
theorem be_at (n k i : Nat) (h : i < k) : at_ (be n k) i = ((n / 256 ^ (k - 1 - i) % 256 : Nat) : Int) := by
  induction k generalizing i with
  | zero => omega
  | succ k ih =>
    cases i with
    | zero => simp [be, at_]
    | succ i =>
      have := ih i (by omega)
      rw [show k + 1 - 1 - (i + 1) = k - 1 - i by omega]
      simpa [be, at_] using this
end Go.Proofs.YtjlhnhkjgcbnnaaGreat.Wire

/-
  Plain arithmetic of chapter 2 (package sha): turns of words of 32 bits, primes, roots bit by bit, the rounds; no program in sight.
-/




namespace Go.Proofs.YtjlhnhkjgcbnnaaGreat.Sha

/-- a word of 32 bits -/
def W32 (x : Int) : Prop := 0 ≤ x ∧ x < 4294967296
theorem bits32 (op : BinOp) (a b : Int) : W32 (bits op .u32 a b) := by
  unfold bits W32
  cases op <;> simp only [IntKind.wrap_u32] <;> omega
theorem or_comm32 (a b : Int) : bits .or .u32 a b = bits .or .u32 b a := by
  unfold bits
  simp only [BitVec.or_comm]

/-- turned right -/
def rotr (x : Int) (k : Nat) : Int := bits .or .u32 (x / 2 ^ k) (x * 2 ^ (32 - k) % 4294967296)
theorem rotr32 (x : Int) (k : Nat) : W32 (rotr x k) := bits32 _ _ _
theorem rot_arg (k m : Nat) (h1 : 1 ≤ k) (hm : k + m = 32) : bits .and .u64 (IntKind.u64.wrap (-(k : Int))) 31 = (m : Int) := by
  have e : IntKind.u64.wrap (-(k : Int)) = ((18446744073709551616 - k : Nat) : Int) := by rw [IntKind.wrap_u64]; omega
  rw [e]
  have h := bits_and_u64_nat (18446744073709551616 - k) 31 (by omega) (by omega)
  have e2 : (18446744073709551616 - k) &&& 31 = (18446744073709551616 - k) % 32 := Nat.and_two_pow_sub_one_eq_mod _ 5
  rw [e2] at h
  rw [show (31 : Int) = ((31 : Nat) : Int) from rfl, h]
  omega
theorem rot_is (x : Int) (k m : Nat) (hm : k + m = 32) : bits .or .u32 (x * 2 ^ m % 4294967296) (x / 2 ^ (32 - m)) = rotr x k := by
  obtain rfl : m = 32 - k := by omega
  rw [or_comm32, rotr, show 32 - (32 - k) = k by omega]

/-- three turns, held against each other -/
def turns3 (x : Int) (i j k : Nat) : Int := bits .xor .u32 (bits .xor .u32 (rotr x i) (rotr x j)) (rotr x k)
theorem turns32 (x : Int) (i j k : Nat) : W32 (turns3 x i j k) := bits32 _ _ _

/-- is it a prime? (below 1600) -/
def prB (n : Nat) : Bool := (List.range 40).all fun d => decide (d < 2) || decide (n < d * d) || decide (n % d ≠ 0)
theorem prB_no {n d : Nat} (h2 : 2 ≤ d) (h4 : d < 40) (hd : d * d ≤ n) (h : n % d = 0) : prB n = false := by
  rw [Bool.eq_false_iff]
  intro hp
  unfold prB at hp
  have := List.all_eq_true.1 hp d (List.mem_range.2 h4)
  simp at this
  omega
theorem prB_yes {n d : Nat} (hn : n < d * d) (h : ∀ e, 2 ≤ e → e < d → n % e ≠ 0) : prB n = true := by
  unfold prB
  rw [List.all_eq_true]
  intro e _
  by_cases h2 : e < 2
  · simp [h2]
  · by_cases he : e < d
    · have := h e (by omega) he
      simp [this]
    · have : d * d ≤ e * e := Nat.mul_le_mul (by omega) (by omega)
      have : n < e * e := by omega
      simp [this]

def sqTop (n : Nat) : Nat := n * n / 18446744073709551616
def cuTop (n : Nat) : Nat := n * n / 18446744073709551616 * n + n * n % 18446744073709551616 * n / 18446744073709551616
/-- bit by bit, from the greatest: k bits are left to be asked -/
def fracGo (g : Nat → Nat) (top : Nat) : Nat → Nat → Nat
  | 0, r => r
  | k + 1, r => if g (r ||| 2 ^ k) < top then fracGo g top k (r ||| 2 ^ k) else fracGo g top k r
def frac (g : Nat → Nat) (top : Nat) : Nat := fracGo g top 35 0 % 4294967296
def bitOf : Nat → Nat
  | 0 => 0
  | k + 1 => 2 ^ k
theorem bitOf_half (k : Nat) : bitOf (k + 1) / 2 = bitOf k := by
  cases k with
  | zero => rfl
  | succ k => simp [bitOf, Nat.pow_succ]
theorem or_lt {r k : Nat} (hr : r < 34359738368) (hk : k < 35) : r ||| 2 ^ k < 34359738368 :=
  Nat.or_lt_two_pow (n := 35) hr (Nat.pow_lt_pow_right (by omega) hk)
theorem pow_lt35 {k : Nat} (hk : k < 35) : 2 ^ k < 34359738368 := Nat.pow_lt_pow_right (n := 35) (by omega) hk
theorem sq_le {n : Nat} (h : n < 34359738368) : n * n ≤ 1180591620648691826689 := by
  have h1 : n ≤ 34359738367 := by omega
  have := Nat.mul_le_mul h1 h1
  omega
theorem cu_a {n : Nat} (h : n < 34359738368) : n * n / 18446744073709551616 * n ≤ 2199023255552 := by
  have := sq_le h
  have h1 : n * n / 18446744073709551616 ≤ 63 := by omega
  have : n * n / 18446744073709551616 * n ≤ 63 * n := Nat.mul_le_mul h1 (Nat.le_refl _)
  omega
theorem cu_b {n : Nat} (h : n < 34359738368) : n * n % 18446744073709551616 * n / 18446744073709551616 < 34359738368 := by
  have h1 : n * n % 18446744073709551616 < 18446744073709551616 := Nat.mod_lt _ (by omega)
  have h2 : n * n % 18446744073709551616 * n ≤ 18446744073709551616 * n := Nat.mul_le_mul (by omega) (Nat.le_refl _)
  omega

def primes : List Nat := [2, 3, 5, 7, 11, 13, 17, 19, 23, 29, 31, 37, 41, 43, 47, 53, 59, 61, 67, 71, 73, 79, 83, 89, 97, 101, 103, 107, 109, 113, 127, 131, 137, 139, 149, 151, 157, 163, 167, 173, 179, 181, 191, 193, 197, 199, 211, 223, 227, 229, 233, 239, 241, 251, 257, 263, 269, 271, 277, 281, 283, 293, 307, 311, 313]
/-- prime i -/
def pW (i : Nat) : Nat := primes.getD i 0
theorem pW_next : ∀ i, i < 64 → pW i < pW (i + 1) ∧ pW (i + 1) < 1000 ∧ 2 ≤ pW i ∧ prB (pW (i + 1)) = true ∧ ∀ e, e < pW (i + 1) → pW i < e → prB e = false := by decide +kernel

def K : List Nat := [0x428a2f98, 0x71374491, 0xb5c0fbcf, 0xe9b5dba5, 0x3956c25b, 0x59f111f1, 0x923f82a4, 0xab1c5ed5,
  0xd807aa98, 0x12835b01, 0x243185be, 0x550c7dc3, 0x72be5d74, 0x80deb1fe, 0x9bdc06a7, 0xc19bf174,
  0xe49b69c1, 0xefbe4786, 0x0fc19dc6, 0x240ca1cc, 0x2de92c6f, 0x4a7484aa, 0x5cb0a9dc, 0x76f988da,
  0x983e5152, 0xa831c66d, 0xb00327c8, 0xbf597fc7, 0xc6e00bf3, 0xd5a79147, 0x06ca6351, 0x14292967,
  0x27b70a85, 0x2e1b2138, 0x4d2c6dfc, 0x53380d13, 0x650a7354, 0x766a0abb, 0x81c2c92e, 0x92722c85,
  0xa2bfe8a1, 0xa81a664b, 0xc24b8b70, 0xc76c51a3, 0xd192e819, 0xd6990624, 0xf40e3585, 0x106aa070,
  0x19a4c116, 0x1e376c08, 0x2748774c, 0x34b0bcb5, 0x391c0cb3, 0x4ed8aa4a, 0x5b9cca4f, 0x682e6ff3,
  0x748f82ee, 0x78a5636f, 0x84c87814, 0x8cc70208, 0x90befffa, 0xa4506ceb, 0xbef9a3f7, 0xc67178f2]
def H0 : List Nat := [0x6a09e667, 0xbb67ae85, 0x3c6ef372, 0xa54ff53a, 0x510e527f, 0x9b05688c, 0x1f83d9ab, 0x5be0cd19]
/-- word i; starting word i -/
def kW (i : Nat) : Nat := K.getD i 0
def hW (i : Nat) : Nat := H0.getD i 0
theorem K_is : ∀ i, i < 64 → frac cuTop (pW i * 4294967296) = kW i := by decide +kernel
theorem H_is : ∀ i, i < 8 → frac sqTop (pW i) = hW i := by decide +kernel
theorem kW_lt : ∀ i, i < 64 → kW i < 4294967296 := by decide +kernel
theorem hW_lt : ∀ i, i < 8 → hW i < 4294967296 := by decide +kernel

end Go.Proofs.YtjlhnhkjgcbnnaaGreat.Sha

/-
  SHA-256 as plain lists of whole numbers: the words of a block, the rounds, whole blocks, the end of a text, the sum. No program in sight.
-/


namespace Go.Proofs.YtjlhnhkjgcbnnaaGreat.Sha

theorem mod32 (x : Int) : W32 (x % 4294967296) := by unfold W32; omega
/-- word i of a block of bytes -/
def wordOf (b : List Int) (i : Nat) : Int :=
  bits .or .u32 (bits .or .u32 (bits .or .u32 (at_ b (4 * i) * 16777216) (at_ b (4 * i + 1) * 65536)) (at_ b (4 * i + 2) * 256)) (at_ b (4 * i + 3))
theorem wordOf32 (b : List Int) (i : Nat) : W32 (wordOf b i) := bits32 _ _ _
def near (y : Int) : Int := bits .xor .u32 (bits .xor .u32 (rotr y 17) (rotr y 19)) (y / 1024)
def far (x : Int) : Int := bits .xor .u32 (bits .xor .u32 (rotr x 7) (rotr x 18)) (x / 8)
theorem near32 (y : Int) : W32 (near y) := bits32 _ _ _
theorem far32 (y : Int) : W32 (far y) := bits32 _ _ _
/-- the next word: of those 2, 7, 15, 16 before it -/
def nxw (y b x d : Int) : Int := (near y + b + far x + d) % 4294967296
def nxl (l : List Int) : Int := nxw (at_ l (l.length - 2)) (at_ l (l.length - 7)) (at_ l (l.length - 15)) (at_ l (l.length - 16))
def grow (l : List Int) : Nat → List Int
  | 0 => l
  | n + 1 => let m := grow l n; m ++ [nxl m]
theorem grow_len (l : List Int) (n : Nat) : (grow l n).length = l.length + n := by
  induction n with
  | zero => rfl
  | succ n ih => simp [grow, ih]; omega
theorem grow_old (l : List Int) (n i : Nat) (h : i < l.length) : at_ (grow l n) i = at_ l i := by
  induction n with
  | zero => rfl
  | succ n ih => rw [grow, at_append_left (by rw [grow_len]; omega), ih]
theorem grow_less (l : List Int) (n m i : Nat) (hm : m ≤ n) (h : i < l.length + m) : at_ (grow l n) i = at_ (grow l m) i := by
  induction n with
  | zero => obtain rfl : m = 0 := by omega
            rfl
  | succ n ih =>
    by_cases e : m = n + 1
    · subst e; rfl
    · rw [grow, at_append_left (by rw [grow_len]; omega), ih (by omega)]
theorem grow_new (l : List Int) (h16 : 16 ≤ l.length) (n i : Nat) (h0 : l.length ≤ i) (h : i < l.length + n) :
    at_ (grow l n) i = nxw (at_ (grow l n) (i - 2)) (at_ (grow l n) (i - 7)) (at_ (grow l n) (i - 15)) (at_ (grow l n) (i - 16)) := by
  obtain ⟨k, rfl⟩ : ∃ k, i = l.length + k := ⟨i - l.length, by omega⟩
  rw [grow_less l n (k + 1) _ (by omega) (by omega), grow_less l n k (l.length + k - 2) (by omega) (by omega), grow_less l n k (l.length + k - 7) (by omega) (by omega),
    grow_less l n k (l.length + k - 15) (by omega) (by omega), grow_less l n k (l.length + k - 16) (by omega) (by omega)]
  rw [grow, at_append_right (by rw [grow_len]; omega), grow_len, Nat.sub_self]
  simp only [nxl, grow_len]
  rfl

/-- the 64 words of a block -/
def sched (b : List Int) : List Int := grow ((List.range 16).map (wordOf b)) 48
theorem sched_len (b : List Int) : (sched b).length = 64 := by simp [sched, grow_len]
theorem sched_lo (b : List Int) (i : Nat) (h : i < 16) : at_ (sched b) i = wordOf b i := by
  rw [sched, grow_old _ _ _ (by simpa using h), at_range _ _ _ h]
theorem sched_hi (b : List Int) (i : Nat) (h0 : 16 ≤ i) (h : i < 64) : at_ (sched b) i = nxw (at_ (sched b) (i - 2)) (at_ (sched b) (i - 7)) (at_ (sched b) (i - 15)) (at_ (sched b) (i - 16)) :=
  grow_new _ (by simp) 48 i (by simpa using h0) (by simpa using h)
theorem sched32 (b : List Int) (i : Nat) : W32 (at_ (sched b) i) := by
  by_cases h : i < 16
  · rw [sched_lo b i h]; exact wordOf32 _ _
  · by_cases h2 : i < 64
    · rw [sched_hi b i (by omega) h2]; unfold nxw W32; omega
    · unfold at_; rw [List.getD_eq_getElem?_getD, List.getElem?_eq_none (by rw [sched_len]; omega)]; exact ⟨by simp, by simp⟩

/-- eight words -/
structure S8 where
  a : Int
  b : Int
  c : Int
  d : Int
  e : Int
  f : Int
  g : Int
  h : Int
def S8.toL (s : S8) : List Int := [s.a, s.b, s.c, s.d, s.e, s.f, s.g, s.h]
def S8.ok (s : S8) : Prop := W32 s.a ∧ W32 s.b ∧ W32 s.c ∧ W32 s.d ∧ W32 s.e ∧ W32 s.f ∧ W32 s.g ∧ W32 s.h
def not32 (x : Int) : Int := bits .xor .u32 IntKind.u32.max x
def ch (e f g : Int) : Int := bits .xor .u32 (bits .and .u32 e f) (bits .and .u32 (not32 e) g)
def maj (a b c : Int) : Int := bits .xor .u32 (bits .xor .u32 (bits .and .u32 a b) (bits .and .u32 a c)) (bits .and .u32 b c)
def step (s : S8) (k w : Int) : S8 :=
  let t1 := (s.h + turns3 s.e 6 11 25 + ch s.e s.f s.g + k + w) % 4294967296
  let t2 := (turns3 s.a 2 13 22 + maj s.a s.b s.c) % 4294967296
  ⟨(t1 + t2) % 4294967296, s.a, s.b, s.c, (s.d + t1) % 4294967296, s.e, s.f, s.g⟩
theorem step_ok {s : S8} (h : s.ok) (k w : Int) : (step s k w).ok := by
  obtain ⟨h1, h2, h3, h4, h5, h6, h7, h8⟩ := h
  refine ⟨?_, h1, h2, h3, ?_, h5, h6, h7⟩
  · exact mod32 _
  · exact mod32 _
def rnds (s : S8) (w : Nat → Int) : Nat → S8
  | 0 => s
  | n + 1 => step (rnds s w n) (kW n : Nat) (w n)
theorem rnds_ok {s : S8} (h : s.ok) (w : Nat → Int) (n : Nat) : (rnds s w n).ok := by
  induction n with
  | zero => exact h
  | succ n ih => exact step_ok ih _ _
def S8.add (s t : S8) : S8 := ⟨(s.a + t.a) % 4294967296, (s.b + t.b) % 4294967296, (s.c + t.c) % 4294967296, (s.d + t.d) % 4294967296, (s.e + t.e) % 4294967296, (s.f + t.f) % 4294967296, (s.g + t.g) % 4294967296, (s.h + t.h) % 4294967296⟩
theorem S8.add_ok (s t : S8) : (s.add t).ok := by
  unfold S8.add S8.ok W32
  refine ⟨?_, ?_, ?_, ?_, ?_, ?_, ?_, ?_⟩ <;> constructor <;> simp only <;> omega
theorem S8.add_at (s t : S8) (i : Nat) (h : i < 8) : at_ (s.add t).toL i = (at_ s.toL i + at_ t.toL i) % 4294967296 := by
  match i, h with
  | 0, _ | 1, _ | 2, _ | 3, _ | 4, _ | 5, _ | 6, _ | 7, _ => rfl
theorem S8.at32 {s : S8} (h : s.ok) (i : Nat) : W32 (at_ s.toL i) := by
  obtain ⟨h1, h2, h3, h4, h5, h6, h7, h8⟩ := h
  match i with
  | 0 => exact h1
  | 1 => exact h2
  | 2 => exact h3
  | 3 => exact h4
  | 4 => exact h5
  | 5 => exact h6
  | 6 => exact h7
  | 7 => exact h8
  | n + 8 => exact ⟨by simp [at_, S8.toL], by simp [at_, S8.toL]⟩
/-- a block of 64 bytes, worked into the state -/
def mixed (s : S8) (b : List Int) : S8 := s.add (rnds s (at_ (sched b)) 64)
theorem mixed_ok (s : S8) (b : List Int) : (mixed s b).ok := S8.add_ok _ _
/-- the first n blocks of l -/
def blocks (s : S8) : Nat → List Int → S8
  | 0, _ => s
  | n + 1, l => blocks (mixed s (l.take 64)) n (l.drop 64)
theorem blocks_ok {s : S8} (h : s.ok) (n : Nat) (l : List Int) : (blocks s n l).ok := by
  induction n generalizing s l with
  | zero => exact h
  | succ n ih => exact ih (mixed_ok _ _) _
theorem blocks_add (s : S8) (n m : Nat) (l : List Int) : blocks s (n + m) l = blocks (blocks s n l) m (l.drop (64 * n)) := by
  induction n generalizing s l with
  | zero => simp [blocks]
  | succ n ih =>
    rw [show n + 1 + m = n + m + 1 by omega]
    simp only [blocks]
    rw [ih, List.drop_drop]
    congr 2
    omega
theorem blocks_take (s : S8) (n : Nat) (l : List Int) (m : Nat) (h : 64 * n ≤ m) : blocks s n (l.take m) = blocks s n l := by
  induction n generalizing s l m with
  | zero => rfl
  | succ n ih =>
    simp only [blocks]
    rw [List.take_take, show min 64 m = 64 by omega, List.drop_take, ih _ _ _ (by omega)]
theorem blocks_append (s : S8) (n : Nat) (l r : List Int) (h : 64 * n ≤ l.length) : blocks s n (l ++ r) = blocks s n l := by
  rw [← blocks_take s n (l ++ r) l.length h, List.take_left]
def S0 : S8 := ⟨(hW 0 : Nat), (hW 1 : Nat), (hW 2 : Nat), (hW 3 : Nat), (hW 4 : Nat), (hW 5 : Nat), (hW 6 : Nat), (hW 7 : Nat)⟩
theorem S0_ok : S0.ok := by
  have h := hW_lt
  have h0 := h 0 (by omega); have h1 := h 1 (by omega); have h2 := h 2 (by omega); have h3 := h 3 (by omega)
  have h4 := h 4 (by omega); have h5 := h 5 (by omega); have h6 := h 6 (by omega); have h7 := h 7 (by omega)
  unfold S8.ok S0 W32
  refine ⟨?_, ?_, ?_, ?_, ?_, ?_, ?_, ?_⟩ <;> constructor <;> simp only <;> omega
theorem S0_at (i : Nat) (h : i < 8) : at_ S0.toL i = (hW i : Nat) := by
  match i, h with
  | 0, _ | 1, _ | 2, _ | 3, _ | 4, _ | 5, _ | 6, _ | 7, _ => rfl
/-- the state behind the whole blocks of a text -/
def st (l : List Int) : S8 := blocks S0 (l.length / 64) l
theorem st_ok (l : List Int) : (st l).ok := blocks_ok S0_ok _ _
/-- one more block behind a text of whole blocks -/
theorem st_block (l b : List Int) (hl : l.length % 64 = 0) (hb : b.length = 64) : st (l ++ b) = mixed (st l) b := by
  unfold st
  rw [List.length_append, hb, show (l.length + 64) / 64 = l.length / 64 + 1 by omega, blocks_add, blocks_append _ _ _ _ (by omega)]
  rw [show 64 * (l.length / 64) = l.length by omega, List.drop_left]
  simp only [blocks]
  rw [List.take_of_length_le (by omega)]
/-- less than a block behind a text changes nothing yet -/
theorem st_rest (l r : List Int) (h : l.length % 64 + r.length < 64) : st (l ++ r) = st l := by
  unfold st
  rw [List.length_append, show (l.length + r.length) / 64 = l.length / 64 by omega, blocks_append _ _ _ _ (by omega)]

/-- the 8 bytes of a count, the greatest first -/
def be8 (n : Nat) : List Int := (List.range 8).map fun i => ((n / 256 ^ (7 - i) % 256 : Nat) : Int)
/-- how many noughts stand between the 1 and the count -/
def padn (n : Nat) : Nat := (119 - n % 64) % 64
def tail (n : Nat) : List Int := 128 :: (List.replicate (padn n) 0 ++ be8 (n * 8))
theorem tail_len (n : Nat) : (tail n).length = 9 + padn n := by simp [tail, be8]; omega
theorem padded_len (l : List Int) : (l ++ tail l.length).length % 64 = 0 := by
  rw [List.length_append, tail_len]; unfold padn; omega
/-- the sum of a text: 32 bytes -/
def out8 (s : S8) : List Int := s.toL.flatMap fun x => [x / 16777216 % 256, x / 65536 % 256, x / 256 % 256, x % 256]
def sha (l : List Int) : List Int := out8 (st (l ++ tail l.length))
theorem out8_len (s : S8) : (out8 s).length = 32 := rfl
theorem sha_len (l : List Int) : (sha l).length = 32 := rfl

theorem sha_none : (sha []).take 4 = [0xe3, 0xb0, 0xc4, 0x42] := by decide +kernel
theorem sha_abc : (sha [97, 98, 99]).take 4 = [0xba, 0x78, 0x16, 0xbf] := by decide +kernel

/- what both the code and the document use: sums of states, rounds, bytes put out, the end -/
/-- the sum of two lists of eight, as far as k -/
def addTo (s v : List Int) (k : Nat) : List Int := (List.range 8).map fun i => if i < k then (at_ s i + at_ v i) % 4294967296 else at_ s i
theorem addTo_len (s v : List Int) (k : Nat) : (addTo s v k).length = 8 := by simp [addTo]
theorem addTo_at (s v : List Int) (k i : Nat) (h : i < 8) : at_ (addTo s v k) i = if i < k then (at_ s i + at_ v i) % 4294967296 else at_ s i := at_range _ _ _ h
theorem addTo_0 (s v : List Int) (h : s.length = 8) : addTo s v 0 = s := by
  apply at_ext
  · rw [addTo_len, h]
  · intro i hi
    rw [addTo_len] at hi
    rw [addTo_at _ _ _ _ hi]; simp
theorem addTo_8 (s v : S8) : addTo s.toL v.toL 8 = (s.add v).toL := by
  apply at_ext
  · rw [addTo_len]; rfl
  · intro i hi
    rw [addTo_len] at hi
    rw [addTo_at _ _ _ _ hi, if_pos hi, S8.add_at _ _ _ hi]
theorem addTo_set (s v : List Int) (k : Nat) : (addTo s v k).set k ((at_ s k + at_ v k) % 4294967296) = addTo s v (k + 1) := by
  apply at_ext
  · rw [List.length_set, addTo_len, addTo_len]
  · intro i hi
    rw [List.length_set, addTo_len] at hi
    rw [at_set _ _ _ _ (by rw [addTo_len]; exact hi), addTo_at _ _ _ _ hi, addTo_at _ _ _ _ hi]
    by_cases h : k = i
    · subst h; simp
    · rw [if_neg h]
      by_cases h2 : i < k
      · rw [if_pos h2, if_pos (by omega)]
      · rw [if_neg h2, if_neg (by omega)]
theorem round_end {s r : S8} {W : Nat → Int} {k : Nat} {t1 t2 : Int} (h : rnds s W k = r)
    (h1 : t1 = (r.h + turns3 r.e 6 11 25 + ch r.e r.f r.g + (kW k : Nat) + W k) % 4294967296) (h2 : t2 = (turns3 r.a 2 13 22 + maj r.a r.b r.c) % 4294967296) :
    rnds s W (k + 1) = ⟨(t1 + t2) % 4294967296, r.a, r.b, r.c, (r.d + t1) % 4294967296, r.e, r.f, r.g⟩ := by
  rw [rnds, h, h1, h2]; rfl
/-- the first k words of a state, as bytes -/
def outK (s : S8) (k : Nat) : List Int := (List.range k).flatMap fun i => [at_ s.toL i / 16777216 % 256, at_ s.toL i / 65536 % 256, at_ s.toL i / 256 % 256, at_ s.toL i % 256]
theorem outK_8 (s : S8) : outK s 8 = out8 s := rfl
theorem outK_len (s : S8) (k : Nat) : (outK s k).length = 4 * k := by
  induction k with
  | zero => rfl
  | succ k ih =>
    have : outK s (k + 1) = outK s k ++ [at_ s.toL k / 16777216 % 256, at_ s.toL k / 65536 % 256, at_ s.toL k / 256 % 256, at_ s.toL k % 256] := by simp [outK, List.range_succ]
    rw [this, List.length_append, ih]; simp; omega
theorem outK_succ (s : S8) (k : Nat) : outK s (k + 1) = outK s k ++ [at_ s.toL k / 16777216 % 256, at_ s.toL k / 65536 % 256, at_ s.toL k / 256 % 256, at_ s.toL k % 256] := by simp [outK, List.range_succ]
theorem out8_bytes {s : S8} : Bytes (out8 s) := by
  intro x hx
  unfold out8 at hx
  obtain ⟨y, hy, hx⟩ := List.mem_flatMap.1 hx
  simp only [List.mem_cons, List.not_mem_nil, or_false] at hx
  rcases hx with rfl | rfl | rfl | rfl <;> constructor <;> omega
theorem sha_bytes (l : List Int) : Bytes (sha l) := out8_bytes
theorem padn_le (L : Nat) : padn L ≤ 63 := by unfold padn; omega
theorem be8_bytes (n : Nat) : Bytes (be8 n) := by
  intro x hx
  unfold be8 at hx
  obtain ⟨i, _, rfl⟩ := List.mem_map.1 hx
  omega
theorem tail_bytes (L : Nat) : Bytes (tail L) := by
  intro x hx
  unfold tail at hx
  rcases List.mem_cons.1 hx with rfl | hx
  · omega
  · rcases List.mem_append.1 hx with hx | hx
    · obtain ⟨_, rfl⟩ := List.mem_replicate.1 hx; omega
    · exact be8_bytes _ x hx
end Go.Proofs.YtjlhnhkjgcbnnaaGreat.Sha

/-
  Chapter 7: a frame's text, as a value. No program in sight.
-/


namespace Go.Proofs.YtjlhnhkjgcbnnaaGreat.Frame
open Go.Proofs.YtjlhnhkjgcbnnaaGreat.Sha Go.Proofs.YtjlhnhkjgcbnnaaGreat.Wire

/-- a frame -/
structure FV where
  kind : Int
  gen : Int
  seq : Int
  body : List Int
def headF (f : FV) : List Int := [99, 102] ++ be f.kind.toNat 1 ++ be 0 1 ++ be f.gen.toNat 4 ++ be f.seq.toNat 4 ++ be f.body.length 4
def textF (f : FV) : List Int := headF f ++ (sha (headF f ++ f.body)).take 8 ++ f.body
def errF (f : FV) : Int := if 60000 < f.body.length then 3 else if fits f.kind 1 = true ∧ fits f.gen 4 = true ∧ fits f.seq 4 = true then 0 else 1
def sectorsF (n : Int) : Int := if n < 0 ∨ 60000 < n then 0 else (24 + n + 62) / 63
theorem fsha_bytes (l : List Int) : Bytes (sha l) := by
  intro x hx
  unfold sha out8 at hx
  obtain ⟨y, hy, hx⟩ := List.mem_flatMap.1 hx
  simp only [List.mem_cons, List.not_mem_nil, or_false] at hx
  rcases hx with rfl | rfl | rfl | rfl <;> constructor <;> omega
theorem textF_bytes' (h : List Int) (hh : Bytes h) (s : List Int) (b : List Int) (hb : Bytes b) : Bytes (h ++ (sha s).take 8 ++ b) := (hh.append ((fsha_bytes s).take 8)).append hb
theorem headF_len (f : FV) : (headF f).length = 16 := by simp [headF, be_len]
theorem textF_len (f : FV) : (textF f).length = 24 + f.body.length := by
  simp only [textF, List.length_append, headF_len, List.length_take, sha_len]
  omega
theorem headF_bytes (f : FV) : Bytes (headF f) := by
  unfold headF
  refine (((((Bytes.append ?_ (be_bytes _ _)).append (be_bytes _ _)).append (be_bytes _ _)).append (be_bytes _ _)).append (be_bytes _ _))
  intro x hx
  simp at hx
  omega
theorem textF_bytes (f : FV) (hb : Bytes f.body) : Bytes (textF f) := textF_bytes' _ (headF_bytes f) _ _ hb
/-- the m-th sector's text, its mark ahead -/
def chunk (b : List Int) (m : Nat) : List Int := (if m = 0 then 1 else 2) :: (b.drop (63 * m)).take 63
/-- how many sectors a text of n bytes has -/
def secs (n : Nat) : Nat := (n + 62) / 63
theorem chunk_len (b : List Int) (m : Nat) : (chunk b m).length = 1 + min 63 (b.length - 63 * m) := by
  simp [chunk, List.length_take, List.length_drop]; omega
theorem cat_chunk_len (b : List Int) (m : Nat) (h : m ≤ secs b.length) : (cat (chunk b) m).length = m + min (63 * m) b.length := by
  induction m with
  | zero => simp [cat]
  | succ m ih =>
    have h63 : 63 * m ≤ b.length := by unfold secs at h; omega
    rw [cat, List.length_append, ih (by omega), chunk_len _ _]
    omega
/-- a text laid in sectors -/
def laid (b : List Int) : List Int := cat (chunk b) (secs b.length) ++ List.replicate (64 * secs b.length - (secs b.length + b.length)) 0
theorem laid_len (b : List Int) : (laid b).length = 64 * secs b.length := by
  rw [laid, List.length_append, cat_chunk_len _ _ (Nat.le_refl _), List.length_replicate]
  unfold secs
  omega
def putF (f : FV) : Int × List Int := (errF f, if errF f = 0 then laid (textF f) else [])
theorem chunk_bytes (b : List Int) (hb : Bytes b) (m : Nat) : Bytes (chunk b m) := by
  intro x hx
  rcases List.mem_cons.1 hx with h | h
  · subst h; split <;> omega
  · exact ((hb.drop _).take _) x h
theorem cat_chunk_bytes (b : List Int) (hb : Bytes b) (m : Nat) : Bytes (cat (chunk b) m) := by
  induction m with
  | zero => intro x hx; simp [cat] at hx
  | succ m ih => exact ih.append (chunk_bytes b hb m)
theorem laid_bytes (b : List Int) (hb : Bytes b) : Bytes (laid b) := (cat_chunk_bytes b hb _).append (fun x hx => by have := List.eq_of_mem_replicate hx; omega)
end Go.Proofs.YtjlhnhkjgcbnnaaGreat.Frame

/-
  Chapter 7: what sectors hold, as a value. No program in sight.
-/

namespace Go.Proofs.YtjlhnhkjgcbnnaaGreat.Frame
open Go.Proofs.YtjlhnhkjgcbnnaaGreat.Sha Go.Proofs.YtjlhnhkjgcbnnaaGreat.Wire

/-- the numbers of a frame's head, as bytes -/
def h14 (b : List Int) : List Int := (b.take 17).drop 3
def fK (b : List Int) : Nat := val ((h14 b).take 1)
def fG (b : List Int) : Nat := val (((h14 b).drop 2).take 4)
def fS (b : List Int) : Nat := val (((h14 b).drop 6).take 4)
def fN (b : List Int) : Nat := val (((h14 b).drop 10).take 4)
def allF (b : List Int) (k : Nat) : List Int := cat (fun i => (b.drop (64 * i + 1)).take 63) k
def fB (b : List Int) : List Int := ((allF b (sectorsF (fN b)).toNat).take (24 + fN b)).drop 24
def frameOf (b : List Int) : FV := ⟨fK b, fG b, fS b, fB b⟩
def noF : FV := ⟨0, 0, 0, []⟩
def getOk (b : List Int) : Prop := 64 ≤ b.length ∧ at_ b 0 = 1 ∧ sectorsF (fN b) ≠ 0 ∧ 64 * sectorsF (fN b) ≤ b.length ∧ (putF (frameOf b)).1 = 0 ∧ (putF (frameOf b)).2 = b.take (64 * sectorsF (fN b)).toNat
instance (b : List Int) : Decidable (getOk b) := by unfold getOk; infer_instance
def getF (b : List Int) : FV × Int × Int := if getOk b then (frameOf b, sectorsF (fN b), 0) else (noF, 0, 2)
theorem h14_len {b : List Int} (h : 64 ≤ b.length) : (h14 b).length = 14 := by simp [h14]; omega
theorem val4 (l : List Int) (h : Bytes l) (hl : l.length ≤ 4) : val l < 4294967296 := by
  have := val_lt l h
  have h2 : 256 ^ l.length ≤ 256 ^ 4 := Nat.pow_le_pow_right (by omega) hl
  omega
theorem allF_len {b : List Int} (k : Nat) (h : 64 * k ≤ b.length) : (allF b k).length = 63 * k := by
  induction k with
  | zero => rfl
  | succ k ih =>
    unfold allF at *
    rw [cat, List.length_append, ih (by omega), List.length_take, List.length_drop]
    omega
theorem allF_bytes {b : List Int} (h : Bytes b) (k : Nat) : Bytes (allF b k) := by
  induction k with
  | zero => intro x hx; simp [allF, cat] at hx
  | succ k ih => exact ih.append ((h.drop _).take _)
end Go.Proofs.YtjlhnhkjgcbnnaaGreat.Frame

/-
  P7.4, of the document's own answers: what was put is got, whatever stands behind.
-/

namespace Go.Proofs.YtjlhnhkjgcbnnaaGreat.Frame
open Go.Proofs.YtjlhnhkjgcbnnaaGreat.Sha Go.Proofs.YtjlhnhkjgcbnnaaGreat.Wire

theorem cat_len {X : Nat → List Int} {c : Nat} (m : Nat) (h : ∀ j, j < m → (X j).length = c) : (cat X m).length = c * m := by
  induction m with
  | zero => rfl
  | succ m ih => rw [cat, List.length_append, ih (fun j hj => h j (by omega)), h m (by omega), Nat.mul_succ]
theorem cat_piece {X : Nat → List Int} {c : Nat} (m : Nat) (h : ∀ j, j < m → (X j).length = c) (i : Nat) (hi : i < m) (r : List Int) : ((cat X m ++ r).drop (c * i)).take c = X i := by
  induction m generalizing r with
  | zero => omega
  | succ m ih =>
    rw [cat, List.append_assoc]
    by_cases h1 : i < m
    · exact ih (fun j hj => h j (by omega)) h1 (X m ++ r)
    · obtain rfl : i = m := by omega
      rw [← cat_len i (fun j hj => h j (by omega)), List.drop_append_of_le_length (Nat.le_refl _), List.drop_length, List.nil_append, List.take_append_of_le_length (by rw [h i (by omega)]; exact Nat.le_refl _), List.take_of_length_le (by rw [h i (by omega)]; exact Nat.le_refl _)]
theorem cat_pieces (l : List Int) (c m : Nat) : cat (fun i => (l.drop (c * i)).take c) m = l.take (c * m) := by
  induction m with
  | zero => simp [cat]
  | succ m ih => rw [cat, ih, Nat.mul_succ, List.take_add]
theorem cat_congr {X Y : Nat → List Int} (m : Nat) (h : ∀ i, i < m → X i = Y i) : cat X m = cat Y m := by
  induction m with
  | zero => rfl
  | succ m ih => rw [cat, cat, ih (fun i hi => h i (by omega)), h m (by omega)]
/-- a text with its zeros -/
def padF (t : List Int) : List Int := t ++ List.replicate (63 * secs t.length - t.length) 0
theorem padF_len (t : List Int) : (padF t).length = 63 * secs t.length := by
  unfold padF; rw [List.length_append, List.length_replicate]; unfold secs; omega
def mk (i : Nat) : Int := if i = 0 then 1 else 2
theorem laid_is (t : List Int) : laid t = cat (fun i => mk i :: ((padF t).drop (63 * i)).take 63) (secs t.length) := by
  have hS : ∀ m, m ≤ secs t.length → m < secs t.length ∨ m = 0 → cat (chunk t) m = cat (fun i => mk i :: ((padF t).drop (63 * i)).take 63) m := by
    intro m hm h2
    apply cat_congr
    intro i hi
    have : 63 * (i + 1) ≤ t.length := by unfold secs at *; omega
    unfold chunk mk padF
    rw [List.drop_append_of_le_length (by omega), List.take_append_of_le_length (by rw [List.length_drop]; omega)]
  unfold laid
  cases h : secs t.length with
  | zero =>
    have : t.length = 0 := by unfold secs at h; omega
    simp [cat, this]
  | succ m =>
    rw [cat, cat, hS m (by omega) (by omega), List.append_assoc]
    congr 1
    unfold chunk mk padF
    rw [List.cons_append]
    congr 1
    have h1 : 63 * m ≤ t.length := by unfold secs at h; omega
    have h2 : t.length ≤ 63 * m + 63 := by unfold secs at h; omega
    rw [List.drop_append_of_le_length h1, List.take_of_length_le (by rw [List.length_drop]; omega), List.take_of_length_le (by rw [List.length_append, List.length_drop, List.length_replicate, h]; omega)]
    congr 2
    rw [h]; omega
/-- a sector of what was laid -/
theorem laid_piece (t r : List Int) (i : Nat) (hi : i < secs t.length) : ((laid t ++ r).drop (64 * i)).take 64 = mk i :: ((padF t).drop (63 * i)).take 63 := by
  rw [laid_is]
  exact cat_piece (X := fun i => mk i :: ((padF t).drop (63 * i)).take 63) (secs t.length) (fun j hj => by simp only [List.length_cons, List.length_take, List.length_drop, padF_len]; omega) i hi r
theorem laid_mark (t r : List Int) (i : Nat) (hi : i < secs t.length) : at_ ((laid t ++ r).drop (64 * i)) 0 = mk i := by
  have h := laid_piece t r i hi
  have h2 := at_take (l := (laid t ++ r).drop (64 * i)) (n := 64) (i := 0) (by omega)
  rw [h] at h2
  rw [← h2]; rfl
theorem laid_body (t r : List Int) (i : Nat) (hi : i < secs t.length) : ((laid t ++ r).drop (64 * i + 1)).take 63 = ((padF t).drop (63 * i)).take 63 := by
  have h := congrArg (List.drop 1) (laid_piece t r i hi)
  rw [List.drop_take, List.drop_drop] at h
  exact h
theorem laid_all (t r : List Int) : allF (laid t ++ r) (secs t.length) = padF t := by
  unfold allF
  rw [cat_congr (Y := fun i => ((padF t).drop (63 * i)).take 63) _ (fun i hi => laid_body t r i hi), cat_pieces, List.take_of_length_le (by rw [padF_len]; exact Nat.le_refl _)]
theorem laid_head (t r : List Int) (h : 24 ≤ t.length) : h14 (laid t ++ r) = (t.take 16).drop 2 := by
  have h0 := laid_piece t r 0 (by unfold secs; omega)
  simp only [Nat.mul_zero, List.drop_zero] at h0
  have h1 : (laid t ++ r).take 17 = ((laid t ++ r).take 64).take 17 := by rw [List.take_take]; rfl
  unfold h14
  rw [h1, h0]
  show List.drop 2 (((padF t).take 63).take 16) = _
  rw [List.take_take, show min 16 63 = 16 from rfl]
  unfold padF
  rw [List.take_append_of_le_length (by omega)]
theorem fits_small {n : Int} {s : Nat} (h : fits n s = true) : ((val (be n.toNat s) : Nat) : Int) = n := by
  obtain ⟨h1, -, -, -, h2⟩ := fits_be h
  rw [Int.toNat_natCast] at h1
  rw [h1]; omega
theorem get_put (f : FV) (r : List Int) (he : errF f = 0) : getF (laid (textF f) ++ r) = (f, sectorsF f.body.length, 0) := by
  obtain ⟨hn, f1, f2, f3⟩ : f.body.length ≤ 60000 ∧ fits f.kind 1 = true ∧ fits f.gen 4 = true ∧ fits f.seq 4 = true := by
    unfold errF at he
    split at he
    · omega
    · split at he
      · next h1 h2 => exact ⟨by omega, h2⟩
      · omega
  have hL := textF_len f
  have hS : secs (textF f).length = (24 + f.body.length + 62) / 63 := by unfold secs; rw [hL]
  have hK : sectorsF f.body.length = ((secs (textF f).length : Nat) : Int) := by unfold sectorsF; rw [if_neg (by omega), hS]; omega
  have hh : h14 (laid (textF f) ++ r) = be f.kind.toNat 1 ++ be 0 1 ++ be f.gen.toNat 4 ++ be f.seq.toNat 4 ++ be f.body.length 4 := by
    rw [laid_head _ _ (by omega)]
    have : (textF f).take 16 = headF f := by
      unfold textF
      rw [List.append_assoc, List.take_append_of_le_length (by rw [headF_len]; exact Nat.le_refl _), List.take_of_length_le (by rw [headF_len]; exact Nat.le_refl _)]
    rw [this]
    unfold headF
    rfl
  have k1 : ((fK (laid (textF f) ++ r) : Nat) : Int) = f.kind := by
    unfold fK
    rw [hh]
    rw [show (be f.kind.toNat 1 ++ be 0 1 ++ be f.gen.toNat 4 ++ be f.seq.toNat 4 ++ be f.body.length 4).take 1 = be f.kind.toNat 1 by simp [be]]
    exact fits_small (s := 1) f1
  have k2 : ((fG (laid (textF f) ++ r) : Nat) : Int) = f.gen := by
    unfold fG
    rw [hh]
    rw [show ((be f.kind.toNat 1 ++ be 0 1 ++ be f.gen.toNat 4 ++ be f.seq.toNat 4 ++ be f.body.length 4).drop 2).take 4 = be f.gen.toNat 4 by simp [be]]
    exact fits_small (s := 4) f2
  have k3 : ((fS (laid (textF f) ++ r) : Nat) : Int) = f.seq := by
    unfold fS
    rw [hh]
    rw [show ((be f.kind.toNat 1 ++ be 0 1 ++ be f.gen.toNat 4 ++ be f.seq.toNat 4 ++ be f.body.length 4).drop 6).take 4 = be f.seq.toNat 4 by simp [be]]
    exact fits_small (s := 4) f3
  have k4 : fN (laid (textF f) ++ r) = f.body.length := by
    unfold fN
    rw [hh]
    rw [show ((be f.kind.toNat 1 ++ be 0 1 ++ be f.gen.toNat 4 ++ be f.seq.toNat 4 ++ be f.body.length 4).drop 10).take 4 = be f.body.length 4 by simp [be]]
    exact val_be _ _ (by omega)
  have k5 : fB (laid (textF f) ++ r) = f.body := by
    unfold fB
    rw [k4, hK, Int.toNat_natCast, laid_all]
    unfold padF
    rw [List.take_append_of_le_length (by omega), List.take_of_length_le (by omega)]
    unfold textF
    rw [List.drop_append_of_le_length (by simp only [List.length_append, headF_len, List.length_take, sha_len]; omega), List.drop_of_length_le (by simp only [List.length_append, headF_len, List.length_take, sha_len]; omega), List.nil_append]
  have kF : frameOf (laid (textF f) ++ r) = f := by unfold frameOf; rw [k1, k2, k3, k5]
  have hll := laid_len (textF f)
  have ok : getOk (laid (textF f) ++ r) := by
    refine ⟨by rw [List.length_append, hll]; omega, ?_, ?_, ?_, ?_, ?_⟩
    · have := laid_mark (textF f) r 0 (by omega)
      rw [Nat.mul_zero, List.drop_zero] at this
      exact this
    · rw [k4, hK]; omega
    · rw [k4, hK, List.length_append, hll]; omega
    · rw [kF]; simp only [putF]; exact he
    · rw [kF, k4, hK]
      simp only [putF]
      rw [if_pos he, show (64 * ((secs (textF f).length : Nat) : Int)).toNat = 64 * secs (textF f).length by omega, List.take_append_of_le_length (by omega), List.take_of_length_le (by omega)]
  unfold getF
  rw [if_pos ok, kF, k4]
theorem get_mark {b : List Int} (h : at_ b 0 ≠ 1) : getF b = (noF, 0, 2) := by unfold getF; rw [if_neg (fun hk => h hk.2.1)]
end Go.Proofs.YtjlhnhkjgcbnnaaGreat.Frame

/-
  What the functions of package sha that only reckon give back: turns of words, products of 128 bits, roots, primes; the world stays as it is.
-/









namespace Go.Proofs.YtjlhnhkjgcbnnaaGreat.Sha
open Go.RowKit

set_option maxHeartbeats 400000 in
theorem rot_any (x : Int) (k : Nat) (h1 : 1 ≤ k) (h2 : k ≤ 31) (hx : W32 x) (w : World) : Calls Tryz.prog 141 #[.int .u32 x, .int .i64 (-(k:Int))] w fun e w' => e = .returned (.int .u32 (rotr x k)) ∧ w = w' := by
  obtain ⟨hx1, hx2⟩ := hx
  obtain ⟨m, hm⟩ : ∃ m, k + m = 32 := ⟨32 - k, by omega⟩
  have ha := rot_arg k m h1 hm
  have hr := Lib.hid (rot_is x k m hm)
  have hm1 : m ≤ 31 := by omega
  clear hm
  go_enter Tryz.func141, Tryz.ntmps141
  go_wp2
  go_ret
  exact ⟨by rw [← hr.out]; rfl, rfl⟩

set_option maxHeartbeats 400000 in
theorem turns_any (x : Int) (i j k : Nat) (hi : 1 ≤ i ∧ i ≤ 31) (hj : 1 ≤ j ∧ j ≤ 31) (hk : 1 ≤ k ∧ k ≤ 31) (hx : W32 x) (w : World) : Calls Tryz.prog 142 #[.int .u32 x, .int .i64 i, .int .i64 j, .int .i64 k] w fun e w' => e = .returned (.int .u32 (turns3 x i j k)) ∧ w = w' := by
  have Hx := Lib.hid hx
  clear hx
  go_enter Tryz.func142, Tryz.ntmps142
  go_wp2_with (go_at_call 141; refine (rot_any _ _ (by omega) (by omega) Hx.out _).mono ?_; rintro e w' ⟨rfl, rfl⟩)
  go_ret
  exact ⟨rfl, rfl⟩

theorem n64_mask (a : Nat) (ha : a < 18446744073709551616) : bits .and .u64 (a : Int) 4294967295 = ((a % 4294967296 : Nat) : Int) := by
  have h := u64_and_nat a 4294967295 ha (by omega)
  rw [show a &&& 4294967295 = a % 4294967296 from Nat.and_two_pow_sub_one_eq_mod a 32] at h
  exact h
theorem n64_div (a : Nat) : (a : Int) / 4294967296 = ((a / 4294967296 : Nat) : Int) := by omega
theorem n64_mul (a b : Nat) : (a : Int) * (b : Int) = ((a * b : Nat) : Int) := by simp
theorem n64_add (a b : Nat) : (a : Int) + (b : Int) = ((a + b : Nat) : Int) := by simp
theorem n64_wrap (a : Nat) (ha : a < 18446744073709551616) : IntKind.u64.wrap (a : Int) = (a : Int) := by
  rw [IntKind.wrap_u64]
  omega
theorem n64_wrapM (a : Nat) : IntKind.u64.wrap (a : Int) = ((a % 18446744073709551616 : Nat) : Int) := by
  rw [IntKind.wrap_u64]
  omega
section
open Go.Lib
set_option maxHeartbeats 1000000 in
theorem mul64_any (x y : Nat) (hx : x < 18446744073709551616) (hy : y < 18446744073709551616) (w : World) :
    Calls Tryz.prog 145 #[.int .u64 x, .int .u64 y] w fun e w' => e = .returned (.tuple #[.int .u64 ((x * y / 18446744073709551616 : Nat) : Int), .int .u64 ((x * y % 18446744073709551616 : Nat) : Int)]) ∧ w = w' := by
  obtain ⟨bd, bt, bw, hhi⟩ := Lib.mul64_hi x y hx hy
  have ba := Lib.half_mul_le (a := x / 4294967296) (b := y / 4294967296) (by omega) (by omega)
  have bb := Lib.half_mul_le (a := x / 4294967296) (b := y % 4294967296) (by omega) (by omega)
  have bc := Lib.half_mul_le (a := x % 4294967296) (b := y / 4294967296) (by omega) (by omega)
  have ba' : x / 4294967296 * (y / 4294967296) < 18446744073709551616 := by omega
  have bb' : x / 4294967296 * (y % 4294967296) < 18446744073709551616 := by omega
  have bc' : x % 4294967296 * (y / 4294967296) < 18446744073709551616 := by omega
  have bh1 : x / 4294967296 * (y / 4294967296) + (x / 4294967296 * (y % 4294967296) + x % 4294967296 * (y % 4294967296) / 4294967296) / 4294967296 < 18446744073709551616 := by omega
  have bh : x / 4294967296 * (y / 4294967296) + (x / 4294967296 * (y % 4294967296) + x % 4294967296 * (y % 4294967296) / 4294967296) / 4294967296 + ((x / 4294967296 * (y % 4294967296) + x % 4294967296 * (y % 4294967296) / 4294967296) % 4294967296 + x % 4294967296 * (y / 4294967296)) / 4294967296 < 18446744073709551616 := by omega
  go_enter Tryz.func145, Tryz.ntmps145
  go_wp2
  simp only [n64_mask x hx, n64_mask y hy, n64_div, n64_mul, n64_add, n64_wrap _ bd, n64_wrap _ bb', n64_wrap _ bt, n64_mask _ bt, n64_wrap _ bc', n64_wrap _ bw, n64_wrap _ ba', n64_wrap _ bh1, n64_wrap _ bh, n64_wrapM (x * y)]
  rw [hhi]
  go_ret2
  exact ⟨rfl, rfl⟩
end

set_option maxHeartbeats 400000 in
theorem square_any (n : Nat) (hn : n < 34359738368) (w : World) : Calls Tryz.prog 138 #[.int .u64 n] w fun e w' => e = .returned (.int .u64 (sqTop n : Nat)) ∧ w = w' := by
  go_enter Tryz.func138, Tryz.ntmps138
  go_wp2_with (go_at_call 145; refine (mul64_any _ _ (by omega) (by omega) _).mono ?_; rintro e w' ⟨rfl, rfl⟩)
  go_ret
  exact ⟨rfl, rfl⟩

theorem mul64_is (x y p q : Nat) (hx : x < 18446744073709551616) (hy : y < 18446744073709551616) (hp : x * y / 18446744073709551616 = p) (hq : x * y % 18446744073709551616 = q) (w : World) :
    Calls Tryz.prog 145 #[.int .u64 x, .int .u64 y] w fun e w' => e = .returned (.tuple #[.int .u64 (p : Int), .int .u64 (q : Int)]) ∧ w = w' := by
  subst hp hq; exact mul64_any x y hx hy w
theorem cu_sum (n p r : Nat) (hp : p * n ≤ 2199023255552) (hr : r < 34359738368) (h : cuTop n = p * n + r) : IntKind.u64.wrap (IntKind.u64.wrap ((p : Int) * n) + r) = (cuTop n : Int) := by
  rw [h, IntKind.wrap_u64, IntKind.wrap_u64]
  have : ((p * n : Nat) : Int) ≤ 2199023255552 := by omega
  rw [Int.natCast_mul] at this
  have h0 : 0 ≤ (p : Int) * n := by rw [← Int.natCast_mul]; omega
  rw [Int.natCast_add, Int.natCast_mul]
  generalize (p : Int) * n = z at *
  omega
theorem ret_u64 {a b : Int} (h : a = b) : Ending.returned (.int .u64 a) = .returned (.int .u64 b) := by rw [h]

set_option maxHeartbeats 400000 in
theorem cube_any (n : Nat) (hn : n < 34359738368) (w : World) : Calls Tryz.prog 139 #[.int .u64 n] w fun e w' => e = .returned (.int .u64 (cuTop n : Nat)) ∧ w = w' := by
  have h1 := cu_a hn
  have h2 := cu_b hn
  have h3 : n * n % 18446744073709551616 < 18446744073709551616 := Nat.mod_lt _ (by omega)
  have h4 : cuTop n = n * n / 18446744073709551616 * n + n * n % 18446744073709551616 * n / 18446744073709551616 := rfl
  obtain ⟨p, hp⟩ : ∃ p, n * n / 18446744073709551616 = p := ⟨_, rfl⟩
  obtain ⟨q, hq⟩ : ∃ q, n * n % 18446744073709551616 = q := ⟨_, rfl⟩
  obtain ⟨r, hr⟩ : ∃ r, q * n / 18446744073709551616 = r := ⟨_, rfl⟩
  obtain ⟨s, hs⟩ : ∃ s, q * n % 18446744073709551616 = s := ⟨_, rfl⟩
  rw [hp] at h1 h4
  rw [hq] at h2 h3 h4
  rw [hr] at h2 h4
  have H := Lib.hid (cu_sum n p r h1 h2 h4)
  have c1 := Lib.hid fun w => mul64_is n n p q (by omega) (by omega) hp hq w
  have c2 := Lib.hid fun w => mul64_is q n r s (by omega) (by omega) hr hs w
  clear h1 h4 hp hq hr hs
  go_enter Tryz.func139, Tryz.ntmps139
  go_wp2_with fail
  refine (c1.out _).mono ?_
  rintro e w' ⟨rfl, rfl⟩
  go_wp2_with fail
  refine (c2.out _).mono ?_
  rintro e w' ⟨rfl, rfl⟩
  go_wp2
  go_ret
  exact ⟨ret_u64 (by rw [← H.out]), rfl⟩

set_option maxHeartbeats 400000 in
theorem prime_any (n : Nat) (h2 : 2 ≤ n) (hn : n < 1000) (w : World) : Calls Tryz.prog 146 #[.int .u64 n] w fun e w' => e = .returned (.bool (prB n)) ∧ w = w' := by
  go_enter Tryz.func146, Tryz.ntmps146
  go_wp2
  go_loop [3] (fun d => ∃ k : Nat, 2 ≤ k ∧ k ≤ 33 ∧ Hid (∀ e, 2 ≤ e → e < k → n % e ≠ 0) ∧ d = .int .u64 k) (fun d => 40 - (Go.RowKit.intOf d).toNat)
  case atStart => exact ⟨2, by omega, by omega, fun e h1 h2 => by omega, rfl⟩
  case round =>
    obtain ⟨k, hk, hk2, hall, rfl⟩ := hrel
    obtain ⟨s, hs⟩ : ∃ s, k * k = s := ⟨_, rfl⟩
    obtain ⟨r, hr⟩ : ∃ r, n % k = r := ⟨_, rfl⟩
    have es : (k : Int) * (k : Int) = (s : Int) := by rw [← hs, Int.natCast_mul]
    have er : (n : Int) % (k : Int) = (r : Int) := by rw [← hr]; rfl
    have bs : s ≤ 33 * 33 := by rw [← hs]; exact Nat.mul_le_mul hk2 hk2
    have Hs := Lib.hid hs
    have Hr := Lib.hid hr
    clear hs hr
    by_cases hlt : s ≤ n
    · have hk3 : k ≤ 31 := by
        have := Hs.out
        rcases Nat.lt_or_ge k 32 with h | h
        · omega
        · have := Nat.mul_le_mul h h; omega
      by_cases h0 : r = 0
      · subst h0
        go_wp2
        go_ret
        exact ⟨by rw [prB_no hk (by omega) (by rw [Hs.out]; exact hlt) Hr.out]; rfl, rfl⟩
      · go_wp2
        go_round
        case rel => exact ⟨k + 1, by omega, by omega, fun e h1 h2 => by
          by_cases he : e = k
          · subst he; rw [Hr.out]; exact h0
          · exact hall e h1 (by omega), by go_num⟩
        case measure => simp [Go.RowKit.intOf]; omega
    · go_wp2
      go_ret
      exact ⟨by rw [prB_yes (by rw [Hs.out]; omega) hall.out]; rfl, rfl⟩

theorem prime_yes (n : Nat) (h2 : 2 ≤ n) (hn : n < 1000) (h : prB n = true) (w : World) : Calls Tryz.prog 146 #[.int .u64 n] w fun e w' => e = .returned (.bool true) ∧ w = w' := by
  have := prime_any n h2 hn w; rwa [h] at this
theorem prime_no (n : Nat) (h2 : 2 ≤ n) (hn : n < 1000) (h : prB n = false) (w : World) : Calls Tryz.prog 146 #[.int .u64 n] w fun e w' => e = .returned (.bool false) ∧ w = w' := by
  have := prime_any n h2 hn w; rwa [h] at this

set_option maxHeartbeats 400000 in
theorem next_any (n m : Nat) (h2 : 2 ≤ n) (hnm : n < m) (hm : m < 1000) (hp : prB m = true) (hno : ∀ e, e < m → n < e → prB e = false) (w : World) : Calls Tryz.prog 140 #[.int .u64 n] w fun e w' => e = .returned (.int .u64 m) ∧ w = w' := by
  have Hp := Lib.hid hp
  have Hno := Lib.hid hno
  clear hp hno
  go_enter Tryz.func140, Tryz.ntmps140
  go_wp2
  go_loop [0] (fun d => ∃ k : Nat, n < k ∧ k ≤ m ∧ d = .int .u64 k) (fun d => m - (Go.RowKit.intOf d).toNat)
  case atStart => exact ⟨n + 1, by omega, by omega, by go_num⟩
  case round =>
    obtain ⟨k, hk, hk2, rfl⟩ := hrel
    by_cases hlt : k < m
    · go_wp2_with (go_at_call 146; refine (prime_no _ (by omega) (by omega) (Hno.out k hlt hk) _).mono ?_; rintro e w' ⟨rfl, rfl⟩)
      go_round
      case rel => exact ⟨k + 1, by omega, by omega, by go_num⟩
      case measure => simp [Go.RowKit.intOf]; omega
    · obtain rfl : k = m := by omega
      go_wp2_with (go_at_call 146; refine (prime_yes _ (by omega) (by omega) Hp.out _).mono ?_; rintro e w' ⟨rfl, rfl⟩)
      go_ret
      exact ⟨rfl, rfl⟩

/-- a function of whole numbers below 2^35, handed in as a value -/
def IsTop (F : Nat) (g : Nat → Nat) : Prop := ∀ (n : Nat) (w : World), n < 34359738368 → g n < 18446744073709551616 ∧ Calls Tryz.prog F #[.int .u64 n] w fun e w' => e = .returned (.int .u64 (g n : Nat)) ∧ w = w'
theorem top_sq : IsTop 138 sqTop := fun n w hn => ⟨by unfold sqTop; have := sq_le hn; omega, square_any n hn w⟩
theorem top_cu : IsTop 139 cuTop := fun n w hn => ⟨by unfold cuTop; have := cu_a hn; have := cu_b hn; omega, cube_any n hn w⟩

theorem or64 (a b : Nat) (ha : a < 34359738368) (hb : b < 34359738368) : bits .or .u64 (a : Int) (b : Int) = ((a ||| b : Nat) : Int) := bits_or_u64_nat a b (by omega) (by omega)
theorem half_i (k : Nat) : ((bitOf (k + 1) : Nat) : Int) / 2 = (bitOf k : Nat) := by
  have := bitOf_half k; omega

theorem frac_sq_end (top u : Nat) (h : fracGo sqTop top 0 u = fracGo sqTop top 35 0) : Ending.returned (.int .u32 ((u : Int) % 4294967296)) = .returned (.int .u32 (frac sqTop top : Nat)) := by
  unfold frac; rw [← h]; simp [fracGo]
set_option maxHeartbeats 400000 in
theorem frac_sq (top : Nat) (w : World) : Calls Tryz.prog 137 #[.int .u64 top, .func (.func 138) #[] #[]] w fun e w' => e = .returned (.int .u32 (frac sqTop top : Nat)) ∧ w = w' := by
  go_enter Tryz.func137, Tryz.ntmps137
  go_wp2
  go_loop [5, 6] (fun r b => ∃ (k u : Nat), k ≤ 35 ∧ u < 34359738368 ∧ Hid (fracGo sqTop top k u = fracGo sqTop top 35 0) ∧ r = .int .u64 u ∧ b = .int .u64 (bitOf k : Nat)) (fun _ b => (Go.RowKit.intOf b).toNat)
  case atStart => exact ⟨35, 0, by omega, by omega, rfl, rfl, rfl⟩
  case round =>
    obtain ⟨k, u, hk, hu, hrel, rfl, rfl⟩ := hrel
    cases k with
    | zero =>
      have e : bitOf 0 = 0 := rfl
      rw [e]
      clear e
      go_wp2
      go_ret
      exact ⟨frac_sq_end top u hrel.out, rfl⟩
    | succ k =>
      have hb : bitOf (k + 1) = 2 ^ k := rfl
      have hb2 := half_i k
      have hlt := pow_lt35 (k := k) (by omega)
      have hpos : 0 < 2 ^ k := Nat.two_pow_pos k
      have hor := or_lt (r := u) (k := k) hu (by omega)
      have e := or64 u (2 ^ k) hu hlt
      obtain ⟨v, hv⟩ : ∃ v, u ||| 2 ^ k = v := ⟨_, rfl⟩
      rw [hv] at hor e
      have hstep : fracGo sqTop top (k + 1) u = if sqTop v < top then fracGo sqTop top k v else fracGo sqTop top k u := by rw [← hv]; rfl
      rw [hstep] at hrel
      rw [hb] at hb2 ⊢
      clear hb hstep hv
      generalize 2 ^ k = b at *
      have Hb2 := Lib.hid hb2
      clear hb2
      have c := fun w => (top_sq v w hor).2
      have hg := (top_sq v w hor).1
      obtain ⟨q, hq⟩ : ∃ q, sqTop v = q := ⟨_, rfl⟩
      rw [hq] at hg c hrel
      have Hc := Lib.hid c
      clear c hq
      by_cases hqt : q < top
      · rw [if_pos hqt] at hrel
        go_wp2_with (go_at_call 138; refine (Hc.out _).mono ?_; rintro e w' ⟨rfl, rfl⟩)
        go_round
        case rel => exact ⟨k, v, by omega, hor, hrel, rfl, by rw [← Hb2.out]⟩
        case measure => simp [Go.RowKit.intOf]; omega
      · rw [if_neg hqt] at hrel
        go_wp2_with (go_at_call 138; refine (Hc.out _).mono ?_; rintro e w' ⟨rfl, rfl⟩)
        go_round
        case rel => exact ⟨k, u, by omega, hu, hrel, rfl, by rw [← Hb2.out]⟩
        case measure => simp [Go.RowKit.intOf]; omega

theorem frac_cu_end (top u : Nat) (h : fracGo cuTop top 0 u = fracGo cuTop top 35 0) : Ending.returned (.int .u32 ((u : Int) % 4294967296)) = .returned (.int .u32 (frac cuTop top : Nat)) := by
  unfold frac; rw [← h]; simp [fracGo]
set_option maxHeartbeats 400000 in
theorem frac_cu (top : Nat) (w : World) : Calls Tryz.prog 137 #[.int .u64 top, .func (.func 139) #[] #[]] w fun e w' => e = .returned (.int .u32 (frac cuTop top : Nat)) ∧ w = w' := by
  go_enter Tryz.func137, Tryz.ntmps137
  go_wp2
  go_loop [5, 6] (fun r b => ∃ (k u : Nat), k ≤ 35 ∧ u < 34359738368 ∧ Hid (fracGo cuTop top k u = fracGo cuTop top 35 0) ∧ r = .int .u64 u ∧ b = .int .u64 (bitOf k : Nat)) (fun _ b => (Go.RowKit.intOf b).toNat)
  case atStart => exact ⟨35, 0, by omega, by omega, rfl, rfl, rfl⟩
  case round =>
    obtain ⟨k, u, hk, hu, hrel, rfl, rfl⟩ := hrel
    cases k with
    | zero =>
      have e : bitOf 0 = 0 := rfl
      rw [e]
      clear e
      go_wp2
      go_ret
      exact ⟨frac_cu_end top u hrel.out, rfl⟩
    | succ k =>
      have hb : bitOf (k + 1) = 2 ^ k := rfl
      have hb2 := half_i k
      have hlt := pow_lt35 (k := k) (by omega)
      have hpos : 0 < 2 ^ k := Nat.two_pow_pos k
      have hor := or_lt (r := u) (k := k) hu (by omega)
      have e := or64 u (2 ^ k) hu hlt
      obtain ⟨v, hv⟩ : ∃ v, u ||| 2 ^ k = v := ⟨_, rfl⟩
      rw [hv] at hor e
      have hstep : fracGo cuTop top (k + 1) u = if cuTop v < top then fracGo cuTop top k v else fracGo cuTop top k u := by rw [← hv]; rfl
      rw [hstep] at hrel
      rw [hb] at hb2 ⊢
      clear hb hstep hv
      generalize 2 ^ k = b at *
      have Hb2 := Lib.hid hb2
      clear hb2
      have c := fun w => (top_cu v w hor).2
      have hg := (top_cu v w hor).1
      obtain ⟨q, hq⟩ : ∃ q, cuTop v = q := ⟨_, rfl⟩
      rw [hq] at hg c hrel
      have Hc := Lib.hid c
      clear c hq
      by_cases hqt : q < top
      · rw [if_pos hqt] at hrel
        go_wp2_with (go_at_call 139; refine (Hc.out _).mono ?_; rintro e w' ⟨rfl, rfl⟩)
        go_round
        case rel => exact ⟨k, v, by omega, hor, hrel, rfl, by rw [← Hb2.out]⟩
        case measure => simp [Go.RowKit.intOf]; omega
      · rw [if_neg hqt] at hrel
        go_wp2_with (go_at_call 139; refine (Hc.out _).mono ?_; rintro e w' ⟨rfl, rfl⟩)
        go_round
        case rel => exact ⟨k, u, by omega, hu, hrel, rfl, by rw [← Hb2.out]⟩
        case measure => simp [Go.RowKit.intOf]; omega

end Go.Proofs.YtjlhnhkjgcbnnaaGreat.Sha

/-
  Facts of memory that any package's walks use: blocks that a call made, what a call may have changed, bytes that are read, rows of the call's own, appends to them.
-/


























namespace Go.Proofs.YtjlhnhkjgcbnnaaGreat.Sha
open Go.RowKit

def Blk (w : World) (g : Nat) (t : TypeId) (cs : Array Value) : Prop := w.heap[g]? = some (.cells cs t (0, 0))
section
variable {w w' : World} {g : Nat} {t : TypeId} {cs : Array Value}
theorem Blk.lt (h : Blk w g t cs) : g < w.heap.size := by
  rcases Nat.lt_or_ge g w.heap.size with hlt | hge
  · exact hlt
  · unfold Blk at h; rw [Array.getElem?_eq_none hge] at h; cases h
theorem Blk.cell (h : Blk w g t cs) (i : Nat) : w.cell? ⟨g, i, none⟩ = cs[i]? := cell_of_row w g i cs t (0, 0) h
theorem Blk.frozen (h : Blk w g t cs) (i : Nat) : w.frozen? ⟨g, i, none⟩ = false := by
  unfold Blk at h
  simp [World.frozen?, h]
theorem Blk.new (w : World) (t : TypeId) (cs : Array Value) : Blk (w.alloc (.cells cs t)) w.heap.size t cs := heap_alloc_new w _
theorem Blk.new_at (w : World) (t : TypeId) (cs : Array Value) (n : Nat) (hn : n = w.heap.size) : Blk (w.alloc (.cells cs t)) n t cs := by subst hn; exact heap_alloc_new w _
theorem Blk.row (h : Blk w g t cs) (cs' : Array Value) : Blk (w.setRow g cs') g t cs' := setRow_heap w g _ cs' t (0, 0) h
theorem Blk.drew (h : Blk w g t cs) : Blk w.drew g t cs := h
theorem Blk.drewN (h : Blk w g t cs) (n : Nat) : Blk (w.drewN n) g t cs := h
theorem Blk.alloc (h : Blk w g t cs) (o : Obj) : Blk (w.alloc o) g t cs := (Below.heap_alloc w o g h.lt).trans h
theorem Blk.set_ (h : Blk w g t cs) (i : Nat) (u : Value) : Blk (w.setCell ⟨g, i, none⟩ u) g t (cs.setIfInBounds i u) := by
  unfold Blk at h ⊢
  simp [World.setCell, Array.getElem?_modify, h]
theorem Blk.far (h : Blk w g t cs) {p : Addr} (hp : g ≠ p.block) (u : Value) : Blk (w.setCell p u) g t cs := (Below.heap_setCell w p u g hp).trans h
theorem Blk.below {B : Nat} (h : Blk w g t cs) (hb : Below B w w') (hg : g < B) : Blk w' g t cs := (hb.block g hg).trans h
theorem Blk.grown {row : Option Nat} (h : Blk w g t cs) (hb : w.grownBy w' row) (hg : some g ≠ row) : Blk w' g t cs := (hb.block g h.lt hg).trans h
end
/-- Only the blocks of l, and new ones, may have changed from w to w'. -/
structure Bar (l : List Nat) (w w' : World) : Prop where
  os : w'.os = w.os
  tape : w'.tape = w.tape
  output : w'.output = w.output
  size : w.heap.size ≤ w'.heap.size
  block : ∀ k, k < w.heap.size → k ∉ l → w'.heap[k]? = w.heap[k]?
theorem Bar.refl (l : List Nat) (w : World) : Bar l w w := ⟨rfl, rfl, rfl, Nat.le_refl _, fun _ _ _ => rfl⟩
theorem Bar.trans {l l' : List Nat} {a b c : World} (h : Bar l a b) (k : Bar l' b c) (hl : ∀ x ∈ l', x ∈ l ∨ a.heap.size ≤ x) : Bar l a c :=
  ⟨k.os.trans h.os, k.tape.trans h.tape, k.output.trans h.output, Nat.le_trans h.size k.size, fun i hi hn => (k.block i (Nat.lt_of_lt_of_le hi h.size) (fun hm => by
    rcases hl i hm with h1 | h1
    · exact hn h1
    · omega)).trans (h.block i hi hn)⟩
theorem Bar.mono {l l' : List Nat} {w w' : World} (h : Bar l w w') (hl : ∀ x ∈ l, x ∈ l' ∨ w.heap.size ≤ x) : Bar l' w w' := ⟨h.os, h.tape, h.output, h.size, fun i hi hn => h.block i hi fun hm => by
    rcases hl i hm with h1 | h1
    · exact hn h1
    · omega⟩
theorem Bar.same {l : List Nat} {a w : World} (h : Bar l a w) : Bar l a w := h
theorem Bar.drew {l : List Nat} {a w : World} (h : Bar l a w) : Bar l a w.drew := ⟨h.os, h.tape, h.output, h.size, h.block⟩
theorem Bar.drewN {l : List Nat} {a w : World} (h : Bar l a w) (n : Nat) : Bar l a (w.drewN n) := ⟨h.os, h.tape, h.output, h.size, h.block⟩
theorem Bar.drewL {l : List Nat} {w w' : World} (h : Bar l w.drew w') : Bar l w w' := ⟨h.os, h.tape, h.output, h.size, h.block⟩
theorem Bar.alloc {l : List Nat} {a w : World} (h : Bar l a w) (o : Obj) : Bar l a (w.alloc o) :=
  h.trans (l' := []) ⟨rfl, rfl, rfl, by simp, fun k hk _ => Below.heap_alloc _ _ _ (by omega)⟩ (by simp)
theorem Bar.setCell {l : List Nat} {a w : World} (h : Bar l a w) {p : Addr} (hp : p.block ∈ l ∨ a.heap.size ≤ p.block) (u : Value) : Bar l a (w.setCell p u) :=
  h.trans (l' := [p.block]) ⟨rfl, rfl, rfl, by simp [World.setCell], fun k _ hn => Below.heap_setCell _ _ _ _ (by simpa using hn)⟩ (by simpa using hp)
theorem Bar.grown {l : List Nat} {a w w' : World} {row : Option Nat} (h : Bar l a w) (hg : w.grownBy w' row) (hr : ∀ k, row = some k → k ∈ l ∨ a.heap.size ≤ k) : Bar l a w' :=
  h.trans (l' := row.toList) ⟨hg.os, hg.tape, hg.output, hg.size, fun k hk hn => hg.block k hk (fun e => hn (by simp [← e]))⟩ (by
    intro x hx
    exact hr x (by simpa using hx))
theorem Bar.below {a w : World} {B : Nat} {l : List Nat} (h : Bar l a w) (hB : B ≤ a.heap.size) (hl : ∀ x ∈ l, B ≤ x) : Below B a w :=
  ⟨h.os, h.tape, h.output, h.size, fun k hk => h.block k (by omega) (fun hm => by have := hl k hm; omega)⟩
theorem barOf {a w : World} (h : Below a.heap.size a w) (l : List Nat) : Bar l a w := ⟨h.os, h.tape, h.output, h.size, fun k hk _ => h.block k hk⟩
theorem Blk.bar {w w' : World} {g : Nat} {t : TypeId} {cs : Array Value} {l : List Nat} (h : Blk w g t cs) (hb : Bar l w w') (hg : g ∉ l) : Blk w' g t cs := (hb.block g h.lt hg).trans h
theorem still_of {P : Program} {f : FuncId} {args : Array Value} {w : World} {v : Value} (h : Calls P f args w fun e w' => e = .returned v ∧ w = w') : Calls P f args w fun e w'' => e = .returned v ∧ w'' = w := h.mono fun _ _ ⟨a, b⟩ => ⟨a, b.symm⟩
theorem Blk.at_ {w : World} {g : Nat} {t : TypeId} {k : IntKind} {l : List Int} (h : Blk w g t (arr k l)) (i : Nat) (hi : i < l.length) : w.cell? ⟨g, i, none⟩ = some (.int k (Sha.at_ l i)) := (h.cell i).trans (arr_at k l i hi)
/-- the walk stops at the operation that writes slot n -/
theorem sel {P : Program} {ops : Array Oper} {Q : Exit → Act → World → Prop} {rest : List Oper} {a : Act} {w : World} (n : Nat) {b : Op} {c : TypeId} {p : String} {e : Array Edge} {g : Option (Nat × Bool)}
    (h : wpList P ops Q ({ dst := some n, op := b, type := c, pos := p, after := e, guard := g } :: rest) a w) : wpList P ops Q ({ dst := some n, op := b, type := c, pos := p, after := e, guard := g } :: rest) a w := h
theorem selS {P : Program} {ops : Array Oper} {Q : Exit → Act → World → Prop} {rest : List Oper} {a : Act} {w : World} (ty : TypeId) (x y : Operand) {c : TypeId} {p : String} {e : Array Edge} {g : Option (Nat × Bool)}
    (h : wpList P ops Q ({ dst := none, op := .store ty x y, type := c, pos := p, after := e, guard := g } :: rest) a w) : wpList P ops Q ({ dst := none, op := .store ty x y, type := c, pos := p, after := e, guard := g } :: rest) a w := h
theorem new_cells (w : World) (t : TypeId) (cs : List Value) : ∀ j u, cs[j]? = some u → (w.alloc (.cells cs.toArray t)).cell? ((⟨w.heap.size, 0, none⟩ : Addr).add j) = some u := by
  intro j u hj
  have e : (⟨w.heap.size, 0, none⟩ : Addr).add j = ⟨w.heap.size, j, none⟩ := by cases j <;> simp [Addr.add]
  rw [e, (Blk.new w t cs.toArray).cell j, List.getElem?_toArray, hj]
/-- a slice of bytes in memory, to be read: they are xs -/
def Rd (w : World) (A : Option Addr) (n : Nat) (xs : List Int) : Prop :=
  xs.length = n ∧ Bytes xs ∧ (n = 0 ∨ ∃ b o, A = some ⟨b, o, none⟩ ∧ ∀ i, i < n → w.cell? ⟨b, o + i, none⟩ = some (.int .u8 (at_ xs i)))
theorem Rd.keep {w w' : World} {A : Option Addr} {n : Nat} {xs : List Int} {l : List Nat} (r : Rd w A n xs) (b : Bar l w w') (hl : ∀ x ∈ l, w.heap.size ≤ x ∨ ∀ o, A ≠ some ⟨x, o, none⟩) : Rd w' A n xs := by
  obtain ⟨h1, h2, h3⟩ := r
  refine ⟨h1, h2, h3.imp id ?_⟩
  rintro ⟨bb, o, rfl, hc⟩
  refine ⟨bb, o, rfl, fun i hi => ?_⟩
  have hlt : bb < w.heap.size := World.block_lt_of_cell? _ _ (hc i hi)
  rw [← hc i hi]
  refine World.cell?_of_block (w := w) (b.block bb hlt (fun hm => ?_))
  rcases hl bb hm with h | h
  · omega
  · exact h o rfl
theorem Rd.blk {w : World} {M n : Nat} {T : TypeId} {xs : List Int} (h : Blk w M T (arr .u8 xs)) (hb : Bytes xs) (hn : xs.length = n) : Rd w (some ⟨M, 0, none⟩) n xs :=
  ⟨hn, hb, .inr ⟨M, 0, rfl, fun i hi => by rw [Nat.zero_add]; exact h.at_ i (by omega)⟩⟩
theorem Rd.nil_ {w : World} {A : Option Addr} : Rd w A 0 [] := ⟨rfl, by intro x hx; simp at hx, .inl rfl⟩
theorem below_drewN {B : Nat} {a w : World} (h : Below B a w) (n : Nat) : Below B a (w.drewN n) := ⟨h.os, h.tape, h.output, h.size, h.block⟩
theorem Rd.made {w : World} {M n : Nat} {T : TypeId} {fr : Nat × Nat} {xs : List Int} (h : w.heap[M]? = some (.cells (arr .u8 xs) T fr)) (hb : Bytes xs) (hn : xs.length = n) : Rd w (some ⟨M, 0, none⟩) n xs :=
  ⟨hn, hb, .inr ⟨M, 0, rfl, fun i hi => by rw [Nat.zero_add, cell_of_row w M i _ T fr h]; exact arr_at _ _ _ (by omega)⟩⟩
theorem own_cell {w : World} {base : Nat} {e : TypeId} {g cap n : Nat} {xs : List Int} (h : w.ownsRow base e 1 (.slice (some ⟨g, 0, none⟩) n cap) n (ints .u8 xs)) (i : Nat) (hi : i < n) : w.cell? ⟨g, i, none⟩ = some (.int .u8 (at_ xs i)) := by
  have hl : xs.length = n := by have := h.1; rw [ints_len] at this; omega
  rw [World.ownsRow.cellAt h i (by omega)]
  exact ints_at _ _ _ (by omega)
theorem own_below {w w' : World} {base : Nat} {e : TypeId} {v : Value} {n : Nat} {xs : List Value} (h : w.ownsRow base e 1 v n xs) (hg : w.grownBy w' v.ownBlock) (hB : base ≤ w.heap.size) : Below base w w' :=
  ⟨hg.os, hg.tape, hg.output, hg.size, fun k hk => hg.block k (by omega) (fun e => by have := (h.lt k e.symm).1; omega)⟩
theorem Rd.drew {w : World} {A : Option Addr} {n : Nat} {xs : List Int} (h : Rd w A n xs) : Rd w.drew A n xs := h
theorem own_bar {w w' : World} {base : Nat} {e : TypeId} {v : Value} {n : Nat} {xs : List Value} {l : List Nat} (h : w.ownsRow base e 1 v n xs) (b : Bar l w w') (hl : ∀ x ∈ l, x < base) : w'.ownsRow base e 1 v n xs := by
  refine ⟨h.1, h.2.imp id ?_⟩
  rintro ⟨g, cap, cur, hv, hg, hh, r⟩
  refine ⟨g, cap, cur, hv, hg, ?_, r⟩
  have hlt : g < w.heap.size := (Array.getElem?_eq_some_iff.1 hh).1
  rw [b.block g hlt (fun hm => by have := hl g hm; omega)]
  exact hh
theorem run_append_nil_any {P : Program} (w : World) (base : Nat) (t ty e : TypeId) (i : TypeInfo) (size : Nat) (ht : P.underlying t = some (.slice e)) (hi : P.info? e = some i)
    (v : Value) (n : Nat) (xs : List Value) (hown : w.ownsRow base e size v n xs) (c : Nat) : (Builtin.append_ #[t, t] ty #[v, .slice none 0 c]).run P w = .ok v w := by
  rcases hown.2 with ⟨rfl, rfl⟩ | ⟨g, cap, cur, rfl, _, _, hnc, _⟩
  · simp [Builtin.append_, run_underlying ht, sizeOf, typeInfo, hi, Builtin.lenOf, Builtin.firstCells]
  · simp [Builtin.append_, run_underlying ht, sizeOf, typeInfo, hi, Builtin.lenOf, Builtin.firstCells, hnc, storeCells]
/-- bytes that are read in memory go behind what the call made -/
theorem wpList_append_rd {P : Program} {w : World} {ops : Array Oper} {rest : List Oper} {o : Oper} {a : Act} {Q : Exit → Act → World → Prop} (hgd : o.guard = none) (s x : Operand) (t : TypeId)
    (ho : o.op = .call { callee := .builtin .append, args := #[s, x], argTypes := #[t, t] })
    (base : Nat) (e : TypeId) (ht : P.underlying t = some (.slice e)) (hi : (P.info? e).map (fun i => (i.zero, i.size, i.bytes)) = some (some (.int .u8 0), 1, 1))
    (v : Value) (n : Nat) (xs : List Value) (hs : a.eval s = v) (hown : w.ownsRow base e 1 v n xs)
    (A : Option Addr) (m c : Nat) (news : List Int) (hx : a.eval x = .slice A m c) (hr : Rd w A m news)
    (hsmall : n + m ≤ 4294967296) (hbase : base ≤ w.heap.size)
    (h : ∀ v' w', Kept (w'.ownsRow base e 1 v' (n + m) (xs ++ ints .u8 news)) → w.grownBy w' v.ownBlock → wpList P ops Q rest (a.put o.dst v') w') : wpList P ops Q (o :: rest) a w := by
  obtain ⟨iu, hi, hz0, hz1, hz2⟩ := info_parts hi
  obtain ⟨h1, h2, h3⟩ := hr
  have app : ∀ ad, a.eval x = .slice (some ad) m c → (∀ j u, (ints .u8 news)[j]? = some u → w.cell? (ad.add j) = some u) → wpList P ops Q (o :: rest) a w := by
    intro ad hx hc
    exact wpList_append_own w hgd s x t ho base e iu (.int .u8 0) 1 1 ht hi hz0 hz1 hz2 rfl (by omega) v n xs hs hown ad m c (ints .u8 news) hx (by rw [ints_len, h1]; omega) hc (ints_one _ _) (by unfold maxLen; omega) (by omega) hbase (fun v' w' a1 a2 _ => h v' w' ⟨a1⟩ a2)
  cases A with
  | none =>
    have h0 : m = 0 := by
      rcases h3 with h3 | ⟨_, _, h4, _⟩
      · exact h3
      · cases h4
    subst h0
    obtain rfl : news = [] := List.eq_nil_of_length_eq_zero h1
    refine wpList_plain hgd fun K hK => ?_
    have hrun := run_append_nil_any (P := P) w base t o.type e iu 1 ht hi v n xs hown c
    unfold Oper.wp
    simp [execOp, ho, resolve, invoke, builtin, hs, hx, hrun, Result.andThen]
    exact hK _ _ (h v w ⟨by simpa [ints] using hown⟩ (World.grownBy.refl _ _))
  | some ad =>
    refine app ad hx fun j u hj => ?_
    have hjl : j < news.length := by have := (List.getElem?_eq_some_iff.1 hj).1; rwa [ints_len] at this
    rcases h3 with h3 | ⟨b, o', h4, hc⟩
    · omega
    · injection h4 with h4
      subst h4
      rw [ints_at _ _ _ hjl] at hj
      rw [← hj, show (⟨b, o', none⟩ : Addr).add j = ⟨b, o' + j, none⟩ by cases j <;> simp [Addr.add]]
      exact hc j (by omega)
theorem wp_gen {P : Program} {ops : Array Oper} {Q : Exit → Act → World → Prop} {rest : List Oper} {a : Act} {w : World} (p : World → Prop) (hp : p w) (h : ∀ w', p w' → wpList P ops Q rest a w') : wpList P ops Q rest a w := h w hp
theorem Rd.below {w w' : World} {A : Option Addr} {n : Nat} {xs : List Int} (r : Rd w A n xs) (b : Below w.heap.size w w') : Rd w' A n xs :=
  r.keep (l := []) (barOf b []) (by simp)
/-- a row of the law's argument holds bytes -/
theorem rd_of_row {W : World} {a : Option Addr} {len cap : Nat} {zs : List Int} (h : (a = none ∧ len = 0 ∧ cap = 0 ∧ zs = []) ∨ ∃ x, a = some x ∧ len ≤ cap ∧ cap ≤ maxLen ∧ zs.length = cap ∧ (∀ i, i < zs.length → W.cell? (x.add i) = some (.int .u8 (zs.getD i 0))) ∧ ∀ n ∈ zs, (Lit.int .u8 n).wf = true) :
    Rd W a len (zs.take len) := by
  rcases h with ⟨rfl, rfl, rfl, rfl⟩ | ⟨x, rfl, hl, hm, hz, hcell, hw⟩
  · exact Rd.nil_
  · refine ⟨by simp; omega, fun y hy => ?_, ?_⟩
    · have := (Lit.wf_int_iff _ _).1 (hw y (List.mem_of_mem_take hy))
      simp only [show IntKind.u8.min = 0 from rfl, show IntKind.u8.max = 255 from rfl] at this
      omega
    · by_cases h0 : len = 0
      · exact .inl h0
      · refine .inr ?_
        obtain ⟨b, off, spot⟩ := x
        have hspot : spot = none := by
          have hc := hcell 0 (by omega)
          simpa [Addr.add] using World.cell?_spot hc
        subst hspot
        refine ⟨b, off, rfl, fun i hi => ?_⟩
        have := hcell i (by omega)
        have e : (⟨b, off, none⟩ : Addr).add i = ⟨b, off + i, none⟩ := by cases i <;> simp [Addr.add]
        rw [e] at this
        rw [this]
        unfold at_
        simp [List.getD_eq_getElem?_getD, hi]
theorem row_cap8 {W : World} {a : Option Addr} {len cap : Nat} {zs : List Int} (h : (a = none ∧ len = 0 ∧ cap = 0 ∧ zs = []) ∨ ∃ x, a = some x ∧ len ≤ cap ∧ cap ≤ maxLen ∧ zs.length = cap ∧ (∀ i, i < zs.length → W.cell? (x.add i) = some (.int .u8 (zs.getD i 0))) ∧ ∀ n ∈ zs, (Lit.int .u8 n).wf = true) :
    len ≤ cap ∧ cap ≤ 9223372036854775807 := by
  rcases h with ⟨-, rfl, rfl, -⟩ | ⟨x, -, hl, hm, -⟩
  · omega
  · unfold maxLen at hm; omega
theorem own_rd {w : World} {base : Nat} {e : TypeId} {v : Value} {n : Nat} {xs : List Int} (h : w.ownsRow base e 1 v n (ints .u8 xs)) (hb : Bytes xs) : ∃ A cap, v = .slice A n cap ∧ n ≤ cap ∧ cap ≤ 9223372036854775807 ∧ Rd w A n xs := by
  have hl : xs.length = n := by have := h.1; rw [ints_len] at this; omega
  rcases h.2 with ⟨rfl, rfl⟩ | ⟨g, cap, cur, rfl, hg, _, h1, h2, _⟩
  · obtain rfl := List.eq_nil_of_length_eq_zero hl
    exact ⟨none, 0, rfl, by omega, by omega, Rd.nil_⟩
  · unfold maxLen at h2
    refine ⟨some ⟨g, 0, none⟩, cap, rfl, h1, by omega, hl, hb, .inr ⟨g, 0, rfl, fun i hi => ?_⟩⟩
    rw [Nat.zero_add]
    exact own_cell h i hi
theorem wpList_unguard {P : Program} {ops : Array Oper} {Q : Exit → Act → World → Prop} {rest : List Oper} {a : Act} {w : World} {d : Option Nat} {op : Op} {ty : TypeId} {p : String} {e : Array Edge} {g : Nat × Bool}
    (hw : Region.wanted { dst := d, op := op, type := ty, pos := p, after := e, guard := some g } (yielded ops a.tmps) = true)
    (h : wpList P ops Q ({ dst := d, op := op, type := ty, pos := p, after := e, guard := none } :: rest) a w) : wpList P ops Q ({ dst := d, op := op, type := ty, pos := p, after := e, guard := some g } :: rest) a w := by
  unfold wpList at h ⊢
  rw [if_pos hw]
  rw [if_pos (by rfl)] at h
  exact h
/-- two rows of the call's own that share no block -/
def Apart (v u : Value) : Prop := ∀ g, v.ownBlock = some g → u.ownBlock ≠ some g
/-- bytes that are read in memory go behind what the call made; where the row lies then -/
theorem wpList_append_rda {P : Program} {w : World} {ops : Array Oper} {rest : List Oper} {o : Oper} {a : Act} {Q : Exit → Act → World → Prop} (hgd : o.guard = none) (s x : Operand) (t : TypeId)
    (ho : o.op = .call { callee := .builtin .append, args := #[s, x], argTypes := #[t, t] })
    (base : Nat) (e : TypeId) (ht : P.underlying t = some (.slice e)) (hi : (P.info? e).map (fun i => (i.zero, i.size, i.bytes)) = some (some (.int .u8 0), 1, 1))
    (v : Value) (n : Nat) (xs : List Value) (hs : a.eval s = v) (hown : w.ownsRow base e 1 v n xs)
    (A : Option Addr) (m c : Nat) (news : List Int) (hx : a.eval x = .slice A m c) (hr : Rd w A m news)
    (hsmall : n + m ≤ 4294967296) (hbase : base ≤ w.heap.size)
    (h : ∀ v' w', Kept (w'.ownsRow base e 1 v' (n + m) (xs ++ ints .u8 news)) → w.grownBy w' v.ownBlock → (v'.ownBlock = v.ownBlock ∨ v'.ownBlock = some w.heap.size) → wpList P ops Q rest (a.put o.dst v') w') : wpList P ops Q (o :: rest) a w := by
  obtain ⟨iu, hi, hz0, hz1, hz2⟩ := info_parts hi
  have hr0 := hr
  obtain ⟨h1, h2, h3⟩ := hr
  cases A with
  | none =>
    have h0 : m = 0 := by
      rcases h3 with h3 | ⟨_, _, h4, _⟩
      · exact h3
      · cases h4
    subst h0
    obtain rfl : news = [] := List.eq_nil_of_length_eq_zero h1
    refine wpList_plain hgd fun K hK => ?_
    have hrun := run_append_nil_any (P := P) w base t o.type e iu 1 ht hi v n xs hown c
    unfold Oper.wp
    simp [execOp, ho, resolve, invoke, builtin, hs, hx, hrun, Result.andThen]
    exact hK _ _ (h v w ⟨by simpa [ints] using hown⟩ (World.grownBy.refl _ _) (.inl rfl))
  | some ad =>
    have hc : ∀ j u, (ints .u8 news)[j]? = some u → w.cell? (ad.add j) = some u := by
      intro j u hj
      have hjl : j < news.length := by have := (List.getElem?_eq_some_iff.1 hj).1; rwa [ints_len] at this
      rcases h3 with h3 | ⟨b, o', h4, hc⟩
      · omega
      · injection h4 with h4
        subst h4
        rw [Sha.ints_at _ _ _ hjl] at hj
        rw [← hj, show (⟨b, o', none⟩ : Addr).add j = ⟨b, o' + j, none⟩ by cases j <;> simp [Addr.add]]
        exact hc j (by omega)
    exact wpList_append_own_at w hgd s x t ho base e iu (.int .u8 0) 1 1 ht hi hz0 hz1 hz2 rfl (by omega) v n xs hs hown ad m c (ints .u8 news) hx (by rw [ints_len, h1]; omega) hc (ints_one _ _) (by unfold maxLen; omega) (by omega) hbase (fun v' w' a1 a2 _ a3 => h v' w' ⟨a1⟩ a2 a3)
/-- behind an append to one row the other is as it was, and they still share nothing -/
theorem apart_in {w1 w2 : World} {base n : Nat} {e : TypeId} {v v' u : Value} {xs : List Value} (ha : Apart v u) (h : w1.ownsRow base e 1 u n xs) (hg : w1.grownBy w2 v.ownBlock)
    (hat : v'.ownBlock = v.ownBlock ∨ v'.ownBlock = some w1.heap.size) : w2.ownsRow base e 1 u n xs ∧ Apart u v' := by
  have hne : u.ownBlock = none ∨ u.ownBlock ≠ v.ownBlock := by
    cases hu : u.ownBlock with
    | none => exact .inl rfl
    | some g => exact .inr fun hv => ha g hv.symm hu
  refine ⟨h.kept hg hne, fun g hu hv => ?_⟩
  rcases hat with hat | hat
  · rw [hat] at hv
    exact ha g hv hu
  · rw [hat] at hv
    injection hv with hv
    have := (h.lt g hu).2
    omega
/-- F becomes F': only the blocks of F, and new ones, may have changed; what F' has more is new -/
def Fp (F F' : List Nat) (w w' : World) : Prop := Bar F w w' ∧ ∀ k ∈ F', k ∈ F ∨ w.heap.size ≤ k
theorem Fp.refl (F : List Nat) (w : World) : Fp F F w w := ⟨Bar.refl _ _, fun _ h => .inl h⟩
theorem Fp.trans {F F' F'' : List Nat} {a b c : World} (h : Fp F F' a b) (k : Fp F' F'' b c) : Fp F F'' a c :=
  ⟨h.1.trans k.1 h.2, fun x hx => by
    rcases k.2 x hx with h1 | h1
    · exact h.2 x h1
    · exact .inr (Nat.le_trans h.1.size h1)⟩
theorem Fp.below {F F' : List Nat} {B : Nat} {w w' : World} (h : Fp F F' w w') (hF : ∀ k ∈ F, B ≤ k) (hB : B ≤ w.heap.size) : Below B w w' := h.1.below hB hF
theorem Fp.least {F F' : List Nat} {B : Nat} {w w' : World} (h : Fp F F' w w') (hF : ∀ k ∈ F, B ≤ k) (hB : B ≤ w.heap.size) : ∀ k ∈ F', B ≤ k := fun k hk => by
  rcases h.2 k hk with h1 | h1
  · exact hF k h1
  · omega
/-- two that share no block -/
def Disj (F G : List Nat) : Prop := ∀ k ∈ F, k ∉ G
theorem Disj.symm {F G : List Nat} (h : Disj F G) : Disj G F := fun k h1 h2 => h k h2 h1
theorem Disj.step {F F' G : List Nat} {w w' : World} (h : Disj F G) (k : Fp F F' w w') (hG : ∀ g ∈ G, g < w.heap.size) : Disj F' G := fun x hx hg => by
  rcases k.2 x hx with h1 | h1
  · exact h x h1 hg
  · have := hG x hg; omega
theorem Disj.new {F G : List Nat} {n : Nat} (hF : ∀ k ∈ F, n ≤ k) (hG : ∀ g ∈ G, g < n) : Disj F G := fun x hx hg => by
  have := hF x hx; have := hG x hg; omega
theorem own_keep {w w' : World} {base size : Nat} {e : TypeId} {v : Value} {n : Nat} {xs : List Value} {l : List Nat} (h : w.ownsRow base e size v n xs) (b : Bar l w w') (hl : ∀ g ∈ v.ownBlock.toList, g ∉ l) : w'.ownsRow base e size v n xs := by
  refine ⟨h.1, h.2.imp id ?_⟩
  rintro ⟨g, cap, cur, rfl, hg, hh, r⟩
  refine ⟨g, cap, cur, rfl, hg, ?_, r⟩
  rw [b.block g (Array.getElem?_eq_some_iff.1 hh).1 (hl g (by simp [Value.ownBlock]))]
  exact hh
theorem own_lt {w : World} {base size : Nat} {e : TypeId} {v : Value} {n : Nat} {xs : List Value} (h : w.ownsRow base e size v n xs) : ∀ g ∈ v.ownBlock.toList, g < w.heap.size := fun g hg => (h.lt g (by simpa using hg)).2
theorem own_shape {w : World} {base size : Nat} {e : TypeId} {v : Value} {n : Nat} {xs : List Value} (h : w.ownsRow base e size v n xs) : ∃ A cap, v = .slice A n cap := by
  rcases h.2 with ⟨rfl, rfl⟩ | ⟨g, cap, cur, rfl, _⟩
  · exact ⟨none, 0, rfl⟩
  · exact ⟨_, cap, rfl⟩
/-- a row's block holds its elements: it is no block of another type -/
theorem own_far {w : World} {base size B : Nat} {e t : TypeId} {v : Value} {n : Nat} {xs : List Value} {cs : Array Value} (h : w.ownsRow base e size v n xs) (b : Blk w B t cs) (ht : e ≠ t) : v.ownBlock ≠ some B := by
  intro hb
  rcases h.2 with ⟨rfl, _⟩ | ⟨g, cap, cur, rfl, _, hg, _⟩
  · simp [Value.ownBlock] at hb
  · simp [Value.ownBlock] at hb
    subst hb
    unfold Blk at b
    rw [hg] at b
    injection b with b
    injection b with _ b
    exact ht b
theorem rd_cells {w : World} {g n : Nat} {xs : List Int} (r : Rd w (some ⟨g, 0, none⟩) n xs) : ∀ j u, (ints .u8 xs)[j]? = some u → w.cell? ((⟨g, 0, none⟩ : Addr).add j) = some u := by
  intro j u hj
  have hjl : j < xs.length := by have := (List.getElem?_eq_some_iff.1 hj).1; rwa [ints_len] at this
  obtain ⟨h1, _, h3⟩ := r
  rcases h3 with h3 | ⟨b, o, hA, hc⟩
  · omega
  · injection hA with hA
    injection hA with e1 e2
    subst e1 e2
    rw [ints_at _ _ _ hjl] at hj
    rw [← hj, show (⟨g, 0, none⟩ : Addr).add j = ⟨g, 0 + j, none⟩ by cases j <;> simp [Addr.add]]
    exact hc j (by omega)
/-- the row lies in none of these blocks -/
def Off (A : Option Addr) (n : Nat) (F : List Nat) : Prop := n = 0 ∨ ∃ g o, A = some ⟨g, o, none⟩ ∧ g ∉ F
theorem Rd.far {w w' : World} {A : Option Addr} {n : Nat} {xs : List Int} {F : List Nat} (r : Rd w A n xs) (b : Bar F w w') (h : Off A n F) : Rd w' A n xs := by
  rcases h with rfl | ⟨g, o, rfl, hg⟩
  · exact ⟨r.1, r.2.1, .inl rfl⟩
  · exact r.keep b (fun x hx => .inr fun o' ho => by injection ho with ho; injection ho with ho; exact hg (ho ▸ hx))
theorem Rd.off {w : World} {A : Option Addr} {n : Nat} {xs : List Int} {F : List Nat} (r : Rd w A n xs) (h : ∀ k ∈ F, w.heap.size ≤ k) : Off A n F := by
  rcases r.2.2 with h0 | ⟨b, o, rfl, hc⟩
  · exact .inl h0
  · by_cases h0 : n = 0
    · exact .inl h0
    · refine .inr ⟨b, o, rfl, fun hb => ?_⟩
      have := World.block_lt_of_cell? _ _ (hc 0 (by omega))
      have := h b hb
      simp at *
      omega
theorem own_off {w : World} {base size : Nat} {e : TypeId} {A : Option Addr} {n c : Nat} {xs : List Value} {F : List Nat} (h : w.ownsRow base e size (.slice A n c) n xs) (hf : ∀ k ∈ (Value.slice A n c).ownBlock.toList, k ∉ F) : Off A n F := by
  rcases h.2 with ⟨_, h0⟩ | ⟨g, cap, cur, hv, _⟩
  · exact .inl h0
  · injection hv with hA
    subst hA
    exact .inr ⟨g, 0, rfl, hf g (by simp [Value.ownBlock])⟩
theorem Off.step {A : Option Addr} {n : Nat} {xs : List Int} {F F' : List Nat} {w w' : World} (h : Off A n F) (r : Rd w A n xs) (k : Fp F F' w w') : Off A n F' := by
  rcases h with h | ⟨g, o, rfl, hg⟩
  · exact .inl h
  · rcases r.2.2 with h0 | ⟨b, o', hA, hc⟩
    · exact .inl h0
    · by_cases h0 : n = 0
      · exact .inl h0
      · injection hA with hA
        injection hA with h1 h2
        subst h1
        refine .inr ⟨g, o, rfl, fun hb => ?_⟩
        rcases k.2 g hb with h3 | h3
        · exact hg h3
        · have := World.block_lt_of_cell? _ _ (hc 0 (by omega))
          simp at this
          omega
theorem Bar.grownRow {w w' : World} {v : Value} (h : w.grownBy w' v.ownBlock) : Bar v.ownBlock.toList w w' := ⟨h.os, h.tape, h.output, h.size, fun k hk hn => h.block k hk (fun he => hn (by simp [← he]))⟩
theorem blk_ne {w : World} {g h : Nat} {t u : TypeId} {cs ds : Array Value} (a : Blk w g t cs) (b : Blk w h u ds) (ht : t ≠ u) : g ≠ h := by
  rintro rfl
  unfold Blk at a b
  rw [a] at b
  injection b with b
  injection b with _ b
  exact ht b

/-- an element of an array that is a value -/
theorem index_arr {P : Program} {T e : TypeId} {N : Nat} {k k' : IntKind} {l : List Int} (hT : P.underlying T = some (.array N e)) (hE : P.underlying e = some (.int k')) (hi : (P.info? e).map (·.size) = some 1) (hl : l.length = N) (i : Nat) (h : i < N) (w : World) :
    (Instr.index T (.agg (arr k l)) (.int .i64 (i : Int))).run P w = .ok (.int k (at_ l i)) w := by
  have ha := arr_at k l i (by omega)
  cases hq : P.info? e with
  | none => simp [hq] at hi
  | some j =>
    have hs : j.size = 1 := by simpa [hq] using hi
    have hagg : (isAgg e).run P w = .ok false w := by
      unfold isAgg
      rw [Sem.run_bind, run_underlying hE w]
      rfl
    simp [Instr.index, asIntOf, run_underlying hT, h, sizeOf, typeInfo, hq, hs, part, hagg, ha, Result.andThen]
theorem bar_setRow (w : World) (g : Nat) (cs : Array Value) : Bar [g] w (w.setRow g cs) := ⟨rfl, rfl, rfl, by simp [World.setRow], fun k _ hn => setRow_other w g k cs (by simpa using hn)⟩
theorem wpList_copy_bar {P : Program} {w : World} {ops : Array Oper} {rest : List Oper} {o : Oper} {a : Act} {Q : Exit → Act → World → Prop} (hgd : o.guard = none) (d s : Operand) (dT sT : TypeId)
    (ho : o.op = .call { callee := .builtin .copy, args := #[d, s], argTypes := #[dT, sT] }) (elem : TypeId) (hu : P.underlying dT = some (.slice elem)) (hsz : (P.info? elem).map (·.size) = some 1)
    (dp sp : Option Addr) (dLen dCap sLen sCap : Nat) (hd : a.eval d = .slice dp dLen dCap) (hs : a.eval s = .slice sp sLen sCap)
    (g off : Nat) (cur : List Value) (t : TypeId) (hg : Blk w g t cur.toArray) (cs : List Value) (hn : cs.length = Nat.min sLen dLen)
    (hpos : 0 < cs.length → dp = some ⟨g, off, none⟩ ∧ ∃ ad, sp = some ad ∧ ∀ j v, cs[j]? = some v → w.cell? (ad.add j) = some v)
    (hfit : off + cs.length ≤ cur.length) (h1 : ∀ v ∈ cs, v.oneCell' = true)
    (h : ∀ w', Hid (Blk w' g t (splice cur off cs).toArray) → Bar [g] w w' → wpList P ops Q rest (a.put o.dst (goInt cs.length)) w') :
    wpList P ops Q (o :: rest) a w := by
  by_cases h0 : cs.length = 0
  · obtain rfl : cs = [] := List.eq_nil_of_length_eq_zero h0
    refine wpList_copy_nothing hgd d s dT sT ho elem hu hsz dp sp dLen dCap sLen sCap hd hs (by simpa using hn.symm) ?_
    exact h w (show Blk w g t _ by rw [show splice cur off [] = cur by simp [splice]]; exact hg) (Bar.refl _ _)
  · obtain ⟨rfl, ad, rfl, hsrc⟩ := hpos (by omega)
    refine wpList_copy_own hgd d s dT sT ho elem hu hsz g off dLen dCap ad sLen sCap hd hs cur.toArray t hg cs hn hsrc (by simpa using hfit) h1 ?_
    exact h _ (show Blk _ g t _ by unfold Blk; simpa [splice] using setRow_heap w g _ _ t _ hg) (bar_setRow _ _ _)
def lenOf : Value → Nat | .slice _ l _ => l | _ => 0
end Go.Proofs.YtjlhnhkjgcbnnaaGreat.Sha

/-
  Facts of memory that name bytes' types: for seats that have them.
-/

namespace Go.Proofs.YtjlhnhkjgcbnnaaGreat.Sha
open Go.RowKit

theorem info_u8 : (Tryz.prog.info? 5).map (fun i => (i.zero, i.size, i.bytes)) = some (some (.int .u8 0), 1, 1) := by kernel_rfl
theorem rd_one (w : World) (x : Int) (hx : 0 ≤ x ∧ x ≤ 255) : Rd (w.alloc (.cells #[.int .u8 x] 5)) (some ⟨w.heap.size, 0, none⟩) 1 [x] :=
  Rd.blk (Blk.new w 5 (arr .u8 [x])) (by intro y hy; rw [List.mem_singleton] at hy; subst hy; exact hx) rfl
theorem own_rd2 {w : World} {base : Nat} {v : Value} {n : Nat} {xs : List Int} (h : w.ownsRow base 5 1 v n (ints .u8 xs)) (hb : Bytes xs) : ∃ A cap, v = .slice A n cap ∧ n ≤ cap ∧ cap ≤ 9223372036854775807 ∧ Rd w A n xs ∧
    (n = 0 ∨ ∃ g cs, A = some ⟨g, 0, none⟩ ∧ base ≤ g ∧ Blk w g 5 cs ∧ ∀ j, j < n → cs[j]? = some (.int .u8 (at_ xs j))) := by
  obtain ⟨A, cap, rfl, h1, h2, h3⟩ := own_rd h hb
  refine ⟨A, cap, rfl, h1, h2, h3, ?_⟩
  rcases h.2 with ⟨_, h0⟩ | ⟨g, cap, cur, hv, hg, hh, _⟩
  · exact .inl h0
  · injection hv with hA
    subst hA
    refine .inr ⟨g, cur, rfl, hg, hh, fun j hj => ?_⟩
    rw [← Blk.cell hh j]
    exact own_cell h j hj
theorem make_zeros (w : World) (n : Nat) (hn : n ≤ 400) : ∃ w', (Instr.makeSlice 38 (.int .i64 (n : Int)) (.int .i64 (n : Int))).run Tryz.prog w = .ok (.slice (some ⟨w.heap.size, 0, none⟩) n n) w' ∧ Rd w' (some ⟨w.heap.size, 0, none⟩) n (List.replicate n 0) ∧ Below w.heap.size w w' := by
  obtain ⟨iu, hi, hz0, hz1, hz2⟩ := info_parts info_u8
  obtain ⟨w', hm, own, gr⟩ := run_makeSlice_full (P := Tryz.prog) w w.heap.size 38 5 iu _ 1 Tryz.underlying38 hi hz0 hz1 .i64 .i64 n (by omega) (by rw [hz2]; omega) (by unfold maxLen; omega) (Nat.le_refl _)
  refine ⟨w', hm, ?_, ⟨gr.os, gr.tape, gr.output, gr.size, fun k hk => gr.block k hk (by simp)⟩⟩
  have e : (madeCells (Value.int .u8 0).cells (n * 1)).toList = ints .u8 (List.replicate n 0) := by
    rw [show (Value.int .u8 0).cells = #[.int .u8 0] from rfl, toList_madeCells_one, Nat.mul_one]
    simp [ints]
  rw [e] at own
  refine ⟨by simp, fun x hx => ?_, ?_⟩
  · have := List.eq_of_mem_replicate hx
    omega
  · exact .inr ⟨_, 0, rfl, fun i hi => by rw [Nat.zero_add]; exact own_cell own i hi⟩
theorem make_blk (w : World) (n : Nat) (hn : n ≤ 400) : ∃ w', (Instr.makeSlice 38 (.int .i64 (n : Int)) (.int .i64 (n : Int))).run Tryz.prog w = .ok (.slice (some ⟨w.heap.size, 0, none⟩) n n) w' ∧ Blk w' w.heap.size 5 (arr .u8 (List.replicate n 0)) ∧ Below w.heap.size w w' := by
  obtain ⟨iu, hi, hz0, hz1, hz2⟩ := info_parts info_u8
  obtain ⟨w', hm, own, gr⟩ := run_makeSlice_full (P := Tryz.prog) w w.heap.size 38 5 iu _ 1 Tryz.underlying38 hi hz0 hz1 .i64 .i64 n (by omega) (by rw [hz2]; omega) (by unfold maxLen; omega) (Nat.le_refl _)
  refine ⟨w', hm, ?_, ⟨gr.os, gr.tape, gr.output, gr.size, fun k hk => gr.block k hk (by simp)⟩⟩
  have e : (madeCells (Value.int .u8 0).cells (n * 1)).toList = ints .u8 (List.replicate n 0) := by
    rw [show (Value.int .u8 0).cells = #[.int .u8 0] from rfl, toList_madeCells_one, Nat.mul_one]
    simp [ints]
  rw [e] at own
  rcases own.2 with ⟨h0, -⟩ | ⟨g, cap, cur, hv, -, hh, h1, -, hs, ht⟩
  · cases h0
  · have hv2 : w.heap.size = g ∧ n = cap := by
      have := hv
      simp only [Value.slice.injEq, Option.some.injEq, Addr.mk.injEq] at this
      omega
    obtain ⟨hg, rfl⟩ := hv2
    rw [hg]
    have : cur = arr .u8 (List.replicate n 0) := by
      apply Array.toList_inj.1
      rw [List.take_of_length_le (by simp; omega)] at ht
      rw [ht]
      rfl
    rw [← this]
    exact hh
end Go.Proofs.YtjlhnhkjgcbnnaaGreat.Sha

/-
  The table of package sha in memory: made by who asks first, by sync.Once; what its functions give back.
-/













namespace Go.Proofs.YtjlhnhkjgcbnnaaGreat.Sha
open Go.RowKit

def partK (L : Nat → Nat) (n k : Nat) : List Value := (List.range n).map fun i => .int .u32 ((if i < k then L i else 0 : Nat) : Int)
theorem partK_len (L : Nat → Nat) (n k : Nat) : (partK L n k).length = n := by simp [partK]
theorem partK_at (L : Nat → Nat) (n k i : Nat) (hi : i < n) : (partK L n k)[i]? = some (.int .u32 ((if i < k then L i else 0 : Nat) : Int)) := by simp [partK, hi]
theorem partK_set (L : Nat → Nat) (n k : Nat) : (partK L n k).set k (.int .u32 (L k : Nat)) = partK L n (k + 1) := by
  apply List.ext_getElem?
  intro i
  rw [List.getElem?_set]
  by_cases hi : i < n
  · rw [partK_at _ _ _ _ hi]
    by_cases h : k = i
    · subst h; rw [partK_at _ _ _ _ hi, if_pos (by omega), if_pos (by rw [partK_len]; exact hi), if_pos (by omega)]
    · rw [if_neg h, partK_at _ _ _ _ hi]
      by_cases h2 : i < k
      · rw [if_pos h2, if_pos (by omega)]
      · rw [if_neg h2, if_neg (by omega)]
  · rw [List.getElem?_eq_none (by rw [partK_len]; omega), List.getElem?_eq_none (by rw [partK_len]; omega)]
    simp [partK_len]
    omega

/-- a table's cells: what Once holds (a, b, c), a words, b starting words reckoned so far -/
def tbl (x y z : Value) (a b : Nat) : Array Value := ([x, y, z] ++ partK kW 64 a ++ partK hW 8 b).toArray
theorem tbl_0 (x y z : Value) (a b : Nat) : (tbl x y z a b)[0]? = some x := by simp [tbl]
theorem tbl_1 (x y z : Value) (a b : Nat) : (tbl x y z a b)[1]? = some y := by simp [tbl]
theorem tbl_2 (x y z : Value) (a b : Nat) : (tbl x y z a b)[2]? = some z := by simp [tbl]
theorem tbl_word (x y z : Value) (a b i : Nat) (hi : i < 64) : (tbl x y z a b)[3 + i]? = some (.int .u32 ((if i < a then kW i else 0 : Nat) : Int)) := by
  unfold tbl
  rw [List.getElem?_toArray, List.append_assoc, List.getElem?_append_right (by simp), List.getElem?_append_left (by simp [partK_len]; omega)]
  simpa using partK_at kW 64 a i hi
theorem tbl_start (x y z : Value) (a b i : Nat) (hi : i < 8) : (tbl x y z a b)[67 + i]? = some (.int .u32 ((if i < b then hW i else 0 : Nat) : Int)) := by
  unfold tbl
  rw [List.getElem?_toArray, List.getElem?_append_right (by simp [partK_len])]
  simpa [partK_len, show 67 + i - (3 + 64) = i by omega] using partK_at hW 8 b i hi
theorem tbl_set0 (x y z u : Value) (a b : Nat) : (tbl x y z a b).setIfInBounds 0 u = tbl u y z a b := by simp [tbl]
theorem tbl_set1 (x y z u : Value) (a b : Nat) : (tbl x y z a b).setIfInBounds 1 u = tbl x u z a b := by simp [tbl]
theorem tbl_setw (x y z : Value) (a b : Nat) (ha : a < 64) : (tbl x y z a b).setIfInBounds (3 + a) (.int .u32 (kW a : Nat)) = tbl x y z (a + 1) b := by
  unfold tbl
  rw [List.setIfInBounds_toArray, List.append_assoc, List.set_append_right _ _ (by simp), List.set_append_left _ _ (by simp [partK_len]; omega)]
  simp [partK_set, Nat.add_sub_cancel_left]
theorem tbl_sets (x y z : Value) (a b : Nat) : (tbl x y z a b).setIfInBounds (67 + b) (.int .u32 (hW b : Nat)) = tbl x y z a (b + 1) := by
  unfold tbl
  rw [List.setIfInBounds_toArray, List.set_append_right _ _ (by simp [partK_len])]
  simp [partK_set, partK_len, show 67 + b - (3 + 64) = b by omega]

set_option maxHeartbeats 400000 in
theorem newtable_any (w : World) : Calls Tryz.prog 7 #[] w fun e w' => e = .returned (.pointer (some ⟨w.heap.size, 0, none⟩)) ∧ w' = w.alloc (.cells (tbl (.int .u32 0) (.int .i32 0) (.int .u32 0) 0 0) 79) := by
  go_enter Tryz.func7, Tryz.ntmps7
  go_wp2
  go_ret
  exact ⟨rfl, rfl⟩

theorem frac_cu_i (p : Nat) (v : Nat) (hp : p < 1000) (hv : frac cuTop (p * 4294967296) = v) (w : World) : Calls Tryz.prog 137 #[.int .u64 (IntKind.u64.wrap ((p : Int) * 4294967296)), .func (.func 139) #[] #[]] w fun e w' => e = .returned (.int .u32 (v : Nat)) ∧ w = w' := by
  have := frac_cu (p * 4294967296) w
  rw [hv, Int.natCast_mul] at this
  rw [show IntKind.u64.wrap ((p : Int) * 4294967296) = (p : Int) * 4294967296 by rw [IntKind.wrap_u64]; omega]
  exact this
theorem frac_sq_i (p : Nat) (v : Nat) (hv : frac sqTop p = v) (w : World) : Calls Tryz.prog 137 #[.int .u64 (p : Int), .func (.func 138) #[] #[]] w fun e w' => e = .returned (.int .u32 (v : Nat)) ∧ w = w' := by
  have := frac_sq p w
  rw [hv] at this
  exact this

set_option maxRecDepth 100000 in
set_option maxHeartbeats 400000 in
theorem reckon_any (t : Nat) (x y z : Value) (w : World) (ht : Blk w t 79 (tbl x y z 0 0)) : Calls Tryz.prog 132 #[.pointer (some ⟨t, 0, none⟩)] w fun e w' => e = .returned (.tuple #[]) ∧ Blk w' t 79 (tbl x y z 64 8) ∧ Bar [t] w w' := by
  go_enter Tryz.func132, Tryz.ntmps132
  go_wp2
  go_loopw [2, 4] (fun p i wr => ∃ k : Nat, k ≤ 64 ∧ p = .int .u64 (pW k : Nat) ∧ i = .int .i64 k ∧ Hid (Blk wr t 79 (tbl x y z k (min k 8))) ∧ Bar [t] w wr) (fun _ i _ => 64 - (Go.RowKit.intOf i).toNat)
  case atStart => exact ⟨0, by omega, rfl, rfl, ht, Bar.refl _ _⟩
  case round =>
    obtain ⟨k, hk, rfl, rfl, hblk, hbar⟩ := hrel
    obtain ⟨p, hp⟩ : ∃ p, pW k = p := ⟨_, rfl⟩
    by_cases hlt : k < 64
    · obtain ⟨q, hq⟩ : ∃ q, pW (k + 1) = q := ⟨_, rfl⟩
      obtain ⟨n1, n2, n3, n4, n5⟩ := pW_next k hlt
      have hK := K_is k hlt
      rw [hq] at n1 n2 n4 n5
      rw [hp] at n1 n3 n5 hK ⊢
      have cn := Lib.hid fun w => next_any p q n3 n1 n2 n4 n5 w
      have cw := Lib.hid fun w => frac_cu_i p (kW k) (by omega) hK w
      have Hq := Lib.hid hq
      clear hq hK n4 n5
      by_cases h8 : k < 8
      · have hH := H_is k h8
        rw [hp] at hH
        have cs := Lib.hid fun w => frac_sq_i p (hW k) hH w
        clear hH
        have Hp := Lib.hid hp
        clear hp
        have hz0 := hblk.out.frozen (67 + k)
        have hc0 := hblk.out.cell (67 + k)
        rw [tbl_start _ _ _ _ _ _ h8] at hc0
        have hb2 : Hid (Blk (wr.setCell ⟨t, 67 + k, none⟩ (.int .u32 (hW k : Nat))).drew t 79 (tbl x y z k (min (k + 1) 8))) := by
          have := hblk.out.set_ (67 + k) (.int .u32 (hW k : Nat))
          rw [show min k 8 = k by omega, tbl_sets] at this
          rw [show min (k + 1) 8 = k + 1 by omega]
          exact this.drew
        have hbar2 : Bar [t] w (wr.setCell ⟨t, 67 + k, none⟩ (.int .u32 (hW k : Nat))).drew := (hbar.setCell (by simp) _).drew
        go_wp2
        refine wp_region_still_tail 7 (by kernel_rfl) (by kernel_rfl) ?_
        simp only [List.take_succ_cons, List.take_zero, List.drop_succ_cons, List.drop_zero]
        repeat still_step
        still_call (still_of (cs.out _))
        repeat still_step
        refine wpStill_nil ?_
        change wpList _ _ _ _ _ wr.drew
        go_wp2
        clear hz0 hc0
        generalize (wr.setCell ⟨t, 67 + k, none⟩ (.int .u32 (hW k : Nat))).drew = w2 at *
        have hz0 := hb2.out.frozen (3 + k)
        have hc0 := hb2.out.cell (3 + k)
        rw [tbl_word _ _ _ _ _ _ hlt] at hc0
        refine wp_region_still_tail 8 (by kernel_rfl) (by kernel_rfl) ?_
        simp only [List.take_succ_cons, List.take_zero, List.drop_succ_cons, List.drop_zero]
        repeat still_step
        still_call (still_of (cw.out _))
        repeat still_step
        refine wpStill_nil ?_
        change wpList _ _ _ _ _ w2.drew
        go_wp2_with (go_at_call 140; refine (cn.out _).mono ?_; rintro e w' ⟨rfl, rfl⟩)
        have hb3 : Blk (w2.setCell ⟨t, 3 + k, none⟩ (.int .u32 (kW k : Nat))).drew t 79 (tbl x y z (k + 1) (min (k + 1) 8)) := by
          have := hb2.out.set_ (3 + k) (.int .u32 (kW k : Nat))
          rw [tbl_setw _ _ _ _ _ hlt] at this
          exact this.drew
        have hbar3 : Bar [t] w (w2.setCell ⟨t, 3 + k, none⟩ (.int .u32 (kW k : Nat))).drew := (hbar2.setCell (by simp) _).drew
        go_roundw
        case rel => exact ⟨k + 1, by omega, by rw [Hq.out], by go_num, hb3, hbar3⟩
        case measure => simp [Go.RowKit.intOf]; omega

      · have hb2 := hblk
        have hbar2 := hbar
        rw [show min k 8 = min (k + 1) 8 by omega] at hb2
        clear hblk hbar hp
        have hz0 := hb2.out.frozen (3 + k)
        have hc0 := hb2.out.cell (3 + k)
        rw [tbl_word _ _ _ _ _ _ hlt] at hc0
        go_wp2
        refine wp_region_still_tail 8 (by kernel_rfl) (by kernel_rfl) ?_
        simp only [List.take_succ_cons, List.take_zero, List.drop_succ_cons, List.drop_zero]
        repeat still_step
        still_call (still_of (cw.out _))
        repeat still_step
        refine wpStill_nil ?_
        change wpList _ _ _ _ _ wr.drew
        go_wp2_with (go_at_call 140; refine (cn.out _).mono ?_; rintro e w' ⟨rfl, rfl⟩)
        have hb3 : Blk (wr.setCell ⟨t, 3 + k, none⟩ (.int .u32 (kW k : Nat))).drew t 79 (tbl x y z (k + 1) (min (k + 1) 8)) := by
          have := hb2.out.set_ (3 + k) (.int .u32 (kW k : Nat))
          rw [tbl_setw _ _ _ _ _ hlt] at this
          exact this.drew
        have hbar3 : Bar [t] w (wr.setCell ⟨t, 3 + k, none⟩ (.int .u32 (kW k : Nat))).drew := (hbar2.setCell (by simp) _).drew
        go_roundw
        case rel => exact ⟨k + 1, by omega, by rw [Hq.out], by go_num, hb3, hbar3⟩
        case measure => simp [Go.RowKit.intOf]; omega
    · obtain rfl : k = 64 := by omega
      have hb := hblk.out
      go_wp2
      go_end0
      exact ⟨rfl, hb, hbar⟩
end Go.Proofs.YtjlhnhkjgcbnnaaGreat.Sha
