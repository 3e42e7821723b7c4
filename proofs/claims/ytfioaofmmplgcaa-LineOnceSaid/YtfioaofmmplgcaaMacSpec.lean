/-
  HMAC as plain lists of whole numbers; what Equal reckons. No program in sight.
-/
import Derived.Test.YtfioaofmmplgcaaShaSpec
namespace Go.Proofs.Ytfioaofmmplgcaa.Mac
open Go.Proofs.Ytfioaofmmplgcaa.Sha

theorem bits8 (op : BinOp) (a b : Int) : 0 ≤ bits op .u8 a b ∧ bits op .u8 a b ≤ 255 := by
  unfold bits
  cases op <;> simp only [IntKind.wrap_u8] <;> omega
/-- the key, noughts behind it, with c against each: its first k bytes so far -/
def kpK (key : List Int) (c : Int) (k : Nat) : List Int := (List.range 64).map fun i => if i < k then bits .xor .u8 (at_ key i) c else at_ key i
def kp (key : List Int) (c : Int) : List Int := (List.range 64).map fun i => bits .xor .u8 (at_ key i) c
theorem kpK_len (key : List Int) (c : Int) (k : Nat) : (kpK key c k).length = 64 := by simp [kpK]
theorem kp_len (key : List Int) (c : Int) : (kp key c).length = 64 := by simp [kp]
theorem kpK_at (key : List Int) (c : Int) (k i : Nat) (h : i < 64) : at_ (kpK key c k) i = if i < k then bits .xor .u8 (at_ key i) c else at_ key i := at_range _ _ _ h
theorem kp_at (key : List Int) (c : Int) (i : Nat) (h : i < 64) : at_ (kp key c) i = bits .xor .u8 (at_ key i) c := at_range _ _ _ h
theorem kp_bytes (key : List Int) (c : Int) : Bytes (kp key c) := by
  intro x hx
  obtain ⟨i, _, rfl⟩ := List.mem_map.1 hx
  exact bits8 _ _ _
theorem kpK_64 (key : List Int) (c : Int) : kpK key c 64 = kp key c := by
  apply at_ext
  · rw [kpK_len, kp_len]
  · intro i hi
    rw [kpK_len] at hi
    rw [kpK_at _ _ _ _ hi, kp_at _ _ _ hi, if_pos hi]
theorem kpK_set (key : List Int) (c : Int) (k : Nat) : (kpK key c k).set k (bits .xor .u8 (at_ key k) c) = kpK key c (k + 1) := by
  apply at_ext
  · rw [List.length_set, kpK_len, kpK_len]
  · intro i hi
    rw [List.length_set, kpK_len] at hi
    have hs : at_ ((kpK key c k).set k (bits .xor .u8 (at_ key k) c)) i = if k = i then bits .xor .u8 (at_ key k) c else at_ (kpK key c k) i := by
      simp [at_, List.getD_eq_getElem?_getD, List.getElem?_set]
      by_cases hk : k = i
      · subst hk; simp [kpK_len, hi]
      · simp [hk]
    rw [hs, kpK_at _ _ _ _ hi, kpK_at _ _ _ _ hi]
    by_cases h : k = i
    · subst h; simp
    · rw [if_neg h]
      by_cases h2 : i < k
      · rw [if_pos h2, if_pos (by omega)]
      · rw [if_neg h2, if_neg (by omega)]
/-- the copy into 64 noughts -/
theorem kpK_0 (key : List Int) (c : Int) (h : key.length ≤ 64) : (List.replicate 64 (0 : Int)).take 0 ++ key ++ (List.replicate 64 (0 : Int)).drop (0 + key.length) = kpK key c 0 := by
  apply at_ext
  · rw [kpK_len]; simp; omega
  · intro i hi
    have h64 : i < 64 := by simp at hi; omega
    rw [kpK_at _ _ _ _ h64, if_neg (by omega)]
    by_cases hk : i < key.length
    · rw [at_append_left (by simpa using hk), at_append_right (by simp)]; simp
    · rw [at_append_right (by simp; omega), at_out (l := key) (by omega)]
      simp only [at_, List.getD_eq_getElem?_getD, List.getElem?_drop, List.getElem?_replicate]
      split <;> rfl
theorem kp_nought (key : List Int) (c : Int) : kp (key ++ [0]) c = kp key c := by
  apply at_ext
  · rw [kp_len, kp_len]
  · intro i hi
    rw [kp_len] at hi
    rw [kp_at _ _ _ hi, kp_at _ _ _ hi]
    congr 1
    by_cases h : i < key.length
    · rw [at_append_left h]
    · rw [at_append_right (by omega), at_out (l := key) (by omega)]
      by_cases h2 : i - key.length = 0
      · rw [h2]; rfl
      · exact at_out (by simp; omega)

/-- a key of more than a block counts as its hash -/
def keyOf (key : List Int) : List Int := if 64 < key.length then sha key else key
def hmacK (key text : List Int) : List Int := sha (kp key 92 ++ sha (kp key 54 ++ text))
def hmac (key text : List Int) : List Int := hmacK (keyOf key) text
theorem keyOf_big {key : List Int} (h : 64 < key.length) : keyOf key = sha key := if_pos h
theorem keyOf_small {key : List Int} (h : ¬ 64 < key.length) : keyOf key = key := if_neg h
theorem hmac_len (key text : List Int) : (hmac key text).length = 32 := rfl
theorem hmac_hash {key : List Int} (h : 64 < key.length) (text : List Int) : hmac (sha key) text = hmac key text := by
  unfold hmac
  rw [keyOf_big h, keyOf_small (by rw [sha_len]; omega)]
theorem hmac_nought {key : List Int} (h : key.length < 64) (text : List Int) : hmac (key ++ [0]) text = hmac key text := by
  unfold hmac hmacK
  rw [keyOf_small (show ¬ 64 < key.length by omega), keyOf_small (by simp; omega), kp_nought, kp_nought]

/-- what Equal reckons of the first k bytes -/
def dif (f g : Nat → Int) : Nat → Int
  | 0 => 0
  | k + 1 => bits .or .u8 (dif f g k) (bits .xor .u8 (f k) (g k))
theorem dif8 (f g : Nat → Int) (k : Nat) : 0 ≤ dif f g k ∧ dif f g k ≤ 255 := by
  cases k with
  | zero => exact ⟨by simp [dif], by simp [dif]⟩
  | succ k => exact bits8 _ _ _
theorem xor0 (a b : Int) (ha : 0 ≤ a ∧ a ≤ 255) (hb : 0 ≤ b ∧ b ≤ 255) : bits .xor .u8 a b = 0 ↔ a = b := by
  rw [u8_xor a b ha.1 (by omega) hb.1 (by omega)]
  constructor
  · intro h
    have h2 : a.toNat ^^^ b.toNat = 0 := by exact_mod_cast h
    have h3 : a.toNat = b.toNat := by
      apply Nat.eq_of_testBit_eq
      intro i
      have := congrArg (fun n => n.testBit i) h2
      simp only [Nat.testBit_xor, Nat.zero_testBit] at this
      revert this
      cases a.toNat.testBit i <;> cases b.toNat.testBit i <;> simp
    omega
  · rintro rfl
    simp
theorem or0 (a b : Int) (ha : 0 ≤ a ∧ a ≤ 255) (hb : 0 ≤ b ∧ b ≤ 255) : bits .or .u8 a b = 0 ↔ a = 0 ∧ b = 0 := by
  rw [u8_or a b ha.1 (by omega) hb.1 (by omega)]
  constructor
  · intro h
    have h2 : a.toNat ||| b.toNat = 0 := by exact_mod_cast h
    have h3 := Nat.or_eq_zero_iff.1 h2
    omega
  · rintro ⟨rfl, rfl⟩
    rfl
theorem dif_zero {f g : Nat → Int} (hf : ∀ i, 0 ≤ f i ∧ f i ≤ 255) (hg : ∀ i, 0 ≤ g i ∧ g i ≤ 255) (k : Nat) : dif f g k = 0 ↔ ∀ i, i < k → f i = g i := by
  induction k with
  | zero => simp [dif]
  | succ k ih =>
    rw [dif, or0 _ _ (dif8 _ _ _) (bits8 _ _ _), ih, xor0 _ _ (hf k) (hg k)]
    constructor
    · rintro ⟨h1, h2⟩ i hi
      by_cases e : i = k
      · subst e; exact h2
      · exact h1 i (by omega)
    · intro h
      exact ⟨fun i hi => h i (by omega), h k (by omega)⟩
theorem sameB_dif {xs ys : List Int} (hx : Bytes xs) (hy : Bytes ys) (hl : xs.length = ys.length) : decide (dif (at_ xs) (at_ ys) xs.length = 0) = sameB xs ys := by
  unfold sameB
  apply decide_eq_decide.2
  rw [dif_zero hx.at_ hy.at_]
  constructor
  · intro h; exact at_ext hl h
  · rintro rfl i _; rfl
theorem hi_there : (hmac (List.replicate 20 11) [72, 105, 32, 84, 104, 101, 114, 101]).take 4 = [0xb0, 0x34, 0x4c, 0x61] := by decide +kernel
end Go.Proofs.Ytfioaofmmplgcaa.Mac
