/-
  Plain arithmetic of chapter 2 (package sha): turns of words of 32 bits, primes, roots bit by bit, the rounds; no program in sight.
-/
import Derived.Laws.BitsLemmas
import Derived.Laws.BitsAllLaws
import Derived.Laws.Bits64b
import Derived.KernelRfl
namespace Go.Proofs.Ytfioaofmmplgcaa.Sha

/-- a word of 32 bits -/
def W32 (x : Int) : Prop := 0 ≤ x ∧ x < 4294967296
theorem bits32 (op : BinOp) (a b : Int) : W32 (bits op .u32 a b) := by
  unfold bits W32
  cases op <;> simp only [IntKind.wrap_u32] <;> omega
theorem or_comm32 (a b : Int) : bits .or .u32 a b = bits .or .u32 b a := by
  unfold bits
  simp only [BitVec.or_comm]

/-- turned right -/
def rotr (x : Int) (k : Nat) : Int := bits .or .u32 (x / 2 ^ k) (x * 2 ^ (32 - k) % 4294967296)
theorem rotr32 (x : Int) (k : Nat) : W32 (rotr x k) := bits32 _ _ _
theorem rot_arg (k m : Nat) (h1 : 1 ≤ k) (hm : k + m = 32) : bits .and .u64 (IntKind.u64.wrap (-(k : Int))) 31 = (m : Int) := by
  have e : IntKind.u64.wrap (-(k : Int)) = ((18446744073709551616 - k : Nat) : Int) := by rw [IntKind.wrap_u64]; omega
  rw [e]
  have h := bits_and_u64_nat (18446744073709551616 - k) 31 (by omega) (by omega)
  have e2 : (18446744073709551616 - k) &&& 31 = (18446744073709551616 - k) % 32 := Nat.and_two_pow_sub_one_eq_mod _ 5
  rw [e2] at h
  rw [show (31 : Int) = ((31 : Nat) : Int) from rfl, h]
  omega
theorem rot_is (x : Int) (k m : Nat) (hm : k + m = 32) : bits .or .u32 (x * 2 ^ m % 4294967296) (x / 2 ^ (32 - m)) = rotr x k := by
  obtain rfl : m = 32 - k := by omega
  rw [or_comm32, rotr, show 32 - (32 - k) = k by omega]

/-- three turns, held against each other -/
def turns3 (x : Int) (i j k : Nat) : Int := bits .xor .u32 (bits .xor .u32 (rotr x i) (rotr x j)) (rotr x k)
theorem turns32 (x : Int) (i j k : Nat) : W32 (turns3 x i j k) := bits32 _ _ _

/-- is it a prime? (below 1600) -/
def prB (n : Nat) : Bool := (List.range 40).all fun d => decide (d < 2) || decide (n < d * d) || decide (n % d ≠ 0)
theorem prB_no {n d : Nat} (h2 : 2 ≤ d) (h4 : d < 40) (hd : d * d ≤ n) (h : n % d = 0) : prB n = false := by
  rw [Bool.eq_false_iff]
  intro hp
  unfold prB at hp
  have := List.all_eq_true.1 hp d (List.mem_range.2 h4)
  simp at this
  omega
theorem prB_yes {n d : Nat} (hn : n < d * d) (h : ∀ e, 2 ≤ e → e < d → n % e ≠ 0) : prB n = true := by
  unfold prB
  rw [List.all_eq_true]
  intro e _
  by_cases h2 : e < 2
  · simp [h2]
  · by_cases he : e < d
    · have := h e (by omega) he
      simp [this]
    · have : d * d ≤ e * e := Nat.mul_le_mul (by omega) (by omega)
      have : n < e * e := by omega
      simp [this]

def sqTop (n : Nat) : Nat := n * n / 18446744073709551616
def cuTop (n : Nat) : Nat := n * n / 18446744073709551616 * n + n * n % 18446744073709551616 * n / 18446744073709551616
/-- bit by bit, from the greatest: k bits are left to be asked -/
def fracGo (g : Nat → Nat) (top : Nat) : Nat → Nat → Nat
  | 0, r => r
  | k + 1, r => if g (r ||| 2 ^ k) < top then fracGo g top k (r ||| 2 ^ k) else fracGo g top k r
def frac (g : Nat → Nat) (top : Nat) : Nat := fracGo g top 35 0 % 4294967296
def bitOf : Nat → Nat
  | 0 => 0
  | k + 1 => 2 ^ k
theorem bitOf_half (k : Nat) : bitOf (k + 1) / 2 = bitOf k := by
  cases k with
  | zero => rfl
  | succ k => simp [bitOf, Nat.pow_succ]
theorem or_lt {r k : Nat} (hr : r < 34359738368) (hk : k < 35) : r ||| 2 ^ k < 34359738368 :=
  Nat.or_lt_two_pow (n := 35) hr (Nat.pow_lt_pow_right (by omega) hk)
theorem pow_lt35 {k : Nat} (hk : k < 35) : 2 ^ k < 34359738368 := Nat.pow_lt_pow_right (n := 35) (by omega) hk
theorem sq_le {n : Nat} (h : n < 34359738368) : n * n ≤ 1180591620648691826689 := by
  have h1 : n ≤ 34359738367 := by omega
  have := Nat.mul_le_mul h1 h1
  omega
theorem cu_a {n : Nat} (h : n < 34359738368) : n * n / 18446744073709551616 * n ≤ 2199023255552 := by
  have := sq_le h
  have h1 : n * n / 18446744073709551616 ≤ 63 := by omega
  have : n * n / 18446744073709551616 * n ≤ 63 * n := Nat.mul_le_mul h1 (Nat.le_refl _)
  omega
theorem cu_b {n : Nat} (h : n < 34359738368) : n * n % 18446744073709551616 * n / 18446744073709551616 < 34359738368 := by
  have h1 : n * n % 18446744073709551616 < 18446744073709551616 := Nat.mod_lt _ (by omega)
  have h2 : n * n % 18446744073709551616 * n ≤ 18446744073709551616 * n := Nat.mul_le_mul (by omega) (Nat.le_refl _)
  omega

def primes : List Nat := [2, 3, 5, 7, 11, 13, 17, 19, 23, 29, 31, 37, 41, 43, 47, 53, 59, 61, 67, 71, 73, 79, 83, 89, 97, 101, 103, 107, 109, 113, 127, 131, 137, 139, 149, 151, 157, 163, 167, 173, 179, 181, 191, 193, 197, 199, 211, 223, 227, 229, 233, 239, 241, 251, 257, 263, 269, 271, 277, 281, 283, 293, 307, 311, 313]
/-- prime i -/
def pW (i : Nat) : Nat := primes.getD i 0
theorem pW_next : ∀ i, i < 64 → pW i < pW (i + 1) ∧ pW (i + 1) < 1000 ∧ 2 ≤ pW i ∧ prB (pW (i + 1)) = true ∧ ∀ e, e < pW (i + 1) → pW i < e → prB e = false := by decide +kernel

def K : List Nat := [0x428a2f98, 0x71374491, 0xb5c0fbcf, 0xe9b5dba5, 0x3956c25b, 0x59f111f1, 0x923f82a4, 0xab1c5ed5,
  0xd807aa98, 0x12835b01, 0x243185be, 0x550c7dc3, 0x72be5d74, 0x80deb1fe, 0x9bdc06a7, 0xc19bf174,
  0xe49b69c1, 0xefbe4786, 0x0fc19dc6, 0x240ca1cc, 0x2de92c6f, 0x4a7484aa, 0x5cb0a9dc, 0x76f988da,
  0x983e5152, 0xa831c66d, 0xb00327c8, 0xbf597fc7, 0xc6e00bf3, 0xd5a79147, 0x06ca6351, 0x14292967,
  0x27b70a85, 0x2e1b2138, 0x4d2c6dfc, 0x53380d13, 0x650a7354, 0x766a0abb, 0x81c2c92e, 0x92722c85,
  0xa2bfe8a1, 0xa81a664b, 0xc24b8b70, 0xc76c51a3, 0xd192e819, 0xd6990624, 0xf40e3585, 0x106aa070,
  0x19a4c116, 0x1e376c08, 0x2748774c, 0x34b0bcb5, 0x391c0cb3, 0x4ed8aa4a, 0x5b9cca4f, 0x682e6ff3,
  0x748f82ee, 0x78a5636f, 0x84c87814, 0x8cc70208, 0x90befffa, 0xa4506ceb, 0xbef9a3f7, 0xc67178f2]
def H0 : List Nat := [0x6a09e667, 0xbb67ae85, 0x3c6ef372, 0xa54ff53a, 0x510e527f, 0x9b05688c, 0x1f83d9ab, 0x5be0cd19]
/-- word i; starting word i -/
def kW (i : Nat) : Nat := K.getD i 0
def hW (i : Nat) : Nat := H0.getD i 0
theorem K_is : ∀ i, i < 64 → frac cuTop (pW i * 4294967296) = kW i := by decide +kernel
theorem H_is : ∀ i, i < 8 → frac sqTop (pW i) = hW i := by decide +kernel
theorem kW_lt : ∀ i, i < 64 → kW i < 4294967296 := by decide +kernel
theorem hW_lt : ∀ i, i < 8 → hW i < 4294967296 := by decide +kernel

end Go.Proofs.Ytfioaofmmplgcaa.Sha
