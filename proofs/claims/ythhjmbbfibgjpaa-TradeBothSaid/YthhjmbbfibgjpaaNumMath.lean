/-
  Plain arithmetic of chapter 1 (package num): which numbers are amounts and ticks; what sums, differences and products come to. No program in sight.
-/
import Derived.KernelRfl
namespace Go.Proofs.Ythhjmbbfibgjpaa.Num

def amtB (n : Int) : Bool := decide (0 ≤ n ∧ n ≤ 4611686018427387904)
def tickB (n : Int) : Bool := decide (0 ≤ n ∧ n ≤ 1099511627776)
def bit (b : Bool) : Int := if b then 0 else 1

def addB (a b : Int) : Bool := amtB a && amtB b && amtB (a + b)
def addN (a b : Int) : Int := if addB a b then a + b else 0
def addE (a b : Int) : Int := bit (addB a b)
def subB (a b : Int) : Bool := amtB a && amtB b && amtB (a - b)
def subN (a b : Int) : Int := if subB a b then a - b else 0
def subE (a b : Int) : Int := bit (subB a b)
def mulB (a b : Int) : Bool := amtB a && amtB b && amtB (a * b)
def mulN (a b : Int) : Int := if mulB a b then a * b else 0
def mulE (a b : Int) : Int := bit (mulB a b)
def aftB (a b : Int) : Bool := tickB a && tickB b && tickB (a + b)
def aftN (a b : Int) : Int := if aftB a b then a + b else 0
def aftE (a b : Int) : Int := bit (aftB a b)

/-- the sum of all of l behind t: none, where one step leaves the amounts -/
def sumGo : Int → List Int → Option Int
  | t, [] => some t
  | t, n :: r => if addB t n then sumGo (t + n) r else none
def sumN (l : List Int) : Int := (sumGo 0 l).getD 0
def sumE (l : List Int) : Int := bit (sumGo 0 l).isSome

theorem amt_yes {n : Int} (h0 : 0 ≤ n) (h1 : n ≤ 4611686018427387904) : amtB n = true := by unfold amtB; exact decide_eq_true ⟨h0, h1⟩
theorem amt_no {n : Int} (h : n < 0 ∨ 4611686018427387904 < n) : amtB n = false := by unfold amtB; exact decide_eq_false (by omega)
theorem amt_iff {n : Int} : amtB n = true ↔ 0 ≤ n ∧ n ≤ 4611686018427387904 := by unfold amtB; exact decide_eq_true_iff
theorem tick_yes {n : Int} (h0 : 0 ≤ n) (h1 : n ≤ 1099511627776) : tickB n = true := by unfold tickB; exact decide_eq_true ⟨h0, h1⟩
theorem tick_no {n : Int} (h : n < 0 ∨ 1099511627776 < n) : tickB n = false := by unfold tickB; exact decide_eq_false (by omega)
theorem tick_iff {n : Int} : tickB n = true ↔ 0 ≤ n ∧ n ≤ 1099511627776 := by unfold tickB; exact decide_eq_true_iff

theorem add_iff {a b : Int} : addB a b = true ↔ 0 ≤ a ∧ 0 ≤ b ∧ a + b ≤ 4611686018427387904 := by
  unfold addB; simp only [Bool.and_eq_true, amt_iff]; omega
theorem sub_iff {a b : Int} : subB a b = true ↔ a ≤ 4611686018427387904 ∧ 0 ≤ b ∧ b ≤ a := by
  unfold subB; simp only [Bool.and_eq_true, amt_iff]; omega
theorem aft_iff {a b : Int} : aftB a b = true ↔ 0 ≤ a ∧ 0 ≤ b ∧ a + b ≤ 1099511627776 := by
  unfold aftB; simp only [Bool.and_eq_true, tick_iff]; omega
theorem mul_iff {a b : Int} : mulB a b = true ↔ (0 ≤ a ∧ a ≤ 4611686018427387904) ∧ (0 ≤ b ∧ b ≤ 4611686018427387904) ∧ a * b ≤ 4611686018427387904 := by
  unfold mulB; simp only [Bool.and_eq_true, amt_iff]
  constructor
  · rintro ⟨⟨h1, h2⟩, h3⟩; exact ⟨h1, h2, h3.2⟩
  · rintro ⟨h1, h2, h3⟩; exact ⟨⟨h1, h2⟩, Int.mul_nonneg h1.1 h2.1, h3⟩

theorem quo_lt {a b : Int} (hb : 0 < b) : 4611686018427387904 / b < a ↔ 4611686018427387904 < a * b := by
  rw [Int.ediv_lt_iff_lt_mul hb]

theorem add_at {a b : Int} (h : addB a b = true) : addN a b = a + b ∧ addE a b = 0 := by simp [addN, addE, bit, h]
theorem add_not {a b : Int} (h : addB a b = false) : addN a b = 0 ∧ addE a b = 1 := by simp [addN, addE, bit, h]
theorem sub_at {a b : Int} (h : subB a b = true) : subN a b = a - b ∧ subE a b = 0 := by simp [subN, subE, bit, h]
theorem sub_not {a b : Int} (h : subB a b = false) : subN a b = 0 ∧ subE a b = 1 := by simp [subN, subE, bit, h]
theorem mul_at {a b : Int} (h : mulB a b = true) : mulN a b = a * b ∧ mulE a b = 0 := by simp [mulN, mulE, bit, h]
theorem mul_not {a b : Int} (h : mulB a b = false) : mulN a b = 0 ∧ mulE a b = 1 := by simp [mulN, mulE, bit, h]
theorem aft_at {a b : Int} (h : aftB a b = true) : aftN a b = a + b ∧ aftE a b = 0 := by simp [aftN, aftE, bit, h]
theorem aft_not {a b : Int} (h : aftB a b = false) : aftN a b = 0 ∧ aftE a b = 1 := by simp [aftN, aftE, bit, h]

theorem bool_false {b : Bool} {p : Prop} (h : b = true ↔ p) (hp : ¬ p) : b = false := by
  cases b with
  | false => rfl
  | true => exact absurd (h.1 rfl) hp

/-! ### sums of lists -/
theorem sumGo_append (t : Int) (l r : List Int) : sumGo t (l ++ r) = (sumGo t l).bind fun u => sumGo u r := by
  induction l generalizing t with
  | nil => rfl
  | cons n l ih =>
    simp only [List.cons_append, sumGo]
    split
    · exact ih _
    · rfl
theorem sumGo_take (zs : List Int) (k : Nat) (t : Int) (hk : k < zs.length) (h : sumGo 0 (zs.take k) = some t) :
    sumGo 0 (zs.take (k + 1)) = if addB t (zs.getD k 0) then some (t + zs.getD k 0) else none := by
  have e : zs.take (k + 1) = zs.take k ++ [zs.getD k 0] := by
    rw [List.take_succ_eq_append_getElem hk]
    simp [List.getD_eq_getElem?_getD, hk]
  rw [e, sumGo_append, h]
  rfl
theorem sumGo_none (zs : List Int) (k : Nat) (h : sumGo 0 (zs.take k) = none) (len : Nat) (hk : k ≤ len) : sumGo 0 (zs.take len) = none := by
  have e : zs.take len = zs.take k ++ (zs.take len).drop k := by
    have := List.take_append_drop k (zs.take len)
    rw [List.take_take, Nat.min_eq_left hk] at this
    exact this.symm
  rw [e, sumGo_append, h]
  rfl
/-- what a sum from t comes to is at least t, and it is an amount -/
theorem sumGo_le (t : Int) (l : List Int) (u : Int) (ht : 0 ≤ t) (hM : t ≤ 4611686018427387904) (h : sumGo t l = some u) : t ≤ u ∧ u ≤ 4611686018427387904 := by
  induction l generalizing t with
  | nil => simp only [sumGo, Option.some.injEq] at h; omega
  | cons n l ih =>
    simp only [sumGo] at h
    split at h
    · rename_i hb
      have hb' := add_iff.1 hb
      have := ih (t + n) (by omega) (by omega) h
      omega
    · exact absurd h (by simp)
/-- a sum from t is the sum from 0, t added -/
theorem sumGo_shift (t : Int) (l : List Int) (ht : 0 ≤ t) (hM : t ≤ 4611686018427387904) :
    sumGo t l = (sumGo 0 l).bind fun u => if addB t u then some (t + u) else none := by
  suffices H : ∀ (s t : Int), 0 ≤ s → 0 ≤ t → t + s ≤ 4611686018427387904 → sumGo (t + s) l = (sumGo s l).bind fun u => if addB t u then some (t + u) else none by
    have := H 0 t (by omega) ht (by omega)
    rw [Int.add_zero] at this
    exact this
  induction l with
  | nil =>
    intro s t h1 h2 h3
    have : addB t s = true := add_iff.2 ⟨h2, h1, h3⟩
    simp [sumGo, this]
  | cons n l ih =>
    intro s t h1 h2 h3
    simp only [sumGo]
    by_cases hn : 0 ≤ n ∧ t + s + n ≤ 4611686018427387904
    · have e1 : addB (t + s) n = true := add_iff.2 ⟨by omega, hn.1, hn.2⟩
      have e2 : addB s n = true := add_iff.2 ⟨by omega, hn.1, by omega⟩
      rw [if_pos e1, if_pos e2, Int.add_assoc]
      exact ih (s + n) t (by omega) h2 (by omega)
    · have e1 : addB (t + s) n = false := bool_false add_iff (by omega)
      rw [e1]
      by_cases e2 : addB s n = true
      · have e2' := add_iff.1 e2
        rw [if_pos e2]
        cases hu : sumGo (s + n) l with
        | none => rfl
        | some u =>
          have := sumGo_le (s + n) l u (by omega) (by omega) hu
          have e3 : addB t u = false := bool_false add_iff (by omega)
          simp [e3]
      · simp [e2]
/-- b equal numbers -/
theorem sumGo_replicate (a : Int) (ha : 0 ≤ a) (b : Nat) :
    sumGo 0 (List.replicate b a) = if a * b ≤ 4611686018427387904 then some (a * b) else none := by
  suffices H : ∀ (b : Nat) (t : Int), 0 ≤ t → t ≤ 4611686018427387904 → sumGo t (List.replicate b a) = if t + a * b ≤ 4611686018427387904 then some (t + a * b) else none by
    simpa using H b 0 (by omega) (by omega)
  intro b
  induction b with
  | zero => intro t h1 h2; simp [sumGo, h2]
  | succ b ih =>
    intro t h1 h2
    have hm : a * ((b + 1 : Nat) : Int) = a * b + a := by
      rw [Int.natCast_add, Int.mul_add]; simp
    have hnn : 0 ≤ a * (b : Int) := Int.mul_nonneg ha (by omega)
    simp only [List.replicate_succ, sumGo]
    by_cases h : t + a ≤ 4611686018427387904
    · have e1 : addB t a = true := add_iff.2 ⟨h1, ha, h⟩
      rw [if_pos e1, ih (t + a) (by omega) h, hm]
      have : t + a + a * (b : Int) = t + (a * b + a) := by omega
      rw [this]
    · have e1 : addB t a = false := bool_false add_iff (by omega)
      rw [e1, hm, if_neg (by simp), if_neg (by omega)]

end Go.Proofs.Ythhjmbbfibgjpaa.Num
