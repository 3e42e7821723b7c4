/-
  A row of rows of bytes that came in; the document's Few; the rows one behind the other.
-/
import Derived.Test.YtblhfbpokfegnaaShaUse
namespace Go.Proofs.Ytblhfbpokfegnaa.Sha
open Go.RowKit

/-- n rows of bytes in memory, to be read: row r holds X r -/
def Rws (w : World) (A : Option Addr) (n : Nat) (X : Nat → List Int) : Prop :=
  n = 0 ∨ ∃ b o, A = some ⟨b, o, none⟩ ∧ ∀ r, r < n → ∃ a l c, w.cell? ⟨b, o + r, none⟩ = some (.slice a l c) ∧ l ≤ c ∧ c ≤ 9223372036854775807 ∧ Rd w a l (X r)
theorem Rws.below {w w' : World} {A : Option Addr} {n : Nat} {X : Nat → List Int} (h : Rws w A n X) (b : Below w.heap.size w w') : Rws w' A n X := by
  refine h.imp id ?_
  rintro ⟨bb, o, rfl, hc⟩
  refine ⟨bb, o, rfl, fun r hr => ?_⟩
  obtain ⟨a, l, c, h1, h2, h3, h4⟩ := hc r hr
  exact ⟨a, l, c, by rw [b.cell (World.block_lt_of_cell? _ _ h1)]; exact h1, h2, h3, h4.below b⟩
/-- an argument's rows -/
theorem rws_of_row {W : World} {a : Option Addr} {len cap : Nat} (h : (a = none ∧ len = 0 ∧ cap = 0) ∨ ∃ (x : Addr) (A : Nat → Option Addr) (L C : Nat → Nat) (Z : Nat → List Int), a = some x ∧ len ≤ cap ∧ cap ≤ maxLen ∧ ∀ r, r < cap → W.cell? (x.add r) = some (.slice (A r) (L r) (C r)) ∧ L r ≤ C r ∧ C r ≤ maxLen ∧ (Z r).length = C r ∧ (∀ n ∈ Z r, (Lit.int .u8 n).wf = true) ∧ (A r = none → C r = 0) ∧ ∀ a' : Addr, A r = some a' → 0 ≤ a'.block ∧ ∀ c, c < C r → W.cell? (a'.add c) = some (.int .u8 ((Z r).getD c 0))) :
    ∃ X, Rws W a len X := by
  rcases h with ⟨rfl, rfl, rfl⟩ | ⟨x, A, L, C, Z, rfl, hl, hm, hr⟩
  · exact ⟨fun _ => [], .inl rfl⟩
  · refine ⟨fun r => (Z r).take (L r), ?_⟩
    by_cases h0 : len = 0
    · exact .inl h0
    · refine .inr ?_
      obtain ⟨b, off, spot⟩ := x
      have hspot : spot = none := by
        have hc := (hr 0 (by omega)).1
        simpa [Addr.add] using World.cell?_spot hc
      subst hspot
      refine ⟨b, off, rfl, fun r hrl => ?_⟩
      obtain ⟨h1, h2, h3, h4, h5, h6, h7⟩ := hr r (by omega)
      have e : (⟨b, off, none⟩ : Addr).add r = ⟨b, off + r, none⟩ := by cases r <;> simp [Addr.add]
      rw [e] at h1
      refine ⟨A r, L r, C r, h1, h2, by unfold maxLen at h3; omega, ?_⟩
      refine rd_of_row (cap := C r) ?_
      cases hA : A r with
      | none =>
        have hC := h6 hA
        have hZ : Z r = [] := List.eq_nil_of_length_eq_zero (by omega)
        exact .inl ⟨rfl, by omega, hC, hZ⟩
      | some a' =>
        exact .inr ⟨a', rfl, h2, h3, h4, fun i hi => (h7 a' hA).2 i (by omega), h5⟩

/-- the first k rows, one behind the other -/
def cat (X : Nat → List Int) : Nat → List Int
  | 0 => []
  | k + 1 => cat X k ++ X k
def fsum (X : Nat → List Int) : Nat → Nat
  | 0 => 0
  | k + 1 => fsum X k + min (X k).length 3001
def fewB (n : Nat) (X : Nat → List Int) : Bool := decide (n ≤ 200) && decide (fsum X (min n 200) ≤ 3000)
theorem fsum_le (X : Nat → List Int) (k : Nat) : fsum X k ≤ 3001 * k := by
  induction k with
  | zero => simp [fsum]
  | succ k ih => simp only [fsum]; omega
theorem fsum_mono (X : Nat → List Int) {j k : Nat} (h : j ≤ k) : fsum X j ≤ fsum X k := by
  induction k with
  | zero => obtain rfl : j = 0 := by omega
            exact Nat.le_refl _
  | succ k ih =>
    by_cases e : j = k + 1
    · subst e; exact Nat.le_refl _
    · have := ih (by omega)
      simp only [fsum]; omega
theorem cat_len (X : Nat → List Int) (k : Nat) (h : fsum X k ≤ 3000) : (cat X k).length = fsum X k := by
  induction k with
  | zero => rfl
  | succ k ih =>
    simp only [fsum] at h
    simp only [cat, fsum, List.length_append]
    rw [ih (by omega)]
    omega
theorem few_yes {n : Nat} {X : Nat → List Int} (h : fewB n X = true) : n ≤ 200 ∧ ∀ k, k ≤ n → (cat X k).length ≤ 3000 := by
  unfold fewB at h
  simp only [Bool.and_eq_true, decide_eq_true_eq] at h
  obtain ⟨h1, h2⟩ := h
  rw [Nat.min_eq_left h1] at h2
  refine ⟨h1, fun k hk => ?_⟩
  have := fsum_mono X hk
  rw [cat_len X k (by omega)]
  omega
theorem cat_bytes {w : World} {A : Option Addr} {n : Nat} {X : Nat → List Int} (h : Rws w A n X) (k : Nat) (hk : k ≤ n) : Bytes (cat X k) := by
  induction k with
  | zero => intro x hx; simp [cat] at hx
  | succ k ih =>
    refine (ih (by omega)).append ?_
    rcases h with h | ⟨b, o, rfl, hc⟩
    · omega
    · obtain ⟨a, l, c, -, -, -, hr⟩ := hc k (by omega)
      exact hr.2.1

set_option maxRecDepth 100000 in
set_option maxHeartbeats 1000000 in
theorem few_any (A : Option Addr) (n cap : Nat) (X : Nat → List Int) (w : World) (hr : Rws w A n X) :
    Calls Try.prog 12 #[.slice A n cap, .int .i64 200, .int .i64 3000] w fun e w' => e = .returned (.bool (fewB n X)) ∧ w = w' := by
  have HR := Kept.mk hr
  clear hr
  go_enter Try.func12, Try.ntmps12
  go_wp2
  go_loop [7, 8] (fun s i => ∃ k : Nat, k ≤ min n 200 ∧ s = .int .i64 ((fsum X k : Nat) : Int) ∧ i = .int .i64 k) (fun _ i => min n 200 - (intOf i).toNat)
  case atStart => exact ⟨0, by omega, rfl, rfl⟩
  case round =>
    obtain ⟨k, hk, rfl, rfl⟩ := hrel
    have hs := fsum_le X k
    by_cases hkn : k < n
    · have hkn' : (k : Int) < n := by omega
      by_cases hk2 : k < 200
      · have hk2' : (k : Int) < 200 := by omega
        obtain ⟨b, o, rfl, hc⟩ := HR.out.resolve_left (by omega)
        obtain ⟨a, l, c, h1, h2, h3, h4⟩ := hc k hkn
        have hsucc : fsum X (k + 1) = fsum X k + min l 3001 := by rw [fsum, h4.1]
        have HS := Kept.mk hsucc
        generalize fsum X k = s at *
        clear hc h4 hsucc
        by_cases hl : l ≤ 3001
        · rw [Nat.min_eq_left hl] at HS
          go_wp2
          go_round
          case rel => exact ⟨k + 1, by omega, by rw [HS.out]; go_num, by go_num⟩
          case measure => simp [intOf]; omega
        · rw [Nat.min_eq_right (by omega)] at HS
          go_wp2
          go_round
          case rel => exact ⟨k + 1, by omega, by rw [HS.out]; go_num, by go_num⟩
          case measure => simp [intOf]; omega
      · obtain rfl : k = 200 := by omega
        have hk2' : ¬ ((200 : Nat) : Int) < 200 := by omega
        have hf : fewB n X = false := by unfold fewB; rw [decide_eq_false (show ¬ n ≤ 200 by omega)]; rfl
        have HF := Kept.mk hf
        clear hf
        have hn2 : ¬ (n : Int) ≤ 200 := by omega
        go_wp2
        go_ret
        exact ⟨by rw [HF.out]; rfl, rfl⟩
    · have hkn' : ¬ (k : Int) < n := by omega
      obtain rfl : k = n := by omega
      have hk3 : (k : Int) ≤ 200 := by omega
      have hf : fewB k X = decide (fsum X k ≤ 3000) := by unfold fewB; rw [decide_eq_true (show k ≤ 200 by omega), Nat.min_eq_left (by omega)]; rfl
      generalize fsum X k = s at *
      have HF := Kept.mk hf
      clear hf
      by_cases hs3 : s ≤ 3000
      · have hs4 : (s : Int) ≤ 3000 := by omega
        go_wp2
        go_ret
        exact ⟨by rw [HF.out, decide_eq_true hs3]; rfl, rfl⟩
      · have hs4 : ¬ (s : Int) ≤ 3000 := by omega
        have hs5 : decide ((s : Int) ≤ 3000) = false := by simpa using hs4
        go_wp2
        go_ret
        exact ⟨by rw [HF.out, decide_eq_false hs3]; rfl, rfl⟩
end Go.Proofs.Ytblhfbpokfegnaa.Sha
