/-
  The law ShaWords's own function next: the next prime.
-/
import Derived.Test.YtblhfbpokfegnaaShaTab
import Derived.Test.YtblhfbpokfegnaaShaSpec
namespace Go.Proofs.Ytblhfbpokfegnaa.Words
open Go.RowKit Go.Proofs.Ytblhfbpokfegnaa.Sha

/-- no d from 2 to below e divides n -/
def nodB (n e : Nat) : Bool := (List.range e).all fun d => decide (d < 2) || decide (n % d ≠ 0)
theorem nodB_2 (n : Nat) : nodB n 2 = true := by simp [nodB, List.range_succ]
theorem nodB_succ (n e : Nat) (h : 2 ≤ e) : nodB n (e + 1) = (nodB n e && decide (n % e ≠ 0)) := by
  unfold nodB
  rw [List.range_succ, List.all_append]
  simp [show ¬ e < 2 by omega]
theorem nodB_end {n k : Nat} (h2 : 2 ≤ k) (hk : k ≤ 33) (hn : n < k * k) (hp : k = 2 ∨ (k - 1) * (k - 1) ≤ n) : nodB n k = prB n := by
  cases h : nodB n k with
  | true =>
    refine (prB_yes hn fun e h1 h3 => ?_).symm
    have := List.all_eq_true.1 h e (List.mem_range.2 h3)
    simpa [show ¬ e < 2 by omega] using this
  | false =>
    have : ¬ ∀ d ∈ List.range k, (decide (d < 2) || decide (n % d ≠ 0)) = true := fun hall => by
      have := List.all_eq_true.2 hall
      unfold nodB at h
      rw [this] at h
      cases h
    have : ∃ d, d < k ∧ 2 ≤ d ∧ n % d = 0 := by
      apply Classical.byContradiction
      intro hno
      apply this
      intro d hd
      have hd := List.mem_range.1 hd
      by_cases h2 : d < 2
      · simp [h2]
      · by_cases h0 : n % d = 0
        · exact absurd ⟨d, hd, by omega, h0⟩ hno
        · simp [h0]
    obtain ⟨d, hd, hd2, h0⟩ := this
    refine (prB_no hd2 (by omega) ?_ h0).symm
    rcases hp with rfl | hp
    · omega
    · exact Nat.le_trans (Nat.mul_le_mul (show d ≤ k - 1 by omega) (show d ≤ k - 1 by omega)) hp

set_option maxRecDepth 100000 in
set_option maxHeartbeats 1000000 in
theorem rnext_any (n m : Nat) (h2 : 2 ≤ n) (hnm : n < m) (hm : m < 1000) (hp : prB m = true) (hno : ∀ e, e < m → n < e → prB e = false) (w : World) : Calls Try.prog 20 #[.int .i64 n] w fun e w' => e = .returned (.int .i64 m) ∧ w = w' := by
  have Hp := Kept.mk hp
  have Hno := Kept.mk hno
  clear hp hno
  go_enter Try.func20, Try.ntmps20
  go_wp2
  go_loop [3] (fun d => ∃ q : Nat, n < q ∧ q ≤ m ∧ d = .int .i64 q) (fun d => m - (intOf d).toNat)
  case atStart => exact ⟨n + 1, by omega, by omega, by go_num⟩
  case round =>
    obtain ⟨q, hq, hq2, rfl⟩ := hrel
    go_wp2
    go_loop [4, 5] (fun p d => ∃ (b : Bool) (k : Nat), 2 ≤ k ∧ k ≤ 33 ∧ p = .bool b ∧ d = .int .i64 k ∧ Kept (nodB q k = b) ∧ Kept (k = 2 ∨ (k - 1) * (k - 1) ≤ q)) (fun _ d => 40 - (intOf d).toNat)
    case atStart => exact ⟨true, 2, by omega, by omega, rfl, rfl, ⟨nodB_2 q⟩, ⟨.inl rfl⟩⟩
    case round =>
      obtain ⟨b, k, hk, hk2, rfl, rfl, hb, hsq⟩ := hrel
      obtain ⟨s, hs⟩ : ∃ s, k * k = s := ⟨_, rfl⟩
      obtain ⟨r, hr⟩ : ∃ r, q % k = r := ⟨_, rfl⟩
      have es : (k : Int) * (k : Int) = (s : Int) := by rw [← hs, Int.natCast_mul]
      have er : (q : Int) % (k : Int) = (r : Int) := by rw [← hr]; rfl
      have bs : s ≤ 33 * 33 := by rw [← hs]; exact Nat.mul_le_mul hk2 hk2
      have Hs := Kept.mk hs
      have Hr := Kept.mk hr
      clear hs hr
      by_cases hlt : s ≤ q
      · have hk3 : k ≤ 31 := by
          have := Hs.out
          rcases Nat.lt_or_ge k 32 with h | h
          · omega
          · have := Nat.mul_le_mul h h; omega
        have hsq' : Kept (k + 1 = 2 ∨ (k + 1 - 1) * (k + 1 - 1) ≤ q) := ⟨.inr (by rw [Nat.add_sub_cancel, Hs.out]; exact hlt)⟩
        cases b
        · go_wp2
          go_round
          case rel => exact ⟨false, k + 1, by omega, by omega, rfl, by go_num, ⟨by rw [nodB_succ _ _ hk, hb.out]; rfl⟩, hsq'⟩
          case measure => simp [intOf]; omega
        · by_cases h0 : r = 0
          · subst h0
            go_wp2
            go_round
            case rel => exact ⟨false, k + 1, by omega, by omega, rfl, by go_num, ⟨by rw [nodB_succ _ _ hk, hb.out, Hr.out]; rfl⟩, hsq'⟩
            case measure => simp [intOf]; omega
          · have hr0 : ((r : Int) != 0) = true := by simp; omega
            go_wp2
            go_round
            case rel => exact ⟨true, k + 1, by omega, by omega, rfl, by go_num, ⟨by rw [nodB_succ _ _ hk, hb.out, Hr.out]; simp [h0]⟩, hsq'⟩
            case measure => simp [intOf]; omega
      · have hend := nodB_end hk hk2 (show q < k * k by rw [Hs.out]; omega) hsq.out
        rw [hb.out] at hend
        by_cases hqm : q < m
        · rw [Hno.out q hqm hq] at hend
          subst hend
          go_wp2
          go_round
          case rel => exact ⟨q + 1, by omega, by omega, by go_num⟩
          case measure => simp [intOf]; omega
        · obtain rfl : q = m := by omega
          rw [Hp.out] at hend
          subst hend
          go_wp2
          go_ret
          exact ⟨rfl, rfl⟩
end Go.Proofs.Ytblhfbpokfegnaa.Words
