/-
  The document's Few: so many rows of bytes, no more than so many bytes in all.
-/
import Derived.Test.YtfioaofmmplgcaaRows2
namespace Go.Proofs.Ytfioaofmmplgcaa.Sha
open Go.RowKit

def FewsPost (n M T : Nat) (X : Nat → List Int) (w : World) (e : Ending) (w' : World) : Prop := ∃ t : Bool, e = .returned (.bool t) ∧ (t = true → n ≤ M ∧ ∀ k, k < n → (X k).length ≤ T) ∧ w = w'

set_option maxRecDepth 100000 in
set_option maxHeartbeats 1000000 in
theorem fews_any (A : Option Addr) (n cap M T : Nat) (X : Nat → List Int) (w : World) (hr : Rws w A n X) (hM : M ≤ 100000) (hT : T ≤ 1000000) :
    Calls Try.prog 21 #[.slice A n cap, .int .i64 M, .int .i64 T] w (FewsPost n M T X w) := by
  have HR := Kept.mk hr
  clear hr
  have hT1 : IntKind.i64.wrap ((T : Int) + 1) = T + 1 := by rw [IntKind.wrap_i64]; omega
  go_enter Try.func21, Try.ntmps21
  go_wp2
  go_loop [7, 8] (fun s i => ∃ k z : Nat, k ≤ min n M ∧ z ≤ (T + 1) * k ∧ Kept (z ≤ T → ∀ j, j < k → (X j).length ≤ T) ∧ s = .int .i64 z ∧ i = .int .i64 k) (fun _ i => min n M - (intOf i).toNat)
  case atStart => exact ⟨0, 0, by omega, by omega, ⟨fun _ j hj => by omega⟩, rfl, rfl⟩
  case round =>
    obtain ⟨k, z, hk, hz, HX, rfl, rfl⟩ := hrel
    by_cases hkn : k < n
    · have hkn' : (k : Int) < n := by omega
      by_cases hk2 : k < M
      · have hk2' : (k : Int) < M := by omega
        obtain ⟨b, o, rfl, hc⟩ := HR.out.resolve_left (by omega)
        obtain ⟨a, l, c, h1, h2, h3, h4⟩ := hc k hkn
        have hl := h4.1
        have hmul : (T + 1) * k ≤ 1000001 * 100000 := Nat.mul_le_mul (by omega) (by omega)
        have hsucc : (T + 1) * (k + 1) = (T + 1) * k + (T + 1) := Nat.mul_succ _ _
        clear hc h4
        by_cases hlT : l ≤ T + 1
        · have hlT' : (l : Int) ≤ T + 1 := by omega
          go_wp2
          go_round
          case rel => exact ⟨k + 1, z + l, by omega, by omega, ⟨fun h j hj => by
            by_cases e : j = k
            · subst e; omega
            · exact HX.out (by omega) j (by omega)⟩, by go_num, by go_num⟩
          case measure => simp [intOf]; omega
        · have hlT' : ¬ (l : Int) ≤ T + 1 := by omega
          go_wp2
          go_round
          case rel => exact ⟨k + 1, z + (T + 1), by omega, by omega, ⟨fun h j hj => by omega⟩, by go_num, by go_num⟩
          case measure => simp [intOf]; omega
      · obtain rfl : k = M := by omega
        have hk2' : ¬ (k : Int) < k := by omega
        have hn2 : ¬ (n : Int) ≤ k := by omega
        go_wp2
        go_ret
        exact ⟨_, rfl, by simp, rfl⟩
    · have hkn' : ¬ (k : Int) < n := by omega
      obtain rfl : k = n := by omega
      have hk3 : (k : Int) ≤ M := by omega
      by_cases hzT : z ≤ T
      · have hzT' : (z : Int) ≤ T := by omega
        have HF := Kept.mk (HX.out hzT)
        go_wp2
        go_ret
        exact ⟨true, by simp, fun _ => ⟨by omega, HF.out⟩, rfl⟩
      · have hzT' : ¬ (z : Int) ≤ T := by omega
        have hzd : decide ((z : Int) ≤ T) = false := by simpa using hzT'
        go_wp2
        go_ret
        exact ⟨false, by simp, by simp, rfl⟩
end Go.Proofs.Ytfioaofmmplgcaa.Sha
