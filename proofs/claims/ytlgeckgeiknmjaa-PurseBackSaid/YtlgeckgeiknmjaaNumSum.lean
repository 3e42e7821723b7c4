/-
  num.Sum, in any seat that has it.
-/
import Derived.Test.YtlgeckgeiknmjaaNumMath
import Derived.Test.YtlgeckgeiknmjaaNumAdd
import Derived.Test.YtlgeckgeiknmjaaNumInts
import Derived.Test.YtlgeckgeiknmjaaChecked
import Derived.WalkKit
import Derived.WalkSpells
import Derived.WalkLawsBesides
import Derived.OpenShut
import Derived.Lib.Hide
import Derived.ProofKit
namespace Go.Proofs.Ytlgeckgeiknmjaa.Num
open Go.RowKit

set_option maxHeartbeats 400000 in
theorem sum_any (a : Option Addr) (len cap : Nat) (l : List Int) (w : World) (hl : Ints w a len l) :
    Calls Try.prog 24 #[.slice a len cap] w fun e w' => e = .returned (.tuple #[.int .i64 (sumN l), .int .i64 (sumE l)]) ∧ w = w' := by
  obtain ⟨hlen, hmax, hc⟩ := hl
  have Hlen := Lib.hid hlen
  clear hlen
  go_enter Try.func24, Try.ntmps24
  go_wp2
  go_loop [4, 11] (fun t i => ∃ (k : Nat) (u : Int), k ≤ len ∧ i = .int .i64 k ∧ t = .int .i64 u ∧ Hid (sumGo 0 (l.take k) = some u)) (fun _ i => len - (intOf i).toNat)
  case atStart => exact ⟨0, 0, Nat.zero_le _, rfl, rfl, rfl⟩
  case round =>
    obtain ⟨k, u, hk, rfl, rfl, hs⟩ := hrel
    by_cases hlt : k < len
    · rcases hc with h0 | ⟨b, off, rfl, hcell⟩
      · omega
      · have hck := hcell k hlt
        clear hcell
        obtain ⟨n, hn⟩ : ∃ n, l.getD k 0 = n := ⟨_, rfl⟩
        rw [hn] at hck
        have Hn := Lib.hid hn
        clear hn
        cases hb : addB u n
        · have Hb := Lib.hid hb
          clear hb
          go_wp2_with (go_at_call 28; refine (add_no _ _ _ Hb.out).mono ?_; rintro e w' ⟨rfl, rfl⟩)
          go_ret2
          exact ⟨sum_none (k + 1) (by have := Hlen.out; omega) (step_no (by have := Hlen.out; omega) hs.out Hn.out Hb.out), rfl⟩
        · have Hb := Lib.hid hb
          clear hb
          go_wp2_with (go_at_call 28; refine (add_yes _ _ _ Hb.out).mono ?_; rintro e w' ⟨rfl, rfl⟩)
          go_round
          case rel => exact ⟨k + 1, u + n, by omega, by go_num, rfl, step_yes (by have := Hlen.out; omega) hs.out Hn.out Hb.out⟩
          case measure => simp [intOf]; omega
    · go_wp2
      go_ret2
      exact ⟨sum_end k (by have := Hlen.out; omega) hs.out, rfl⟩
end Go.Proofs.Ytlgeckgeiknmjaa.Num
