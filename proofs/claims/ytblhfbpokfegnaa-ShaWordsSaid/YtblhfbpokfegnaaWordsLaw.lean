/-
  The law ShaWords, walked.
-/
import Derived.Test.YtblhfbpokfegnaaWordsCube
import Derived.Test.YtblhfbpokfegnaaWordsNext
import Derived.Test.YtblhfbpokfegnaaShaFirst
import Derived.Test.YtblhfbpokfegnaaShaWord
namespace Go.Proofs.Ytblhfbpokfegnaa.Words
open Go.RowKit Go.Proofs.Ytblhfbpokfegnaa.Sha

set_option maxRecDepth 100000 in
set_option maxHeartbeats 2000000 in
theorem words_bad (i : Int) (w : World) (hbad : i < 0 ∨ 63 < i) :
    Calls Try.prog 4 #[.int .i64 i] w fun e w' => e = .returned (.bool true) ∧ Below w.heap.size w w' := by
  have hw : wordI i = 0 := by unfold wordI; rw [if_neg (by omega)]
  have cw := Kept.mk fun N w hT => word_any N i w hT
  rw [hw] at cw
  clear hw
  rcases hbad with hbad | hbad <;>
  · go_enter Try.func4, Try.ntmps4
    go_wp2_with fail
    refine (first_any _).mono ?_
    rintro e w1 ⟨rfl, b1⟩
    go_wp2_with fail
    refine (newtable_any w1).mono ?_
    rintro e w2 ⟨rfl, rfl⟩
    obtain ⟨N, hN⟩ : ∃ N, w1.heap.size = N := ⟨_, rfl⟩
    have t2 : Tab (w1.alloc (.cells (tbl (.int .u32 0) (.int .i32 0) (.int .u32 0) 0 0) 66)) N := .inl (Blk.new_at _ _ _ N hN.symm)
    have b2 := b1.alloc b1.size (.cells (tbl (.int .u32 0) (.int .i32 0) (.int .u32 0) 0 0) 66)
    have hlt : w.heap.size ≤ N := hN ▸ b1.size
    rw [hN]
    generalize w1.alloc (.cells (tbl (.int .u32 0) (.int .i32 0) (.int .u32 0) 0 0) 66) = w2 at *
    clear b1 hN
    have T := Kept.mk t2; have B := Kept.mk b2
    clear t2 b2
    go_wp2_with fail
    refine (first_any _).mono ?_
    rintro e w3 ⟨rfl, b⟩
    replace T := Kept.mk (T.out.below b T.out.lt)
    replace B := Kept.mk (B.out.trans (b.mono B.out.size))
    clear b
    go_wp2_with fail
    refine (cw.out N w3 T.out).mono ?_
    rintro e w4 ⟨rfl, -, b⟩
    replace B := Kept.mk (B.out.trans (b.below B.out.size (by simpa using hlt)))
    clear b T
    go_wp2
    go_ret
    exact ⟨rfl, B.out⟩

set_option maxRecDepth 100000 in
set_option maxHeartbeats 4000000 in
theorem words_main (k : Nat) (w : World) (hk : k < 64) :
    Calls Try.prog 4 #[.int .i64 (k : Int)] w fun e w' => e = .returned (.bool true) ∧ Below w.heap.size w w' := by
  have hw : wordI (k : Int) = (kW k : Nat) := by unfold wordI; rw [if_pos (by omega)]; rfl
  have cw := Kept.mk fun N w hT => word_any N (k : Int) w hT
  rw [hw] at cw
  clear hw
  obtain ⟨q, hq8, hq1, hq2, hq0, hc1, hc2, hk32⟩ := cube_all k hk
  have hpk : pW k ≤ 1000 := by
    have := pW_next k hk
    omega
  have cu1 := Kept.mk fun w => cube_any q (kW k) (pW k) w (by omega) (by omega) hpk
  have cu2 := Kept.mk fun w => cube_any q (kW k + 1) (pW k) w (by omega) hk32 hpk
  obtain ⟨κ, hκ⟩ : ∃ κ, kW k = κ := ⟨_, rfl⟩
  rw [hκ] at cw cu1 cu2 hc1 hc2 hk32
  obtain ⟨κ', hκ'⟩ : ∃ κ', κ + 1 = κ' := ⟨_, rfl⟩
  have hκi : (κ : Int) + 1 = κ' := by omega
  rw [hκ'] at cu2 hc2 hk32
  generalize cubeL q κ (pW k) = r1 at *
  generalize cubeL q κ' (pW k) = r2 at *
  have hκlt : κ < 4294967295 := by omega
  have HQ1 := Kept.mk hq1
  have HQ2 := Kept.mk hq2
  clear hκ hκ' hq1 hq2
  go_enter Try.func4, Try.ntmps4
  go_wp2_with fail
  refine (first_any _).mono ?_
  rintro e w1 ⟨rfl, b1⟩
  go_wp2_with fail
  refine (newtable_any w1).mono ?_
  rintro e w2 ⟨rfl, rfl⟩
  obtain ⟨N, hN⟩ : ∃ N, w1.heap.size = N := ⟨_, rfl⟩
  have t2 : Tab (w1.alloc (.cells (tbl (.int .u32 0) (.int .i32 0) (.int .u32 0) 0 0) 66)) N := .inl (Blk.new_at _ _ _ N hN.symm)
  have b2 := b1.alloc b1.size (.cells (tbl (.int .u32 0) (.int .i32 0) (.int .u32 0) 0 0) 66)
  have hlt : w.heap.size ≤ N := hN ▸ b1.size
  rw [hN]
  generalize w1.alloc (.cells (tbl (.int .u32 0) (.int .i32 0) (.int .u32 0) 0 0) 66) = w2 at *
  clear b1 hN
  have T := Kept.mk t2; have B := Kept.mk b2
  clear t2 b2
  go_wp2
  go_loop [4, 5] (fun p n => ∃ j : Nat, j ≤ k ∧ p = .int .i64 ((pW j : Nat) : Int) ∧ n = .int .i64 j) (fun _ n => k - (intOf n).toNat)
  case atStart => exact ⟨0, by omega, rfl, rfl⟩
  case round =>
    obtain ⟨j, hj, rfl, rfl⟩ := hrel
    by_cases hjk : j < k
    · have hjk' : (j : Int) < k := by omega
      obtain ⟨n1, n2, n3, n4, n5⟩ := pW_next j (by omega)
      have cn := Kept.mk (rnext_any (pW j) (pW (j + 1)) n3 n1 n2 n4 n5 w2)
      clear n1 n2 n3 n4 n5
      generalize hx : pW j = x at *
      generalize hy : pW (j + 1) = y at *
      have HY := Kept.mk hy
      clear hx hy
      go_wp2_with fail
      refine cn.out.mono ?_
      rintro e w3 ⟨rfl, rfl⟩
      go_wp2
      go_round
      case rel => exact ⟨j + 1, by omega, by rw [HY.out], by go_num⟩
      case measure => simp [intOf]; omega
    · obtain rfl : j = k := by omega
      have hjk' : ¬ (j : Int) < j := by omega
      generalize pW j = p at *
      go_wp2
      go_loop [6] (fun v => ∃ u : Nat, 1 ≤ u ∧ u ≤ q ∧ v = .int .i64 u) (fun v => q + 1 - (intOf v).toNat)
      case atStart => exact ⟨1, by omega, hq0, rfl⟩
      case round =>
        obtain ⟨u, hu1, hu2, rfl⟩ := hrel
        obtain ⟨a, ha⟩ : ∃ a, (u + 1) * (u + 1) = a := ⟨_, rfl⟩
        obtain ⟨b, hb⟩ : ∃ b, a * (u + 1) = b := ⟨_, rfl⟩
        have ha' : ((u : Int) + 1) * ((u : Int) + 1) = a := by rw [← ha]; simp
        have hb' : (a : Int) * ((u : Int) + 1) = b := by rw [← hb]; simp
        have hu9 : u + 1 ≤ 8 := by omega
        have hab : a ≤ 64 := by rw [← ha]; exact Nat.mul_le_mul hu9 hu9
        have hbb : b ≤ 512 := by rw [← hb]; exact Nat.mul_le_mul hab hu9
        by_cases huq : u < q
        · have hbp : (b : Int) ≤ p := by
            have h1 : (u + 1) * (u + 1) ≤ q * q := Nat.mul_le_mul huq huq
            have h2 : (u + 1) * (u + 1) * (u + 1) ≤ q * q * q := Nat.mul_le_mul h1 huq
            rw [ha, hb] at h2
            have := HQ1.out
            omega
          clear ha hb
          go_wp2
          go_round
          case rel => exact ⟨u + 1, by omega, by omega, by go_num⟩
          case measure => simp [intOf]; omega
        · obtain rfl : u = q := by omega
          have hbp : ¬ (b : Int) ≤ p := by
            have := HQ2.out
            rw [ha, hb] at this
            omega
          clear ha hb
          have c64 := Kept.mk hk32
          clear hk32
          go_wp2_with fail
          refine (first_any _).mono ?_
          rintro e w3 ⟨rfl, b⟩
          replace T := Kept.mk (T.out.below b T.out.lt)
          replace B := Kept.mk (B.out.trans (b.mono B.out.size))
          clear b
          go_wp2_with fail
          refine (cw.out N w3 T.out).mono ?_
          rintro e w4 ⟨rfl, t, b⟩
          replace T := Kept.mk t
          replace B := Kept.mk (B.out.trans (b.below B.out.size (by simpa using hlt)))
          clear b t
          go_wp2_with fail
          refine (cu1.out w4).mono ?_
          rintro e w5 ⟨rfl, b⟩
          replace T := Kept.mk (T.out.below b T.out.lt)
          replace B := Kept.mk (B.out.trans (b.mono B.out.size))
          clear b
          go_wp2_with fail
          refine (cw.out N w5 T.out).mono ?_
          rintro e w6 ⟨rfl, t, b⟩
          replace B := Kept.mk (B.out.trans (b.below B.out.size (by simpa using hlt)))
          clear b t T
          go_wp2_with fail
          refine (cu2.out w6).mono ?_
          rintro e w7 ⟨rfl, b⟩
          replace B := Kept.mk (B.out.trans (b.mono B.out.size))
          clear b
          go_wp2
          go_ret
          exact ⟨rfl, B.out⟩

theorem words_walk (i : Int) (w : World) :
    Calls Try.prog 4 #[.int .i64 i] w fun e w' => e = .returned (.bool true) ∧ Below w.heap.size w w' := by
  by_cases hbad : i < 0 ∨ 63 < i
  · exact words_bad i w hbad
  · obtain ⟨k, rfl⟩ := Int.eq_ofNat_of_zero_le (show 0 ≤ i by omega)
    exact words_main k w (by omega)
end Go.Proofs.Ytblhfbpokfegnaa.Words
