/-
  The law TradeMany, walked.
-/
import Derived.Test.YthhjmbbfibgjpaaTradeFirst
import Derived.Test.YthhjmbbfibgjpaaTradeBits
import Derived.Test.YthhjmbbfibgjpaaTradeManyV
namespace Go.Proofs.Ythhjmbbfibgjpaa.Trade
open Go.RowKit Go.Proofs.Ythhjmbbfibgjpaa.Sha

theorem ok_cb {k : Nat} (hk : k < 101) : Okc (cb k) := ⟨by rw [cb_len]; omega, fun z hz => by
  unfold cb at hz
  simp only [List.mem_map, List.mem_range] at hz
  obtain ⟨j, hj, rfl⟩ := hz
  show 0 ≤ (j : Int) ∧ (j : Int) < 65536
  omega⟩
theorem ok_cs {n k : Nat} (hn : n < 101) (hk : k ≤ n) : Okc (cb n ++ cs n k) := ⟨by rw [List.length_append, cb_len, cs_len]; omega, fun z hz => by
  rcases List.mem_append.1 hz with hz | hz
  · exact (ok_cb hn).each z hz
  · unfold cs at hz
    simp only [List.mem_map, List.mem_range] at hz
    obtain ⟨j, hj, rfl⟩ := hz
    show 0 ≤ ((n - 1 - j : Nat) : Int) ∧ ((n - 1 - j : Nat) : Int) < 65536
    omega⟩
theorem cs_nil (n : Nat) : cb n ++ cs n 0 = cb n := by simp [cs]
theorem sm_len (n k : Nat) : ((List.range k).map (fun (j : Nat) => tm (n - k + j : Nat))).length = k := by simp
set_option maxRecDepth 100000 in
set_option maxHeartbeats 8000000 in
theorem many_walk (ni : Int) (W : World) :
    Calls Try.prog 6 #[.int .i64 ni] W fun e w' => e = .returned (.bool true) ∧ Below W.heap.size W w' := by
  obtain ⟨N, hN⟩ : ∃ z, W.heap.size = z := ⟨_, rfl⟩
  rw [hN]
  go_enter Try.func6, Try.ntmps6
  go_wp2_with fail
  refine (tfirst_any W).mono ?_
  rintro e w1 ⟨rfl, bb⟩
  have B : Kept (Below N W w1) := ⟨hN ▸ bb⟩
  clear bb
  have CN := Kept.mk (new_yes (p := 4) (c := 2) (a := 2) (w := w1) (by decide))
  go_wp2_with fail
  refine CN.out.mono ?_
  rintro e w2 ⟨F, rfl, td, bb⟩
  have T := Kept.mk (td.base (N' := N) (hN ▸ B.out.size))
  replace B := Kept.mk (low_trans B.out bb (hN ▸ B.out.size))
  clear bb td CN
  generalize w1.heap.size = x at *
  by_cases hn0 : ni < 0
  · go_wp2_with fail
    refine (tfirst_any w2).mono ?_
    rintro e w3 ⟨rfl, bb⟩
    replace B := Kept.mk (low_trans B.out bb (hN ▸ B.out.size))
    clear bb
    go_wp2
    go_ret
    exact ⟨rfl, B.out⟩
  · by_cases hn1 : 100 < ni
    · go_wp2_with fail
      refine (tfirst_any w2).mono ?_
      rintro e w3 ⟨rfl, bb⟩
      replace B := Kept.mk (low_trans B.out bb (hN ▸ B.out.size))
      clear bb
      go_wp2
      go_ret
      exact ⟨rfl, B.out⟩
    · obtain ⟨n, rfl⟩ : ∃ n : Nat, ni = n := ⟨ni.toNat, by omega⟩
      have hn : n < 101 := by omega
      replace T : Kept (Td F N w2 x 4 2 2 (cb 0)) := T
      go_wp2
      go_loopw [5] (fun i wr => ∃ (k : Nat) (F : List Nat), k ≤ n ∧ i = .int .i64 k ∧ Kept (Td F N wr x 4 2 2 (cb k)) ∧ Kept (Below N W wr)) (fun i _ => n - (Go.RowKit.intOf i).toNat)
      case atStart => exact ⟨0, F, by omega, rfl, T, B⟩
      case round =>
        clear T B F
        obtain ⟨k, F, hk, rfl, T, B⟩ := hrel
        by_cases hkn : k < n
        · have hkn' : (k : Int) < n := by omega
          have a1 := and3 (k : Int); have a2 := and3 ((k : Int) + 1); have a3 := and1 (k : Int); have a4 := and1 ((k : Int) / 2)
          have w1 : IntKind.i64.wrap ((k : Int) + 1) = (k : Int) + 1 := by simp only [IntKind.wrap_i64]; omega
          have CP : Kept (Calls Try.prog 12 #[.pointer (some ⟨x, 0, none⟩), .int .i64 ((k : Int) % 4), .agg #[.int .i64 (k : Int), .int .i64 ((k : Int) % 4), .int .i64 (((k : Int) + 1) % 4), .int .i64 ((k : Int) % 2), .int .i64 ((k : Int) + 1), .int .i64 ((k : Int) / 2 % 2), .int .i64 7]] wr (PutP F N x 4 2 2 0 (cb (k + 1)) wr)) := ⟨by have h := put_any ((k : Int) % 4) (tm k) T.out (ok_cb (by omega)); rw [(put_b (by omega)).1, (put_b (by omega)).2] at h; exact h⟩
          go_wp2_with fail
          refine CP.out.mono ?_
          rintro e w3 ⟨F3, rfl, td, fp⟩
          replace B := Kept.mk (T.out.step B.out fp)
          replace T := Kept.mk td
          clear CP td fp
          go_wp2
          go_roundw
          case rel => exact ⟨k + 1, F3, by omega, by go_num, T, B⟩
          case measure => simp only [Go.RowKit.intOf]; omega
        · have hkn' : ¬ (k : Int) < n := by omega
          obtain rfl : k = n := by omega
          replace T : Kept (Td F N wr x 4 2 2 (cb k ++ cs k 0)) := ⟨(cs_nil k).symm ▸ T.out⟩
          have CM := mat_any T.out (ok_cs hn (Nat.zero_le _))
          rw [tr_two, many_mat (Nat.zero_le _)] at CM
          replace CM := Kept.mk CM
          go_wp2_with fail
          refine CM.out.mono ?_
          rintro e w3 ⟨v3, rfl, o3, bb⟩
          unfold Tr at o3
          rw [sm_len] at o3
          obtain ⟨A3, c3, rfl⟩ := own_shape o3
          replace B := Kept.mk (low_trans B.out bb (hN ▸ B.out.size))
          replace T := Kept.mk (T.out.below bb)
          clear CM o3 bb
          have CO := opn_any T.out (ok_cs hn (Nat.zero_le _))
          rw [tr_two, many_opn (Nat.zero_le _)] at CO
          replace CO := Kept.mk CO
          go_wp2_with fail
          refine CO.out.mono ?_
          rintro e w4 ⟨v4, rfl, o4, bb⟩
          rw [nat_len] at o4
          obtain ⟨A4, c4, rfl⟩ := own_shape o4
          replace B := Kept.mk (low_trans B.out bb (hN ▸ B.out.size))
          replace T := Kept.mk (T.out.below bb)
          clear CO o4 bb
          go_wp2
          have h01 : (k : Int) - 1 = (k : Int) - 1 - (0 : Nat) := by omega
          go_loopw [6] (fun i wr => ∃ (q : Nat) (F : List Nat), q ≤ k ∧ i = .int .i64 ((k : Int) - 1 - q) ∧ Kept (Td F N wr x 4 2 2 (cb k ++ cs k q)) ∧ Kept (Below N W wr)) (fun i _ => (Go.RowKit.intOf i + 1).toNat)
          case atStart => exact ⟨0, F, by omega, congrArg (Value.int .i64) h01, T, B⟩
          case round =>
            clear T B F h01
            obtain ⟨q, F, hq, rfl, T, B⟩ := hrel
            by_cases hqn : q < k
            · obtain ⟨j, hj⟩ : ∃ j : Nat, k - 1 - q = j := ⟨_, rfl⟩
              rw [show (k : Int) - 1 - q = (j : Int) by omega]
              have hj0 : (0 : Int) ≤ j := by omega
              have hjk : (k : Int) - j = (q : Int) + 1 := by omega
              have a1 := and3 (j : Int); have a2 := and3 ((j : Int) + 1); have a3 := and1 (j : Int); have a4 := and1 ((j : Int) / 2)
              have wr1 : IntKind.i64.wrap ((j : Int) + 1) = (j : Int) + 1 := by simp only [IntKind.wrap_i64]; omega
              obtain ⟨U, hU⟩ : ∃ z, wr.heap.size = z := ⟨_, rfl⟩
              obtain ⟨w5, hw5⟩ : ∃ z, wr.alloc (.cells #[.int .i64 (j : Int), .int .i64 ((j : Int) % 4), .int .i64 (((j : Int) + 1) % 4), .int .i64 ((j : Int) % 2), .int .i64 ((j : Int) + 1), .int .i64 ((j : Int) / 2 % 2), .int .i64 7] 33) = z := ⟨_, rfl⟩
              have bb : Below wr.heap.size wr w5 := hw5 ▸ (Below.refl _ _).alloc (Nat.le_refl _) _
              have YU : Blk w5 U 33 #[.int .i64 (j : Int), .int .i64 ((j : Int) % 4), .int .i64 (((j : Int) + 1) % 4), .int .i64 ((j : Int) % 2), .int .i64 ((j : Int) + 1), .int .i64 ((j : Int) / 2 % 2), .int .i64 7] := hw5 ▸ Blk.new_at wr _ _ _ hU.symm
              have u0 := YU.cell 0; have u1 := YU.cell 1; have u2 := YU.cell 2; have u3 := YU.cell 3; have u4 := YU.cell 4; have u5 := YU.cell 5; have u6 := YU.cell 6
              simp only [List.getElem?_toArray, List.getElem?_cons_zero, List.getElem?_cons_succ] at u0 u1 u2 u3 u4 u5 u6
              replace B := Kept.mk (low_trans B.out bb (hN ▸ B.out.size))
              replace T := Kept.mk (T.out.below bb)
              clear bb YU
              have CP : Kept (Calls Try.prog 12 #[.pointer (some ⟨x, 0, none⟩), .int .i64 (((j : Int) + 1) % 4), .agg #[.int .i64 (j : Int), .int .i64 ((j : Int) % 4), .int .i64 (((j : Int) + 1) % 4), .int .i64 ((j : Int) % 2), .int .i64 ((j : Int) + 1), .int .i64 ((j : Int) / 2 % 2), .int .i64 7]] w5 (PutP F N x 4 2 2 0 (cb k ++ cs k (q + 1)) w5)) := ⟨by have h := put_any (((k - 1 - q : Nat) + 1 : Int) % 4) (tm (k - 1 - q : Nat)) T.out (ok_cs hn hq); rw [(put_s hn hqn).1, (put_s hn hqn).2, hj] at h; exact h⟩
              go_wp2_with fail
              refine CP.out.mono ?_
              rintro e w6 ⟨F6, rfl, td, fp⟩
              replace B := Kept.mk (T.out.step B.out fp)
              replace T := Kept.mk td
              clear CP td fp u0 u1 u2 u3 u4 u5 u6
              have CM := mat_any T.out (ok_cs hn hqn)
              rw [tr_two, many_mat hqn] at CM
              replace CM := Kept.mk CM
              go_wp2_with fail
              refine CM.out.mono ?_
              rintro e w7 ⟨v7, rfl, o7, bb⟩
              unfold Tr at o7
              rw [sm_len] at o7
              obtain ⟨A7, c7, rfl⟩ := own_shape o7
              replace B := Kept.mk (low_trans B.out bb (hN ▸ B.out.size))
              replace T := Kept.mk (T.out.below bb)
              clear CM o7 bb
              have CO := opn_any T.out (ok_cs hn hqn)
              rw [tr_two, many_opn hqn] at CO
              replace CO := Kept.mk CO
              go_wp2_with fail
              refine CO.out.mono ?_
              rintro e w8 ⟨v8, rfl, o8, bb⟩
              rw [nat_len] at o8
              rw [show k - (q + 1) = j by omega] at o8
              obtain ⟨A8, c8, rfl⟩ := own_shape o8
              replace B := Kept.mk (low_trans B.out bb (hN ▸ B.out.size))
              replace T := Kept.mk (T.out.below bb)
              clear CO o8 bb
              go_wp2
              go_roundw
              case rel => exact ⟨q + 1, F6, by omega, congrArg (Value.int .i64) (by omega), T, B⟩
              case measure => simp only [Go.RowKit.intOf]; omega
            · have hqn' : ¬ (0 : Int) ≤ (k : Int) - 1 - q := by omega
              obtain rfl : q = k := by omega
              have hq1 : (q : Int) - 1 - q = -1 := by omega
              rw [hq1]
              clear hqn' hq1
              have CM := mat_any T.out (ok_cs hn (Nat.le_refl _))
              rw [tr_two, many_mat (Nat.le_refl _)] at CM
              replace CM := Kept.mk CM
              go_wp2_with fail
              refine CM.out.mono ?_
              rintro e w9 ⟨v9, rfl, o9, bb⟩
              unfold Tr at o9
              rw [sm_len] at o9
              obtain ⟨A9, c9, rfl, -, -, r9⟩ := Rc.own tvC_len o9 (sm_len q q)
              have R9 := Kept.mk r9
              replace B := Kept.mk (low_trans B.out bb (hN ▸ B.out.size))
              replace T := Kept.mk (T.out.below bb)
              clear CM o9 bb r9
              go_wp2
              go_loop [9] (fun i => ∃ k : Nat, k ≤ q ∧ i = .int .i64 k) (fun i => q - (Go.RowKit.intOf i).toNat)
              case atStart => exact ⟨0, by omega, rfl⟩
              case round =>
                obtain ⟨k, hk, rfl⟩ := hrel
                by_cases hkn : k < q
                · have hkn' : (k : Int) < q := by omega
                  obtain ⟨b, o, t, rfl, ht, hc⟩ := R9.out.at_ hkn
                  have e : t = tm k := by
                    rw [List.getElem?_map, List.getElem?_range hkn] at ht
                    injection ht with ht
                    rw [← ht, Nat.sub_self]
                    show tm ((0 + k : Nat) : Int) = _
                    rw [Nat.zero_add]
                  subst e
                  have x0 : w9.cell? ⟨b, o + k * 7, none⟩ = some (.int .i64 k) := hc 0 _ rfl
                  have x4 : w9.cell? ⟨b, o + k * 7 + 4, none⟩ = some (.int .i64 ((k : Int) + 1)) := hc 4 _ rfl
                  have wk1 : IntKind.i64.wrap ((k : Int) + 1) = (k : Int) + 1 := by simp only [IntKind.wrap_i64]; omega
                  clear hc ht
                  go_wp2
                  go_round
                  case rel => exact ⟨k + 1, by omega, by go_num⟩
                  case measure => simp only [Go.RowKit.intOf]; omega
                · have hkn' : ¬ (k : Int) < q := by omega
                  obtain rfl : k = q := by omega
                  have hwm : IntKind.i64.wrap (2 * (k : Int)) = 2 * (k : Int) := by simp only [IntKind.wrap_i64]; omega
                  go_wp2_with fail
                  refine (tfirst_any w9).mono ?_
                  rintro e w10 ⟨rfl, bb⟩
                  replace B := Kept.mk (low_trans B.out bb (hN ▸ B.out.size))
                  replace T := Kept.mk (T.out.below bb)
                  clear bb
                  have CL := len_any T.out
                  rw [List.length_append, cb_len, cs_len] at CL
                  have hc2 : ((k + k : Nat) : Int) = 2 * (k : Int) := by omega
                  rw [hc2] at CL
                  replace CL := Kept.mk CL
                  clear hc2
                  go_wp2_with fail
                  refine CL.out.mono ?_
                  rintro e w11 ⟨rfl, rfl⟩
                  go_wp2
                  go_ret
                  exact ⟨rfl, B.out⟩
end Go.Proofs.Ythhjmbbfibgjpaa.Trade
