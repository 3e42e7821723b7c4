/-
  NumEdges, walked: what is no amount makes no amount; a product is a sum of so many.
-/
import Derived.Test.YtpnellebdlbbaaaSum
namespace Go.Proofs.Ytpnellebdlbbaaa.Num
open Go.RowKit

theorem infoInt : (Try.prog.info? 3).map (fun i => (i.zero, i.size, i.bytes)) = some (some (.int .i64 0), 1, 8) := by kernel_rfl

theorem sub_no (a b : Int) (w : World) (h : amtB a = false) : Calls Try.prog 11 #[.int .i64 a, .int .i64 b] w fun e w' => e = .returned (.tuple #[.int .i64 0, .int .i64 1]) ∧ w = w' := by
  have := sub_any a b w
  have k : subB a b = false := by unfold subB; rw [h]; rfl
  rwa [(sub_not k).1, (sub_not k).2] at this
theorem mul_no (a b : Int) (w : World) (h : amtB a = false) : Calls Try.prog 13 #[.int .i64 a, .int .i64 b] w fun e w' => e = .returned (.tuple #[.int .i64 0, .int .i64 1]) ∧ w = w' := by
  have := mul_any a b w
  have k : mulB a b = false := by unfold mulB; rw [h]; rfl
  rwa [(mul_not k).1, (mul_not k).2] at this
theorem add_no' (a b : Int) (w : World) (h : amtB a = false) : Calls Try.prog 9 #[.int .i64 a, .int .i64 b] w fun e w' => e = .returned (.tuple #[.int .i64 0, .int .i64 1]) ∧ w = w' := by
  have k : addB a b = false := by unfold addB; rw [h]; rfl
  exact add_no a b w k
theorem amount_at (a : Int) (w : World) (v : Bool) (h : amtB a = v) : Calls Try.prog 19 #[.int .i64 a] w fun e w' => e = .returned (.bool v) ∧ w = w' := by
  have := amount_any a w
  rwa [h] at this
theorem sum_one (a : Int) (w : World) (n : Nat) (hn : n = w.heap.size) (h : amtB a = false) : Calls Try.prog 15 #[.slice (some ⟨n, 0, none⟩) 1 1] (w.alloc (.cells #[.int .i64 a] 3)) fun e w' => e = .returned (.tuple #[.int .i64 0, .int .i64 1]) ∧ (w.alloc (.cells #[.int .i64 a] 3)) = w' := by
  have := sum_any (some ⟨n, 0, none⟩) 1 1 [a] (w.alloc (.cells #[.int .i64 a] 3)) ⟨rfl, by omega, .inr ⟨n, 0, rfl, fun i hi => by
    rw [World.cell?_alloc_at _ _ _ _ hn]
    match i, hi with
    | 0, _ => rfl⟩⟩
  have k : sumGo 0 [a] = none := by
    have : addB 0 a = false := by unfold addB; rw [h]; simp
    simp [sumGo, this]
  rwa [show sumN [a] = 0 by simp [sumN, k], show sumE [a] = 1 by simp [sumE, k, bit]] at this

theorem ints_of_own {w : World} {base n cap : Nat} {s : Option Addr} {l : List Int} (hm : n ≤ 9223372036854775807) (hl : l.length = n)
    (h : w.ownsRow base 3 1 (.slice s n cap) n (l.map (Value.int .i64))) : Ints w s n l := by
  refine ⟨hl, hm, ?_⟩
  rcases h.2 with ⟨h1, h2⟩ | ⟨g, cap', cur, hv, _⟩
  · exact .inl h2
  · by_cases h0 : n = 0
    · exact .inl h0
    · refine .inr ?_
      injection hv with hs _ hc
      subst hs hc
      refine ⟨g, 0, rfl, fun i hi => ?_⟩
      have := h.cellAt i (by omega)
      rw [Nat.zero_add, this]
      simp [List.getElem?_eq_getElem (show i < l.length by omega), List.getD_eq_getElem?_getD]

theorem own_slice {w : World} {base e size n : Nat} {v : Value} {xs : List Value} (h : w.ownsRow base e size v n xs) : ∃ s cap, v = .slice s n cap := by
  rcases h.2 with ⟨h1, h2⟩ | ⟨g, cap', cur, hv, _⟩
  · exact ⟨none, 0, by rw [h1, h2]⟩
  · exact ⟨_, _, hv⟩

theorem below_own {w wr w1 : World} {v : Value} {xs : List Value} {n : Nat} {o : Obj} (hb : Below w.heap.size w wr) (hown : wr.ownsRow w.heap.size 3 1 v n xs) (hg : (wr.alloc o).grownBy w1 v.ownBlock) :
    Below w.heap.size w w1 := by
  refine (hb.alloc hb.size o).grown hg (by have := hb.size; simp; omega) fun k hk => ?_
  rcases hown.2 with ⟨rfl, _⟩ | ⟨g, _, _, rfl, hbg, _⟩
  · simp [Value.ownBlock] at hk
  · simp [Value.ownBlock] at hk; omega

/-- what the product and the sum of so many come to: the same -/
theorem prod_sum (a : Int) (n : Nat) (ha : amtB a = true) (hn : n ≤ 50) : sumN (List.replicate n a) = mulN a n ∧ sumE (List.replicate n a) = mulE a n := by
  obtain ⟨a0, a1⟩ := amt_iff.1 ha
  have hs := sumGo_replicate a a0 n
  by_cases h : a * n ≤ 4611686018427387904
  · have hm : mulB a n = true := mul_iff.2 ⟨⟨a0, a1⟩, ⟨by omega, by omega⟩, h⟩
    rw [if_pos h] at hs
    rw [(mul_at hm).1, (mul_at hm).2]
    simp [sumN, sumE, hs, bit]
  · have hm : mulB a n = false := bool_false mul_iff fun k => h k.2.2
    rw [if_neg h] at hs
    rw [(mul_not hm).1, (mul_not hm).2]
    simp [sumN, sumE, hs, bit]
theorem sum_rep (s : Option Addr) (n cap : Nat) (a : Int) (w : World) (ha : amtB a = true) (hn : n ≤ 50) (h : Ints w s n (List.replicate n a)) :
    Calls Try.prog 15 #[.slice s n cap] w fun e w' => e = .returned (.tuple #[.int .i64 (mulN a n), .int .i64 (mulE a n)]) ∧ w = w' := by
  have := sum_any s n cap _ w h
  rwa [(prod_sum a n ha hn).1, (prod_sum a n ha hn).2] at this
theorem rep_snoc (a : Int) (k : Nat) : List.replicate k (Value.int .i64 a) ++ [.int .i64 a] = List.replicate (k + 1) (Value.int .i64 a) :=
  List.replicate_succ'.symm

set_option maxRecDepth 100000 in
set_option maxHeartbeats 1000000 in
theorem edges_walk (a b : Int) (w : World) :
    Calls Try.prog 5 #[.int .i64 a, .int .i64 b] w fun e w' => e = .returned (.bool true) ∧ Below w.heap.size w w' := by
  cases ha : amtB a
  · have Ha := Lib.hid ha
    clear ha
    go_enter Try.func5, Try.ntmps5
    go_wp2_with fail
    refine (first_any _).mono ?_
    rintro e w1 ⟨rfl, hb1⟩
    go_wp2_with fail
    refine (amount_at _ _ _ Ha.out).mono ?_
    rintro e w' ⟨rfl, rfl⟩
    go_wp2_with fail
    refine (add_no' _ _ _ Ha.out).mono ?_
    rintro e w' ⟨rfl, rfl⟩
    go_wp2_with fail
    refine (sub_no _ _ _ Ha.out).mono ?_
    rintro e w' ⟨rfl, rfl⟩
    go_wp2_with fail
    refine (mul_no _ _ _ Ha.out).mono ?_
    rintro e w' ⟨rfl, rfl⟩
    go_wp2_with fail
    refine (sum_one _ _ _ rfl Ha.out).mono ?_
    rintro e w' ⟨rfl, rfl⟩
    go_wp2_with fail
    refine (first_any _).mono ?_
    rintro e w2 ⟨rfl, hb2⟩
    go_wp2
    go_ret
    exact ⟨rfl, (hb1.alloc hb1.size _).trans (hb2.mono (by have := hb1.size; simp; omega))⟩
  · by_cases hb : b < 0 ∨ 50 < b
    · have Ha := Lib.hid ha
      clear ha
      rcases hb with hb | hb
      all_goals
        have hb' : ¬ (0 ≤ b ∧ b ≤ 50) := by omega
        clear hb'
        try have hn : ¬ (b < 0) := by omega
        go_enter Try.func5, Try.ntmps5
        go_wp2_with fail
        refine (first_any _).mono ?_
        rintro e w1 ⟨rfl, hb1⟩
        go_wp2_with fail
        refine (amount_at _ _ _ Ha.out).mono ?_
        rintro e w' ⟨rfl, rfl⟩
        go_wp2_with fail
        refine (first_any _).mono ?_
        rintro e w2 ⟨rfl, hb2⟩
        go_wp2
        go_ret
        exact ⟨rfl, hb1.trans (hb2.mono hb1.size)⟩
    · obtain ⟨n, rfl⟩ := Int.eq_ofNat_of_zero_le (show 0 ≤ b by omega)
      have hn : n ≤ 50 := by omega
      have hn1 : ¬ ((n : Int) < 0) := by omega
      have hn2 : ¬ ((50 : Int) < (n : Int)) := by omega
      have Ha := Lib.hid ha
      clear ha hb
      obtain ⟨i0, hi, hz0, hz1, hz2⟩ := info_parts infoInt
      go_enter Try.func5, Try.ntmps5
      go_wp2_with fail
      refine (first_any _).mono ?_
      rintro e w1 ⟨rfl, hb1⟩
      go_wp2_with fail
      refine (amount_at _ _ _ Ha.out).mono ?_
      rintro e w' ⟨rfl, rfl⟩
      go_wp2
      go_loopw [13, 14] (fun v i wr => ∃ k : Nat, k ≤ n ∧ i = .int .i64 k ∧ wr.ownsRow w1.heap.size 3 1 v k (List.replicate k (Value.int .i64 a)) ∧ Below w1.heap.size w1 wr) (fun _ i _ => n - (intOf i).toNat)
      case atStart => exact ⟨0, Nat.zero_le _, rfl, World.ownsRow_nil _ _ _ _, Below.refl _ _⟩
      case round =>
        obtain ⟨k, hk, rfl, hown, hbr⟩ := hrel
        by_cases hlt : k < n
        · go_wp2_with (at_builtin; refine wpList_append_own _ rfl _ _ 22 rfl w1.heap.size 3 i0 (.int .i64 0) 1 8 Try.underlying22 hi hz0 hz1 hz2 rfl (by decide) _ _ _ rfl (hown.alloc _) ⟨wr.heap.size, 0, none⟩ 1 1 [.int .i64 a] rfl rfl ?c1 ?c2 ?c3 ?c4 ?c5 ?_)
          case c1 => exact cell_one_new _ _ _
          case c2 => intro u hu; simp at hu; subst hu; rfl
          case c3 => unfold maxLen; omega
          case c4 => omega
          case c5 => have := hbr.size; simp; omega
          intro v' w2 hown' hgrow _
          have hb2 := below_own hbr hown hgrow
          rw [rep_snoc] at hown'
          clear hown hgrow hbr
          go_wp2
          go_roundw
          case rel => exact ⟨k + 1, by omega, by go_num, hown', hb2⟩
          case measure => simp [intOf]; omega
        · obtain rfl : k = n := by omega
          obtain ⟨s, cap, rfl⟩ := own_slice hown
          have hints := ints_of_own (n := k) (l := List.replicate k a) (by omega) (List.length_replicate ..) (by rw [List.map_replicate]; exact hown)
          go_wp2_with fail
          refine (mul_any _ _ _).mono ?_
          rintro e w' ⟨rfl, rfl⟩
          go_wp2_with fail
          refine (sum_rep _ _ _ _ _ Ha.out hn hints).mono ?_
          rintro e w' ⟨rfl, rfl⟩
          go_wp2_with fail
          refine (first_any _).mono ?_
          rintro e w3 ⟨rfl, hb3⟩
          go_wp2
          go_ret
          exact ⟨rfl, hb1.trans ((hbr.mono hb1.size).trans (hb3.mono (by have := hbr.size; have := hb1.size; omega)))⟩

end Go.Proofs.Ytpnellebdlbbaaa.Num
