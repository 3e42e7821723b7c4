/-
  Package trade: alike.
-/
import Derived.Test.YthhjmbbfibgjpaaTradeIdx
import Derived.Test.YthhjmbbfibgjpaaTradeCut
import Derived.Test.YthhjmbbfibgjpaaCellTmp
import Derived.Test.YthhjmbbfibgjpaaPutN
import Derived.StillTailTactics
namespace Go.Proofs.Ythhjmbbfibgjpaa.Trade
open Go.RowKit Go.Proofs.Ythhjmbbfibgjpaa.Sha

def AlikeP (l : List TV) (w : World) (e : Ending) (w' : World) : Prop := ∃ t, e = .returned (.tuple #[tvV t, .bool (alike l).isSome]) ∧ (∀ u, alike l = some u → t = u) ∧ Below w.heap.size w w'
theorem tv_size : (Try.prog.info? 33).map (·.size) = some 7 := by kernel_rfl
def ZT : Array Value := #[.int .i64 0, .int .i64 0, .int .i64 0, .int .i64 0, .int .i64 0, .int .i64 0, .int .i64 0]
set_option maxRecDepth 100000 in
set_option maxHeartbeats 1000000 in
theorem alike_any (A : Option Addr) (n c : Nat) (l : List TV) (w : World) (hr : Rc tvC 7 w A n l) (hnc : n ≤ c) (hn : n ≤ 400) :
    Calls Try.prog 31 #[.slice A n c] w (AlikeP l w) := by
  obtain ⟨w1, hw1⟩ : ∃ z, w.alloc (.cells #[.int .i64 0, .int .i64 0, .int .i64 0, .int .i64 0, .int .i64 0, .int .i64 0, .int .i64 0] 33) = z := ⟨_, rfl⟩
  obtain ⟨M, hM⟩ : ∃ z, w.heap.size = z := ⟨_, rfl⟩
  have bb : Below w.heap.size w w1 := hw1 ▸ (Below.refl _ _).alloc (Nat.le_refl _) _
  have Y : Kept (Blk w1 M 33 #[.int .i64 0, .int .i64 0, .int .i64 0, .int .i64 0, .int .i64 0, .int .i64 0, .int .i64 0]) := ⟨hw1 ▸ Blk.new_at w _ _ _ hM.symm⟩
  have R := Kept.mk (hr.below bb)
  have B : Kept (Below M w w1) := ⟨hM ▸ bb⟩
  have HL := Kept.mk hr.1
  obtain ⟨al, hal⟩ : ∃ z, alike l = z := ⟨_, rfl⟩
  have HA := Kept.mk hal
  clear hr bb hal
  go_enter Try.func31, Try.ntmps31
  go_wp2
  clear hw1
  go_loopw [8] (fun i wr => ∃ k : Nat, k ≤ n ∧ i = .int .i64 k ∧ Kept (alike (l.drop k) = al) ∧ Kept (Below M w wr) ∧ Kept (Below w1.heap.size w1 wr)) (fun i _ => n - (intOf i).toNat)
  case atStart => exact ⟨0, by omega, rfl, ⟨by simpa using HA.out⟩, B, ⟨Below.refl _ _⟩⟩
  case round =>
    obtain ⟨k, hk, rfl, HN, BW, B1⟩ := hrel
    by_cases hkn : k < n
    · have hkn' : (k : Int) < n := by omega
      obtain ⟨b, o, u, hA, hu, hc⟩ := (R.out.below B1.out).at_ hkn
      have c0 : wr.cell? ⟨b, o + k * 7, none⟩ = some (.int .i64 u.id) := hc 0 _ rfl
      have c1 : wr.cell? ⟨b, o + k * 7 + 1, none⟩ = some (.int .i64 u.buyer) := hc 1 _ rfl
      have c2 : wr.cell? ⟨b, o + k * 7 + 2, none⟩ = some (.int .i64 u.seller) := hc 2 _ rfl
      have c3 : wr.cell? ⟨b, o + k * 7 + 3, none⟩ = some (.int .i64 u.cash) := hc 3 _ rfl
      have c4 : wr.cell? ⟨b, o + k * 7 + 4, none⟩ = some (.int .i64 u.price) := hc 4 _ rfl
      have c5 : wr.cell? ⟨b, o + k * 7 + 5, none⟩ = some (.int .i64 u.asset) := hc 5 _ rfl
      have c6 : wr.cell? ⟨b, o + k * 7 + 6, none⟩ = some (.int .i64 u.qty) := hc 6 _ rfl
      have RW := Kept.mk (R.out.below B1.out)
      subst hA
      have HU := Kept.mk hu
      clear hc hu
      obtain ⟨u1, u2, u3, u4, u5, u6, u7⟩ := u
      dsimp only at c0 c1 c2 c3 c4 c5 c6
      go_upto_region 4 with (fail)
      have WR : IntKind.i64.wrap ((k : Int) + 1) = ((k + 1 : Nat) : Int) := by simp only [IntKind.wrap_i64]; omega
      obtain ⟨w2, hw2⟩ : ∃ z, wr.alloc (.cells #[.int .i64 u1, .int .i64 u2, .int .i64 u3, .int .i64 u4, .int .i64 u5, .int .i64 u6, .int .i64 u7] 33) = z := ⟨_, rfl⟩
      obtain ⟨M2, hM2⟩ : ∃ z, wr.heap.size = z := ⟨_, rfl⟩
      have YW : Blk w2 M2 33 #[.int .i64 u1, .int .i64 u2, .int .i64 u3, .int .i64 u4, .int .i64 u5, .int .i64 u6, .int .i64 u7] := hw2 ▸ Blk.new_at wr _ _ _ hM2.symm
      have m0 : w2.cell? ⟨M2, 0, none⟩ = some (.int .i64 u1) := YW.cell 0
      have m1 : w2.cell? ⟨M2, 1, none⟩ = some (.int .i64 u2) := YW.cell 1
      have m2 : w2.cell? ⟨M2, 2, none⟩ = some (.int .i64 u3) := YW.cell 2
      have m3 : w2.cell? ⟨M2, 3, none⟩ = some (.int .i64 u4) := YW.cell 3
      have m4 : w2.cell? ⟨M2, 4, none⟩ = some (.int .i64 u5) := YW.cell 4
      have m5 : w2.cell? ⟨M2, 5, none⟩ = some (.int .i64 u6) := YW.cell 5
      have m6 : w2.cell? ⟨M2, 6, none⟩ = some (.int .i64 u7) := YW.cell 6
      have b2 : Below wr.heap.size wr w2 := hw2 ▸ (Below.refl _ _).alloc (Nat.le_refl _) _
      obtain ⟨A', SL, RS⟩ := slice_tv (RW.out.below b2) hnc (k + 1) hkn ((k : Int) + 1) (by omega)
      have CC := contains_any A' (n - (k + 1)) (c - (k + 1)) (l.drop (k + 1)) ⟨u1, u2, u3, u4, u5, u6, u7⟩ w2.drew RS (by omega)
      unfold tvV at CC
      dsimp only at CC
      have B2 := Kept.mk (BW.out.trans (b2.mono (by have := BW.out.size; omega)))
      have B12 := Kept.mk (B1.out.trans (b2.mono B1.out.size))
      clear b2 RS YW
      rw [hw2, hM2]
      clear hw2 hM2
      by_cases hq : (⟨u1, u2, u3, u4, u5, u6, u7⟩ : TV) ∈ l.drop (k + 1)
      · rw [decide_eq_true hq] at CC
        replace CC := Kept.mk CC
        have HS : Kept (al = some ⟨u1, u2, u3, u4, u5, u6, u7⟩) := ⟨by have := HN.out; rw [alike_drop HU.out, if_pos hq] at this; exact this.symm⟩
        clear HN HU hq
        refine wp_region_still_tail 5 (by kernel_rfl) (by kernel_rfl) ?_
        simp only [List.take_succ_cons, List.take_zero, List.drop_succ_cons, List.drop_zero]
        repeat still_step
        refine wpStill_nil ?_
        change wpList _ _ _ _ _ w2.drew
        go_wp2_with fail
        refine CC.out.mono ?_
        rintro e w3 ⟨rfl, b3⟩
        replace b3 : Below w2.heap.size w2 w3 := ⟨b3.os, b3.tape, b3.output, b3.size, b3.block⟩
        have Y3 := Y.out.below (B12.out.trans (b3.mono B12.out.size)) Y.out.lt
        have B3 := Kept.mk (B2.out.trans (b3.mono (by have := B2.out.size; omega)))
        have n0 : w3.cell? ⟨M2, 0, none⟩ = some (.int .i64 u1) := (b3.cell (World.block_lt_of_cell? _ _ m0)).trans m0
        have n1 : w3.cell? ⟨M2, 1, none⟩ = some (.int .i64 u2) := (b3.cell (World.block_lt_of_cell? _ _ m1)).trans m1
        have n2 : w3.cell? ⟨M2, 2, none⟩ = some (.int .i64 u3) := (b3.cell (World.block_lt_of_cell? _ _ m2)).trans m2
        have n3 : w3.cell? ⟨M2, 3, none⟩ = some (.int .i64 u4) := (b3.cell (World.block_lt_of_cell? _ _ m3)).trans m3
        have n4 : w3.cell? ⟨M2, 4, none⟩ = some (.int .i64 u5) := (b3.cell (World.block_lt_of_cell? _ _ m4)).trans m4
        have n5 : w3.cell? ⟨M2, 5, none⟩ = some (.int .i64 u6) := (b3.cell (World.block_lt_of_cell? _ _ m5)).trans m5
        have n6 : w3.cell? ⟨M2, 6, none⟩ = some (.int .i64 u7) := (b3.cell (World.block_lt_of_cell? _ _ m6)).trans m6
        have y0 : w3.cell? ⟨M, 0, none⟩ = some (.int .i64 0) := Y3.cell 0
        have f0 := Y3.frozen 0
        have y1 : w3.cell? ⟨M, 1, none⟩ = some (.int .i64 0) := Y3.cell 1
        have f1 := Y3.frozen 1
        have y2 : w3.cell? ⟨M, 2, none⟩ = some (.int .i64 0) := Y3.cell 2
        have f2 := Y3.frozen 2
        have y3 : w3.cell? ⟨M, 3, none⟩ = some (.int .i64 0) := Y3.cell 3
        have f3 := Y3.frozen 3
        have y4 : w3.cell? ⟨M, 4, none⟩ = some (.int .i64 0) := Y3.cell 4
        have f4 := Y3.frozen 4
        have y5 : w3.cell? ⟨M, 5, none⟩ = some (.int .i64 0) := Y3.cell 5
        have f5 := Y3.frozen 5
        have y6 : w3.cell? ⟨M, 6, none⟩ = some (.int .i64 0) := Y3.cell 6
        have f6 := Y3.frozen 6
        have PP := Kept.mk (put7 Y3 (.int .i64 u1) (.int .i64 u2) (.int .i64 u3) (.int .i64 u4) (.int .i64 u5) (.int .i64 u6) (.int .i64 u7))
        clear b3 m0 m1 m2 m3 m4 m5 m6 c0 c1 c2 c3 c4 c5 c6 Y3 CC
        go_wp2
        refine bodyPost_ret (Sha.results_cell_tmp rfl _ _ M 33 #[.int .i64 u1, .int .i64 u2, .int .i64 u3, .int .i64 u4, .int .i64 u5, .int .i64 u6, .int .i64 u7] (0, 0) _ rfl PP.out.1 Try.underlying33 rfl tv_size) rfl ?_
        refine ⟨⟨u1, u2, u3, u4, u5, u6, u7⟩, by rw [HA.out, HS.out]; rfl, fun u hu => by rw [HA.out, HS.out] at hu; injection hu, ?_⟩
        exact hM ▸ B3.out.trans (PP.out.2.below (by have := B3.out.size; omega) (fun z hz => by rw [List.mem_singleton] at hz; subst hz; exact Nat.le_refl _))
      · rw [decide_eq_false hq] at CC
        replace CC := Kept.mk CC
        have HS : Kept (alike (l.drop (k + 1)) = al) := ⟨by have := HN.out; rwa [alike_drop HU.out, if_neg hq] at this⟩
        clear HN HU hq
        refine wp_region_still_tail 5 (by kernel_rfl) (by kernel_rfl) ?_
        simp only [List.take_succ_cons, List.take_zero, List.drop_succ_cons, List.drop_zero]
        repeat still_step
        refine wpStill_nil ?_
        change wpList _ _ _ _ _ w2.drew
        go_wp2_with fail
        refine CC.out.mono ?_
        rintro e w3 ⟨rfl, b3⟩
        replace b3 : Below w2.heap.size w2 w3 := ⟨b3.os, b3.tape, b3.output, b3.size, b3.block⟩
        have B3 := Kept.mk (B2.out.trans (b3.mono (by have := B2.out.size; omega)))
        have B13 := Kept.mk (B12.out.trans (b3.mono B12.out.size))
        clear b3 m0 m1 m2 m3 m4 m5 m6 c0 c1 c2 c3 c4 c5 c6 CC B2 B12
        go_wp2
        go_roundw
        case rel => exact ⟨k + 1, by omega, by go_num, HS, B3, B13⟩
        case measure => simp only [Go.RowKit.intOf]; omega
    · have hkn' : ¬ (k : Int) < n := by omega
      obtain rfl : k = n := by omega
      have HS : Kept (al = none) := ⟨by have := HN.out; rw [List.drop_of_length_le (by rw [HL.out]; exact Nat.le_refl _)] at this; exact this.symm⟩
      have Y3 := Y.out.below B1.out Y.out.lt
      have y0 : wr.cell? ⟨M, 0, none⟩ = some (.int .i64 0) := Y3.cell 0
      have f0 := Y3.frozen 0
      have y1 : wr.cell? ⟨M, 1, none⟩ = some (.int .i64 0) := Y3.cell 1
      have f1 := Y3.frozen 1
      have y2 : wr.cell? ⟨M, 2, none⟩ = some (.int .i64 0) := Y3.cell 2
      have f2 := Y3.frozen 2
      have y3 : wr.cell? ⟨M, 3, none⟩ = some (.int .i64 0) := Y3.cell 3
      have f3 := Y3.frozen 3
      have y4 : wr.cell? ⟨M, 4, none⟩ = some (.int .i64 0) := Y3.cell 4
      have f4 := Y3.frozen 4
      have y5 : wr.cell? ⟨M, 5, none⟩ = some (.int .i64 0) := Y3.cell 5
      have f5 := Y3.frozen 5
      have y6 : wr.cell? ⟨M, 6, none⟩ = some (.int .i64 0) := Y3.cell 6
      have f6 := Y3.frozen 6
      have PP := Kept.mk (put7 Y3 (.int .i64 0) (.int .i64 0) (.int .i64 0) (.int .i64 0) (.int .i64 0) (.int .i64 0) (.int .i64 0))
      clear Y3 HN
      go_wp2
      refine bodyPost_ret (Sha.results_cell_tmp rfl _ _ M 33 #[.int .i64 0, .int .i64 0, .int .i64 0, .int .i64 0, .int .i64 0, .int .i64 0, .int .i64 0] (0, 0) _ rfl PP.out.1 Try.underlying33 rfl tv_size) rfl ?_
      refine ⟨zeroT, by rw [HA.out, HS.out]; rfl, fun u hu => (by rw [HA.out, HS.out] at hu; cases hu), ?_⟩
      exact hM ▸ BW.out.trans (PP.out.2.below (by have := BW.out.size; omega) (fun z hz => by rw [List.mem_singleton] at hz; subst hz; exact Nat.le_refl _))
end Go.Proofs.Ythhjmbbfibgjpaa.Trade
