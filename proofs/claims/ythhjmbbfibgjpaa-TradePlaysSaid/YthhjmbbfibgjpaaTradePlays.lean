/-
  The law TradePlays, walked.
-/
import Derived.Test.YthhjmbbfibgjpaaTakes
import Derived.Test.YthhjmbbfibgjpaaTradeFirst
import Derived.Test.YthhjmbbfibgjpaaTradeOps
import Derived.Test.YthhjmbbfibgjpaaTradeRPut
import Derived.Test.YthhjmbbfibgjpaaTradeRMat
import Derived.Test.YthhjmbbfibgjpaaTradeROpen
import Derived.Test.YthhjmbbfibgjpaaTradeRNew
namespace Go.Proofs.Ythhjmbbfibgjpaa.Trade
open Go.RowKit Go.Proofs.Ythhjmbbfibgjpaa.Sha

theorem mat_few {C : List CV} (h : Okc C) : (matched (tr C)).length ≤ 9223372036854775807 := by
  have := matT_len (tr C) (ids (tr C)).length
  rw [matT_all] at this
  have h2 := ids_len (tr C)
  have h3 := h.few
  rw [tr_len] at h2
  omega
theorem opn_few {C : List CV} (h : Okc C) : (openI (tr C)).length ≤ 9223372036854775807 := by
  have := opnT_len (tr C) (ids (tr C)).length
  rw [opnT_all] at this
  have h2 := ids_len (tr C)
  have h3 := h.few
  rw [tr_len] at h2
  omega
set_option maxRecDepth 100000 in
set_option maxHeartbeats 8000000 in
theorem plays_walk (p c a : Int) (A : Option Addr) (n cap : Nat) (X : List CV) (W : World) (hr : Rc cvC 8 W A n X) :
    Calls Try.prog 3 #[.int .i64 p, .int .i64 c, .int .i64 a, .slice A n cap] W fun e w' => e = .returned (.bool true) ∧ Below W.heap.size W w' := by
  obtain ⟨N, hN⟩ : ∃ z, W.heap.size = z := ⟨_, rfl⟩
  have RX := Kept.mk hr
  clear hr
  rw [hN]
  go_enter Try.func3, Try.ntmps3
  go_wp2_with fail
  refine (tfirst_any W).mono ?_
  rintro e w1 ⟨rfl, bb⟩
  have B : Kept (Below N W w1) := ⟨hN ▸ bb⟩
  clear bb
  by_cases h150 : 150 < n
  · have h1 : (150 : Int) < n := by omega
    go_wp2_with fail
    refine (tfirst_any w1).mono ?_
    rintro e w2 ⟨rfl, bb⟩
    replace B := Kept.mk (low_trans B.out bb (hN ▸ B.out.size))
    clear bb
    go_wp2
    go_ret
    exact ⟨rfl, B.out⟩
  · have h1 : ¬ (150 : Int) < n := by omega
    cases hok : newOk p c a with
    | false =>
      have C1 := Kept.mk (fun w => new_no (w := w) hok); have C2 := Kept.mk (fun w => rnew_no (w := w) hok)
      clear hok
      go_wp2_with fail
      refine (C1.out _).mono ?_
      rintro e w2 ⟨rfl, rfl⟩
      go_wp2_with fail
      refine (C2.out _).mono ?_
      rintro e w3 ⟨rfl, rfl⟩
      clear C1 C2
      go_wp2
      go_loopw [13] (fun i wr => ∃ k : Nat, k ≤ n ∧ i = .int .i64 k ∧ Kept (Below N W wr)) (fun i _ => n - (Go.RowKit.intOf i).toNat)
      case atStart => exact ⟨0, by omega, rfl, B⟩
      case round =>
        clear B
        obtain ⟨k, hk, rfl, B⟩ := hrel
        by_cases hkn : k < n
        · have hkn' : (k : Int) < n := by omega
          obtain ⟨bA, oA, u, hA, -, hcA⟩ := RX.out.at_ hkn
          subst hA
          obtain ⟨who, t1, t2, t3, t4, t5, t6, t7⟩ := u
          have AT : Kept (∀ u, Below N W u → (fun u : World => u.cell? ⟨bA, oA + k * 8, none⟩ = some (.int .i64 who) ∧ u.cell? ⟨bA, oA + k * 8 + 1, none⟩ = some (.int .i64 t1) ∧ u.cell? ⟨bA, oA + k * 8 + 2, none⟩ = some (.int .i64 t2) ∧ u.cell? ⟨bA, oA + k * 8 + 3, none⟩ = some (.int .i64 t3) ∧ u.cell? ⟨bA, oA + k * 8 + 4, none⟩ = some (.int .i64 t4) ∧ u.cell? ⟨bA, oA + k * 8 + 5, none⟩ = some (.int .i64 t5) ∧ u.cell? ⟨bA, oA + k * 8 + 6, none⟩ = some (.int .i64 t6) ∧ u.cell? ⟨bA, oA + k * 8 + 7, none⟩ = some (.int .i64 t7)) u) := ⟨fun u b => ⟨(b.cell (hN ▸ World.block_lt_of_cell? _ _ (hcA 0 _ rfl))).trans (hcA 0 _ rfl), (b.cell (hN ▸ World.block_lt_of_cell? _ _ (hcA 1 _ rfl))).trans (hcA 1 _ rfl), (b.cell (hN ▸ World.block_lt_of_cell? _ _ (hcA 2 _ rfl))).trans (hcA 2 _ rfl), (b.cell (hN ▸ World.block_lt_of_cell? _ _ (hcA 3 _ rfl))).trans (hcA 3 _ rfl), (b.cell (hN ▸ World.block_lt_of_cell? _ _ (hcA 4 _ rfl))).trans (hcA 4 _ rfl), (b.cell (hN ▸ World.block_lt_of_cell? _ _ (hcA 5 _ rfl))).trans (hcA 5 _ rfl), (b.cell (hN ▸ World.block_lt_of_cell? _ _ (hcA 6 _ rfl))).trans (hcA 6 _ rfl), (b.cell (hN ▸ World.block_lt_of_cell? _ _ (hcA 7 _ rfl))).trans (hcA 7 _ rfl)⟩⟩
          clear hcA
          go_upto_region 12 with (fail)
          refine wp_region_noPanic ?_
          have hlow : N ≤ wr.heap.size := hN ▸ B.out.size
          have bb : Below wr.heap.size wr wr.drew := (Below.refl _ _).drew
          replace B := Kept.mk (low_trans B.out bb hlow)
          refine wp_region_held_drew (S := fun u : World => u.cell? ⟨bA, oA + k * 8, none⟩ = some (.int .i64 who) ∧ u.cell? ⟨bA, oA + k * 8 + 1, none⟩ = some (.int .i64 t1) ∧ u.cell? ⟨bA, oA + k * 8 + 2, none⟩ = some (.int .i64 t2) ∧ u.cell? ⟨bA, oA + k * 8 + 3, none⟩ = some (.int .i64 t3) ∧ u.cell? ⟨bA, oA + k * 8 + 4, none⟩ = some (.int .i64 t4) ∧ u.cell? ⟨bA, oA + k * 8 + 5, none⟩ = some (.int .i64 t5) ∧ u.cell? ⟨bA, oA + k * 8 + 6, none⟩ = some (.int .i64 t6) ∧ u.cell? ⟨bA, oA + k * 8 + 7, none⟩ = some (.int .i64 t7)) (by kernel_rfl) (AT.out _ B.out) (fun hHeld => ?_)
          clear bb hlow
          generalize wr.drew = w1 at *
          obtain ⟨me, hme⟩ : ∃ z, mayE ⟨t1, t2, t3, t4, t5, t6, t7⟩ p c a = z := ⟨_, rfl⟩
          have HME := Kept.mk hme
          have C1 : Kept (∀ w, Calls Try.prog 10 #[.agg #[.int .i64 t1, .int .i64 t2, .int .i64 t3, .int .i64 t4, .int .i64 t5, .int .i64 t6, .int .i64 t7], .int .i64 p, .int .i64 c, .int .i64 a] w fun e w' => e = .returned (.int .i64 me) ∧ Below w.heap.size w w') := ⟨fun w => hme ▸ may_any ⟨t1, t2, t3, t4, t5, t6, t7⟩ p c a w⟩
          have C2 : Kept (∀ w, Calls Try.prog 11 #[.agg #[.int .i64 t1, .int .i64 t2, .int .i64 t3, .int .i64 t4, .int .i64 t5, .int .i64 t6, .int .i64 t7], .int .i64 p, .int .i64 c, .int .i64 a] w fun e w' => e = .returned (.int .i64 me) ∧ Below w.heap.size w w') := ⟨fun w => hme ▸ rmay_any ⟨t1, t2, t3, t4, t5, t6, t7⟩ p c a w⟩
          clear hme
          refine tk 0 ?_
          simp only [Act.put, List.setIfInBounds_toArray, List.set_cons_zero, List.set_cons_succ]
          refine tk 1 ?_
          simp only [Act.put, List.setIfInBounds_toArray, List.set_cons_zero, List.set_cons_succ]
          refine tk 2 ?_
          simp only [Act.put, List.setIfInBounds_toArray, List.set_cons_zero, List.set_cons_succ]
          refine tk 3 ?_
          simp only [Act.put, List.setIfInBounds_toArray, List.set_cons_zero, List.set_cons_succ]
          refine tk 4 ?_
          simp only [Act.put, List.setIfInBounds_toArray, List.set_cons_zero, List.set_cons_succ]
          refine tk 5 ?_
          simp only [Act.put, List.setIfInBounds_toArray, List.set_cons_zero, List.set_cons_succ]
          refine tk 6 ?_
          simp only [Act.put, List.setIfInBounds_toArray, List.set_cons_zero, List.set_cons_succ]
          refine tk 7 ?_
          simp only [Act.put, List.setIfInBounds_toArray, List.set_cons_zero, List.set_cons_succ]
          refine tk 9 ?_
          simp only [Act.put, List.setIfInBounds_toArray, List.set_cons_zero, List.set_cons_succ]
          refine tk 10 ?_
          simp only [Act.put, List.setIfInBounds_toArray, List.set_cons_zero, List.set_cons_succ]
          refine tk 11 ?_
          simp only [Act.put, List.setIfInBounds_toArray, List.set_cons_zero, List.set_cons_succ]
          refine tk 12 ?_
          simp only [Act.put, List.setIfInBounds_toArray, List.set_cons_zero, List.set_cons_succ]
          refine tk 13 ?_
          simp only [Act.put, List.setIfInBounds_toArray, List.set_cons_zero, List.set_cons_succ]
          refine tk 14 ?_
          simp only [Act.put, List.setIfInBounds_toArray, List.set_cons_zero, List.set_cons_succ]
          refine tk 15 ?_
          simp only [Act.put, List.setIfInBounds_toArray, List.set_cons_zero, List.set_cons_succ]
          refine tk 16 ?_
          simp only [Act.put, List.setIfInBounds_toArray, List.set_cons_zero, List.set_cons_succ]
          refine ld 8 (fun K hK => ?_)
          go_simp
          go_at_call 10
          refine (C1.out _).mono ?_
          rintro e w2 ⟨rfl, bb⟩
          have hlow : N ≤ w1.heap.size := hN ▸ B.out.size
          replace B := Kept.mk (low_trans B.out bb hlow)
          clear bb hlow hHeld
          refine hK.out _ _ (AT.out _ B.out) (fun hHeld => ?_)
          clear hK K
          try simp only [Act.put, List.setIfInBounds_toArray, List.set_cons_zero, List.set_cons_succ]
          refine ld 17 (fun K hK => ?_)
          go_simp
          go_at_call 11
          refine (C2.out _).mono ?_
          rintro e w3 ⟨rfl, bb⟩
          have hlow : N ≤ w2.heap.size := hN ▸ B.out.size
          replace B := Kept.mk (low_trans B.out bb hlow)
          clear bb hlow hHeld C1 C2
          refine hK.out _ _ (AT.out _ B.out) (fun hHeld => ?_)
          clear hK K
          try simp only [Act.put, List.setIfInBounds_toArray, List.set_cons_zero, List.set_cons_succ]
          refine tk 18 ?_
          simp only [Act.put, List.setIfInBounds_toArray, List.set_cons_zero, List.set_cons_succ]
          refine wpAnyH_done (by kernel_rfl) ?_ _
          refine NoPanic.normal ?_
          clear hHeld
          go_wp2
          go_roundw
          case rel => exact ⟨k + 1, by omega, by go_num, B⟩
          case measure => simp only [Go.RowKit.intOf]; omega
        · have hkn' : ¬ (k : Int) < n := by omega
          obtain rfl : k = n := by omega
          go_wp2_with fail
          refine (tfirst_any wr).mono ?_
          rintro e w2 ⟨rfl, bb⟩
          replace B := Kept.mk (low_trans B.out bb (hN ▸ B.out.size))
          clear bb
          go_wp2
          go_ret
          exact ⟨rfl, B.out⟩
    | true =>
      have C1 := Kept.mk (fun w => new_yes (w := w) hok); have C2 := Kept.mk (fun w => rnew_yes (w := w) hok)
      clear hok
      go_wp2_with fail
      refine (C1.out _).mono ?_
      rintro e w2 ⟨F, rfl, td, b1⟩
      go_wp2_with fail
      refine (C2.out _).mono ?_
      rintro e w3 ⟨G, rfl, tr3, b2⟩
      have hl1 : N ≤ w1.heap.size := hN ▸ B.out.size
      have hl2 : w1.heap.size ≤ w2.heap.size := b1.size
      have TW : Kept (Tw N w3 w1.heap.size w2.heap.size p c a F G []) := ⟨⟨(td.below b2).base hl1, tr3.base (by omega), ok_nil, Disj.symm (Disj.new (n := w2.heap.size) (fun k hk => (tr3.lt k hk).1) (fun k hk => (td.lt k hk).2))⟩⟩
      replace B := Kept.mk (low_trans (low_trans B.out b1 hl1) b2 (by omega))
      clear C1 C2 td tr3 b1 b2 hl1 hl2
      generalize w1.heap.size = x at *
      generalize w2.heap.size = y at *
      go_wp2
      go_loopw [13] (fun i wr => ∃ (k : Nat) (C : List CV) (F G : List Nat), k ≤ n ∧ i = .int .i64 k ∧ Kept (Tw N wr x y p c a F G C) ∧ Kept (Below N W wr)) (fun i _ => n - (Go.RowKit.intOf i).toNat)
      case atStart => exact ⟨0, [], F, G, by omega, rfl, TW, B⟩
      case round =>
        clear B TW
        clear F G
        obtain ⟨k, C, F, G, hk, rfl, TW, B⟩ := hrel
        by_cases hkn : k < n
        · have hkn' : (k : Int) < n := by omega
          obtain ⟨bA, oA, u, hA, -, hcA⟩ := RX.out.at_ hkn
          subst hA
          obtain ⟨who, t1, t2, t3, t4, t5, t6, t7⟩ := u
          have AT : Kept (∀ u, Below N W u → (fun u : World => u.cell? ⟨bA, oA + k * 8, none⟩ = some (.int .i64 who) ∧ u.cell? ⟨bA, oA + k * 8 + 1, none⟩ = some (.int .i64 t1) ∧ u.cell? ⟨bA, oA + k * 8 + 2, none⟩ = some (.int .i64 t2) ∧ u.cell? ⟨bA, oA + k * 8 + 3, none⟩ = some (.int .i64 t3) ∧ u.cell? ⟨bA, oA + k * 8 + 4, none⟩ = some (.int .i64 t4) ∧ u.cell? ⟨bA, oA + k * 8 + 5, none⟩ = some (.int .i64 t5) ∧ u.cell? ⟨bA, oA + k * 8 + 6, none⟩ = some (.int .i64 t6) ∧ u.cell? ⟨bA, oA + k * 8 + 7, none⟩ = some (.int .i64 t7)) u) := ⟨fun u b => ⟨(b.cell (hN ▸ World.block_lt_of_cell? _ _ (hcA 0 _ rfl))).trans (hcA 0 _ rfl), (b.cell (hN ▸ World.block_lt_of_cell? _ _ (hcA 1 _ rfl))).trans (hcA 1 _ rfl), (b.cell (hN ▸ World.block_lt_of_cell? _ _ (hcA 2 _ rfl))).trans (hcA 2 _ rfl), (b.cell (hN ▸ World.block_lt_of_cell? _ _ (hcA 3 _ rfl))).trans (hcA 3 _ rfl), (b.cell (hN ▸ World.block_lt_of_cell? _ _ (hcA 4 _ rfl))).trans (hcA 4 _ rfl), (b.cell (hN ▸ World.block_lt_of_cell? _ _ (hcA 5 _ rfl))).trans (hcA 5 _ rfl), (b.cell (hN ▸ World.block_lt_of_cell? _ _ (hcA 6 _ rfl))).trans (hcA 6 _ rfl), (b.cell (hN ▸ World.block_lt_of_cell? _ _ (hcA 7 _ rfl))).trans (hcA 7 _ rfl)⟩⟩
          clear hcA
          go_upto_region 12 with (fail)
          refine wp_region_noPanic ?_
          have hlow := TW.out.low
          have bb : Below wr.heap.size wr wr.drew := (Below.refl _ _).drew
          replace TW := Kept.mk (TW.out.below bb)
          replace B := Kept.mk (low_trans B.out bb hlow)
          refine wp_region_held_drew (S := fun u : World => u.cell? ⟨bA, oA + k * 8, none⟩ = some (.int .i64 who) ∧ u.cell? ⟨bA, oA + k * 8 + 1, none⟩ = some (.int .i64 t1) ∧ u.cell? ⟨bA, oA + k * 8 + 2, none⟩ = some (.int .i64 t2) ∧ u.cell? ⟨bA, oA + k * 8 + 3, none⟩ = some (.int .i64 t3) ∧ u.cell? ⟨bA, oA + k * 8 + 4, none⟩ = some (.int .i64 t4) ∧ u.cell? ⟨bA, oA + k * 8 + 5, none⟩ = some (.int .i64 t5) ∧ u.cell? ⟨bA, oA + k * 8 + 6, none⟩ = some (.int .i64 t6) ∧ u.cell? ⟨bA, oA + k * 8 + 7, none⟩ = some (.int .i64 t7)) (by kernel_rfl) (AT.out _ B.out) (fun hHeld => ?_)
          clear bb hlow
          generalize wr.drew = w1 at *
          obtain ⟨me, hme⟩ : ∃ z, mayE ⟨t1, t2, t3, t4, t5, t6, t7⟩ p c a = z := ⟨_, rfl⟩
          have HME := Kept.mk hme
          have C1 : Kept (∀ w, Calls Try.prog 10 #[.agg #[.int .i64 t1, .int .i64 t2, .int .i64 t3, .int .i64 t4, .int .i64 t5, .int .i64 t6, .int .i64 t7], .int .i64 p, .int .i64 c, .int .i64 a] w fun e w' => e = .returned (.int .i64 me) ∧ Below w.heap.size w w') := ⟨fun w => hme ▸ may_any ⟨t1, t2, t3, t4, t5, t6, t7⟩ p c a w⟩
          have C2 : Kept (∀ w, Calls Try.prog 11 #[.agg #[.int .i64 t1, .int .i64 t2, .int .i64 t3, .int .i64 t4, .int .i64 t5, .int .i64 t6, .int .i64 t7], .int .i64 p, .int .i64 c, .int .i64 a] w fun e w' => e = .returned (.int .i64 me) ∧ Below w.heap.size w w') := ⟨fun w => hme ▸ rmay_any ⟨t1, t2, t3, t4, t5, t6, t7⟩ p c a w⟩
          clear hme
          refine tk 0 ?_
          simp only [Act.put, List.setIfInBounds_toArray, List.set_cons_zero, List.set_cons_succ]
          refine tk 1 ?_
          simp only [Act.put, List.setIfInBounds_toArray, List.set_cons_zero, List.set_cons_succ]
          refine tk 2 ?_
          simp only [Act.put, List.setIfInBounds_toArray, List.set_cons_zero, List.set_cons_succ]
          refine tk 3 ?_
          simp only [Act.put, List.setIfInBounds_toArray, List.set_cons_zero, List.set_cons_succ]
          refine tk 4 ?_
          simp only [Act.put, List.setIfInBounds_toArray, List.set_cons_zero, List.set_cons_succ]
          refine tk 5 ?_
          simp only [Act.put, List.setIfInBounds_toArray, List.set_cons_zero, List.set_cons_succ]
          refine tk 6 ?_
          simp only [Act.put, List.setIfInBounds_toArray, List.set_cons_zero, List.set_cons_succ]
          refine tk 7 ?_
          simp only [Act.put, List.setIfInBounds_toArray, List.set_cons_zero, List.set_cons_succ]
          refine tk 9 ?_
          simp only [Act.put, List.setIfInBounds_toArray, List.set_cons_zero, List.set_cons_succ]
          refine tk 10 ?_
          simp only [Act.put, List.setIfInBounds_toArray, List.set_cons_zero, List.set_cons_succ]
          refine tk 11 ?_
          simp only [Act.put, List.setIfInBounds_toArray, List.set_cons_zero, List.set_cons_succ]
          refine tk 12 ?_
          simp only [Act.put, List.setIfInBounds_toArray, List.set_cons_zero, List.set_cons_succ]
          refine tk 13 ?_
          simp only [Act.put, List.setIfInBounds_toArray, List.set_cons_zero, List.set_cons_succ]
          refine tk 14 ?_
          simp only [Act.put, List.setIfInBounds_toArray, List.set_cons_zero, List.set_cons_succ]
          refine tk 15 ?_
          simp only [Act.put, List.setIfInBounds_toArray, List.set_cons_zero, List.set_cons_succ]
          refine tk 16 ?_
          simp only [Act.put, List.setIfInBounds_toArray, List.set_cons_zero, List.set_cons_succ]
          refine ld 8 (fun K hK => ?_)
          go_simp
          go_at_call 10
          refine (C1.out _).mono ?_
          rintro e w2 ⟨rfl, bb⟩
          have hlow := TW.out.low
          replace TW := Kept.mk (TW.out.below bb)
          replace B := Kept.mk (low_trans B.out bb hlow)
          clear bb hlow hHeld
          refine hK.out _ _ (AT.out _ B.out) (fun hHeld => ?_)
          clear hK K
          try simp only [Act.put, List.setIfInBounds_toArray, List.set_cons_zero, List.set_cons_succ]
          refine ld 17 (fun K hK => ?_)
          go_simp
          go_at_call 11
          refine (C2.out _).mono ?_
          rintro e w4 ⟨rfl, bb⟩
          have hlow := TW.out.low
          replace TW := Kept.mk (TW.out.below bb)
          replace B := Kept.mk (low_trans B.out bb hlow)
          clear bb hlow hHeld C1 C2
          refine hK.out _ _ (AT.out _ B.out) (fun hHeld => ?_)
          clear hK K
          try simp only [Act.put, List.setIfInBounds_toArray, List.set_cons_zero, List.set_cons_succ]
          refine tk 18 ?_
          simp only [Act.put, List.setIfInBounds_toArray, List.set_cons_zero, List.set_cons_succ]
          refine wpAnyH_done (by kernel_rfl) ?_ _
          refine NoPanic.normal ?_
          clear hHeld
          go_upto_region 15 with (fail)
          refine wp_region_noPanic ?_
          have hlow := TW.out.low
          have bb : Below w4.heap.size w4 w4.drew := (Below.refl _ _).drew
          replace TW := Kept.mk (TW.out.below bb)
          replace B := Kept.mk (low_trans B.out bb hlow)
          refine wp_region_held_drew (S := fun u : World => u.cell? ⟨bA, oA + k * 8, none⟩ = some (.int .i64 who) ∧ u.cell? ⟨bA, oA + k * 8 + 1, none⟩ = some (.int .i64 t1) ∧ u.cell? ⟨bA, oA + k * 8 + 2, none⟩ = some (.int .i64 t2) ∧ u.cell? ⟨bA, oA + k * 8 + 3, none⟩ = some (.int .i64 t3) ∧ u.cell? ⟨bA, oA + k * 8 + 4, none⟩ = some (.int .i64 t4) ∧ u.cell? ⟨bA, oA + k * 8 + 5, none⟩ = some (.int .i64 t5) ∧ u.cell? ⟨bA, oA + k * 8 + 6, none⟩ = some (.int .i64 t6) ∧ u.cell? ⟨bA, oA + k * 8 + 7, none⟩ = some (.int .i64 t7)) (by kernel_rfl) (AT.out _ B.out) (fun hHeld => ?_)
          clear bb hlow
          generalize w4.drew = w5 at *
          obtain ⟨er, her⟩ : ∃ z, putE p c a C who ⟨t1, t2, t3, t4, t5, t6, t7⟩ = z := ⟨_, rfl⟩
          obtain ⟨C2, hC2⟩ : ∃ z, putC p c a C who ⟨t1, t2, t3, t4, t5, t6, t7⟩ = z := ⟨_, rfl⟩
          have HE := Kept.mk her; have HC := Kept.mk hC2
          clear her hC2
          refine tk 0 ?_
          simp only [Act.put, List.setIfInBounds_toArray, List.set_cons_zero, List.set_cons_succ]
          refine tk 1 ?_
          simp only [Act.put, List.setIfInBounds_toArray, List.set_cons_zero, List.set_cons_succ]
          refine tk 2 ?_
          simp only [Act.put, List.setIfInBounds_toArray, List.set_cons_zero, List.set_cons_succ]
          refine tk 3 ?_
          simp only [Act.put, List.setIfInBounds_toArray, List.set_cons_zero, List.set_cons_succ]
          refine tk 4 ?_
          simp only [Act.put, List.setIfInBounds_toArray, List.set_cons_zero, List.set_cons_succ]
          refine tk 5 ?_
          simp only [Act.put, List.setIfInBounds_toArray, List.set_cons_zero, List.set_cons_succ]
          refine tk 6 ?_
          simp only [Act.put, List.setIfInBounds_toArray, List.set_cons_zero, List.set_cons_succ]
          refine tk 7 ?_
          simp only [Act.put, List.setIfInBounds_toArray, List.set_cons_zero, List.set_cons_succ]
          refine tk 8 ?_
          simp only [Act.put, List.setIfInBounds_toArray, List.set_cons_zero, List.set_cons_succ]
          refine tk 9 ?_
          simp only [Act.put, List.setIfInBounds_toArray, List.set_cons_zero, List.set_cons_succ]
          refine tk 10 ?_
          simp only [Act.put, List.setIfInBounds_toArray, List.set_cons_zero, List.set_cons_succ]
          refine tk 12 ?_
          simp only [Act.put, List.setIfInBounds_toArray, List.set_cons_zero, List.set_cons_succ]
          refine tk 13 ?_
          simp only [Act.put, List.setIfInBounds_toArray, List.set_cons_zero, List.set_cons_succ]
          refine tk 14 ?_
          simp only [Act.put, List.setIfInBounds_toArray, List.set_cons_zero, List.set_cons_succ]
          refine tk 15 ?_
          simp only [Act.put, List.setIfInBounds_toArray, List.set_cons_zero, List.set_cons_succ]
          refine tk 16 ?_
          simp only [Act.put, List.setIfInBounds_toArray, List.set_cons_zero, List.set_cons_succ]
          refine tk 17 ?_
          simp only [Act.put, List.setIfInBounds_toArray, List.set_cons_zero, List.set_cons_succ]
          refine tk 18 ?_
          simp only [Act.put, List.setIfInBounds_toArray, List.set_cons_zero, List.set_cons_succ]
          refine tk 19 ?_
          simp only [Act.put, List.setIfInBounds_toArray, List.set_cons_zero, List.set_cons_succ]
          refine tk 20 ?_
          simp only [Act.put, List.setIfInBounds_toArray, List.set_cons_zero, List.set_cons_succ]
          refine tk 21 ?_
          simp only [Act.put, List.setIfInBounds_toArray, List.set_cons_zero, List.set_cons_succ]
          refine tk 22 ?_
          simp only [Act.put, List.setIfInBounds_toArray, List.set_cons_zero, List.set_cons_succ]
          have CP : Kept (Calls Try.prog 12 #[.pointer (some ⟨x, 0, none⟩), .int .i64 who, .agg #[.int .i64 t1, .int .i64 t2, .int .i64 t3, .int .i64 t4, .int .i64 t5, .int .i64 t6, .int .i64 t7]] w5 (PutP F N x p c a er C2 w5)) := ⟨HE.out ▸ HC.out ▸ put_any who ⟨t1, t2, t3, t4, t5, t6, t7⟩ TW.out.d TW.out.ok⟩
          refine ld 11 (fun K hK => ?_)
          go_simp
          go_at_call 12
          refine CP.out.mono ?_
          rintro e w6 ⟨F2, rfl, td, fp⟩
          replace B := Kept.mk (TW.out.d.step B.out fp)
          have TD := Kept.mk td
          have TR := Kept.mk (TW.out.r.keep fp.1 (fun z hz hm => TW.out.dis z hm hz))
          have DI := Kept.mk (TW.out.dis.step fp (fun g hg => (TW.out.r.lt g hg).2))
          have OKC := Kept.mk TW.out.ok
          clear CP td fp hHeld TW
          refine hK.out _ _ (AT.out _ B.out) (fun hHeld => ?_)
          clear hK K
          try simp only [Act.put, List.setIfInBounds_toArray, List.set_cons_zero, List.set_cons_succ]
          have CP : Kept (Calls Try.prog 13 #[.pointer (some ⟨y, 0, none⟩), .int .i64 who, .agg #[.int .i64 t1, .int .i64 t2, .int .i64 t3, .int .i64 t4, .int .i64 t5, .int .i64 t6, .int .i64 t7]] w6 (RPutP G N y p c a er C2 w6)) := ⟨HE.out ▸ HC.out ▸ rput_any who ⟨t1, t2, t3, t4, t5, t6, t7⟩ TR.out OKC.out⟩
          refine ld 23 (fun K hK => ?_)
          go_simp
          go_at_call 13
          refine CP.out.mono ?_
          rintro e w7 ⟨G2, rfl, tr2, fp⟩
          replace B := Kept.mk (TR.out.step B.out fp)
          have TW : Kept (Tw N w7 x y p c a F2 G2 C2) := ⟨⟨TD.out.keep fp.1 (fun z hz hm => DI.out z hz hm), tr2, HC.out ▸ OKC.out.put who ⟨t1, t2, t3, t4, t5, t6, t7⟩, (DI.out.symm.step fp (fun g hg => (TD.out.lt g hg).2)).symm⟩⟩
          clear CP tr2 fp hHeld TD TR DI OKC HE HC
          refine hK.out _ _ (AT.out _ B.out) (fun hHeld => ?_)
          clear hK K
          try simp only [Act.put, List.setIfInBounds_toArray, List.set_cons_zero, List.set_cons_succ]
          refine tk 24 ?_
          simp only [Act.put, List.setIfInBounds_toArray, List.set_cons_zero, List.set_cons_succ]
          refine tk 25 ?_
          simp only [Act.put, List.setIfInBounds_toArray, List.set_cons_zero, List.set_cons_succ]
          refine tk 26 ?_
          simp only [Act.put, List.setIfInBounds_toArray, List.set_cons_zero, List.set_cons_succ]
          refine tk 28 ?_
          simp only [Act.put, List.setIfInBounds_toArray, List.set_cons_zero, List.set_cons_succ]
          refine tk 29 ?_
          simp only [Act.put, List.setIfInBounds_toArray, List.set_cons_zero, List.set_cons_succ]
          refine tk 30 ?_
          simp only [Act.put, List.setIfInBounds_toArray, List.set_cons_zero, List.set_cons_succ]
          obtain ⟨Ay, cy, hy⟩ := TW.out.r.cell4
          have CL := Kept.mk (len_any TW.out.d)
          refine ld2 27 31 (fun K hK => ?_) (fun K hK => ?_)
          · go_simp
            go_at_call 14
            refine CL.out.mono ?_
            rintro e w7' ⟨rfl, rfl⟩
            clear hHeld CL
            refine hK.out _ _ (AT.out _ B.out) (fun hHeld => ?_)
            clear hK K
            try simp only [Act.put, List.setIfInBounds_toArray, List.set_cons_zero, List.set_cons_succ]
            refine ld 31 (fun K hK => ?_)
            go_simp
            clear hHeld
            refine hK.out _ _ (AT.out _ B.out) (fun hHeld => ?_)
            clear hK K
            try simp only [Act.put, List.setIfInBounds_toArray, List.set_cons_zero, List.set_cons_succ]
            clear hy
            obtain ⟨ml, hml⟩ : ∃ z, matched (tr C2) = z := ⟨_, rfl⟩
            obtain ⟨ol, hol⟩ : ∃ z, openI (tr C2) = z := ⟨_, rfl⟩
            have HML := Kept.mk hml; have HOL := Kept.mk hol
            have HMN : Kept (ml.length ≤ 9223372036854775807) := ⟨hml ▸ mat_few TW.out.ok⟩
            have HON : Kept (ol.length ≤ 9223372036854775807) := ⟨hol ▸ opn_few TW.out.ok⟩
            clear hml hol
            refine tk 32 ?_
            simp only [Act.put, List.setIfInBounds_toArray, List.set_cons_zero, List.set_cons_succ]
            refine tk 33 ?_
            simp only [Act.put, List.setIfInBounds_toArray, List.set_cons_zero, List.set_cons_succ]
            refine tk 34 ?_
            simp only [Act.put, List.setIfInBounds_toArray, List.set_cons_zero, List.set_cons_succ]
            refine tk 35 ?_
            simp only [Act.put, List.setIfInBounds_toArray, List.set_cons_zero, List.set_cons_succ]
            refine tk 36 ?_
            simp only [Act.put, List.setIfInBounds_toArray, List.set_cons_zero, List.set_cons_succ]
            refine tk 38 ?_
            simp only [Act.put, List.setIfInBounds_toArray, List.set_cons_zero, List.set_cons_succ]
            have CM := mat_any TW.out.d TW.out.ok
            rw [HML.out] at CM
            replace CM := Kept.mk CM
            refine ld 37 (fun K hK => ?_)
            go_simp
            go_at_call 16
            refine CM.out.mono ?_
            rintro e w8 ⟨v8, rfl, o8, bb⟩
            obtain ⟨A8, c8, rfl, -, -, r8⟩ := Rc.own tvC_len o8 rfl
            have R8 := Kept.mk r8
            have hlow := TW.out.low
            replace TW := Kept.mk (TW.out.below bb)
            replace B := Kept.mk (low_trans B.out bb hlow)
            clear bb hlow hHeld CM o8 r8
            refine hK.out _ _ (AT.out _ B.out) (fun hHeld => ?_)
            clear hK K
            try simp only [Act.put, List.setIfInBounds_toArray, List.set_cons_zero, List.set_cons_succ]
            obtain ⟨ur, vr, RV, hG⟩ := TW.out.r
            have CM := rmatched_any RV TW.out.ok
            rw [HML.out] at CM
            replace CM := Kept.mk CM
            clear RV hG
            refine ld 39 (fun K hK => ?_)
            go_simp
            go_at_call 17
            refine CM.out.mono ?_
            rintro e w9 ⟨v9, rfl, o9, bb⟩
            obtain ⟨A9, c9, rfl, -, -, r9⟩ := Rc.own tvC_len o9 rfl
            have R9 := Kept.mk r9
            replace R8 := Kept.mk (R8.out.below bb)
            have hlow := TW.out.low
            replace TW := Kept.mk (TW.out.below bb)
            replace B := Kept.mk (low_trans B.out bb hlow)
            clear bb hlow hHeld CM o9 r9
            refine hK.out _ _ (AT.out _ B.out) (fun hHeld => ?_)
            clear hK K
            try simp only [Act.put, List.setIfInBounds_toArray, List.set_cons_zero, List.set_cons_succ]
            have CS := Kept.mk (same_yes A8 A9 ml.length c8 c9 ml w9 R8.out R9.out HMN.out)
            refine ld 40 (fun K hK => ?_)
            go_simp
            go_at_call 15
            refine CS.out.mono ?_
            rintro e w10 ⟨rfl, bb⟩
            have hlow := TW.out.low
            replace TW := Kept.mk (TW.out.below bb)
            replace B := Kept.mk (low_trans B.out bb hlow)
            clear bb hlow hHeld CS R8 R9
            refine hK.out _ _ (AT.out _ B.out) (fun hHeld => ?_)
            clear hK K
            try simp only [Act.put, List.setIfInBounds_toArray, List.set_cons_zero, List.set_cons_succ]
            refine tk 41 ?_
            simp only [Act.put, List.setIfInBounds_toArray, List.set_cons_zero, List.set_cons_succ]
            refine tk 42 ?_
            simp only [Act.put, List.setIfInBounds_toArray, List.set_cons_zero, List.set_cons_succ]
            refine tk 43 ?_
            simp only [Act.put, List.setIfInBounds_toArray, List.set_cons_zero, List.set_cons_succ]
            refine tk 44 ?_
            simp only [Act.put, List.setIfInBounds_toArray, List.set_cons_zero, List.set_cons_succ]
            refine tk 46 ?_
            simp only [Act.put, List.setIfInBounds_toArray, List.set_cons_zero, List.set_cons_succ]
            have CO := opn_any TW.out.d TW.out.ok
            rw [HOL.out] at CO
            replace CO := Kept.mk CO
            refine ld 45 (fun K hK => ?_)
            go_simp
            go_at_call 19
            refine CO.out.mono ?_
            rintro e w11 ⟨v11, rfl, o11, bb⟩
            obtain ⟨A11, c11, rfl⟩ := own_shape o11
            have R11 := Kept.mk (ri_own o11 rfl)
            have hlow := TW.out.low
            replace TW := Kept.mk (TW.out.below bb)
            replace B := Kept.mk (low_trans B.out bb hlow)
            clear bb hlow hHeld CO o11
            refine hK.out _ _ (AT.out _ B.out) (fun hHeld => ?_)
            clear hK K
            try simp only [Act.put, List.setIfInBounds_toArray, List.set_cons_zero, List.set_cons_succ]
            obtain ⟨ur, vr, RV, hG⟩ := TW.out.r
            have CO := ropen_any RV TW.out.ok
            rw [HOL.out] at CO
            replace CO := Kept.mk CO
            clear RV hG
            refine ld 47 (fun K hK => ?_)
            go_simp
            go_at_call 20
            refine CO.out.mono ?_
            rintro e w12 ⟨v12, rfl, o12, bb⟩
            obtain ⟨A12, c12, rfl⟩ := own_shape o12
            have R12 := Kept.mk (ri_own o12 rfl)
            replace R11 := Kept.mk (R11.out.below bb)
            have hlow := TW.out.low
            replace TW := Kept.mk (TW.out.below bb)
            replace B := Kept.mk (low_trans B.out bb hlow)
            clear bb hlow hHeld CO o12
            refine hK.out _ _ (AT.out _ B.out) (fun hHeld => ?_)
            clear hK K
            try simp only [Act.put, List.setIfInBounds_toArray, List.set_cons_zero, List.set_cons_succ]
            have CI := intsame_any A11 A12 ol.length ol.length c11 c12 ol ol w12 R11.out R12.out HON.out
            rw [sameB_self] at CI
            replace CI := Kept.mk CI
            refine ld 48 (fun K hK => ?_)
            go_simp
            go_at_call 18
            refine CI.out.mono ?_
            rintro e w13 ⟨rfl, bb⟩
            have hlow := TW.out.low
            replace TW := Kept.mk (TW.out.below bb)
            replace B := Kept.mk (low_trans B.out bb hlow)
            clear bb hlow hHeld CI R11 R12
            refine hK.out _ _ (AT.out _ B.out) (fun hHeld => ?_)
            clear hK K
            try simp only [Act.put, List.setIfInBounds_toArray, List.set_cons_zero, List.set_cons_succ]
            refine tk 49 ?_
            simp only [Act.put, List.setIfInBounds_toArray, List.set_cons_zero, List.set_cons_succ]
            refine tk 50 ?_
            simp only [Act.put, List.setIfInBounds_toArray, List.set_cons_zero, List.set_cons_succ]
            refine wpAnyH_done (by kernel_rfl) ?_ _
            refine NoPanic.normal ?_
            clear hHeld HML HOL HMN HON
            go_wp2
            go_roundw
            case rel => exact ⟨k + 1, C2, F2, G2, by omega, by go_num, TW, B⟩
            case measure => simp only [Go.RowKit.intOf]; omega
          · go_simp
            clear hHeld
            refine hK.out _ _ (AT.out _ B.out) (fun hHeld => ?_)
            clear hK K
            try simp only [Act.put, List.setIfInBounds_toArray, List.set_cons_zero, List.set_cons_succ]
            refine tk 32 ?_
            simp only [Act.put, List.setIfInBounds_toArray, List.set_cons_zero, List.set_cons_succ]
            refine ld 27 (fun K hK => ?_)
            go_simp
            go_at_call 14
            refine CL.out.mono ?_
            rintro e w7' ⟨rfl, rfl⟩
            clear hHeld CL
            refine hK.out _ _ (AT.out _ B.out) (fun hHeld => ?_)
            clear hK K
            try simp only [Act.put, List.setIfInBounds_toArray, List.set_cons_zero, List.set_cons_succ]
            clear hy
            obtain ⟨ml, hml⟩ : ∃ z, matched (tr C2) = z := ⟨_, rfl⟩
            obtain ⟨ol, hol⟩ : ∃ z, openI (tr C2) = z := ⟨_, rfl⟩
            have HML := Kept.mk hml; have HOL := Kept.mk hol
            have HMN : Kept (ml.length ≤ 9223372036854775807) := ⟨hml ▸ mat_few TW.out.ok⟩
            have HON : Kept (ol.length ≤ 9223372036854775807) := ⟨hol ▸ opn_few TW.out.ok⟩
            clear hml hol
            refine tk 33 ?_
            simp only [Act.put, List.setIfInBounds_toArray, List.set_cons_zero, List.set_cons_succ]
            refine tk 34 ?_
            simp only [Act.put, List.setIfInBounds_toArray, List.set_cons_zero, List.set_cons_succ]
            refine tk 35 ?_
            simp only [Act.put, List.setIfInBounds_toArray, List.set_cons_zero, List.set_cons_succ]
            refine tk 36 ?_
            simp only [Act.put, List.setIfInBounds_toArray, List.set_cons_zero, List.set_cons_succ]
            refine tk 38 ?_
            simp only [Act.put, List.setIfInBounds_toArray, List.set_cons_zero, List.set_cons_succ]
            have CM := mat_any TW.out.d TW.out.ok
            rw [HML.out] at CM
            replace CM := Kept.mk CM
            refine ld 37 (fun K hK => ?_)
            go_simp
            go_at_call 16
            refine CM.out.mono ?_
            rintro e w8 ⟨v8, rfl, o8, bb⟩
            obtain ⟨A8, c8, rfl, -, -, r8⟩ := Rc.own tvC_len o8 rfl
            have R8 := Kept.mk r8
            have hlow := TW.out.low
            replace TW := Kept.mk (TW.out.below bb)
            replace B := Kept.mk (low_trans B.out bb hlow)
            clear bb hlow hHeld CM o8 r8
            refine hK.out _ _ (AT.out _ B.out) (fun hHeld => ?_)
            clear hK K
            try simp only [Act.put, List.setIfInBounds_toArray, List.set_cons_zero, List.set_cons_succ]
            obtain ⟨ur, vr, RV, hG⟩ := TW.out.r
            have CM := rmatched_any RV TW.out.ok
            rw [HML.out] at CM
            replace CM := Kept.mk CM
            clear RV hG
            refine ld 39 (fun K hK => ?_)
            go_simp
            go_at_call 17
            refine CM.out.mono ?_
            rintro e w9 ⟨v9, rfl, o9, bb⟩
            obtain ⟨A9, c9, rfl, -, -, r9⟩ := Rc.own tvC_len o9 rfl
            have R9 := Kept.mk r9
            replace R8 := Kept.mk (R8.out.below bb)
            have hlow := TW.out.low
            replace TW := Kept.mk (TW.out.below bb)
            replace B := Kept.mk (low_trans B.out bb hlow)
            clear bb hlow hHeld CM o9 r9
            refine hK.out _ _ (AT.out _ B.out) (fun hHeld => ?_)
            clear hK K
            try simp only [Act.put, List.setIfInBounds_toArray, List.set_cons_zero, List.set_cons_succ]
            have CS := Kept.mk (same_yes A8 A9 ml.length c8 c9 ml w9 R8.out R9.out HMN.out)
            refine ld 40 (fun K hK => ?_)
            go_simp
            go_at_call 15
            refine CS.out.mono ?_
            rintro e w10 ⟨rfl, bb⟩
            have hlow := TW.out.low
            replace TW := Kept.mk (TW.out.below bb)
            replace B := Kept.mk (low_trans B.out bb hlow)
            clear bb hlow hHeld CS R8 R9
            refine hK.out _ _ (AT.out _ B.out) (fun hHeld => ?_)
            clear hK K
            try simp only [Act.put, List.setIfInBounds_toArray, List.set_cons_zero, List.set_cons_succ]
            refine tk 41 ?_
            simp only [Act.put, List.setIfInBounds_toArray, List.set_cons_zero, List.set_cons_succ]
            refine tk 42 ?_
            simp only [Act.put, List.setIfInBounds_toArray, List.set_cons_zero, List.set_cons_succ]
            refine tk 43 ?_
            simp only [Act.put, List.setIfInBounds_toArray, List.set_cons_zero, List.set_cons_succ]
            refine tk 44 ?_
            simp only [Act.put, List.setIfInBounds_toArray, List.set_cons_zero, List.set_cons_succ]
            refine tk 46 ?_
            simp only [Act.put, List.setIfInBounds_toArray, List.set_cons_zero, List.set_cons_succ]
            have CO := opn_any TW.out.d TW.out.ok
            rw [HOL.out] at CO
            replace CO := Kept.mk CO
            refine ld 45 (fun K hK => ?_)
            go_simp
            go_at_call 19
            refine CO.out.mono ?_
            rintro e w11 ⟨v11, rfl, o11, bb⟩
            obtain ⟨A11, c11, rfl⟩ := own_shape o11
            have R11 := Kept.mk (ri_own o11 rfl)
            have hlow := TW.out.low
            replace TW := Kept.mk (TW.out.below bb)
            replace B := Kept.mk (low_trans B.out bb hlow)
            clear bb hlow hHeld CO o11
            refine hK.out _ _ (AT.out _ B.out) (fun hHeld => ?_)
            clear hK K
            try simp only [Act.put, List.setIfInBounds_toArray, List.set_cons_zero, List.set_cons_succ]
            obtain ⟨ur, vr, RV, hG⟩ := TW.out.r
            have CO := ropen_any RV TW.out.ok
            rw [HOL.out] at CO
            replace CO := Kept.mk CO
            clear RV hG
            refine ld 47 (fun K hK => ?_)
            go_simp
            go_at_call 20
            refine CO.out.mono ?_
            rintro e w12 ⟨v12, rfl, o12, bb⟩
            obtain ⟨A12, c12, rfl⟩ := own_shape o12
            have R12 := Kept.mk (ri_own o12 rfl)
            replace R11 := Kept.mk (R11.out.below bb)
            have hlow := TW.out.low
            replace TW := Kept.mk (TW.out.below bb)
            replace B := Kept.mk (low_trans B.out bb hlow)
            clear bb hlow hHeld CO o12
            refine hK.out _ _ (AT.out _ B.out) (fun hHeld => ?_)
            clear hK K
            try simp only [Act.put, List.setIfInBounds_toArray, List.set_cons_zero, List.set_cons_succ]
            have CI := intsame_any A11 A12 ol.length ol.length c11 c12 ol ol w12 R11.out R12.out HON.out
            rw [sameB_self] at CI
            replace CI := Kept.mk CI
            refine ld 48 (fun K hK => ?_)
            go_simp
            go_at_call 18
            refine CI.out.mono ?_
            rintro e w13 ⟨rfl, bb⟩
            have hlow := TW.out.low
            replace TW := Kept.mk (TW.out.below bb)
            replace B := Kept.mk (low_trans B.out bb hlow)
            clear bb hlow hHeld CI R11 R12
            refine hK.out _ _ (AT.out _ B.out) (fun hHeld => ?_)
            clear hK K
            try simp only [Act.put, List.setIfInBounds_toArray, List.set_cons_zero, List.set_cons_succ]
            refine tk 49 ?_
            simp only [Act.put, List.setIfInBounds_toArray, List.set_cons_zero, List.set_cons_succ]
            refine tk 50 ?_
            simp only [Act.put, List.setIfInBounds_toArray, List.set_cons_zero, List.set_cons_succ]
            refine wpAnyH_done (by kernel_rfl) ?_ _
            refine NoPanic.normal ?_
            clear hHeld HML HOL HMN HON
            go_wp2
            go_roundw
            case rel => exact ⟨k + 1, C2, F2, G2, by omega, by go_num, TW, B⟩
            case measure => simp only [Go.RowKit.intOf]; omega
        · have hkn' : ¬ (k : Int) < n := by omega
          obtain rfl : k = n := by omega
          go_wp2_with fail
          refine (tfirst_any wr).mono ?_
          rintro e w2 ⟨rfl, bb⟩
          replace B := Kept.mk (low_trans B.out bb (hN ▸ B.out.size))
          clear bb
          go_wp2
          go_ret
          exact ⟨rfl, B.out⟩
end Go.Proofs.Ythhjmbbfibgjpaa.Trade
