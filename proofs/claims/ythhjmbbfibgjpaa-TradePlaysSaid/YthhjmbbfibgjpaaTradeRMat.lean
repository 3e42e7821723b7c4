/-
  The document's desk: Matched.
-/
import Derived.Test.YthhjmbbfibgjpaaTradeRIds
import Derived.Test.YthhjmbbfibgjpaaTradeRPair
namespace Go.Proofs.Ythhjmbbfibgjpaa.Trade
open Go.RowKit Go.Proofs.Ythhjmbbfibgjpaa.Sha

set_option maxRecDepth 100000 in
set_option maxHeartbeats 2000000 in
theorem rmatched_any {N x : Nat} {p c a : Int} {u v : Value} {C : List CV} {w : World} (h : Rv N w x p c a u v C) (hC : Okc C) :
    Calls Try.prog 17 #[.pointer (some ⟨x, 0, none⟩)] w (TradesP (matched (tr C)) w) := by
  have CB := Kept.mk (rids_any h hC)
  have H0 := Kept.mk h
  have OK := Kept.mk hC
  obtain ⟨l, hl⟩ : ∃ z, tr C = z := ⟨_, rfl⟩
  rw [hl] at CB ⊢
  have HLT := Kept.mk hl
  have HLN : Kept (l.length ≤ 400) := ⟨by rw [← hl, tr_len]; exact hC.few⟩
  clear h hC hl
  go_enter Try.func17, Try.ntmps17
  go_wp2_with fail
  refine CB.out.mono ?_
  rintro e w3 ⟨vi, rfl, hrow, b3⟩
  obtain ⟨m, hmm⟩ : ∃ z, (ids l).length = z := ⟨_, rfl⟩
  rw [hmm] at hrow
  have HMM := Kept.mk hmm
  obtain ⟨Ai, ci, rfl⟩ := own_shape hrow
  have RI := Kept.mk (ri_own hrow hmm)
  have H3 := Kept.mk (H0.out.below b3)
  have B3 := Kept.mk b3
  have hm4 : m ≤ 400 := by have := ids_len l; have := HLN.out; omega
  clear hrow b3 CB H0 hmm
  obtain ⟨S3, hS3⟩ : ∃ z, w3.heap.size = z := ⟨_, rfl⟩
  go_wp2
  go_loopw [3, 5] (fun ov i wr => ∃ k : Nat, k ≤ m ∧ i = .int .i64 k ∧ Kept (Tr S3 wr ov (matT l (k))) ∧ Kept (Below S3 w3 wr)) (fun _ i _ => m - (Go.RowKit.intOf i).toNat)
  case atStart => exact ⟨0, by omega, rfl, ⟨by unfold matT; exact World.ownsRow_nil _ _ _ _⟩, ⟨Below.refl _ _⟩⟩
  case round =>
    obtain ⟨k, hk, rfl, HO, BW⟩ := hrel
    obtain ⟨Ao, co, rfl⟩ := own_shape HO.out
    by_cases hkm : k < m
    · have hkm' : (k : Int) < m := by omega
      obtain ⟨gi, oi, rfl, hci⟩ := (RI.out.upto BW.out (hS3 ▸ rirow_lt RI.out)).2.resolve_left (by omega)
      have i0 := hci k hkm
      obtain ⟨id, hid⟩ : ∃ z, at_ (ids l) k = z := ⟨_, rfl⟩
      rw [hid] at i0
      have hgt : (ids l)[k]? = some id := by rw [at_eq (by rw [HMM.out]; exact hkm), hid]
      have HT := Kept.mk (matT_step hgt)
      have HW := H3.out.below (hS3 ▸ BW.out)
      have CA := rpair_any id HW OK.out
      rw [HLT.out] at CA
      have PC := pair_cases id l 0
      generalize pairK id l 0 = pk at *
      replace CA := Kept.mk CA
      clear hci hid hgt
      rcases PC with ⟨rfl, hal⟩ | ⟨j, t, rfl, hj, hal⟩
      · have HAL := Kept.mk hal
        clear hal
        go_wp2_with fail
        refine CA.out.mono ?_
        rintro e w4 ⟨rfl, b4⟩
        have gs := BW.out.size
        replace BW := Kept.mk (BW.out.trans (b4.mono (hS3 ▸ gs)))
        replace HO := Kept.mk (show Tr S3 w4 (.slice Ao (matT l (k)).length co) (matT l (k)) from own_keep HO.out (barOf b4 []) (by simp))
        have HO2 : Kept (Tr S3 w4 (.slice Ao (matT l (k)).length co) (matT l (k + 1))) := ⟨by rw [HT.out, HAL.out]; simpa using HO.out⟩
        clear HO HT CA i0 b4 gs HAL
        go_wp2
        go_roundw
        case rel => exact ⟨k + 1, by omega, by go_num, HO2, BW⟩
        case measure => simp only [Go.RowKit.intOf]; omega
      · have hj0 : (0 : Int) ≤ ((0 + j : Nat) : Int) := by omega
        rw [Nat.zero_add] at CA hj0
        go_wp2_with fail
        refine CA.out.mono ?_
        rintro e w4 ⟨rfl, b4⟩
        have gs := BW.out.size
        replace BW := Kept.mk (BW.out.trans (b4.mono (hS3 ▸ gs)))
        replace HO := Kept.mk (show Tr S3 w4 (.slice Ao (matT l (k)).length co) (matT l (k)) from own_keep HO.out (barOf b4 []) (by simp))
        have H4 := Kept.mk (H3.out.below (hS3 ▸ BW.out))
        obtain ⟨A, cp, hv, h1, h2, RL⟩ := H4.out.rc
        have hjn : j < C.length := by
          have := (List.getElem?_eq_some_iff.1 hj).1
          rwa [← HLT.out, tr_len] at this
        obtain ⟨gl, ol, t', rfl, ht', tc⟩ := RL.at_ hjn
        rw [HLT.out, hj] at ht'
        injection ht' with ht'
        subst ht'
        have c4 : w4.cell? ⟨x, 4, none⟩ = some v := H4.out.blk.cell 4
        rw [hv] at c4
        have hjn' : (j : Int) < C.length := by omega
        obtain ⟨t1, t2, t3, t4, t5, t6, t7⟩ := t
        have HAL := Kept.mk hal
        clear RL h1 h2 hj hal hv H4
        have y0 : w4.cell? ⟨gl, ol + j * 7, none⟩ = some (.int .i64 t1) := tc 0 _ rfl
        have y1 : w4.cell? ⟨gl, ol + j * 7 + 1, none⟩ = some (.int .i64 t2) := tc 1 _ rfl
        have y2 : w4.cell? ⟨gl, ol + j * 7 + 2, none⟩ = some (.int .i64 t3) := tc 2 _ rfl
        have y3 : w4.cell? ⟨gl, ol + j * 7 + 3, none⟩ = some (.int .i64 t4) := tc 3 _ rfl
        have y4 : w4.cell? ⟨gl, ol + j * 7 + 4, none⟩ = some (.int .i64 t5) := tc 4 _ rfl
        have y5 : w4.cell? ⟨gl, ol + j * 7 + 5, none⟩ = some (.int .i64 t6) := tc 5 _ rfl
        have y6 : w4.cell? ⟨gl, ol + j * 7 + 6, none⟩ = some (.int .i64 t7) := tc 6 _ rfl
        clear tc CA i0 b4 gs
        have b6 : Below w4.heap.size w4 (w4.alloc (.cells #[.int .i64 t1, .int .i64 t2, .int .i64 t3, .int .i64 t4, .int .i64 t5, .int .i64 t6, .int .i64 t7] 33)) := (Below.refl _ _).alloc (Nat.le_refl _) _
        have NC := new_cells w4 33 [.int .i64 t1, .int .i64 t2, .int .i64 t3, .int .i64 t4, .int .i64 t5, .int .i64 t6, .int .i64 t7]
        have gs5 := BW.out.size
        replace BW := Kept.mk (BW.out.trans (b6.mono (hS3 ▸ gs5)))
        replace HO := Kept.mk (show Tr S3 (w4.alloc (.cells #[.int .i64 t1, .int .i64 t2, .int .i64 t3, .int .i64 t4, .int .i64 t5, .int .i64 t6, .int .i64 t7] 33)) (.slice Ao (matT l (k)).length co) (matT l (k)) from own_keep HO.out (barOf b6 []) (by simp))
        obtain ⟨iu, hi, hz0, hz1, hz2⟩ := info_parts info_tv
        have hlt : (matT l (k)).length ≤ 400 := Nat.le_trans (matT_len l k) (by have := ids_len l; have := HLN.out; omega)
        clear b6 gs5
        go_wp2_with ((with_reducible refine sel 32 ?_); refine wpList_append_own_at _ rfl (.tmp 23) (.tmp 31) 39 rfl S3 33 iu (tvV zeroT) 7 56 Try.underlying39 hi hz0 hz1 hz2 rfl (by omega) _ _ _ rfl HO.out ⟨w4.heap.size, 0, none⟩ 1 1 [.int .i64 t1, .int .i64 t2, .int .i64 t3, .int .i64 t4, .int .i64 t5, .int .i64 t6, .int .i64 t7] rfl rfl NC (by intro u hu; simp only [List.mem_cons, List.not_mem_nil, or_false] at hu; rcases hu with rfl | rfl | rfl | rfl | rfl | rfl | rfl <;> rfl) (by unfold maxLen; omega) (by omega) (by have := BW.out.size; omega) ?_; intro v' w' ho hg _ hat)
        have HO2 : Kept (Tr S3 w' v' (matT l (k + 1))) := ⟨by
          rw [HT.out, HAL.out]
          unfold Tr
          simpa [tvC] using ho⟩
        replace BW := Kept.mk (BW.out.trans (own_below HO.out hg (by have := BW.out.size; omega)))
        clear ho hg NC hi hz0 hz1 hz2 HO hat
        go_roundw
        case rel => exact ⟨k + 1, by omega, by go_num, HO2, BW⟩
        case measure => simp only [Go.RowKit.intOf]; omega
    · have hkm' : ¬ (k : Int) < m := by omega
      obtain rfl : k = m := by omega
      have HE : Kept (matT l k = matched l) := ⟨by rw [← HMM.out]; exact matT_all l⟩
      have HB := Kept.mk (B3.out.trans (BW.out.mono (by have := B3.out.size; omega)))
      have HS : Kept (w.heap.size ≤ S3) := ⟨by have := B3.out.size; omega⟩
      go_wp2
      go_ret
      refine ⟨_, rfl, ?_, HB.out⟩
      rw [← HE.out]
      exact row_base HO.out HS.out
end Go.Proofs.Ythhjmbbfibgjpaa.Trade
