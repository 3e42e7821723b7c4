/-
  The document's desk: Open.
-/
import Derived.Test.YthhjmbbfibgjpaaTradeRIds
import Derived.Test.YthhjmbbfibgjpaaTradeRPair
namespace Go.Proofs.Ythhjmbbfibgjpaa.Trade
open Go.RowKit Go.Proofs.Ythhjmbbfibgjpaa.Sha

set_option maxRecDepth 100000 in
set_option maxHeartbeats 2000000 in
theorem ropen_any {N x : Nat} {p c a : Int} {u v : Value} {C : List CV} {w : World} (h : Rv N w x p c a u v C) (hC : Okc C) :
    Calls Try.prog 20 #[.pointer (some ⟨x, 0, none⟩)] w (IdsP (openI (tr C)) w) := by
  have CB := Kept.mk (rids_any h hC)
  have H0 := Kept.mk h
  have OK := Kept.mk hC
  obtain ⟨l, hl⟩ : ∃ z, tr C = z := ⟨_, rfl⟩
  rw [hl] at CB ⊢
  have HLT := Kept.mk hl
  have HLN : Kept (l.length ≤ 400) := ⟨by rw [← hl, tr_len]; exact hC.few⟩
  clear h hC hl
  go_enter Try.func20, Try.ntmps20
  go_wp2_with fail
  refine CB.out.mono ?_
  rintro e w3 ⟨vi, rfl, hrow, b3⟩
  obtain ⟨m, hmm⟩ : ∃ z, (ids l).length = z := ⟨_, rfl⟩
  rw [hmm] at hrow
  have HMM := Kept.mk hmm
  obtain ⟨Ai, ci, rfl⟩ := own_shape hrow
  have RI := Kept.mk (ri_own hrow hmm)
  have H3 := Kept.mk (H0.out.below b3)
  have B3 := Kept.mk b3
  have hm4 : m ≤ 400 := by have := ids_len l; have := HLN.out; omega
  clear hrow b3 CB H0 hmm
  obtain ⟨S3, hS3⟩ : ∃ z, w3.heap.size = z := ⟨_, rfl⟩
  go_wp2
  go_loopw [3, 5] (fun ov i wr => ∃ k : Nat, k ≤ m ∧ i = .int .i64 k ∧ Kept (wr.ownsRow S3 3 1 ov (opnT l (k)).length (ints .i64 (opnT l (k)))) ∧ Kept (Below S3 w3 wr)) (fun _ i _ => m - (Go.RowKit.intOf i).toNat)
  case atStart => exact ⟨0, by omega, rfl, ⟨by unfold opnT; exact World.ownsRow_nil _ _ _ _⟩, ⟨Below.refl _ _⟩⟩
  case round =>
    obtain ⟨k, hk, rfl, HO, BW⟩ := hrel
    obtain ⟨Ao, co, rfl⟩ := own_shape HO.out
    by_cases hkm : k < m
    · have hkm' : (k : Int) < m := by omega
      obtain ⟨gi, oi, rfl, hci⟩ := (RI.out.upto BW.out (hS3 ▸ rirow_lt RI.out)).2.resolve_left (by omega)
      have i0 := hci k hkm
      obtain ⟨id, hid⟩ : ∃ z, at_ (ids l) k = z := ⟨_, rfl⟩
      rw [hid] at i0
      have hgt : (ids l)[k]? = some id := by rw [at_eq (by rw [HMM.out]; exact hkm), hid]
      have HT := Kept.mk (opnT_step hgt)
      have HW := H3.out.below (hS3 ▸ BW.out)
      have CA := rpair_any id HW OK.out
      rw [HLT.out] at CA
      have PC := pair_cases id l 0
      generalize pairK id l 0 = pk at *
      replace CA := Kept.mk CA
      clear hci hid hgt
      rcases PC with ⟨rfl, hal⟩ | ⟨j, t, rfl, hj, hal⟩
      · skip
        go_wp2_with fail
        refine CA.out.mono ?_
        rintro e w4 ⟨rfl, b4⟩
        have gs := BW.out.size
        replace BW := Kept.mk (BW.out.trans (b4.mono (hS3 ▸ gs)))
        replace HO := Kept.mk (show w4.ownsRow S3 3 1 (.slice Ao (opnT l (k)).length co) (opnT l (k)).length (ints .i64 (opnT l (k))) from own_keep HO.out (barOf b4 []) (by simp))
        have HAL := Kept.mk hal
        have j0 : w4.cell? ⟨gi, oi + k, none⟩ = some (.int .i64 id) := (b4.cell (World.block_lt_of_cell? _ _ i0)).trans i0
        clear hal CA i0 b4 gs
        have b6 : Below w4.heap.size w4 (w4.alloc (.cells #[.int .i64 id] 3)) := (Below.refl _ _).alloc (Nat.le_refl _) _
        have NC := new_cells w4 3 [.int .i64 id]
        have gs5 := BW.out.size
        replace BW := Kept.mk (BW.out.trans (b6.mono (hS3 ▸ gs5)))
        replace HO := Kept.mk (show (w4.alloc (.cells #[.int .i64 id] 3)).ownsRow S3 3 1 (.slice Ao (opnT l (k)).length co) (opnT l (k)).length (ints .i64 (opnT l (k))) from own_keep HO.out (barOf b6 []) (by simp))
        obtain ⟨iu, hi, hz0, hz1, hz2⟩ := info_parts info_int
        have hlt : (opnT l (k)).length ≤ 400 := Nat.le_trans (opnT_len l k) (by have := ids_len l; have := HLN.out; omega)
        clear b6 gs5
        go_wp2_with ((with_reducible refine sel 27 ?_); refine wpList_append_own_at _ rfl (.tmp 21) (.tmp 26) 38 rfl S3 3 iu (.int .i64 0) 1 8 Try.underlying38 hi hz0 hz1 hz2 rfl (by omega) _ _ _ rfl HO.out ⟨w4.heap.size, 0, none⟩ 1 1 [.int .i64 id] rfl rfl NC (by intro u hu; simp only [List.mem_cons, List.not_mem_nil, or_false] at hu; subst hu; rfl) (by unfold maxLen; omega) (by omega) (by have := BW.out.size; omega) ?_; intro v' w' ho hg _ hat)
        have HO2 : Kept (w'.ownsRow S3 3 1 v' (opnT l (k + 1)).length (ints .i64 (opnT l (k + 1)))) := ⟨by
          rw [HT.out, HAL.out]
          skip
          simpa [ints] using ho⟩
        replace BW := Kept.mk (BW.out.trans (own_below HO.out hg (by have := BW.out.size; omega)))
        clear ho hg NC hi hz0 hz1 hz2 HO hat
        go_roundw
        case rel => exact ⟨k + 1, by omega, by go_num, HO2, BW⟩
        case measure => simp only [Go.RowKit.intOf]; omega
      · have hj0 : ¬ ((0 + j : Nat) : Int) < 0 := by omega
        rw [Nat.zero_add] at CA hj0
        have HAL := Kept.mk hal
        clear hal hj
        go_wp2_with fail
        refine CA.out.mono ?_
        rintro e w4 ⟨rfl, b4⟩
        have gs := BW.out.size
        replace BW := Kept.mk (BW.out.trans (b4.mono (hS3 ▸ gs)))
        replace HO := Kept.mk (show w4.ownsRow S3 3 1 (.slice Ao (opnT l (k)).length co) (opnT l (k)).length (ints .i64 (opnT l (k))) from own_keep HO.out (barOf b4 []) (by simp))
        have HO2 : Kept (w4.ownsRow S3 3 1 (.slice Ao (opnT l (k)).length co) (opnT l (k + 1)).length (ints .i64 (opnT l (k + 1)))) := ⟨by rw [HT.out, HAL.out]; simpa using HO.out⟩
        clear HO HT CA i0 b4 gs HAL
        go_wp2
        go_roundw
        case rel => exact ⟨k + 1, by omega, by go_num, HO2, BW⟩
        case measure => simp only [Go.RowKit.intOf]; omega
    · have hkm' : ¬ (k : Int) < m := by omega
      obtain rfl : k = m := by omega
      have HE : Kept (opnT l k = openI l) := ⟨by rw [← HMM.out]; exact opnT_all l⟩
      have HB := Kept.mk (B3.out.trans (BW.out.mono (by have := B3.out.size; omega)))
      have HS : Kept (w.heap.size ≤ S3) := ⟨by have := B3.out.size; omega⟩
      go_wp2
      go_ret
      refine ⟨_, rfl, ?_, HB.out⟩
      rw [← HE.out]
      exact row_base HO.out HS.out
end Go.Proofs.Ythhjmbbfibgjpaa.Trade
