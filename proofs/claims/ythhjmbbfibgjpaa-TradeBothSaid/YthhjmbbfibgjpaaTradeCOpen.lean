/-
  Package trade: Open.
-/
import Derived.Test.YthhjmbbfibgjpaaTradeByID
import Derived.Test.YthhjmbbfibgjpaaTradeIter
import Derived.Test.YthhjmbbfibgjpaaTradeAlike
import Derived.Test.YthhjmbbfibgjpaaTradeTake
namespace Go.Proofs.Ythhjmbbfibgjpaa.Trade
open Go.RowKit Go.Proofs.Ythhjmbbfibgjpaa.Sha

set_option maxRecDepth 100000 in
set_option maxHeartbeats 2000000 in
theorem open_any {N x : Nat} {p c a : Int} {v : Value} {C : List CV} {w : World} (h : Tv N w x p c a v C) (hC : Okc C) :
    Calls Try.prog 19 #[.pointer (some ⟨x, 0, none⟩)] w (IdsP (openI (tr C)) w) := by
  have CB := Kept.mk (byID_any h hC)
  have OK : Kept (∀ t ∈ tr C, 0 ≤ t.id ∧ t.id < 65536) := ⟨hC.id⟩
  have HLN : Kept ((tr C).length ≤ 400) := ⟨by rw [tr_len]; exact hC.few⟩
  clear h hC
  generalize tr C = l at *
  go_enter Try.func19, Try.ntmps19
  go_wp2_with fail
  refine CB.out.mono ?_
  rintro e w1 ⟨g, rfl, hm, b1⟩
  clear CB
  obtain ⟨w2, hw2⟩ : ∃ z, w1.alloc (.cells #[.map (some g)] 58) = z := ⟨_, rfl⟩
  have b2 : Below w1.heap.size w1 w2 := hw2 ▸ (Below.refl _ _).alloc (Nat.le_refl _) _
  obtain ⟨Bm, hBm⟩ : ∃ z, w1.heap.size = z := ⟨_, rfl⟩
  have YB : Blk w2 Bm 58 #[.map (some g)] := hw2 ▸ Blk.new_at w1 _ _ _ hBm.symm
  have CK := Kept.mk (keys_any g w1)
  rw [hBm, hw2] at CK
  have CS := Kept.mk (sorted_any w2 w.heap.size g Bm l (hm.below b2) (by have := HLN.out; omega) (YB.cell 0))
  have M2 := Kept.mk (hm.below b2)
  have B2 := Kept.mk (b1.trans (b2.mono b1.size))
  clear hm b1 b2 YB hw2 hBm
  go_wp2_with fail
  refine CK.out.mono ?_
  rintro e w2' ⟨rfl, rfl⟩
  clear CK
  go_wp2_with fail
  refine CS.out.mono ?_
  rintro e w3 ⟨vi, rfl, hrow, b3⟩
  obtain ⟨m, hmm⟩ : ∃ z, (ids l).length = z := ⟨_, rfl⟩
  rw [hmm] at hrow
  have HMM := Kept.mk hmm
  obtain ⟨Ai, ci, rfl⟩ := own_shape hrow
  have RI := Kept.mk (ri_own hrow hmm)
  have M3 := Kept.mk (M2.out.below b3)
  have B3 := Kept.mk (B2.out.trans (b3.mono B2.out.size))
  have hm4 : m ≤ 400 := by have := ids_len l; have := HLN.out; omega
  clear hrow b3 CS M2 B2 hmm
  obtain ⟨S3, hS3⟩ : ∃ z, w3.heap.size = z := ⟨_, rfl⟩
  go_wp2
  go_loopw [3, 15] (fun ov i wr => ∃ k : Nat, k ≤ m ∧ i = .int .i64 k ∧ Kept (wr.ownsRow S3 3 1 ov (opnT l (k)).length (ints .i64 (opnT l (k)))) ∧ Kept (Below S3 w3 wr)) (fun _ i _ => m - (Go.RowKit.intOf i).toNat)
  case atStart => exact ⟨0, by omega, rfl, ⟨by unfold opnT; exact World.ownsRow_nil _ _ _ _⟩, ⟨Below.refl _ _⟩⟩
  case round =>
    obtain ⟨k, hk, rfl, HO, BW⟩ := hrel
    obtain ⟨Ao, co, rfl⟩ := own_shape HO.out
    by_cases hkm : k < m
    · have hkm' : (k : Int) < m := by omega
      obtain ⟨gi, oi, rfl, hci⟩ := (RI.out.upto BW.out (hS3 ▸ rirow_lt RI.out)).2.resolve_left (by omega)
      have i0 := hci k hkm
      obtain ⟨id, hid⟩ : ∃ z, at_ (ids l) k = z := ⟨_, rfl⟩
      rw [hid] at i0
      have hgt : (ids l)[k]? = some id := by rw [at_eq (by rw [HMM.out]; exact hkm), hid]
      have HT := Kept.mk (opnT_step hgt)
      have HID : 0 ≤ id ∧ id < 65536 := by
        obtain ⟨t, ht, e⟩ := (ids_mem id l).1 (List.mem_of_getElem? hgt)
        exact e ▸ OK.out t ht
      have MW := Kept.mk (M3.out.below (hS3 ▸ BW.out))
      obtain ⟨vl, hlook, hvr, -⟩ := MW.out.look HID
      replace hlook := hlook wr rfl
      obtain ⟨Al, cl, rfl, hl1, hl2, RL⟩ := hvr.ow.rc tvC_len
      have CA := alike_any Al (ofID id l).length cl (ofID id l) wr RL hl1 (by have := ofID_len id l; have := HLN.out; omega)
      obtain ⟨nl, hnl⟩ : ∃ z, (ofID id l).length = z := ⟨_, rfl⟩
      rw [hnl] at CA hlook
      clear hci hid hgt hvr RL hl1 hl2 hnl HID
      unfold AlikeP at CA
      generalize alike (ofID id l) = al at *
      obtain ⟨bq, hbq⟩ : ∃ z, al.isSome = z := ⟨_, rfl⟩
      rw [hbq] at CA
      have HBQ := Kept.mk hbq
      replace CA := Kept.mk CA
      clear hbq
      go_wp2_with fail
      refine CA.out.mono ?_
      rintro e w4 ⟨t, rfl, ht, b4⟩
      have ht2 := Kept.mk ht
      have gs := BW.out.size
      replace BW := Kept.mk (BW.out.trans (b4.mono (hS3 ▸ gs)))
      replace HO := Kept.mk (show w4.ownsRow S3 3 1 (.slice Ao (opnT l (k)).length co) (opnT l (k)).length (ints .i64 (opnT l (k))) from own_keep HO.out (barOf b4 []) (by simp))
      clear CA MW i0 hlook ht b4 gs
      obtain ⟨t1, t2, t3, t4, t5, t6, t7⟩ := t
      unfold tvV
      dsimp only
      obtain ⟨w5, hw5⟩ : ∃ z, w4.alloc (.cells #[.int .i64 t1, .int .i64 t2, .int .i64 t3, .int .i64 t4, .int .i64 t5, .int .i64 t6, .int .i64 t7] 33) = z := ⟨_, rfl⟩
      obtain ⟨M, hM⟩ : ∃ z, w4.heap.size = z := ⟨_, rfl⟩
      have b5 : Below w4.heap.size w4 w5 := hw5 ▸ (Below.refl _ _).alloc (Nat.le_refl _) _
      have Y : Kept (Blk w5 M 33 #[.int .i64 t1, .int .i64 t2, .int .i64 t3, .int .i64 t4, .int .i64 t5, .int .i64 t6, .int .i64 t7]) := ⟨hw5 ▸ Blk.new_at w4 _ _ _ hM.symm⟩
      replace BW := Kept.mk (BW.out.trans (b5.mono (hS3 ▸ BW.out.size)))
      replace HO := Kept.mk (show w5.ownsRow S3 3 1 (.slice Ao (opnT l (k)).length co) (opnT l (k)).length (ints .i64 (opnT l (k))) from own_keep HO.out (barOf b5 []) (by simp))
      clear b5
      cases al with
      | some u =>
        obtain rfl : bq = true := HBQ.out.symm
        have HO2 : Kept (w5.ownsRow S3 3 1 (.slice Ao (opnT l (k)).length co) (opnT l (k + 1)).length (ints .i64 (opnT l (k + 1)))) := ⟨by rw [HT.out]; simpa using HO.out⟩
        clear HO HT
        go_wp2
        go_roundw
        case rel => exact ⟨k + 1, by omega, by go_num, HO2, BW⟩
        case measure => simp only [Go.RowKit.intOf]; omega
      | none =>
        obtain rfl : bq = false := HBQ.out.symm
        have HS : Kept (True) := ⟨trivial⟩
        clear ht2
        have b6 : Below w5.heap.size w5 (w5.alloc (.cells #[.int .i64 id] 3)) := (Below.refl _ _).alloc (Nat.le_refl _) _
        have NC := new_cells w5 3 [.int .i64 id]
        have gs5 := BW.out.size
        replace BW := Kept.mk (BW.out.trans (b6.mono (hS3 ▸ gs5)))
        replace HO := Kept.mk (show (w5.alloc (.cells #[.int .i64 id] 3)).ownsRow S3 3 1 (.slice Ao (opnT l (k)).length co) (opnT l (k)).length (ints .i64 (opnT l (k))) from own_keep HO.out (barOf b6 []) (by simp))
        obtain ⟨iu, hi, hz0, hz1, hz2⟩ := info_parts info_int
        have hlt : (opnT l (k)).length ≤ 400 := Nat.le_trans (opnT_len l k) (by have := ids_len l; have := HLN.out; omega)
        clear b6 gs5
        go_wp2_with ((with_reducible refine sel 31 ?_); refine wpList_append_own_at _ rfl (.tmp 28) (.tmp 30) 38 rfl S3 3 iu (.int .i64 0) 1 8 Try.underlying38 hi hz0 hz1 hz2 rfl (by omega) _ _ _ rfl HO.out ⟨w5.heap.size, 0, none⟩ 1 1 [.int .i64 id] rfl rfl NC (by intro u hu; simp only [List.mem_cons, List.not_mem_nil, or_false] at hu; subst hu; rfl) (by unfold maxLen; omega) (by omega) (by have := BW.out.size; omega) ?_; intro v' w' ho hg _ hat)
        have HO2 : Kept (w'.ownsRow S3 3 1 v' (opnT l (k + 1)).length (ints .i64 (opnT l (k + 1)))) := ⟨by
          rw [HT.out]
          skip
          simpa [ints] using ho⟩
        replace BW := Kept.mk (BW.out.trans (own_below HO.out hg (by have := BW.out.size; omega)))
        clear ho hg NC hi hz0 hz1 hz2 HO Y hat
        go_roundw
        case rel => exact ⟨k + 1, by omega, by go_num, HO2, BW⟩
        case measure => simp only [Go.RowKit.intOf]; omega
    · have hkm' : ¬ (k : Int) < m := by omega
      obtain rfl : k = m := by omega
      have HE : Kept (opnT l k = openI l) := ⟨by rw [← HMM.out]; exact opnT_all l⟩
      have HB := Kept.mk (B3.out.trans (BW.out.mono (by have := B3.out.size; omega)))
      have HS : Kept (w.heap.size ≤ S3) := ⟨by have := B3.out.size; omega⟩
      go_wp2
      go_ret
      refine ⟨_, rfl, ?_, HB.out⟩
      rw [← HE.out]
      exact row_base HO.out HS.out
end Go.Proofs.Ythhjmbbfibgjpaa.Trade
