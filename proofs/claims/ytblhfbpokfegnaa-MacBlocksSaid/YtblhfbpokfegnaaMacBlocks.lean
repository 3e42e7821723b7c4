/-
  The law MacBlocks, walked.
-/
import Derived.Test.YtblhfbpokfegnaaMacFirst
import Derived.Deep.OwnRows
import Derived.Deep.DeepCutAuto
namespace Go.Proofs.Ytblhfbpokfegnaa.Mac
open Go.RowKit Go.Proofs.Ytblhfbpokfegnaa.Sha

theorem made_zeros (n : Nat) : madeCells #[Value.int .u8 0] n = arr .u8 (List.replicate n 0) := by
  apply Array.toList_inj.1
  rw [toList_madeCells_one]
  simp [arr, ints]
def serie (k : Nat) : List Int := (List.range k).map fun i : Nat => (i : Int)
theorem serie_len (k : Nat) : (serie k).length = k := by simp [serie]
theorem serie_at (k j : Nat) (h : j < k) : at_ (serie k) j = j := at_range _ _ _ h
theorem serie_is {l : List Int} {k : Nat} (hl : l.length = k) (h : ∀ j, j < k → at_ l j = j) : l = serie k := by
  apply at_ext
  · rw [hl, serie_len]
  · intro i hi
    rw [h i (by omega), serie_at _ _ (by omega)]
theorem serie_bytes (k : Nat) (h : k ≤ 150) : Bytes (serie k) := by
  intro x hx
  obtain ⟨i, hi, rfl⟩ := List.mem_map.1 hx
  have := List.mem_range.1 hi
  omega
theorem zeros_bytes (n : Nat) : Bytes (List.replicate n (0 : Int)) := by
  intro x hx
  have := List.eq_of_mem_replicate hx
  omega
theorem rep_at (n i : Nat) : at_ (List.replicate n (0 : Int)) i = 0 := by
  simp only [at_, List.getD_eq_getElem?_getD, List.getElem?_replicate]
  split <;> rfl

theorem two_blks (w w2 : World) (a b : Array Value) (N : Nat) (hs : w2.heap.size = N + 1) (T : Tab w2 N) (B : Below w.heap.size w w2) :
    Blk ((w2.alloc (.cells a 5)).alloc (.cells b 5)).drew (N + 1) 5 a ∧ Blk ((w2.alloc (.cells a 5)).alloc (.cells b 5)).drew (N + 1 + 1) 5 b ∧ Tab ((w2.alloc (.cells a 5)).alloc (.cells b 5)).drew N ∧ Below w.heap.size w ((w2.alloc (.cells a 5)).alloc (.cells b 5)).drew := by
  have hb : Bar [] w2 ((w2.alloc (.cells a 5)).alloc (.cells b 5)).drew := (((Bar.refl [] w2).alloc _).alloc _).drew
  exact ⟨((Blk.new_at _ _ _ (N + 1) hs.symm).alloc _).drew, (Blk.new_at _ _ _ (N + 1 + 1) (by simp [hs])).drew, T.bar hb (by simp), B.trans (hb.below B.size (by simp))⟩

set_option maxRecDepth 100000 in
set_option maxHeartbeats 2000000 in
theorem mblocks_bad (a b : Int) (w : World) (hbad : a < 0 ∨ 150 < a ∨ b < 0 ∨ 150 < b) :
    Calls Try.prog 9 #[.int .i64 a, .int .i64 b] w fun e w' => e = .returned (.bool true) ∧ Below w.heap.size w w' := by
  rcases hbad with hbad | hbad | hbad | hbad <;>
  · go_enter Try.func9, Try.ntmps9
    go_wp2_with fail
    refine (mfirst_any _).mono ?_
    rintro e w1 ⟨rfl, b1⟩
    go_wp2_with fail
    refine (newtable_any w1).mono ?_
    rintro e w2 ⟨rfl, rfl⟩
    have b2 := b1.alloc b1.size (.cells (tbl (.int .u32 0) (.int .i32 0) (.int .u32 0) 0 0) 66)
    generalize w1.alloc (.cells (tbl (.int .u32 0) (.int .i32 0) (.int .u32 0) 0 0) 66) = w2 at *
    clear b1
    generalize w1.heap.size = N
    go_wp2_with fail
    all_goals
      refine (mfirst_any _).mono ?_
      rintro e w3 ⟨rfl, b3⟩
      have B3 := Kept.mk (b2.trans (b3.mono b2.size))
      clear b2 b3
      go_wp2
      go_ret
      exact ⟨rfl, B3.out⟩

set_option maxRecDepth 100000 in
set_option maxHeartbeats 4000000 in
theorem mblocks_main (k n : Nat) (w : World) (hk : k ≤ 150) (hn : n ≤ 150) :
    Calls Try.prog 9 #[.int .i64 (k : Int), .int .i64 (n : Int)] w fun e w' => e = .returned (.bool true) ∧ Below w.heap.size w w' := by
  have hmk1 := run_make_row' (P := Try.prog) 29 5 (.int .u8 0) 1 Try.underlying29 info_u8 rfl .i64 .i64 k (by omega) (by omega)
  have hmk2 := run_make_row' (P := Try.prog) 29 5 (.int .u8 0) 1 Try.underlying29 info_u8 rfl .i64 .i64 n (by omega) (by omega)
  rw [made_zeros] at hmk1 hmk2
  go_enter Try.func9, Try.ntmps9
  go_wp2_with fail
  refine (mfirst_any _).mono ?_
  rintro e w1 ⟨rfl, b1⟩
  go_wp2_with fail
  refine (newtable_any w1).mono ?_
  rintro e w2 ⟨rfl, rfl⟩
  obtain ⟨N, hN⟩ : ∃ N, w1.heap.size = N := ⟨_, rfl⟩
  have t2 : Tab (w1.alloc (.cells (tbl (.int .u32 0) (.int .i32 0) (.int .u32 0) 0 0) 66)) N := .inl (Blk.new_at _ _ _ N hN.symm)
  have b2 := b1.alloc b1.size (.cells (tbl (.int .u32 0) (.int .i32 0) (.int .u32 0) 0 0) 66)
  have hlt : w.heap.size ≤ N := hN ▸ b1.size
  have hs2 : (w1.alloc (.cells (tbl (.int .u32 0) (.int .i32 0) (.int .u32 0) 0 0) 66)).heap.size = N + 1 := by simp [hN]
  rw [hN]
  generalize w1.alloc (.cells (tbl (.int .u32 0) (.int .i32 0) (.int .u32 0) 0 0) 66) = w2 at *
  clear b1 hN
  have T := Kept.mk t2; have B := Kept.mk b2
  clear t2 b2
  go_upto_region 6 with (fail)
  go_cut [6, 7] (fun a b wx => ∃ P Q : Nat, a = .slice (some ⟨P, 0, none⟩) k k ∧ b = .slice (some ⟨Q, 0, none⟩) n n ∧ P ≠ Q ∧ N < P ∧ N < Q ∧ Kept (Blk wx P 5 (arr .u8 (List.replicate k 0))) ∧ Kept (Blk wx Q 5 (arr .u8 (List.replicate n 0))) ∧ Kept (Tab wx N) ∧ Kept (Below w.heap.size w wx))
  case first =>
    go_region
    · go_wp2_with fail
      go_meet
      case rel =>
        obtain ⟨q1, q2, q3, q4⟩ := two_blks w w2 (arr .u8 (List.replicate k 0)) (arr .u8 (List.replicate n 0)) N hs2 T.out B.out
        exact ⟨N + 1, N + 1 + 1, rfl, rfl, by omega, by omega, by omega, ⟨q1⟩, ⟨q2⟩, ⟨q3⟩, ⟨q4⟩⟩
    · go_wp2_with fail
      go_meet
      case rel =>
        obtain ⟨q1, q2, q3, q4⟩ := two_blks w w2 (arr .u8 (List.replicate n 0)) (arr .u8 (List.replicate k 0)) N hs2 T.out B.out
        exact ⟨N + 1 + 1, N + 1, rfl, rfl, by omega, by omega, by omega, ⟨q2⟩, ⟨q1⟩, ⟨q3⟩, ⟨q4⟩⟩
  case rest =>
    clear T B hs2 hmk1 hmk2
    obtain ⟨P, Q, rfl, rfl, hPQ, hNP, hNQ, KP, KQ, T, B⟩ := hcut
    go_wp2
    go_loopw [8] (fun i wr => ∃ (j : Nat) (l : List Int), j ≤ k ∧ l.length = k ∧ i = .int .i64 j ∧ Kept (Blk wr P 5 (arr .u8 l)) ∧ Kept (∀ q, q < j → at_ l q = q) ∧ Kept (Blk wr Q 5 (arr .u8 (List.replicate n 0))) ∧ Kept (Tab wr N) ∧ Kept (Below w.heap.size w wr)) (fun i _ => k - (intOf i).toNat)
    case atStart => exact ⟨0, List.replicate k 0, by omega, by simp, rfl, KP, ⟨fun q hq => by omega⟩, KQ, T, B⟩
    case round =>
      clear KP KQ T B
      obtain ⟨j, l, hj, hl, rfl, KP, HJ, KQ, T, B⟩ := hrel
      have HL := Kept.mk hl
      clear hl
      by_cases hjk : j < k
      · have hjk' : (j : Int) < k := by omega
        have c0 := KP.out.at_ j (by rw [HL.out]; exact hjk)
        have z0 := KP.out.frozen j
        have hwr : IntKind.u8.wrap (j : Int) = j := by rw [IntKind.wrap_u8]; omega
        go_wp2
        go_roundw
        case rel =>
          refine ⟨j + 1, l.set j j, by omega, by rw [List.length_set]; exact HL.out, by go_num, ⟨?_⟩, ⟨fun q hq => ?_⟩, ⟨KQ.out.far (by simpa using hPQ.symm) _⟩, ⟨T.out.bar ((Bar.refl [P] wr).setCell (by simp) _) (by simp; omega)⟩, ⟨B.out.setCell (by show w.heap.size ≤ P; omega) _⟩⟩
          · have := KP.out.set_ j (.int .u8 j)
            rw [arr_set] at this
            exact this
          · rw [Sha.at_set _ _ _ _ (by rw [HL.out]; omega)]
            by_cases e : j = q
            · subst e; rw [if_pos rfl]
            · rw [if_neg e]; exact HJ.out q (by omega)
        case measure => simp [intOf]; omega
      · have hjk' : ¬ (j : Int) < k := by omega
        have hser := serie_is HL.out (fun q hq => HJ.out q (by omega))
        rw [hser] at KP
        clear hser HJ HL
        go_wp2_with fail
        refine (mnew_any N (some ⟨P, 0, none⟩) k k (serie k) wr T.out (Rd.blk KP.out (serie_bytes k hk) (serie_len k)) (by omega) (by omega) (by omega)).mono ?_
        rintro e w4 ⟨m, h, rfl, hm, hh, mc, b⟩
        have hPlt := KP.out.lt
        have hQlt := KQ.out.lt
        have hNlt := T.out.lt
        have hmw : w.heap.size ≤ m := by have := B.out.size; omega
        have hhw : w.heap.size ≤ h := by have := B.out.size; omega
        replace KP := Kept.mk (KP.out.bar b (by simp; omega))
        replace KQ := Kept.mk (KQ.out.bar b (by simp; omega))
        replace T : Kept (Tab w4 N) := ⟨.inr mc.2.2.2.2.1⟩
        replace B := Kept.mk (B.out.trans (b.below B.out.size (by simpa using hlt)))
        have MC := Kept.mk mc
        have hPm : m ≠ P := by omega
        have hPh : h ≠ P := by omega
        have hQm : m ≠ Q := by omega
        have hQh : h ≠ Q := by omega
        clear b mc hm hh hPlt hQlt hNlt
        go_wp2
        go_loopw [10] (fun i wr => ∃ (j : Nat) (l : List Int), j ≤ k ∧ l.length = k ∧ i = .int .i64 j ∧ Kept (Blk wr P 5 (arr .u8 l)) ∧ Kept (Blk wr Q 5 (arr .u8 (List.replicate n 0))) ∧ Kept (Tab wr N) ∧ Kept (Mc wr m h N (keyOf (serie k)) []) ∧ Kept (Below w.heap.size w wr)) (fun i _ => k - (intOf i).toNat)
        case atStart => exact ⟨0, serie k, by omega, serie_len k, rfl, KP, KQ, T, MC, B⟩
        case round =>
          clear KP KQ T B MC
          obtain ⟨j, l, hj, hl, rfl, KP, KQ, T, MC, B⟩ := hrel
          have HL := Kept.mk hl
          clear hl
          by_cases hjk : j < k
          · have hjk' : (j : Int) < k := by omega
            have c0 := KP.out.at_ j (by rw [HL.out]; exact hjk)
            have z0 := KP.out.frozen j
            go_wp2
            go_roundw
            case rel =>
              refine ⟨j + 1, l.set j 255, by omega, by rw [List.length_set]; exact HL.out, by go_num, ⟨?_⟩, ⟨KQ.out.far (by simpa using hPQ.symm) _⟩, ⟨T.out.bar ((Bar.refl [P] wr).setCell (by simp) _) (by simp; omega)⟩, ⟨MC.out.bar ((Bar.refl [P] wr).setCell (by simp) _) (by simpa using hPm) (by simpa using hPh) (by simp; omega)⟩, ⟨B.out.setCell (by show w.heap.size ≤ P; omega) _⟩⟩
              have := KP.out.set_ j (.int .u8 255)
              rw [arr_set] at this
              exact this
            case measure => simp [intOf]; omega
          · have hjk' : ¬ (j : Int) < k := by omega
            go_wp2_with fail
            refine (mwrite_any m h N (keyOf (serie k)) [] (List.replicate n 0) (some ⟨Q, 0, none⟩) n n wr MC.out ⟨by simp, zeros_bytes n, .inr ⟨Q, 0, rfl, by omega, fun i hi => by rw [Nat.zero_add]; exact KQ.out.at_ i (by simpa using hi)⟩⟩ (by omega) (by omega) (by simp; omega)).mono ?_
            rintro e w5 ⟨rfl, mc, b⟩
            rw [List.nil_append] at mc
            replace KP := Kept.mk (KP.out.bar b (by simpa using hPh.symm))
            replace KQ := Kept.mk (KQ.out.bar b (by simpa using hQh.symm))
            replace T : Kept (Tab w5 N) := ⟨.inr mc.2.2.2.2.1⟩
            replace B := Kept.mk (B.out.trans (b.below B.out.size (by simpa using hhw)))
            replace MC := Kept.mk mc
            clear b mc
            go_wp2_with fail
            refine (msum_any m h N (keyOf (serie k)) (List.replicate n 0) w5 MC.out (by simp; omega)).mono ?_
            rintro e w6 ⟨M1, rfl, hM1, k1, m1, b⟩
            have hP1 : M1 ≠ P := by have := KP.out.lt; omega
            have hQ1 : M1 ≠ Q := by have := KQ.out.lt; omega
            have hN1 : M1 ≠ N := by have := T.out.lt; omega
            replace KP := Kept.mk (KP.out.bar b (by simp; omega))
            replace KQ := Kept.mk (KQ.out.bar b (by simp; omega))
            replace T : Kept (Tab w6 N) := ⟨.inr m1⟩
            replace B := Kept.mk (B.out.trans (b.below B.out.size (by simpa using hlt)))
            have K1 := Kept.mk (show Blk w6 M1 5 (arr .u8 (hmac (serie k) (List.replicate n 0))) from k1)
            clear b m1 k1 MC hM1
            go_wp2
            go_loopw [12] (fun i wr => ∃ (j : Nat) (l : List Int), j ≤ k ∧ l.length = k ∧ i = .int .i64 j ∧ Kept (Blk wr P 5 (arr .u8 l)) ∧ Kept (∀ q, q < j → at_ l q = q) ∧ Kept (Blk wr Q 5 (arr .u8 (List.replicate n 0))) ∧ Kept (Tab wr N) ∧ Kept (Blk wr M1 5 (arr .u8 (hmac (serie k) (List.replicate n 0)))) ∧ Kept (Below w.heap.size w wr)) (fun i _ => k - (intOf i).toNat)
            case atStart => exact ⟨0, l, by omega, HL.out, rfl, KP, ⟨fun q hq => by omega⟩, KQ, T, K1, B⟩
            case round =>
              clear KP KQ T B K1 HL
              obtain ⟨j, l, hj, hl, rfl, KP, HJ, KQ, T, K1, B⟩ := hrel
              have HL := Kept.mk hl
              clear hl
              by_cases hjk : j < k
              · have hjk' : (j : Int) < k := by omega
                have c0 := KP.out.at_ j (by rw [HL.out]; exact hjk)
                have z0 := KP.out.frozen j
                have hwr : IntKind.u8.wrap (j : Int) = j := by rw [IntKind.wrap_u8]; omega
                go_wp2
                go_roundw
                case rel =>
                  refine ⟨j + 1, l.set j j, by omega, by rw [List.length_set]; exact HL.out, by go_num, ⟨?_⟩, ⟨fun q hq => ?_⟩, ⟨KQ.out.far (by simpa using hPQ.symm) _⟩, ⟨T.out.bar ((Bar.refl [P] wr).setCell (by simp) _) (by simp; omega)⟩, ⟨K1.out.far (by simpa using hP1) _⟩, ⟨B.out.setCell (by show w.heap.size ≤ P; omega) _⟩⟩
                  · have := KP.out.set_ j (.int .u8 j)
                    rw [arr_set] at this
                    exact this
                  · rw [Sha.at_set _ _ _ _ (by rw [HL.out]; omega)]
                    by_cases e : j = q
                    · subst e; rw [if_pos rfl]
                    · rw [if_neg e]; exact HJ.out q (by omega)
                case measure => simp [intOf]; omega
              · have hjk' : ¬ (j : Int) < k := by omega
                have hser := serie_is HL.out (fun q hq => HJ.out q (by omega))
                rw [hser] at KP
                clear hser HJ HL
                obtain ⟨X, hX⟩ : ∃ X, hmac (serie k) (List.replicate n 0) = X := ⟨_, rfl⟩
                have HX := Kept.mk hX
                have BX := Kept.mk (show Bytes X from hX ▸ sha_bytes _)
                have LX := Kept.mk (show X.length = 32 from hX ▸ hmac_len _ _)
                rw [hX] at K1
                clear hX
                have RP := Kept.mk (Rd.blk KP.out (serie_bytes k hk) (serie_len k))
                have RQ := Kept.mk (Rd.blk KQ.out (zeros_bytes n) (by simp : (List.replicate n (0 : Int)).length = n))
                clear KP KQ
                go_wp2_with fail
                refine (mfirst_any _).mono ?_
                rintro e w7 ⟨rfl, b⟩
                replace RP := Kept.mk (RP.out.below b)
                replace RQ := Kept.mk (RQ.out.below b)
                replace K1 := Kept.mk (K1.out.below b K1.out.lt)
                replace T := Kept.mk (T.out.below b T.out.lt)
                replace B := Kept.mk (B.out.trans (b.mono B.out.size))
                clear b
                go_wp2_with fail
                refine (rmac_any (some ⟨P, 0, none⟩) (some ⟨Q, 0, none⟩) k k n n (serie k) (List.replicate n 0) w7 RP.out RQ.out (by omega) (by omega)).mono ?_
                rw [HX.out]
                rintro e w8 ⟨M2, c2, rfl, -, -, -, r2, b⟩
                replace RP := Kept.mk (RP.out.below b)
                replace RQ := Kept.mk (RQ.out.below b)
                replace K1 := Kept.mk (K1.out.below b K1.out.lt)
                replace T := Kept.mk (T.out.below b T.out.lt)
                replace B := Kept.mk (B.out.trans (b.mono B.out.size))
                have R2 := Kept.mk r2
                clear b r2
                go_wp2_with fail
                refine (bytes_same _ _ _ _ _ _ X w8 (Rd.blk K1.out BX.out LX.out) R2.out).mono ?_
                rintro e w9 ⟨rfl, rfl⟩
                clear R2
                go_wp2_with fail
                refine (mone_any N (some ⟨P, 0, none⟩) (some ⟨Q, 0, none⟩) k k n n (serie k) (List.replicate n 0) w8 T.out RP.out RQ.out (by omega) (by omega) (by omega) (by omega) (by omega) (by omega)).mono ?_
                rw [HX.out]
                rintro e w9 ⟨M3, rfl, hM3, k3, m3, b⟩
                replace K1 := Kept.mk (K1.out.bar b (by simpa using hN1))
                replace B := Kept.mk (B.out.trans (b.below B.out.size (by simpa using hlt)))
                have K3 := Kept.mk k3
                clear b k3 m3 T RP RQ
                go_wp2_with fail
                refine (equal_any _ _ 32 32 32 32 X X w9 (Rd.blk K1.out BX.out LX.out) (Rd.blk K3.out BX.out LX.out) (by omega) (by omega) (by omega)).mono ?_
                rw [sameB_self]
                rintro e w10 ⟨rfl, b⟩
                replace B := Kept.mk (B.out.trans (b.mono B.out.size))
                clear b
                go_wp2
                go_ret
                exact ⟨rfl, B.out⟩

theorem mblocks_walk (a b : Int) (w : World) :
    Calls Try.prog 9 #[.int .i64 a, .int .i64 b] w fun e w' => e = .returned (.bool true) ∧ Below w.heap.size w w' := by
  by_cases hbad : a < 0 ∨ 150 < a ∨ b < 0 ∨ 150 < b
  · exact mblocks_bad a b w hbad
  · obtain ⟨k, rfl⟩ := Int.eq_ofNat_of_zero_le (show 0 ≤ a by omega)
    obtain ⟨n, rfl⟩ := Int.eq_ofNat_of_zero_le (show 0 ≤ b by omega)
    exact mblocks_main k n w (by omega) (by omega)
end Go.Proofs.Ytblhfbpokfegnaa.Mac
