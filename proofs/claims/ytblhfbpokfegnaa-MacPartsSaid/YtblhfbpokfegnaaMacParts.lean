/-
  The law MacParts, walked.
-/
import Derived.Test.YtblhfbpokfegnaaShaParts
import Derived.Test.YtblhfbpokfegnaaMacFirst
namespace Go.Proofs.Ytblhfbpokfegnaa.Mac
open Go.RowKit Go.Proofs.Ytblhfbpokfegnaa.Sha

theorem Mc.below {w w' : World} {m h t B : Nat} {key text : List Int} (x : Mc w m h t key text) (b : Below B w w') (hm : m < B) (hh : h < B) (ht : t < B) : Mc w' m h t key text :=
  ⟨x.1, x.2.1, Blk.below x.2.2.1 b hm, Hs.below x.2.2.2 b hh ht⟩
theorem hm_bytes (key text : List Int) : Bytes (hmac key text) := sha_bytes _

set_option maxRecDepth 100000 in
set_option maxHeartbeats 4000000 in
theorem mparts_walk (A0 : Option Addr) (na ca : Nat) (key : List Int) (A : Option Addr) (n cap : Nat) (X : Nat → List Int) (w : World) (hra : Rd w A0 na key) (hca : na ≤ ca) (hma : ca ≤ 9223372036854775807) (hr : Rws w A n X) :
    Calls Try.prog 6 #[.slice A0 na ca, .slice A n cap] w fun e w' => e = .returned (.bool true) ∧ Below w.heap.size w w' := by
  have HR := Kept.mk hr
  have RA := Kept.mk hra
  have LA := Kept.mk hra.1
  have cf := Kept.mk fun w' h => few_any A n cap X w' h
  clear hr hra
  by_cases hbig : 1000 < na
  · clear cf
    go_enter Try.func6, Try.ntmps6
    go_wp2_with fail
    refine (mfirst_any _).mono ?_
    rintro e w1 ⟨rfl, b1⟩
    go_wp2_with fail
    refine (newtable_any w1).mono ?_
    rintro e w2 ⟨rfl, rfl⟩
    have b2 := b1.alloc b1.size (.cells (tbl (.int .u32 0) (.int .i32 0) (.int .u32 0) 0 0) 66)
    generalize w1.alloc (.cells (tbl (.int .u32 0) (.int .i32 0) (.int .u32 0) 0 0) 66) = w2 at *
    clear b1
    have B2 := Kept.mk b2
    clear b2
    generalize w1.heap.size = N
    go_wp2_with fail
    refine (mfirst_any _).mono ?_
    rintro e w3 ⟨rfl, b3⟩
    have B3 := Kept.mk (B2.out.trans (b3.mono B2.out.size))
    clear B2 b3
    go_wp2
    go_ret
    exact ⟨rfl, B3.out⟩
  have hna : na ≤ 1000 := by omega
  clear hbig
  cases hfew : fewB n X with
  | false =>
    rw [hfew] at cf
    clear hfew
    go_enter Try.func6, Try.ntmps6
    go_wp2_with fail
    refine (mfirst_any _).mono ?_
    rintro e w1 ⟨rfl, b1⟩
    go_wp2_with fail
    refine (newtable_any w1).mono ?_
    rintro e w2 ⟨rfl, rfl⟩
    have b2 := b1.alloc b1.size (.cells (tbl (.int .u32 0) (.int .i32 0) (.int .u32 0) 0 0) 66)
    generalize w1.alloc (.cells (tbl (.int .u32 0) (.int .i32 0) (.int .u32 0) 0 0) 66) = w2 at *
    clear b1
    have B2 := Kept.mk b2
    clear b2
    generalize w1.heap.size = N
    go_wp2_with fail
    refine (cf.out w2 (HR.out.below B2.out)).mono ?_
    rintro e w3 ⟨rfl, rfl⟩
    go_wp2_with fail
    refine (mfirst_any _).mono ?_
    rintro e w3 ⟨rfl, b3⟩
    have B3 := Kept.mk (B2.out.trans (b3.mono B2.out.size))
    clear B2 b3
    go_wp2
    go_ret
    exact ⟨rfl, B3.out⟩
  | true =>
    have hf := few_yes hfew
    rw [hfew] at cf
    have hn : n ≤ 200 := hf.1
    have HF := Kept.mk hf.2
    have HB := Kept.mk (fun k hk => cat_bytes HR.out k hk)
    clear hfew hf
    go_enter Try.func6, Try.ntmps6
    go_wp2_with fail
    refine (mfirst_any _).mono ?_
    rintro e w1 ⟨rfl, b1⟩
    go_wp2_with fail
    refine (newtable_any w1).mono ?_
    rintro e w2 ⟨rfl, rfl⟩
    obtain ⟨N, hN⟩ : ∃ N, w1.heap.size = N := ⟨_, rfl⟩
    have t2 : Tab (w1.alloc (.cells (tbl (.int .u32 0) (.int .i32 0) (.int .u32 0) 0 0) 66)) N := .inl (Blk.new_at _ _ _ N hN.symm)
    have b2 := b1.alloc b1.size (.cells (tbl (.int .u32 0) (.int .i32 0) (.int .u32 0) 0 0) 66)
    have hlt : w.heap.size ≤ N := hN ▸ b1.size
    rw [hN]
    generalize w1.alloc (.cells (tbl (.int .u32 0) (.int .i32 0) (.int .u32 0) 0 0) 66) = w2 at *
    clear b1 hN
    have T2 := Kept.mk t2; have B2 := Kept.mk b2
    clear t2 b2
    go_wp2_with fail
    refine (cf.out w2 (HR.out.below B2.out)).mono ?_
    rintro e w3 ⟨rfl, rfl⟩
    clear cf
    go_wp2_with fail
    refine (mnew_any N A0 na ca key w2 T2.out (RA.out.below B2.out) hca hma (by omega)).mono ?_
    rintro e w3 ⟨m, H, rfl, hm, hH, mc, b⟩
    have hmB : w.heap.size ≤ m := by have := B2.out.size; omega
    have hHB : w.heap.size ≤ H := by have := B2.out.size; omega
    have hHN : H ≠ N := mc.2.2.2.1
    have hmN : m ≠ N := mc.1
    have hmH : m ≠ H := mc.2.1
    have B := Kept.mk (B2.out.trans (b.below B2.out.size (by simpa using hlt)))
    have hHlt := Hs.lt mc.2.2.2
    have hmlt := mc.lt
    have hNlt : N < w3.heap.size := Blk.lt mc.2.2.2.2.1
    have MC := Kept.mk mc
    obtain ⟨K, hK⟩ : ∃ K, w3.heap.size = K := ⟨_, rfl⟩
    have hwK : w.heap.size ≤ K := by rw [← hK]; exact B.out.size
    rw [hK] at hHlt hNlt hmlt
    clear b mc T2 B2 hm hH
    go_wp2
    go_loopw [7, 8] (fun v i wr => ∃ (k : Nat) (u : Value), k ≤ n ∧ u = v ∧ i = .int .i64 k ∧ K ≤ wr.heap.size ∧ Kept (Mc wr m H N (keyOf key) (cat X k)) ∧ Kept (wr.ownsRow K 5 1 u (cat X k).length (ints .u8 (cat X k))) ∧ Kept (Below w.heap.size w wr)) (fun _ i _ => n - (intOf i).toNat)
    case atStart => exact ⟨0, .slice none 0 0, by omega, rfl, rfl, by omega, MC, ⟨World.ownsRow_nil _ _ _ _⟩, B⟩
    case round =>
      clear MC B hK
      obtain ⟨k, v, hk, rfl, rfl, hKr, MC, OW, B⟩ := hrel
      by_cases hkn : k < n
      · have hkn' : (k : Int) < n := by omega
        obtain ⟨bb, oo, rfl, hc⟩ := HR.out.resolve_left (by omega)
        obtain ⟨a, l, c, h1, h2, h3, h4⟩ := hc k hkn
        have hbb : bb < w.heap.size := World.block_lt_of_cell? _ _ h1
        have x0 : wr.cell? ⟨bb, oo + k, none⟩ = some (.slice a l c) := (B.out.cell (p := ⟨bb, oo + k, none⟩) hbb).trans h1
        have R4 := Kept.mk h4
        have hl4 : (X k).length = l := h4.1
        have hlen := HF.out (k + 1) (by omega)
        have hlen0 := HF.out k (by omega)
        have hcat : cat X (k + 1) = cat X k ++ X k := rfl
        rw [hcat, List.length_append, hl4] at hlen
        have HL4 := Kept.mk hl4
        have HC := Kept.mk hcat
        clear hc h1 h4 hl4 hcat
        go_wp2_with fail
        refine (mwrite_any m H N (keyOf key) (cat X k) (X k) a l c wr MC.out (R4.out.sl2 B.out hHB) h2 h3 (by omega)).mono ?_
        rintro e w5 ⟨rfl, mc, b⟩
        replace MC := Kept.mk mc
        replace OW := Kept.mk (own_bar OW.out b (by simp; omega))
        replace B := Kept.mk (B.out.trans (b.below B.out.size (by simpa using hHB)))
        have hK5 : K ≤ w5.heap.size := by have := b.size; omega
        have x1 : w5.cell? ⟨bb, oo + k, none⟩ = some (.slice a l c) := by rw [← x0]; exact World.cell?_of_block (w := wr) (b.block bb (by have := B.out.size; have := World.block_lt_of_cell? _ _ x0; exact this) (by simp; omega))
        clear b mc x0
        rw [← HC.out] at MC
        go_wp2_with ((with_reducible refine sel 53 ?_); refine wpList_append_rd rfl (.tmp 48) (.tmp 52) 29 rfl K 5 Try.underlying29 info_u8 v (cat X k).length _ rfl OW.out a l c (X k) rfl (R4.out.below B.out) (by omega) hK5 ?_; intro v7 w7 o7 g7; have B7 := Kept.mk (own_below OW.out g7 hK5); rw [← ints_append, ← HC.out, show (cat X k).length + l = (cat X (k + 1)).length by rw [HC.out, List.length_append, HL4.out]] at o7; have O7 := Kept.mk o7.out; clear o7 g7)
        have hK7 : K ≤ w7.heap.size := by have := B7.out.size; omega
        replace MC := Kept.mk (MC.out.below B7.out hmlt hHlt hNlt)
        replace B := Kept.mk (B.out.trans (B7.out.mono hwK))
        clear B7 OW x1
        go_roundw
        case rel => exact ⟨k + 1, v7, by omega, rfl, by go_num, hK7, MC, O7, B⟩
        case measure => simp [intOf]; omega
      · have hkn' : ¬ (k : Int) < n := by omega
        obtain rfl : k = n := by omega
        have hlen := HF.out k (by omega)
        obtain ⟨A7, c7, rfl, hc7, hm7, r7⟩ := own_rd OW.out (HB.out k (by omega))
        have R7 := Kept.mk r7
        obtain ⟨Y, hY⟩ : ∃ Y, hmac key (cat X k) = Y := ⟨_, rfl⟩
        have HY := Kept.mk hY
        have BY := Kept.mk (show Bytes Y from hY ▸ hm_bytes _ _)
        have LY := Kept.mk (show Y.length = 32 from hY ▸ hmac_len _ _)
        have cs := Kept.mk fun w' hm => msum_any m H N (keyOf key) (cat X k) w' hm (by omega)
        rw [show hmacK (keyOf key) (cat X k) = Y from hY] at cs
        clear r7 OW hY
        go_wp2_with fail
        refine (cs.out wr MC.out).mono ?_
        rintro e w5 ⟨M1, rfl, hM1, k1, m1, b⟩
        have h1N : M1 ≠ N := by have := Blk.lt MC.out.2.2.2.2.1; omega
        replace R7 := Kept.mk (R7.out.tab (.inr MC.out.2.2.2.2.1) b)
        replace MC := Kept.mk (MC.out.other b m1)
        replace B := Kept.mk (B.out.trans (b.below B.out.size (by simpa using hlt)))
        have K1 := Kept.mk k1
        clear b k1 m1
        go_wp2_with fail
        refine (mone_any N A0 A7 na ca (cat X k).length c7 key (cat X k) w5 (.inr MC.out.2.2.2.2.1) (RA.out.below B.out) R7.out hca hma hc7 hm7 (by omega) (by omega)).mono ?_
        rw [HY.out]
        rintro e w6 ⟨M2, rfl, hM2, k2, m2, b⟩
        have h2N : M2 ≠ N := by have := Blk.lt MC.out.2.2.2.2.1; omega
        replace R7 := Kept.mk (R7.out.tab (.inr MC.out.2.2.2.2.1) b)
        replace MC := Kept.mk (MC.out.other b m2)
        replace K1 := Kept.mk (K1.out.bar b (by simpa using h1N))
        replace B := Kept.mk (B.out.trans (b.below B.out.size (by simpa using hlt)))
        have K2 := Kept.mk k2
        clear b k2 m2
        rcases Nat.lt_trichotomy na 64 with h64 | h64 | h64
        · have h64' : (na : Int) < 64 := by omega
          have hno : hmac (key ++ [0]) (cat X k) = Y := by rw [hmac_nought (by rw [LA.out]; exact h64), HY.out]
          have HNO := Kept.mk hno
          clear hno
          go_wp2_with fail
          refine (copy_any A0 na ca key w6 (RA.out.below B.out) (by omega)).mono ?_
          rintro e w10 ⟨v10, rfl, own, b⟩
          have OW := Kept.mk own
          have hsz := b.size
          have BB := Kept.mk b
          clear b own
          go_wp2_with ((with_reducible refine sel 84 ?_); refine wpList_unguard (by rfl) ?_; refine wpList_append_rd rfl (.tmp 82) (.tmp 83) 29 rfl w6.heap.size 5 Try.underlying29 info_u8 v10 na _ rfl (OW.out.alloc _) (some ⟨w10.heap.size, 0, none⟩) 1 1 [0] rfl (rd_one w10 0 (by omega)) (by omega) (by simp; omega) ?_; intro v11 w11 o11 g11; have B11 := Kept.mk (own_below (OW.out.alloc (.cells #[.int .u8 0] 5)) g11 (by simp; omega)); clear g11)
          have b : Below w6.heap.size w6 w11 := BB.out.trans (((Below.refl _ w10).alloc hsz (.cells #[.int .u8 0] 5)).trans B11.out)
          replace R7 := Kept.mk (R7.out.below b)
          replace MC := Kept.mk (MC.out.bar (barOf b []) (by simp) (by simp) (by simp))
          replace K1 := Kept.mk (K1.out.below b K1.out.lt)
          replace K2 := Kept.mk (K2.out.below b K2.out.lt)
          replace B := Kept.mk (B.out.trans (b.mono B.out.size))
          rw [← ints_append] at o11
          obtain ⟨A11, c11, rfl, hc11, hm11, r11⟩ := own_rd o11.out (by intro x hx; rcases List.mem_append.1 hx with h | h; exact RA.out.2.1 x h; rw [List.mem_singleton] at h; omega)
          have R11 := Kept.mk r11
          clear b r11 o11 B11 BB OW
          refine (mone_any N A11 A7 (na + 1) c11 (cat X k).length c7 (key ++ [0]) (cat X k) w11 (.inr MC.out.2.2.2.2.1) R11.out R7.out hc11 hm11 hc7 hm7 (by omega) (by omega)).mono ?_
          rw [HNO.out]
          rintro e w12 ⟨M4, rfl, hM4, k4, m4, b⟩
          replace MC := Kept.mk (MC.out.other b m4)
          replace K1 := Kept.mk (K1.out.bar b (by simpa using h1N))
          replace K2 := Kept.mk (K2.out.bar b (by simpa using h2N))
          replace B := Kept.mk (B.out.trans (b.below B.out.size (by simpa using hlt)))
          have K4 := Kept.mk k4
          clear b k4 m4 R7 R11
          go_wp2_with fail
          refine (bytes_same _ _ _ _ _ _ Y w12 (Rd.blk K2.out BY.out LY.out) (Rd.blk K4.out BY.out LY.out)).mono ?_
          rintro e w13 ⟨rfl, rfl⟩
          clear K4
          go_wp2_with fail
          refine (mfirst_any _).mono ?_
          rintro e w20 ⟨rfl, b⟩
          replace MC := Kept.mk (MC.out.bar (barOf b []) (by simp) (by simp) (by simp))
          replace K1 := Kept.mk (K1.out.below b K1.out.lt)
          replace K2 := Kept.mk (K2.out.below b K2.out.lt)
          replace B := Kept.mk (B.out.trans (b.mono B.out.size))
          clear b
          go_wp2_with fail
          refine (bytes_same _ _ _ _ _ _ Y w20 (Rd.blk K1.out BY.out LY.out) (Rd.blk K2.out BY.out LY.out)).mono ?_
          rintro e w21 ⟨rfl, rfl⟩
          go_wp2_with fail
          refine (cs.out w20 MC.out).mono ?_
          rintro e w21 ⟨M9, rfl, hM9, k9, m9, b⟩
          replace K2 := Kept.mk (K2.out.bar b (by simpa using h2N))
          replace B := Kept.mk (B.out.trans (b.below B.out.size (by simpa using hlt)))
          have K9 := Kept.mk k9
          clear b k9 m9
          go_wp2_with fail
          refine (bytes_same _ _ _ _ _ _ Y w21 (Rd.blk K9.out BY.out LY.out) (Rd.blk K2.out BY.out LY.out)).mono ?_
          rintro e w22 ⟨rfl, rfl⟩
          go_wp2
          go_ret
          exact ⟨rfl, B.out⟩
        · have h64' : ¬ (64 < (na : Int)) := by omega
          have h64'' : ¬ ((na : Int) < 64) := by omega
          go_wp2_with fail
          refine (mfirst_any _).mono ?_
          rintro e w20 ⟨rfl, b⟩
          replace MC := Kept.mk (MC.out.bar (barOf b []) (by simp) (by simp) (by simp))
          replace K1 := Kept.mk (K1.out.below b K1.out.lt)
          replace K2 := Kept.mk (K2.out.below b K2.out.lt)
          replace B := Kept.mk (B.out.trans (b.mono B.out.size))
          clear b
          go_wp2_with fail
          refine (bytes_same _ _ _ _ _ _ Y w20 (Rd.blk K1.out BY.out LY.out) (Rd.blk K2.out BY.out LY.out)).mono ?_
          rintro e w21 ⟨rfl, rfl⟩
          go_wp2_with fail
          refine (cs.out w20 MC.out).mono ?_
          rintro e w21 ⟨M9, rfl, hM9, k9, m9, b⟩
          replace K2 := Kept.mk (K2.out.bar b (by simpa using h2N))
          replace B := Kept.mk (B.out.trans (b.below B.out.size (by simpa using hlt)))
          have K9 := Kept.mk k9
          clear b k9 m9
          go_wp2_with fail
          refine (bytes_same _ _ _ _ _ _ Y w21 (Rd.blk K9.out BY.out LY.out) (Rd.blk K2.out BY.out LY.out)).mono ?_
          rintro e w22 ⟨rfl, rfl⟩
          go_wp2
          go_ret
          exact ⟨rfl, B.out⟩
        · have h64' : 64 < (na : Int) := by omega
          have h64'' : ¬ ((na : Int) < 64) := by omega
          have hno : hmac (sha key) (cat X k) = Y := by rw [hmac_hash (by rw [LA.out]; exact h64), HY.out]
          have HNO := Kept.mk hno
          clear hno
          go_wp2_with fail
          refine (one_any N A0 na ca key w6 (.inr MC.out.2.2.2.2.1) (RA.out.below B.out) hca hma (by omega)).mono ?_
          rintro e w10 ⟨M3, rfl, hM3, k3, m3, b⟩
          replace R7 := Kept.mk (R7.out.tab (.inr MC.out.2.2.2.2.1) b)
          replace MC := Kept.mk (MC.out.other b m3)
          replace K1 := Kept.mk (K1.out.bar b (by simpa using h1N))
          replace K2 := Kept.mk (K2.out.bar b (by simpa using h2N))
          replace B := Kept.mk (B.out.trans (b.below B.out.size (by simpa using hlt)))
          have K3 := Kept.mk k3
          clear b k3 m3
          go_wp2_with fail
          refine (mone_any N (some ⟨M3, 0, none⟩) A7 32 32 (cat X k).length c7 (sha key) (cat X k) w10 (.inr MC.out.2.2.2.2.1) (Rd.blk K3.out (sha_bytes _) (sha_len _)) R7.out (by omega) (by omega) hc7 hm7 (by omega) (by omega)).mono ?_
          rw [HNO.out]
          rintro e w11 ⟨M4, rfl, hM4, k4, m4, b⟩
          replace MC := Kept.mk (MC.out.other b m4)
          replace K1 := Kept.mk (K1.out.bar b (by simpa using h1N))
          replace K2 := Kept.mk (K2.out.bar b (by simpa using h2N))
          replace B := Kept.mk (B.out.trans (b.below B.out.size (by simpa using hlt)))
          have K4 := Kept.mk k4
          clear b k4 m4 R7 K3
          go_wp2_with fail
          refine (bytes_same _ _ _ _ _ _ Y w11 (Rd.blk K2.out BY.out LY.out) (Rd.blk K4.out BY.out LY.out)).mono ?_
          rintro e w12 ⟨rfl, rfl⟩
          clear K4
          go_wp2_with fail
          refine (mfirst_any _).mono ?_
          rintro e w20 ⟨rfl, b⟩
          replace MC := Kept.mk (MC.out.bar (barOf b []) (by simp) (by simp) (by simp))
          replace K1 := Kept.mk (K1.out.below b K1.out.lt)
          replace K2 := Kept.mk (K2.out.below b K2.out.lt)
          replace B := Kept.mk (B.out.trans (b.mono B.out.size))
          clear b
          go_wp2_with fail
          refine (bytes_same _ _ _ _ _ _ Y w20 (Rd.blk K1.out BY.out LY.out) (Rd.blk K2.out BY.out LY.out)).mono ?_
          rintro e w21 ⟨rfl, rfl⟩
          go_wp2_with fail
          refine (cs.out w20 MC.out).mono ?_
          rintro e w21 ⟨M9, rfl, hM9, k9, m9, b⟩
          replace K2 := Kept.mk (K2.out.bar b (by simpa using h2N))
          replace B := Kept.mk (B.out.trans (b.below B.out.size (by simpa using hlt)))
          have K9 := Kept.mk k9
          clear b k9 m9
          go_wp2_with fail
          refine (bytes_same _ _ _ _ _ _ Y w21 (Rd.blk K9.out BY.out LY.out) (Rd.blk K2.out BY.out LY.out)).mono ?_
          rintro e w22 ⟨rfl, rfl⟩
          go_wp2
          go_ret
          exact ⟨rfl, B.out⟩
end Go.Proofs.Ytblhfbpokfegnaa.Mac
