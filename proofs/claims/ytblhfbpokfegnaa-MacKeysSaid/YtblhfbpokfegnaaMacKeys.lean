/-
  The law MacKeys, walked.
-/
import Derived.Test.YtblhfbpokfegnaaMacFirst
namespace Go.Proofs.Ytblhfbpokfegnaa.Mac
open Go.RowKit Go.Proofs.Ytblhfbpokfegnaa.Sha

set_option maxRecDepth 100000 in
set_option maxHeartbeats 2000000 in
theorem mkeys_walk (A : Option Addr) (na ca : Nat) (key : List Int) (a b : Int) (w : World) (hra : Rd w A na key) (hca : na ≤ ca) (hma : ca ≤ 9223372036854775807) :
    Calls Try.prog 8 #[.slice A na ca, .int .i64 a, .int .i64 b] w fun e w' => e = .returned (.bool true) ∧ Below w.heap.size w w' := by
  have RA := Kept.mk hra
  clear hra
  by_cases hbig : 200 < na ∨ a < 0 ∨ 15 < a ∨ b < 0 ∨ 15 < b
  · rcases hbig with hbig | hbig | hbig | hbig | hbig <;>
    · go_enter Try.func8, Try.ntmps8
      go_wp2_with fail
      refine (mfirst_any _).mono ?_
      rintro e w1 ⟨rfl, b1⟩
      go_wp2_with fail
      refine (newtable_any w1).mono ?_
      rintro e w2 ⟨rfl, rfl⟩
      have b2 := b1.alloc b1.size (.cells (tbl (.int .u32 0) (.int .i32 0) (.int .u32 0) 0 0) 66)
      generalize w1.alloc (.cells (tbl (.int .u32 0) (.int .i32 0) (.int .u32 0) 0 0) 66) = w2 at *
      clear b1
      generalize w1.heap.size = N
      go_wp2_with fail
      all_goals
        refine (mfirst_any _).mono ?_
        rintro e w3 ⟨rfl, b3⟩
        have B3 := Kept.mk (b2.trans (b3.mono b2.size))
        clear b2 b3
        go_wp2
        go_ret
        exact ⟨rfl, B3.out⟩
  · have hna : na ≤ 200 := by omega
    have ha0 : 0 ≤ a := by omega
    have ha1 : a ≤ 15 := by omega
    have hb0 : 0 ≤ b := by omega
    have hb1 : b ≤ 15 := by omega
    have ea : a % 256 = a := by omega
    have EA := Kept.mk ea
    clear hbig ea
    go_enter Try.func8, Try.ntmps8
    go_wp2_with fail
    refine (mfirst_any _).mono ?_
    rintro e w1 ⟨rfl, b1⟩
    go_wp2_with fail
    refine (newtable_any w1).mono ?_
    rintro e w2 ⟨rfl, rfl⟩
    obtain ⟨N, hN⟩ : ∃ N, w1.heap.size = N := ⟨_, rfl⟩
    have t2 : Tab (w1.alloc (.cells (tbl (.int .u32 0) (.int .i32 0) (.int .u32 0) 0 0) 66)) N := .inl (Blk.new_at _ _ _ N hN.symm)
    have b2 := b1.alloc b1.size (.cells (tbl (.int .u32 0) (.int .i32 0) (.int .u32 0) 0 0) 66)
    have hlt : w.heap.size ≤ N := hN ▸ b1.size
    rw [hN]
    generalize w1.alloc (.cells (tbl (.int .u32 0) (.int .i32 0) (.int .u32 0) 0 0) 66) = w2 at *
    clear b1 hN
    have T := Kept.mk t2; have B := Kept.mk b2
    clear t2 b2
    obtain ⟨X, hX⟩ : ∃ X, hmac key [a % 256, 0 % 256] = X := ⟨_, rfl⟩
    obtain ⟨Y, hY⟩ : ∃ Y, hmac key [b % 256, 1 % 256] = Y := ⟨_, rfl⟩
    obtain ⟨Z, hZ⟩ : ∃ Z, hmac key [255 % 256, 0 % 256] = Z := ⟨_, rfl⟩
    have cx := Kept.mk fun w' ht hr => mkey_any N A na ca key a 0 w' ht hr hca hma (by omega)
    have cy := Kept.mk fun w' ht hr => mkey_any N A na ca key b 1 w' ht hr hca hma (by omega)
    have cz := Kept.mk fun w' ht hr => mkey_any N A na ca key 255 0 w' ht hr hca hma (by omega)
    have rx := Kept.mk fun w' hr => rkey_any A na ca key a 0 w' hr (by omega)
    have ry := Kept.mk fun w' hr => rkey_any A na ca key b 1 w' hr (by omega)
    have rz := Kept.mk fun w' hr => rkey_any A na ca key 255 0 w' hr (by omega)
    have LX := Kept.mk (show X.length = 32 from hX ▸ hmac_len _ _)
    have LY := Kept.mk (show Y.length = 32 from hY ▸ hmac_len _ _)
    have LZ := Kept.mk (show Z.length = 32 from hZ ▸ hmac_len _ _)
    have BX := Kept.mk (show Bytes X from hX ▸ sha_bytes _)
    have BY := Kept.mk (show Bytes Y from hY ▸ sha_bytes _)
    have BZ := Kept.mk (show Bytes Z from hZ ▸ sha_bytes _)
    rw [hX] at cx rx
    rw [hY] at cy ry
    rw [hZ] at cz rz
    rw [EA.out] at hX
    have HX := Kept.mk (show hmac key [a, 0] = X from hX)
    clear hX hY hZ
    go_wp2_with fail
    refine (cx.out w2 T.out (RA.out.below B.out)).mono ?_
    rintro e w3 ⟨M1, rfl, hM1, k1, m1, b⟩
    have h1N : M1 ≠ N := by have := T.out.lt; omega
    replace T : Kept (Tab w3 N) := ⟨.inr m1⟩
    replace B := Kept.mk (B.out.trans (b.below B.out.size (by simpa using hlt)))
    have K1 := Kept.mk k1
    clear b k1 m1
    go_wp2_with fail
    refine (cy.out w3 T.out (RA.out.below B.out)).mono ?_
    rintro e w4 ⟨M2, rfl, hM2, k2, m2, b⟩
    have h2N : M2 ≠ N := by have := T.out.lt; omega
    replace T : Kept (Tab w4 N) := ⟨.inr m2⟩
    replace B := Kept.mk (B.out.trans (b.below B.out.size (by simpa using hlt)))
    replace K1 := Kept.mk (K1.out.bar b (by simpa using h1N))
    have K2 := Kept.mk k2
    clear b k2 m2
    go_wp2_with fail
    refine (cz.out w4 T.out (RA.out.below B.out)).mono ?_
    rintro e w5 ⟨M3, rfl, hM3, k3, m3, b⟩
    replace T : Kept (Tab w5 N) := ⟨.inr m3⟩
    replace B := Kept.mk (B.out.trans (b.below B.out.size (by simpa using hlt)))
    replace K1 := Kept.mk (K1.out.bar b (by simpa using h1N))
    replace K2 := Kept.mk (K2.out.bar b (by simpa using h2N))
    have K3 := Kept.mk k3
    clear b k3 m3 cx cy cz
    go_wp2_with fail
    refine (mfirst_any _).mono ?_
    rintro e w6 ⟨rfl, b⟩
    replace T := Kept.mk (T.out.below b T.out.lt)
    replace K1 := Kept.mk (K1.out.below b K1.out.lt)
    replace K2 := Kept.mk (K2.out.below b K2.out.lt)
    replace K3 := Kept.mk (K3.out.below b K3.out.lt)
    replace B := Kept.mk (B.out.trans (b.mono B.out.size))
    clear b
    obtain ⟨s, hs⟩ : ∃ s, sameB X Y = s := ⟨_, rfl⟩
    obtain ⟨u, hu⟩ : ∃ u, sameB X Z = u := ⟨_, rfl⟩
    have HS := Kept.mk hs
    have HU := Kept.mk hu
    clear hs hu
    go_wp2_with fail
    refine (equal_any _ _ 32 32 32 32 X Y w6 (Rd.blk K1.out BX.out LX.out) (Rd.blk K2.out BY.out LY.out) (by omega) (by omega) (by omega)).mono ?_
    rw [HS.out]
    rintro e w7 ⟨rfl, b⟩
    replace T := Kept.mk (T.out.below b T.out.lt)
    replace K1 := Kept.mk (K1.out.below b K1.out.lt)
    replace K3 := Kept.mk (K3.out.below b K3.out.lt)
    replace B := Kept.mk (B.out.trans (b.mono B.out.size))
    clear b K2
    go_wp2_with fail
    refine (rx.out w7 (RA.out.below B.out)).mono ?_
    rintro e w8 ⟨M4, c4, rfl, -, -, -, r4, b⟩
    replace T := Kept.mk (T.out.below b T.out.lt)
    replace K1 := Kept.mk (K1.out.below b K1.out.lt)
    replace K3 := Kept.mk (K3.out.below b K3.out.lt)
    replace B := Kept.mk (B.out.trans (b.mono B.out.size))
    have R4 := Kept.mk r4
    clear b r4
    go_wp2_with fail
    refine (ry.out w8 (RA.out.below B.out)).mono ?_
    rintro e w9 ⟨M5, c5, rfl, -, -, -, r5, b⟩
    replace T := Kept.mk (T.out.below b T.out.lt)
    replace K1 := Kept.mk (K1.out.below b K1.out.lt)
    replace K3 := Kept.mk (K3.out.below b K3.out.lt)
    replace R4 := Kept.mk (R4.out.below b)
    replace B := Kept.mk (B.out.trans (b.mono B.out.size))
    have R5 := Kept.mk r5
    clear b r5
    go_wp2_with fail
    refine (bytes_any _ _ _ _ _ _ X Y w9 R4.out R5.out).mono ?_
    rw [HS.out]
    rintro e w10 ⟨rfl, rfl⟩
    clear R4 R5 ry
    go_wp2_with fail
    refine (equal_any _ _ 32 32 32 32 X Z w9 (Rd.blk K1.out BX.out LX.out) (Rd.blk K3.out BZ.out LZ.out) (by omega) (by omega) (by omega)).mono ?_
    rw [HU.out]
    rintro e w10 ⟨rfl, b⟩
    replace T := Kept.mk (T.out.below b T.out.lt)
    replace K1 := Kept.mk (K1.out.below b K1.out.lt)
    replace B := Kept.mk (B.out.trans (b.mono B.out.size))
    clear b K3
    go_wp2_with fail
    refine (rx.out w10 (RA.out.below B.out)).mono ?_
    rintro e w11 ⟨M6, c6, rfl, -, -, -, r6, b⟩
    replace T := Kept.mk (T.out.below b T.out.lt)
    replace K1 := Kept.mk (K1.out.below b K1.out.lt)
    replace B := Kept.mk (B.out.trans (b.mono B.out.size))
    have R6 := Kept.mk r6
    clear b r6
    go_wp2_with fail
    refine (rz.out w11 (RA.out.below B.out)).mono ?_
    rintro e w12 ⟨M7, c7, rfl, -, -, -, r7, b⟩
    replace T := Kept.mk (T.out.below b T.out.lt)
    replace K1 := Kept.mk (K1.out.below b K1.out.lt)
    replace R6 := Kept.mk (R6.out.below b)
    replace B := Kept.mk (B.out.trans (b.mono B.out.size))
    have R7 := Kept.mk r7
    clear b r7
    go_wp2_with fail
    refine (bytes_any _ _ _ _ _ _ X Z w12 R6.out R7.out).mono ?_
    rw [HU.out]
    rintro e w13 ⟨rfl, rfl⟩
    clear R6 R7 rx rz
    go_wp2_with fail
    refine (mone_any N A (some ⟨w12.heap.size, 0, none⟩) na ca 2 2 key [a, 0] _ (T.out.bar ((Bar.refl [] w12).alloc _) (by simp)) ((RA.out.below B.out).keep (l := []) ((Bar.refl [] w12).alloc _) (by simp)) (rd_two w12 a 0 (by omega) (by omega)) hca hma (by omega) (by omega) (by omega) (by omega)).mono ?_
    rw [HX.out]
    rintro e w13 ⟨M8, rfl, hM8, k8, m8, b⟩
    have b' := ((Bar.refl [N] w12).alloc (.cells #[.int .u8 a, .int .u8 0] 5)).trans b (by simp)
    replace K1 := Kept.mk (K1.out.bar b' (by simpa using h1N))
    replace B := Kept.mk (B.out.trans (b'.below B.out.size (by simpa using hlt)))
    have K8 := Kept.mk k8
    clear b b' k8 m8 T
    go_wp2_with fail
    refine (equal_any _ _ 32 32 32 32 X X w13 (Rd.blk K1.out BX.out LX.out) (Rd.blk K8.out BX.out LX.out) (by omega) (by omega) (by omega)).mono ?_
    rw [sameB_self]
    rintro e w14 ⟨rfl, b⟩
    replace B := Kept.mk (B.out.trans (b.mono B.out.size))
    clear b
    go_wp2
    go_ret
    exact ⟨rfl, B.out⟩
end Go.Proofs.Ytblhfbpokfegnaa.Mac
