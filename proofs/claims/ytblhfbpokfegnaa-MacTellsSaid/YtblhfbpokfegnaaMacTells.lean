/-
  The law MacTells, walked.
-/
import Derived.Test.YtblhfbpokfegnaaMacFirst
namespace Go.Proofs.Ytblhfbpokfegnaa.Mac
open Go.RowKit Go.Proofs.Ytblhfbpokfegnaa.Sha

theorem hmac_bytes (key text : List Int) : Bytes (hmac key text) := sha_bytes _

set_option maxRecDepth 100000 in
set_option maxHeartbeats 2000000 in
theorem mtells_walk (A Bb : Option Addr) (na ca nb cb : Nat) (key text : List Int) (x y : Int) (w : World) (hra : Rd w A na key) (hrb : Rd w Bb nb text) (hca : na ≤ ca) (hma : ca ≤ 9223372036854775807) (hcb : nb ≤ cb) (hmb : cb ≤ 9223372036854775807) :
    Calls Try.prog 5 #[.slice A na ca, .slice Bb nb cb, .int .i64 x, .int .i64 y] w fun e w' => e = .returned (.bool true) ∧ Below w.heap.size w w' := by
  have RA := Kept.mk hra
  have RB := Kept.mk hrb
  clear hra hrb
  by_cases hbig : 1000 < na ∨ 1000 < nb
  · rcases hbig with hbig | hbig <;>
    · go_enter Try.func5, Try.ntmps5
      go_wp2_with fail
      refine (mfirst_any _).mono ?_
      rintro e w1 ⟨rfl, b1⟩
      go_wp2_with fail
      refine (newtable_any w1).mono ?_
      rintro e w2 ⟨rfl, rfl⟩
      have b2 := b1.alloc b1.size (.cells (tbl (.int .u32 0) (.int .i32 0) (.int .u32 0) 0 0) 66)
      generalize w1.alloc (.cells (tbl (.int .u32 0) (.int .i32 0) (.int .u32 0) 0 0) 66) = w2 at *
      clear b1
      generalize w1.heap.size = N
      go_wp2_with fail
      all_goals
        refine (mfirst_any _).mono ?_
        rintro e w3 ⟨rfl, b3⟩
        have B3 := Kept.mk (b2.trans (b3.mono b2.size))
        clear b2 b3
        go_wp2
        go_ret
        exact ⟨rfl, B3.out⟩
  · have hna : na ≤ 1000 := by omega
    have hnb : nb ≤ 1000 := by omega
    clear hbig
    go_enter Try.func5, Try.ntmps5
    go_wp2_with fail
    refine (mfirst_any _).mono ?_
    rintro e w1 ⟨rfl, b1⟩
    go_wp2_with fail
    refine (newtable_any w1).mono ?_
    rintro e w2 ⟨rfl, rfl⟩
    obtain ⟨N, hN⟩ : ∃ N, w1.heap.size = N := ⟨_, rfl⟩
    have t2 : Tab (w1.alloc (.cells (tbl (.int .u32 0) (.int .i32 0) (.int .u32 0) 0 0) 66)) N := .inl (Blk.new_at _ _ _ N hN.symm)
    have b2 := b1.alloc b1.size (.cells (tbl (.int .u32 0) (.int .i32 0) (.int .u32 0) 0 0) 66)
    have hlt : w.heap.size ≤ N := hN ▸ b1.size
    rw [hN]
    generalize w1.alloc (.cells (tbl (.int .u32 0) (.int .i32 0) (.int .u32 0) 0 0) 66) = w2 at *
    clear b1 hN
    have T := Kept.mk t2; have B := Kept.mk b2
    clear t2 b2
    go_wp2_with fail
    refine (mfirst_any _).mono ?_
    rintro e w3 ⟨rfl, b⟩
    replace T := Kept.mk (T.out.below b T.out.lt)
    replace B := Kept.mk (B.out.trans (b.mono B.out.size))
    clear b
    go_wp2_with fail
    refine (mone_any N A Bb na ca nb cb key text w3 T.out (RA.out.below B.out) (RB.out.below B.out) hca hma hcb hmb (by omega) (by omega)).mono ?_
    rintro e w4 ⟨M1, rfl, hM1, k1, m1, b⟩
    replace T : Kept (Tab w4 N) := ⟨.inr m1⟩
    replace B := Kept.mk (B.out.trans (b.below B.out.size (by simpa using hlt)))
    have K1 := Kept.mk k1
    clear b k1 m1
    go_wp2_with fail
    refine (rmac_any A Bb na ca nb cb key text w4 (RA.out.below B.out) (RB.out.below B.out) (by omega) (by omega)).mono ?_
    rintro e w5 ⟨M2, c2, rfl, -, -, -, r2, b⟩
    replace T := Kept.mk (T.out.below b T.out.lt)
    replace K1 := Kept.mk (K1.out.below b K1.out.lt)
    replace B := Kept.mk (B.out.trans (b.mono B.out.size))
    have R2 := Kept.mk r2
    clear b r2
    go_wp2_with fail
    refine (bytes_same _ _ _ _ _ _ (hmac key text) w5 (Rd.blk K1.out (hmac_bytes _ _) (hmac_len _ _)) R2.out).mono ?_
    rintro e w6 ⟨rfl, rfl⟩
    clear K1 R2
    obtain ⟨s, hs⟩ : ∃ s, sameB key text = s := ⟨_, rfl⟩
    have ce := Kept.mk fun w' ha hb => equal_any A Bb na nb ca cb key text w' ha hb hca hcb hma
    have cb' := Kept.mk fun w' ha hb => bytes_any A Bb na nb ca cb key text w' ha hb
    have cbb := Kept.mk fun w' ha hb => equal_any Bb Bb nb nb cb cb text text w' ha hb hcb hcb hmb
    rw [hs] at ce cb'
    rw [sameB_self] at cbb
    clear hs
    go_wp2_with fail
    refine (ce.out w5 (RA.out.below B.out) (RB.out.below B.out)).mono ?_
    rintro e w6 ⟨rfl, b⟩
    replace T := Kept.mk (T.out.below b T.out.lt)
    replace B := Kept.mk (B.out.trans (b.mono B.out.size))
    clear b
    go_wp2_with fail
    refine (cb'.out w6 (RA.out.below B.out) (RB.out.below B.out)).mono ?_
    rintro e w7 ⟨rfl, rfl⟩
    go_wp2_with fail
    refine (cbb.out w6 (RB.out.below B.out) (RB.out.below B.out)).mono ?_
    rintro e w7 ⟨rfl, b⟩
    replace T := Kept.mk (T.out.below b T.out.lt)
    replace B := Kept.mk (B.out.trans (b.mono B.out.size))
    clear b ce cb' cbb
    go_wp2_with fail
    refine (mkey_any N A na ca key x y w7 T.out (RA.out.below B.out) hca hma (by omega)).mono ?_
    rintro e w8 ⟨M3, rfl, hM3, k3, m3, b⟩
    replace B := Kept.mk (B.out.trans (b.below B.out.size (by simpa using hlt)))
    have K3 := Kept.mk k3
    clear b k3 m3 T
    go_wp2_with fail
    refine (rkey_any A na ca key x y w8 (RA.out.below B.out) (by omega)).mono ?_
    rintro e w9 ⟨M4, c4, rfl, -, -, -, r4, b⟩
    replace K3 := Kept.mk (K3.out.below b K3.out.lt)
    replace B := Kept.mk (B.out.trans (b.mono B.out.size))
    have R4 := Kept.mk r4
    clear b r4
    go_wp2_with fail
    refine (bytes_same _ _ _ _ _ _ (hmac key [x % 256, y % 256]) w9 (Rd.blk K3.out (hmac_bytes _ _) (hmac_len _ _)) R4.out).mono ?_
    rintro e w10 ⟨rfl, rfl⟩
    go_wp2
    go_ret
    exact ⟨rfl, B.out⟩
end Go.Proofs.Ytblhfbpokfegnaa.Mac
