/-
  The law MacEqual, walked.
-/
import Derived.Test.YtblhfbpokfegnaaMacFirst
namespace Go.Proofs.Ytblhfbpokfegnaa.Mac
open Go.RowKit Go.Proofs.Ytblhfbpokfegnaa.Sha

theorem xor_same (x y : Int) (hx : 0 ≤ x ∧ x ≤ 255) (hy : 0 ≤ y ∧ y ≤ 255) : bits .xor .u8 x y = x ↔ y = 0 := by
  rw [u8_xor x y hx.1 (by omega) hy.1 (by omega)]
  constructor
  · intro h
    have h2 : x.toNat ^^^ y.toNat = x.toNat := by omega
    have h3 : y.toNat = 0 := by
      have := congrArg (fun n => x.toNat ^^^ n) h2
      simpa [← Nat.xor_assoc] using this
    omega
  · rintro rfl
    simp
    omega
theorem sameB_turn (xs : List Int) (i : Nat) (y : Int) (hb : Bytes xs) (hi : i < xs.length) (hy : 0 ≤ y ∧ y ≤ 255) : sameB xs (xs.set i (bits .xor .u8 (at_ xs i) y)) = decide (y = 0) := by
  unfold sameB
  apply decide_eq_decide.2
  rw [← xor_same (at_ xs i) y (hb.at_ i) hy]
  constructor
  · intro h
    have h2 : at_ xs i = at_ (xs.set i (bits .xor .u8 (at_ xs i) y)) i := by rw [← h]
    rw [Sha.at_set _ _ _ _ hi, if_pos rfl] at h2
    exact h2.symm
  · intro h
    rw [h]
    apply at_ext
    · simp
    · intro j hj
      rw [Sha.at_set _ _ _ _ hj]
      by_cases e : i = j
      · subst e; rw [if_pos rfl]
      · rw [if_neg e]

set_option maxRecDepth 100000 in
set_option maxHeartbeats 2000000 in
theorem mequal_walk (A : Option Addr) (n ca : Nat) (xs : List Int) (at' turn : Int) (w : World) (hra : Rd w A n xs) (hca : n ≤ ca) (hma : ca ≤ 9223372036854775807) (hturn : 0 ≤ turn ∧ turn ≤ 255) :
    Calls Try.prog 7 #[.slice A n ca, .int .i64 at', .int .u8 turn] w fun e w' => e = .returned (.bool true) ∧ Below w.heap.size w w' := by
  have RA := Kept.mk hra
  have LA := Kept.mk hra.1
  clear hra
  by_cases hbad : 1000 < n ∨ n = 0 ∨ at' < 0
  · rcases hbad with hbad | hbad | hbad <;>
    · try (subst hbad)
      go_enter Try.func7, Try.ntmps7
      go_wp2_with fail
      refine (mfirst_any _).mono ?_
      rintro e w1 ⟨rfl, b1⟩
      go_wp2_with fail
      all_goals
        refine (mfirst_any _).mono ?_
        rintro e w2 ⟨rfl, b2⟩
        have B2 := Kept.mk (b1.trans (b2.mono b1.size))
        clear b1 b2
        go_wp2_with fail
        refine (equal_any none none 0 0 0 0 [] [] w2 Rd.nil_ Rd.nil_ (by omega) (by omega) (by omega)).mono ?_
        rw [sameB_self]
        rintro e w3 ⟨rfl, b3⟩
        have B3 := Kept.mk (B2.out.trans (b3.mono B2.out.size))
        clear B2 b3
        go_wp2
        go_ret
        exact ⟨rfl, B3.out⟩
  · have hn : n ≤ 1000 := by omega
    have hn0 : 0 < n := by omega
    have hn0' : ¬ n = 0 := by omega
    have hat : 0 ≤ at' := by omega
    obtain ⟨i, hi⟩ := Int.eq_ofNat_of_zero_le (Int.emod_nonneg at' (show (n : Int) ≠ 0 by omega))
    have hin : i < n := by have := Int.emod_lt_of_pos at' (show (0 : Int) < n by omega); omega
    have hin' : (i : Int) < n := by omega
    obtain ⟨h0, h1⟩ := hturn
    obtain ⟨bb, oo, hA, hcell⟩ := RA.out.2.2.resolve_left (by omega)
    subst hA
    have RD := Kept.mk (show Rd w (some ⟨bb, oo + 1, none⟩) (n - 1) (xs.drop 1) from ⟨by rw [List.length_drop, LA.out], RA.out.2.1.drop _, by
      by_cases h1 : n - 1 = 0
      · exact .inl h1
      · exact .inr ⟨bb, oo + 1, rfl, fun j hj => by rw [Nat.add_assoc, hcell (1 + j) (by omega), at_drop]⟩⟩)
    have RT := Kept.mk (show Rd w (some ⟨bb, oo, none⟩) (n - 1) (xs.take (n - 1)) from ⟨by rw [List.length_take, LA.out]; omega, RA.out.2.1.take _, .inr ⟨bb, oo, rfl, fun j hj => by rw [hcell j (by omega), at_take hj]⟩⟩)
    have SD := Kept.mk (show sameB xs (xs.drop 1) = false from sameB_len (by rw [List.length_drop, LA.out]; omega))
    have ST' := Kept.mk (show sameB (xs.take (n - 1)) xs = false from sameB_len (by rw [List.length_take, LA.out]; omega))
    clear hcell
    have e0 : ((n : Int) == 0) = false := by simp; omega
    clear hbad
    go_enter Try.func7, Try.ntmps7
    go_wp2_with fail
    refine (mfirst_any _).mono ?_
    rintro e w1 ⟨rfl, b1⟩
    have B := Kept.mk b1
    clear b1
    go_wp2_with fail
    refine (copy_any (some ⟨bb, oo, none⟩) n ca xs w1 (RA.out.below B.out) (by omega)).mono ?_
    rintro e w2 ⟨v, rfl, own, b⟩
    obtain ⟨A', c', rfl, hc', hm', -, hg⟩ := own_rd2 own RA.out.2.1
    obtain ⟨g, cs, rfl, hgb, kb, hcs⟩ := hg.resolve_left (by omega)
    have hwg : w.heap.size ≤ g := by have := B.out.size; omega
    have x0 := (kb.cell i).trans (hcs i hin)
    have z0 := kb.frozen i
    have hx := RA.out.2.1.at_ i
    have ST := Kept.mk (sameB_turn xs i turn RA.out.2.1 (by rw [LA.out]; exact hin) ⟨h0, h1⟩)
    have kr : ∀ w', Blk w' g 5 (cs.setIfInBounds i (.int .u8 (bits .xor .u8 (at_ xs i) turn))) → Rd w' (some ⟨g, 0, none⟩) n (xs.set i (bits .xor .u8 (at_ xs i) turn)) := by
      intro w' hk
      refine ⟨by rw [List.length_set]; exact LA.out, ?_, .inr ⟨g, 0, rfl, fun j hj => ?_⟩⟩
      · intro y hy
        rcases List.mem_or_eq_of_mem_set hy with h | h
        · exact RA.out.2.1 y h
        · rw [h]; exact bits8 _ _ _
      · rw [Nat.zero_add, hk.cell j, Sha.at_set _ _ _ _ (by rw [LA.out]; exact hj)]
        by_cases e : i = j
        · subst e
          have hlt : i < cs.size := by
            have := hcs i hin
            exact (Array.getElem?_eq_some_iff.1 this).1
          rw [if_pos rfl]
          simp [hlt]
        · rw [if_neg e, Array.getElem?_setIfInBounds_ne e]
          exact hcs j hj
    have KR := Kept.mk kr
    have KB := Kept.mk kb
    replace B := Kept.mk (B.out.trans (b.mono B.out.size))
    obtain ⟨Y, hY⟩ : ∃ Y, xs.set i (bits .xor .u8 (at_ xs i) turn) = Y := ⟨_, rfl⟩
    rw [hY] at ST KR
    generalize at_ xs i = x at *
    obtain ⟨hx0, hx1⟩ := hx
    clear own b hg kb hcs kr hY
    go_wp2_with fail
    have K3 := Kept.mk (KB.out.set_ i (.int .u8 (bits .xor .u8 x turn)))
    replace B := Kept.mk (B.out.setCell (p := ⟨g, i, none⟩) hwg (.int .u8 (bits .xor .u8 x turn)))
    clear x0 z0 KB hi
    generalize w2.setCell ⟨g, i, none⟩ (.int .u8 (bits .xor .u8 x turn)) = w3 at *
    have RY := Kept.mk (KR.out w3 K3.out)
    clear K3 KR
    refine (mfirst_any _).mono ?_
    rintro e w4 ⟨rfl, b⟩
    replace RY := Kept.mk (RY.out.below b)
    replace B := Kept.mk (B.out.trans (b.mono B.out.size))
    clear b
    have ce := Kept.mk (equal_any (some ⟨bb, oo, none⟩) (some ⟨g, 0, none⟩) n n ca c' xs Y w4 (RA.out.below B.out) RY.out hca hc' hma)
    rw [ST.out] at ce
    clear RY ST
    obtain ⟨tb, htb⟩ : ∃ tb, decide (turn = 0) = tb := ⟨_, rfl⟩
    have htb2 : (turn == 0) = tb := by rw [← htb]; rfl
    rw [htb] at ce
    clear htb
    by_cases hc1 : ca = 1
    · subst hc1
      obtain rfl : n = 1 := by omega
      have RD2 : Kept (Rd w (some ⟨bb, oo, none⟩) 0 (xs.drop 1)) := ⟨RD.out.1, RD.out.2.1, .inl rfl⟩
      go_wp2_with fail
      refine ce.out.mono ?_
      rintro e w5 ⟨rfl, b⟩
      replace B := Kept.mk (B.out.trans (b.mono B.out.size))
      clear b ce
      go_wp2_with fail
      refine (equal_any (some ⟨bb, oo, none⟩) (some ⟨bb, oo, none⟩) 1 0 1 0 xs (xs.drop 1) w5 (RA.out.below B.out) (RD2.out.below B.out) (by omega) (by omega) (by omega)).mono ?_
      rw [SD.out]
      rintro e w6 ⟨rfl, b⟩
      replace B := Kept.mk (B.out.trans (b.mono B.out.size))
      clear b
      go_wp2_with fail
      refine (equal_any (some ⟨bb, oo, none⟩) (some ⟨bb, oo, none⟩) 0 1 1 1 (xs.take (1 - 1)) xs w6 (RT.out.below B.out) (RA.out.below B.out) (by omega) (by omega) (by omega)).mono ?_
      rw [ST'.out]
      rintro e w7 ⟨rfl, b⟩
      replace B := Kept.mk (B.out.trans (b.mono B.out.size))
      clear b
      go_wp2_with fail
      refine (copy_any (some ⟨bb, oo, none⟩) 1 1 xs w7 (RA.out.below B.out) (by omega)).mono ?_
      rintro e w8 ⟨v, rfl, own, b⟩
      replace B := Kept.mk (B.out.trans (b.mono B.out.size))
      obtain ⟨A8, c8, rfl, hc8, hm8, r8⟩ := own_rd own RA.out.2.1
      have R8 := Kept.mk r8
      clear b own r8
      go_wp2_with fail
      refine (equal_any (some ⟨bb, oo, none⟩) A8 1 1 1 c8 xs xs w8 (RA.out.below B.out) R8.out (by omega) (by omega) (by omega)).mono ?_
      rw [sameB_self]
      rintro e w9 ⟨rfl, b⟩
      replace B := Kept.mk (B.out.trans (b.mono B.out.size))
      clear b
      go_wp2
      go_ret
      exact ⟨rfl, B.out⟩
    · have hc2 : ¬ ca = 1 := hc1
      have RD2 := RD
      have n1 : ((n : Int) - 1).toNat = n - 1 := by omega
      have n2 : (0 : Int) ≤ (n : Int) - 1 := by omega
      have n3 : (n : Int) - 1 ≤ ca := by omega
      have n4 : (1 : Int) ≤ n := by omega
      go_wp2_with fail
      refine ce.out.mono ?_
      rintro e w5 ⟨rfl, b⟩
      replace B := Kept.mk (B.out.trans (b.mono B.out.size))
      clear b ce
      go_wp2_with fail
      refine (equal_any (some ⟨bb, oo, none⟩) (some ⟨bb, oo + 1, none⟩) n (n - 1) ca (ca - 1) xs (xs.drop 1) w5 (RA.out.below B.out) (RD2.out.below B.out) (by omega) (by omega) (by omega)).mono ?_
      rw [SD.out]
      rintro e w6 ⟨rfl, b⟩
      replace B := Kept.mk (B.out.trans (b.mono B.out.size))
      clear b
      go_wp2_with fail
      refine (equal_any (some ⟨bb, oo, none⟩) (some ⟨bb, oo, none⟩) (n - 1) n ca ca (xs.take (n - 1)) xs w6 (RT.out.below B.out) (RA.out.below B.out) (by omega) (by omega) (by omega)).mono ?_
      rw [ST'.out]
      rintro e w7 ⟨rfl, b⟩
      replace B := Kept.mk (B.out.trans (b.mono B.out.size))
      clear b
      go_wp2_with fail
      refine (copy_any (some ⟨bb, oo, none⟩) n ca xs w7 (RA.out.below B.out) (by omega)).mono ?_
      rintro e w8 ⟨v, rfl, own, b⟩
      replace B := Kept.mk (B.out.trans (b.mono B.out.size))
      obtain ⟨A8, c8, rfl, hc8, hm8, r8⟩ := own_rd own RA.out.2.1
      have R8 := Kept.mk r8
      clear b own r8
      go_wp2_with fail
      refine (equal_any (some ⟨bb, oo, none⟩) A8 n n ca c8 xs xs w8 (RA.out.below B.out) R8.out (by omega) (by omega) (by omega)).mono ?_
      rw [sameB_self]
      rintro e w9 ⟨rfl, b⟩
      replace B := Kept.mk (B.out.trans (b.mono B.out.size))
      clear b
      go_wp2
      go_ret
      exact ⟨rfl, B.out⟩
end Go.Proofs.Ytblhfbpokfegnaa.Mac
