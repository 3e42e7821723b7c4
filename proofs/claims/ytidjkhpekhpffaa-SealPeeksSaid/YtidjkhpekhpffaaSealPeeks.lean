/-
  The law SealPeeks, walked.
-/
import Derived.Test.YtidjkhpekhpffaaPart18
namespace Go.Proofs.Ytidjkhpekhpffaa.Seal
open Go.RowKit Go.Proofs.Ytidjkhpekhpffaa.Sha Go.Proofs.Ytidjkhpekhpffaa.Wire Go.Proofs.Ytidjkhpekhpffaa.Mac

set_option maxRecDepth 100000 in
set_option maxHeartbeats 2000000 in
theorem speeks_walk (Ak : Option Addr) (nk ck : Nat) (key : List Int) (Ab : Option Addr) (nb cb : Nat) (b : List Int) (cut : Int) (w : World) (hk : Rd w Ak nk key) (hck : nk ≤ ck) (hmk : ck ≤ 9223372036854775807) (hb : Rd w Ab nb b) (hcb : nb ≤ cb) (hmb : cb ≤ 9223372036854775807) :
    Calls Try.prog 6 #[.slice Ak nk ck, .slice Ab nb cb, .int .i64 cut] w fun e w' => e = .returned (.bool true) ∧ Below w.heap.size w w' := by
  have B : Kept (Below w.heap.size w w) := ⟨Below.refl _ _⟩
  have HK := Kept.mk hk; have HB := Kept.mk hb
  have HLB := Kept.mk hb.1
  clear hk hb
  go_enter Try.func6, Try.ntmps6
  go_wp2_with fail
  refine (sfirst_any w).mono ?_
  rintro e w1 ⟨rfl, bb⟩
  replace HK := Kept.mk (HK.out.below bb)
  replace HB := Kept.mk (HB.out.below bb)
  replace B := Kept.mk (B.out.trans (bb.mono B.out.size))
  clear bb
  by_cases q : (2000 : Int) < nb
  · go_wp2_with fail
    refine (sfirst_any w1).mono ?_
    rintro e wz ⟨rfl, bb⟩
    replace B := Kept.mk (B.out.trans (bb.mono B.out.size))
    clear bb
    go_wp2
    go_ret
    exact ⟨rfl, B.out⟩
  have qnb : ((2000 : Int) < nb) = False := eq_false q
  have bnb : nb ≤ 2000 := by omega
  clear q
  by_cases q : (200 : Int) < nk
  · go_wp2_with fail
    refine (sfirst_any w1).mono ?_
    rintro e wz ⟨rfl, bb⟩
    replace B := Kept.mk (B.out.trans (bb.mono B.out.size))
    clear bb
    go_wp2
    go_ret
    exact ⟨rfl, B.out⟩
  have qnk : ((200 : Int) < nk) = False := eq_false q
  have bnk : nk ≤ 200 := by omega
  clear q
  go_wp2_with fail
  refine (newtable_any w1).mono ?_
  rintro e w2 ⟨rfl, rfl⟩
  obtain ⟨t, ht⟩ : ∃ t, w1.heap.size = t := ⟨_, rfl⟩
  rw [ht]
  have hwt : w.heap.size ≤ t := by rw [← ht]; exact B.out.size
  have T : Kept (Tab (w1.alloc (.cells (tbl (.int .u32 0) (.int .i32 0) (.int .u32 0) 0 0) 59)) t) := ⟨.inl (Blk.new_at _ _ _ t ht.symm)⟩
  have bb : Below w1.heap.size w1 (w1.alloc (.cells (tbl (.int .u32 0) (.int .i32 0) (.int .u32 0) 0 0) 59)) := (Below.refl _ _).alloc (Nat.le_refl _) _
  replace HK := Kept.mk (HK.out.below bb)
  replace HB := Kept.mk (HB.out.below bb)
  replace B := Kept.mk (B.out.trans (bb.mono B.out.size))
  clear bb
  generalize w1.alloc (.cells (tbl (.int .u32 0) (.int .i32 0) (.int .u32 0) 0 0) 59) = w2 at *
  clear ht
  by_cases hp : peekOk b
  rotate_left
  · have hE : openN key b = (⟨0, 0, 0, 0, []⟩, 2) := by
      have h2 : openE key b = 2 := by unfold openE; rw [if_neg (fun h => hp h.1)]
      unfold openN; rw [h2, if_neg (by decide)]
    have CC := cpeek_any Ab nb cb b w2 HB.out hcb (by omega)
    unfold PeekPost peekN at CC
    rw [if_neg hp] at CC
    dsimp only at CC
    replace CC := Kept.mk CC
    go_wp2_with fail
    refine CC.out.mono ?_
    rintro x w3 ⟨rfl, bb⟩
    replace HK := Kept.mk (HK.out.below bb)
    replace HB := Kept.mk (HB.out.below bb)
    replace T := Kept.mk (T.out.below bb T.out.lt)
    replace B := Kept.mk (B.out.trans (bb.mono B.out.size))
    clear bb
    clear CC
    have CC := copen_any t Ak nk ck key Ab nb cb b w3 T.out HK.out hck hmk (by omega) HB.out hcb hmb (by omega)
    rw [hE] at CC
    unfold OpenPost at CC
    dsimp only at CC
    replace CC := Kept.mk CC
    go_wp2_with fail
    refine CC.out.mono ?_
    rintro x w4 ⟨A3, l3, c3, rfl, hc3, hm3, rr, tt, bb⟩
    replace HK := Kept.mk (HK.out.tab T.out bb)
    replace HB := Kept.mk (HB.out.tab T.out bb)
    replace T := Kept.mk tt
    replace B := Kept.mk (B.out.trans (bb.below B.out.size (fun k hk => by rw [List.mem_singleton] at hk; omega)))
    clear bb tt
    clear CC
    have R3x := Kept.mk rr
    clear rr
    obtain ⟨M, hM⟩ : ∃ M, w4.heap.size = M := ⟨_, rfl⟩
    have Y : Kept (Blk (w4.alloc (.cells #[.int .i64 0, .int .i64 0, .int .i64 0, .int .i64 0, .slice A3 l3 c3] 24)) M 24 #[.int .i64 0, .int .i64 0, .int .i64 0, .int .i64 0, .slice A3 l3 c3]) := ⟨Blk.new_at w4 _ _ M hM.symm⟩
    have htY : t < M := by rw [← hM]; exact T.out.lt
    have bb : Below w4.heap.size w4 (w4.alloc (.cells #[.int .i64 0, .int .i64 0, .int .i64 0, .int .i64 0, .slice A3 l3 c3] 24)) := (Below.refl _ _).alloc (Nat.le_refl _) _
    go_upto_region 8 with (fail)
    clear hM
    replace HK := Kept.mk (HK.out.below bb)
    replace HB := Kept.mk (HB.out.below bb)
    replace R3x := Kept.mk (R3x.out.below bb)
    replace T := Kept.mk (T.out.below bb T.out.lt)
    replace B := Kept.mk (B.out.trans (bb.mono B.out.size))
    clear bb
    generalize (w4.alloc (.cells #[.int .i64 0, .int .i64 0, .int .i64 0, .int .i64 0, .slice A3 l3 c3] 24)) = w5 at *
    have y0 := Y.out.cell 0; have y1 := Y.out.cell 1; have y2 := Y.out.cell 2; have y3 := Y.out.cell 3; have y4 := Y.out.cell 4
    by_cases q : cut < 0
    · go_wp2_with fail
      refine (sfirst_any w5).mono ?_
      rintro e wz ⟨rfl, bb⟩
      replace B := Kept.mk (B.out.trans (bb.mono B.out.size))
      clear bb
      go_wp2
      go_ret
      exact ⟨rfl, B.out⟩
    by_cases q2 : (nb : Int) ≤ cut
    · have q2g : cut ≥ (nb : Int) := q2
      go_wp2_with fail
      refine (sfirst_any w5).mono ?_
      rintro e wz ⟨rfl, bb⟩
      replace B := Kept.mk (B.out.trans (bb.mono B.out.size))
      clear bb
      go_wp2
      go_ret
      exact ⟨rfl, B.out⟩
    go_wp2_with fail
    refine (sfirst_any w5).mono ?_
    rintro e wz ⟨rfl, bb⟩
    replace B := Kept.mk (B.out.trans (bb.mono B.out.size))
    clear bb
    go_wp2
    go_ret
    exact ⟨rfl, B.out⟩
  have HP := Kept.mk hp
  have HOC := openE_cases key b
  have h44 : 44 ≤ nb := by have := hp.1; have := HLB.out; omega
  obtain ⟨p, hp1⟩ : ∃ p, at_ b 1 = p := ⟨_, rfl⟩
  obtain ⟨h, hp2⟩ : ∃ h, at_ b 2 = h := ⟨_, rfl⟩
  obtain ⟨y, hp3⟩ : ∃ y, at_ b 3 = y := ⟨_, rfl⟩
  have hPN : peekN b = (p, h, y, 0) := by unfold peekN; rw [if_pos hp, hp1, hp2, hp3]
  clear hp
  have CC := cpeek_any Ab nb cb b w2 HB.out hcb (by omega)
  unfold PeekPost at CC
  rw [hPN] at CC
  dsimp only at CC
  replace CC := Kept.mk CC
  go_wp2_with fail
  refine CC.out.mono ?_
  rintro x w3 ⟨rfl, bb⟩
  replace HK := Kept.mk (HK.out.below bb)
  replace HB := Kept.mk (HB.out.below bb)
  replace T := Kept.mk (T.out.below bb T.out.lt)
  replace B := Kept.mk (B.out.trans (bb.mono B.out.size))
  clear bb
  clear CC
  clear hPN
  rcases HOC with HO | HO | HO
  · obtain ⟨z, hz⟩ : ∃ z : Int, ((nS b : Nat) : Int) = z := ⟨_, rfl⟩
    have hz1 : ¬ z < 1 := by have := HO.2.2.1; omega
    obtain ⟨bd, hbd⟩ : ∃ bd, (b.take (b.length - 32)).drop 12 = bd := ⟨_, rfl⟩
    have hbl : bd.length = nb - 44 := by rw [← hbd, List.length_drop, List.length_take]; have := HLB.out; omega
    have hE : openN key b = (⟨p, h, y, z, bd⟩, 0) := by unfold openN noteV; rw [if_pos HO.1, hp1, hp2, hp3, hz, hbd]
    clear hp1 hp2 hp3 hz hbd HO
    have CC := copen_any t Ak nk ck key Ab nb cb b w3 T.out HK.out hck hmk (by omega) HB.out hcb hmb (by omega)
    rw [hE] at CC
    unfold OpenPost at CC
    dsimp only at CC
    replace CC := Kept.mk CC
    go_wp2_with fail
    refine CC.out.mono ?_
    rintro x w4 ⟨A3, l3, c3, rfl, hc3, hm3, rr, tt, bb⟩
    replace HK := Kept.mk (HK.out.tab T.out bb)
    replace HB := Kept.mk (HB.out.tab T.out bb)
    replace T := Kept.mk tt
    replace B := Kept.mk (B.out.trans (bb.below B.out.size (fun k hk => by rw [List.mem_singleton] at hk; omega)))
    clear bb tt
    clear CC
    have R3x := Kept.mk rr
    clear rr
    obtain ⟨M, hM⟩ : ∃ M, w4.heap.size = M := ⟨_, rfl⟩
    have Y : Kept (Blk (w4.alloc (.cells #[.int .i64 p, .int .i64 h, .int .i64 y, .int .i64 z, .slice A3 l3 c3] 24)) M 24 #[.int .i64 p, .int .i64 h, .int .i64 y, .int .i64 z, .slice A3 l3 c3]) := ⟨Blk.new_at w4 _ _ M hM.symm⟩
    have htY : t < M := by rw [← hM]; exact T.out.lt
    have bb : Below w4.heap.size w4 (w4.alloc (.cells #[.int .i64 p, .int .i64 h, .int .i64 y, .int .i64 z, .slice A3 l3 c3] 24)) := (Below.refl _ _).alloc (Nat.le_refl _) _
    go_upto_region 8 with (fail)
    clear hM
    replace HK := Kept.mk (HK.out.below bb)
    replace HB := Kept.mk (HB.out.below bb)
    replace R3x := Kept.mk (R3x.out.below bb)
    replace T := Kept.mk (T.out.below bb T.out.lt)
    replace B := Kept.mk (B.out.trans (bb.mono B.out.size))
    clear bb
    generalize (w4.alloc (.cells #[.int .i64 p, .int .i64 h, .int .i64 y, .int .i64 z, .slice A3 l3 c3] 24)) = w5 at *
    have y0 := Y.out.cell 0; have y1 := Y.out.cell 1; have y2 := Y.out.cell 2; have y3 := Y.out.cell 3; have y4 := Y.out.cell 4
    have hl3 : (l3 : Int) = (nb : Int) - 44 := by
      have h1 := R3x.out.1
      omega
    clear hbl
    by_cases q : cut < 0
    · go_wp2_with fail
      refine (sfirst_any w5).mono ?_
      rintro e wz ⟨rfl, bb⟩
      replace B := Kept.mk (B.out.trans (bb.mono B.out.size))
      clear bb
      go_wp2
      go_ret
      exact ⟨rfl, B.out⟩
    by_cases q2 : (nb : Int) ≤ cut
    · have q2g : cut ≥ (nb : Int) := q2
      go_wp2_with fail
      refine (sfirst_any w5).mono ?_
      rintro e wz ⟨rfl, bb⟩
      replace B := Kept.mk (B.out.trans (bb.mono B.out.size))
      clear bb
      go_wp2
      go_ret
      exact ⟨rfl, B.out⟩
    obtain ⟨k, rfl⟩ : ∃ k : Nat, cut = (k : Int) := ⟨cut.toNat, by omega⟩
    have hkb : k < nb := by omega
    have NP := not_less HP.out k (by have := HLB.out; omega)
    obtain ⟨A5, hs5, r5, -⟩ := slice_h HB.out hcb k (by omega) (k : Int) rfl
    have CC := cpeek_any A5 k cb (b.take k) w5 r5 (by omega) (by omega)
    unfold PeekPost peekN at CC
    rw [if_neg NP] at CC
    dsimp only at CC
    replace CC := Kept.mk CC
    go_wp2_with fail
    refine CC.out.mono ?_
    rintro x w6 ⟨rfl, bb⟩
    replace HK := Kept.mk (HK.out.below bb)
    replace HB := Kept.mk (HB.out.below bb)
    replace R3x := Kept.mk (R3x.out.below bb)
    replace Y := Kept.mk (Y.out.below bb Y.out.lt)
    replace T := Kept.mk (T.out.below bb T.out.lt)
    replace B := Kept.mk (B.out.trans (bb.mono B.out.size))
    clear bb
    clear CC
    go_wp2_with fail
    refine (sfirst_any w6).mono ?_
    rintro e wz ⟨rfl, bb⟩
    replace B := Kept.mk (B.out.trans (bb.mono B.out.size))
    clear bb
    go_wp2
    go_ret
    exact ⟨rfl, B.out⟩
  · have hE : openN key b = (⟨0, 0, 0, 0, []⟩, 2) := by unfold openN; rw [HO.1, if_neg (by decide)]
    clear hp1 hp2 hp3 HO
    have CC := copen_any t Ak nk ck key Ab nb cb b w3 T.out HK.out hck hmk (by omega) HB.out hcb hmb (by omega)
    rw [hE] at CC
    unfold OpenPost at CC
    dsimp only at CC
    replace CC := Kept.mk CC
    go_wp2_with fail
    refine CC.out.mono ?_
    rintro x w4 ⟨A3, l3, c3, rfl, hc3, hm3, rr, tt, bb⟩
    replace HK := Kept.mk (HK.out.tab T.out bb)
    replace HB := Kept.mk (HB.out.tab T.out bb)
    replace T := Kept.mk tt
    replace B := Kept.mk (B.out.trans (bb.below B.out.size (fun k hk => by rw [List.mem_singleton] at hk; omega)))
    clear bb tt
    clear CC
    have R3x := Kept.mk rr
    clear rr
    obtain ⟨M, hM⟩ : ∃ M, w4.heap.size = M := ⟨_, rfl⟩
    have Y : Kept (Blk (w4.alloc (.cells #[.int .i64 0, .int .i64 0, .int .i64 0, .int .i64 0, .slice A3 l3 c3] 24)) M 24 #[.int .i64 0, .int .i64 0, .int .i64 0, .int .i64 0, .slice A3 l3 c3]) := ⟨Blk.new_at w4 _ _ M hM.symm⟩
    have htY : t < M := by rw [← hM]; exact T.out.lt
    have bb : Below w4.heap.size w4 (w4.alloc (.cells #[.int .i64 0, .int .i64 0, .int .i64 0, .int .i64 0, .slice A3 l3 c3] 24)) := (Below.refl _ _).alloc (Nat.le_refl _) _
    go_upto_region 8 with (fail)
    clear hM
    replace HK := Kept.mk (HK.out.below bb)
    replace HB := Kept.mk (HB.out.below bb)
    replace R3x := Kept.mk (R3x.out.below bb)
    replace T := Kept.mk (T.out.below bb T.out.lt)
    replace B := Kept.mk (B.out.trans (bb.mono B.out.size))
    clear bb
    generalize (w4.alloc (.cells #[.int .i64 0, .int .i64 0, .int .i64 0, .int .i64 0, .slice A3 l3 c3] 24)) = w5 at *
    have y0 := Y.out.cell 0; have y1 := Y.out.cell 1; have y2 := Y.out.cell 2; have y3 := Y.out.cell 3; have y4 := Y.out.cell 4
    by_cases q : cut < 0
    · go_wp2_with fail
      refine (sfirst_any w5).mono ?_
      rintro e wz ⟨rfl, bb⟩
      replace B := Kept.mk (B.out.trans (bb.mono B.out.size))
      clear bb
      go_wp2
      go_ret
      exact ⟨rfl, B.out⟩
    by_cases q2 : (nb : Int) ≤ cut
    · have q2g : cut ≥ (nb : Int) := q2
      go_wp2_with fail
      refine (sfirst_any w5).mono ?_
      rintro e wz ⟨rfl, bb⟩
      replace B := Kept.mk (B.out.trans (bb.mono B.out.size))
      clear bb
      go_wp2
      go_ret
      exact ⟨rfl, B.out⟩
    obtain ⟨k, rfl⟩ : ∃ k : Nat, cut = (k : Int) := ⟨cut.toNat, by omega⟩
    have hkb : k < nb := by omega
    have NP := not_less HP.out k (by have := HLB.out; omega)
    obtain ⟨A5, hs5, r5, -⟩ := slice_h HB.out hcb k (by omega) (k : Int) rfl
    have CC := cpeek_any A5 k cb (b.take k) w5 r5 (by omega) (by omega)
    unfold PeekPost peekN at CC
    rw [if_neg NP] at CC
    dsimp only at CC
    replace CC := Kept.mk CC
    go_wp2_with fail
    refine CC.out.mono ?_
    rintro x w6 ⟨rfl, bb⟩
    replace HK := Kept.mk (HK.out.below bb)
    replace HB := Kept.mk (HB.out.below bb)
    replace R3x := Kept.mk (R3x.out.below bb)
    replace Y := Kept.mk (Y.out.below bb Y.out.lt)
    replace T := Kept.mk (T.out.below bb T.out.lt)
    replace B := Kept.mk (B.out.trans (bb.mono B.out.size))
    clear bb
    clear CC
    go_wp2_with fail
    refine (sfirst_any w6).mono ?_
    rintro e wz ⟨rfl, bb⟩
    replace B := Kept.mk (B.out.trans (bb.mono B.out.size))
    clear bb
    go_wp2
    go_ret
    exact ⟨rfl, B.out⟩
  · have hE : openN key b = (⟨0, 0, 0, 0, []⟩, 4) := by unfold openN; rw [HO.1, if_neg (by decide)]
    clear hp1 hp2 hp3 HO
    have CC := copen_any t Ak nk ck key Ab nb cb b w3 T.out HK.out hck hmk (by omega) HB.out hcb hmb (by omega)
    rw [hE] at CC
    unfold OpenPost at CC
    dsimp only at CC
    replace CC := Kept.mk CC
    go_wp2_with fail
    refine CC.out.mono ?_
    rintro x w4 ⟨A3, l3, c3, rfl, hc3, hm3, rr, tt, bb⟩
    replace HK := Kept.mk (HK.out.tab T.out bb)
    replace HB := Kept.mk (HB.out.tab T.out bb)
    replace T := Kept.mk tt
    replace B := Kept.mk (B.out.trans (bb.below B.out.size (fun k hk => by rw [List.mem_singleton] at hk; omega)))
    clear bb tt
    clear CC
    have R3x := Kept.mk rr
    clear rr
    obtain ⟨M, hM⟩ : ∃ M, w4.heap.size = M := ⟨_, rfl⟩
    have Y : Kept (Blk (w4.alloc (.cells #[.int .i64 0, .int .i64 0, .int .i64 0, .int .i64 0, .slice A3 l3 c3] 24)) M 24 #[.int .i64 0, .int .i64 0, .int .i64 0, .int .i64 0, .slice A3 l3 c3]) := ⟨Blk.new_at w4 _ _ M hM.symm⟩
    have htY : t < M := by rw [← hM]; exact T.out.lt
    have bb : Below w4.heap.size w4 (w4.alloc (.cells #[.int .i64 0, .int .i64 0, .int .i64 0, .int .i64 0, .slice A3 l3 c3] 24)) := (Below.refl _ _).alloc (Nat.le_refl _) _
    go_upto_region 8 with (fail)
    clear hM
    replace HK := Kept.mk (HK.out.below bb)
    replace HB := Kept.mk (HB.out.below bb)
    replace R3x := Kept.mk (R3x.out.below bb)
    replace T := Kept.mk (T.out.below bb T.out.lt)
    replace B := Kept.mk (B.out.trans (bb.mono B.out.size))
    clear bb
    generalize (w4.alloc (.cells #[.int .i64 0, .int .i64 0, .int .i64 0, .int .i64 0, .slice A3 l3 c3] 24)) = w5 at *
    have y0 := Y.out.cell 0; have y1 := Y.out.cell 1; have y2 := Y.out.cell 2; have y3 := Y.out.cell 3; have y4 := Y.out.cell 4
    by_cases q : cut < 0
    · go_wp2_with fail
      refine (sfirst_any w5).mono ?_
      rintro e wz ⟨rfl, bb⟩
      replace B := Kept.mk (B.out.trans (bb.mono B.out.size))
      clear bb
      go_wp2
      go_ret
      exact ⟨rfl, B.out⟩
    by_cases q2 : (nb : Int) ≤ cut
    · have q2g : cut ≥ (nb : Int) := q2
      go_wp2_with fail
      refine (sfirst_any w5).mono ?_
      rintro e wz ⟨rfl, bb⟩
      replace B := Kept.mk (B.out.trans (bb.mono B.out.size))
      clear bb
      go_wp2
      go_ret
      exact ⟨rfl, B.out⟩
    obtain ⟨k, rfl⟩ : ∃ k : Nat, cut = (k : Int) := ⟨cut.toNat, by omega⟩
    have hkb : k < nb := by omega
    have NP := not_less HP.out k (by have := HLB.out; omega)
    obtain ⟨A5, hs5, r5, -⟩ := slice_h HB.out hcb k (by omega) (k : Int) rfl
    have CC := cpeek_any A5 k cb (b.take k) w5 r5 (by omega) (by omega)
    unfold PeekPost peekN at CC
    rw [if_neg NP] at CC
    dsimp only at CC
    replace CC := Kept.mk CC
    go_wp2_with fail
    refine CC.out.mono ?_
    rintro x w6 ⟨rfl, bb⟩
    replace HK := Kept.mk (HK.out.below bb)
    replace HB := Kept.mk (HB.out.below bb)
    replace R3x := Kept.mk (R3x.out.below bb)
    replace Y := Kept.mk (Y.out.below bb Y.out.lt)
    replace T := Kept.mk (T.out.below bb T.out.lt)
    replace B := Kept.mk (B.out.trans (bb.mono B.out.size))
    clear bb
    clear CC
    go_wp2_with fail
    refine (sfirst_any w6).mono ?_
    rintro e wz ⟨rfl, bb⟩
    replace B := Kept.mk (B.out.trans (bb.mono B.out.size))
    clear bb
    go_wp2
    go_ret
    exact ⟨rfl, B.out⟩
end Go.Proofs.Ytidjkhpekhpffaa.Seal
