/-
  The law SealTells, walked.
-/
import Derived.Test.YtidjkhpekhpffaaPart18
import Derived.Test.YtidjkhpekhpffaaPart5
import Derived.Test.YtidjkhpekhpffaaPart22
import Derived.Test.YtidjkhpekhpffaaPart23
namespace Go.Proofs.Ytidjkhpekhpffaa.Seal
open Go.RowKit Go.Proofs.Ytidjkhpekhpffaa.Sha Go.Proofs.Ytidjkhpekhpffaa.Wire Go.Proofs.Ytidjkhpekhpffaa.Mac

set_option maxRecDepth 100000 in
set_option maxHeartbeats 2000000 in
theorem stells_walk (n : NV) (A : Option Addr) (l c : Nat) (Ak : Option Addr) (nk ck : Nat) (key : List Int) (Ab : Option Addr) (nb cb : Nat) (b : List Int) (w : World) (hr : Rd w A l n.body) (hc : l ≤ c) (hcm : c ≤ 9223372036854775807) (hk : Rd w Ak nk key) (hck : nk ≤ ck) (hmk : ck ≤ 9223372036854775807) (hb : Rd w Ab nb b) (hcb : nb ≤ cb) (hmb : cb ≤ 9223372036854775807) :
    Calls Try.prog 3 #[.agg #[.int .i64 n.party, .int .i64 n.which, .int .i64 n.way, .int .i64 n.seq, .slice A l c], .slice Ak nk ck, .slice Ab nb cb] w fun e w' => e = .returned (.bool true) ∧ Below w.heap.size w w' := by
  obtain ⟨N, hN⟩ : ∃ N, w.heap.size = N := ⟨_, rfl⟩
  have X : Kept (Blk (w.alloc (.cells #[.int .i64 n.party, .int .i64 n.which, .int .i64 n.way, .int .i64 n.seq, .slice A l c] 24)) N 24 #[.int .i64 n.party, .int .i64 n.which, .int .i64 n.way, .int .i64 n.seq, .slice A l c]) := ⟨Blk.new_at w _ _ N hN.symm⟩
  have B : Kept (Below w.heap.size w (w.alloc (.cells #[.int .i64 n.party, .int .i64 n.which, .int .i64 n.way, .int .i64 n.seq, .slice A l c] 24))) := ⟨(Below.refl _ _).alloc (Nat.le_refl _) _⟩
  have HR := Kept.mk (hr.below B.out); have HK := Kept.mk (hk.below B.out); have HB := Kept.mk (hb.below B.out)
  clear hr hk hb
  go_enter Try.func3, Try.ntmps3
  go_upto_region 1 with (fail)
  generalize (w.alloc (.cells #[.int .i64 n.party, .int .i64 n.which, .int .i64 n.way, .int .i64 n.seq, .slice A l c] 24)) = w1 at *
  go_wp2_with fail
  refine (sfirst_any w1).mono ?_
  rintro e w2 ⟨rfl, bb⟩
  replace X := Kept.mk (X.out.below bb X.out.lt)
  replace HR := Kept.mk (HR.out.below bb)
  replace HK := Kept.mk (HK.out.below bb)
  replace HB := Kept.mk (HB.out.below bb)
  replace B := Kept.mk (B.out.trans (bb.mono B.out.size))
  clear bb
  have x4 := X.out.cell 4
  by_cases q : (70000 : Int) < l
  · go_wp2_with fail
    refine (sfirst_any w2).mono ?_
    rintro e wz ⟨rfl, bb⟩
    replace B := Kept.mk (B.out.trans (bb.mono B.out.size))
    clear bb
    go_wp2
    go_ret
    exact ⟨rfl, B.out⟩
  have ql : ((70000 : Int) < l) = False := eq_false q
  have bl : l ≤ 70000 := by omega
  clear q
  by_cases q : (1000 : Int) < nk
  · go_wp2_with fail
    refine (sfirst_any w2).mono ?_
    rintro e wz ⟨rfl, bb⟩
    replace B := Kept.mk (B.out.trans (bb.mono B.out.size))
    clear bb
    go_wp2
    go_ret
    exact ⟨rfl, B.out⟩
  have qnk : ((1000 : Int) < nk) = False := eq_false q
  have bnk : nk ≤ 1000 := by omega
  clear q
  by_cases q : (70000 : Int) < nb
  · go_wp2_with fail
    refine (sfirst_any w2).mono ?_
    rintro e wz ⟨rfl, bb⟩
    replace B := Kept.mk (B.out.trans (bb.mono B.out.size))
    clear bb
    go_wp2
    go_ret
    exact ⟨rfl, B.out⟩
  have qnb : ((70000 : Int) < nb) = False := eq_false q
  have bnb : nb ≤ 70000 := by omega
  clear q
  go_wp2_with fail
  refine (newtable_any w2).mono ?_
  rintro e w3 ⟨rfl, rfl⟩
  obtain ⟨t, ht⟩ : ∃ t, w2.heap.size = t := ⟨_, rfl⟩
  rw [ht]
  have hwt : w.heap.size ≤ t := by rw [← ht]; exact B.out.size
  have T : Kept (Tab (w2.alloc (.cells (tbl (.int .u32 0) (.int .i32 0) (.int .u32 0) 0 0) 59)) t) := ⟨.inl (Blk.new_at _ _ _ t ht.symm)⟩
  have bb : Below w2.heap.size w2 (w2.alloc (.cells (tbl (.int .u32 0) (.int .i32 0) (.int .u32 0) 0 0) 59)) := (Below.refl _ _).alloc (Nat.le_refl _) _
  have ltX := X.out.lt
  replace X := Kept.mk (X.out.below bb X.out.lt)
  replace HR := Kept.mk (HR.out.below bb)
  replace HK := Kept.mk (HK.out.below bb)
  replace HB := Kept.mk (HB.out.below bb)
  replace B := Kept.mk (B.out.trans (bb.mono B.out.size))
  clear bb
  generalize w2.alloc (.cells (tbl (.int .u32 0) (.int .i32 0) (.int .u32 0) 0 0) 59) = w3 at *
  rw [ht] at ltX
  clear ht
  clear x4
  have x0 := X.out.cell 0; have x1 := X.out.cell 1; have x2 := X.out.cell 2; have x3 := X.out.cell 3; have x4 := X.out.cell 4
  obtain ⟨R, hR⟩ : ∃ R, sealN key n = R := ⟨_, rfl⟩
  obtain ⟨R1, R2⟩ := R
  have HSN := Kept.mk hR
  clear hR
  have CC := cseal_any t Ak nk ck key n A l c w3 T.out HK.out hck hmk (by omega) HR.out hc hcm (by omega)
  rw [HSN.out] at CC
  unfold SealPost at CC
  dsimp only at CC
  replace CC := Kept.mk CC
  go_wp2_with fail
  refine CC.out.mono ?_
  rintro x w4 ⟨A1, l1, c1, rfl, hc1, hm1, rr, tt, bb⟩
  replace X := Kept.mk (X.out.bar bb (by rw [List.mem_singleton]; omega))
  replace HR := Kept.mk (HR.out.tab T.out bb)
  replace HK := Kept.mk (HK.out.tab T.out bb)
  replace HB := Kept.mk (HB.out.tab T.out bb)
  replace T := Kept.mk tt
  replace B := Kept.mk (B.out.trans (bb.below B.out.size (fun k hk => by rw [List.mem_singleton] at hk; omega)))
  clear bb tt
  clear CC
  have R1x := Kept.mk rr
  clear rr x0 x1 x2 x3 x4
  have x0 := X.out.cell 0; have x1 := X.out.cell 1; have x2 := X.out.cell 2; have x3 := X.out.cell 3; have x4 := X.out.cell 4
  have CC := rseal_any Ak nk ck key n A l c w4 HK.out (by omega) HR.out (by omega)
  rw [HSN.out] at CC
  unfold RSealPost at CC
  dsimp only at CC
  replace CC := Kept.mk CC
  go_wp2_with fail
  refine CC.out.mono ?_
  rintro x w5 ⟨A2, l2, c2, rfl, hc2, hm2, rr, bb⟩
  replace X := Kept.mk (X.out.below bb X.out.lt)
  replace HR := Kept.mk (HR.out.below bb)
  replace HK := Kept.mk (HK.out.below bb)
  replace HB := Kept.mk (HB.out.below bb)
  replace R1x := Kept.mk (R1x.out.below bb)
  replace T := Kept.mk (T.out.below bb T.out.lt)
  replace B := Kept.mk (B.out.trans (bb.mono B.out.size))
  clear bb
  clear CC
  have R2x := Kept.mk rr
  clear rr x0 x1 x2 x3 x4
  obtain ⟨Q, hQ⟩ : ∃ Q, peekN b = Q := ⟨_, rfl⟩
  obtain ⟨Q1, Q2, Q3, Q4⟩ := Q
  have HPN := Kept.mk hQ
  clear hQ
  have CC := cpeek_any Ab nb cb b w5 HB.out hcb (by omega)
  unfold PeekPost at CC
  rw [HPN.out] at CC
  dsimp only at CC
  replace CC := Kept.mk CC
  go_wp2_with fail
  refine CC.out.mono ?_
  rintro x w6 ⟨rfl, bb⟩
  replace X := Kept.mk (X.out.below bb X.out.lt)
  replace HR := Kept.mk (HR.out.below bb)
  replace HK := Kept.mk (HK.out.below bb)
  replace HB := Kept.mk (HB.out.below bb)
  replace R1x := Kept.mk (R1x.out.below bb)
  replace R2x := Kept.mk (R2x.out.below bb)
  replace T := Kept.mk (T.out.below bb T.out.lt)
  replace B := Kept.mk (B.out.trans (bb.mono B.out.size))
  clear bb
  clear CC
  have CC := rpeek_any Ab nb cb b w6 HB.out hcb hmb (by omega)
  unfold PeekPost at CC
  rw [HPN.out] at CC
  dsimp only at CC
  replace CC := Kept.mk CC
  go_wp2_with fail
  refine CC.out.mono ?_
  rintro x w7 ⟨rfl, bb⟩
  replace X := Kept.mk (X.out.below bb X.out.lt)
  replace HR := Kept.mk (HR.out.below bb)
  replace HK := Kept.mk (HK.out.below bb)
  replace HB := Kept.mk (HB.out.below bb)
  replace R1x := Kept.mk (R1x.out.below bb)
  replace R2x := Kept.mk (R2x.out.below bb)
  replace T := Kept.mk (T.out.below bb T.out.lt)
  replace B := Kept.mk (B.out.trans (bb.mono B.out.size))
  clear bb
  clear CC
  obtain ⟨O, hO⟩ : ∃ O, openN key b = O := ⟨_, rfl⟩
  obtain ⟨O1, O2⟩ := O
  have HON := Kept.mk hO
  clear hO
  have CC := copen_any t Ak nk ck key Ab nb cb b w7 T.out HK.out hck hmk (by omega) HB.out hcb hmb (by omega)
  rw [HON.out] at CC
  unfold OpenPost at CC
  dsimp only at CC
  replace CC := Kept.mk CC
  go_wp2_with fail
  refine CC.out.mono ?_
  rintro x w8 ⟨A3, l3, c3, rfl, hc3, hm3, rr, tt, bb⟩
  replace X := Kept.mk (X.out.bar bb (by rw [List.mem_singleton]; omega))
  replace HR := Kept.mk (HR.out.tab T.out bb)
  replace HK := Kept.mk (HK.out.tab T.out bb)
  replace HB := Kept.mk (HB.out.tab T.out bb)
  replace R1x := Kept.mk (R1x.out.tab T.out bb)
  replace R2x := Kept.mk (R2x.out.tab T.out bb)
  replace T := Kept.mk tt
  replace B := Kept.mk (B.out.trans (bb.below B.out.size (fun k hk => by rw [List.mem_singleton] at hk; omega)))
  clear bb tt
  clear CC
  have R3x := Kept.mk rr
  clear rr
  obtain ⟨M, hM⟩ : ∃ M, w8.heap.size = M := ⟨_, rfl⟩
  have Y : Kept (Blk (w8.alloc (.cells #[.int .i64 O1.party, .int .i64 O1.which, .int .i64 O1.way, .int .i64 O1.seq, .slice A3 l3 c3] 24)) M 24 #[.int .i64 O1.party, .int .i64 O1.which, .int .i64 O1.way, .int .i64 O1.seq, .slice A3 l3 c3]) := ⟨Blk.new_at w8 _ _ M hM.symm⟩
  have htY : t < M := by rw [← hM]; exact T.out.lt
  have bb : Below w8.heap.size w8 (w8.alloc (.cells #[.int .i64 O1.party, .int .i64 O1.which, .int .i64 O1.way, .int .i64 O1.seq, .slice A3 l3 c3] 24)) := (Below.refl _ _).alloc (Nat.le_refl _) _
  go_upto_region 11 with (fail)
  clear hM
  replace X := Kept.mk (X.out.below bb X.out.lt)
  replace HR := Kept.mk (HR.out.below bb)
  replace HK := Kept.mk (HK.out.below bb)
  replace HB := Kept.mk (HB.out.below bb)
  replace R1x := Kept.mk (R1x.out.below bb)
  replace R2x := Kept.mk (R2x.out.below bb)
  replace R3x := Kept.mk (R3x.out.below bb)
  replace T := Kept.mk (T.out.below bb T.out.lt)
  replace B := Kept.mk (B.out.trans (bb.mono B.out.size))
  clear bb
  generalize (w8.alloc (.cells #[.int .i64 O1.party, .int .i64 O1.which, .int .i64 O1.way, .int .i64 O1.seq, .slice A3 l3 c3] 24)) = w9 at *
  have CC := ropen_any Ak nk ck key Ab nb cb b w9 HK.out (by omega) HB.out hcb hmb (by omega)
  rw [HON.out] at CC
  unfold ROpenPost at CC
  dsimp only at CC
  replace CC := Kept.mk CC
  go_wp2_with fail
  refine CC.out.mono ?_
  rintro x w10 ⟨A4, l4, c4, rfl, hc4, hm4, rr, bb⟩
  replace X := Kept.mk (X.out.below bb X.out.lt)
  replace HR := Kept.mk (HR.out.below bb)
  replace HK := Kept.mk (HK.out.below bb)
  replace HB := Kept.mk (HB.out.below bb)
  replace R1x := Kept.mk (R1x.out.below bb)
  replace R2x := Kept.mk (R2x.out.below bb)
  replace R3x := Kept.mk (R3x.out.below bb)
  replace Y := Kept.mk (Y.out.below bb Y.out.lt)
  replace T := Kept.mk (T.out.below bb T.out.lt)
  replace B := Kept.mk (B.out.trans (bb.mono B.out.size))
  clear bb
  clear CC
  have R4x := Kept.mk rr
  clear rr
  obtain ⟨K, hM⟩ : ∃ M, w10.heap.size = M := ⟨_, rfl⟩
  have Z : Kept (Blk (w10.alloc (.cells #[.int .i64 O1.party, .int .i64 O1.which, .int .i64 O1.way, .int .i64 O1.seq, .slice A4 l4 c4] 24)) K 24 #[.int .i64 O1.party, .int .i64 O1.which, .int .i64 O1.way, .int .i64 O1.seq, .slice A4 l4 c4]) := ⟨Blk.new_at w10 _ _ K hM.symm⟩
  have htZ : t < K := by rw [← hM]; exact T.out.lt
  have bb : Below w10.heap.size w10 (w10.alloc (.cells #[.int .i64 O1.party, .int .i64 O1.which, .int .i64 O1.way, .int .i64 O1.seq, .slice A4 l4 c4] 24)) := (Below.refl _ _).alloc (Nat.le_refl _) _
  go_upto_region 12 with (fail)
  clear hM
  replace X := Kept.mk (X.out.below bb X.out.lt)
  replace HR := Kept.mk (HR.out.below bb)
  replace HK := Kept.mk (HK.out.below bb)
  replace HB := Kept.mk (HB.out.below bb)
  replace R1x := Kept.mk (R1x.out.below bb)
  replace R2x := Kept.mk (R2x.out.below bb)
  replace R3x := Kept.mk (R3x.out.below bb)
  replace Y := Kept.mk (Y.out.below bb Y.out.lt)
  replace R4x := Kept.mk (R4x.out.below bb)
  replace T := Kept.mk (T.out.below bb T.out.lt)
  replace B := Kept.mk (B.out.trans (bb.mono B.out.size))
  clear bb
  generalize (w10.alloc (.cells #[.int .i64 O1.party, .int .i64 O1.which, .int .i64 O1.way, .int .i64 O1.seq, .slice A4 l4 c4] 24)) = w11 at *
  go_wp2_with fail
  refine (sfirst_any w11).mono ?_
  rintro e w12 ⟨rfl, bb⟩
  replace X := Kept.mk (X.out.below bb X.out.lt)
  replace HR := Kept.mk (HR.out.below bb)
  replace HK := Kept.mk (HK.out.below bb)
  replace HB := Kept.mk (HB.out.below bb)
  replace R1x := Kept.mk (R1x.out.below bb)
  replace R2x := Kept.mk (R2x.out.below bb)
  replace R3x := Kept.mk (R3x.out.below bb)
  replace Y := Kept.mk (Y.out.below bb Y.out.lt)
  replace R4x := Kept.mk (R4x.out.below bb)
  replace Z := Kept.mk (Z.out.below bb Z.out.lt)
  replace T := Kept.mk (T.out.below bb T.out.lt)
  replace B := Kept.mk (B.out.trans (bb.mono B.out.size))
  clear bb
  have CB := Kept.mk (bytes_same A1 A2 l1 l2 c1 c2 R2 w12 R1x.out R2x.out)
  go_wp2_with fail
  refine CB.out.mono ?_
  rintro x wq ⟨rfl, rfl⟩
  clear CB
  have y0 := Y.out.cell 0; have y1 := Y.out.cell 1; have y2 := Y.out.cell 2; have y3 := Y.out.cell 3; have y4 := Y.out.cell 4; have z0 := Z.out.cell 0; have z1 := Z.out.cell 1; have z2 := Z.out.cell 2; have z3 := Z.out.cell 3; have z4 := Z.out.cell 4
  have CS := Kept.mk (rsame_yes O1 A3 A4 l3 c3 l4 c4 w12 R3x.out R4x.out)
  go_wp2_with fail
  refine CS.out.mono ?_
  rintro x wq ⟨rfl, bb⟩
  replace B := Kept.mk (B.out.trans (bb.mono B.out.size))
  clear CS bb
  go_wp2
  go_ret
  exact ⟨rfl, B.out⟩
end Go.Proofs.Ytidjkhpekhpffaa.Seal
