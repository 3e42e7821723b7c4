/-
  The law SealBack, walked.
-/
import Derived.Test.YtidjkhpekhpffaaPart18
import Derived.Test.YtidjkhpekhpffaaPart5
import Derived.Test.YtidjkhpekhpffaaPart23
import Derived.Test.YtidjkhpekhpffaaPart4
import Derived.Deep.DeepCutAuto
namespace Go.Proofs.Ytidjkhpekhpffaa.Seal
open Go.RowKit Go.Proofs.Ytidjkhpekhpffaa.Sha Go.Proofs.Ytidjkhpekhpffaa.Wire Go.Proofs.Ytidjkhpekhpffaa.Mac

set_option maxRecDepth 100000 in
set_option maxHeartbeats 2000000 in
theorem sback_walk (n : NV) (A : Option Addr) (l c : Nat) (Ak : Option Addr) (nk ck : Nat) (key : List Int) (Ao : Option Addr) (no co : Nat) (other : List Int) (at0 turn : Int) (w : World) (hr : Rd w A l n.body) (hc : l ≤ c) (hcm : c ≤ 9223372036854775807) (hk : Rd w Ak nk key) (hck : nk ≤ ck) (hmk : ck ≤ 9223372036854775807) (ho : Rd w Ao no other) (hco : no ≤ co) (hmo : co ≤ 9223372036854775807) (htu : 0 ≤ turn ∧ turn ≤ 255) :
    Calls Try.prog 4 #[.agg #[.int .i64 n.party, .int .i64 n.which, .int .i64 n.way, .int .i64 n.seq, .slice A l c], .slice Ak nk ck, .slice Ao no co, .int .i64 at0, .int .u8 turn] w fun e w' => e = .returned (.bool true) ∧ Below w.heap.size w w' := by
  obtain ⟨p, h, y, z, bd⟩ := n
  dsimp only at hr ⊢
  obtain ⟨N, hN⟩ : ∃ N, w.heap.size = N := ⟨_, rfl⟩
  have X : Kept (Blk (w.alloc (.cells #[.int .i64 p, .int .i64 h, .int .i64 y, .int .i64 z, .slice A l c] 24)) N 24 #[.int .i64 p, .int .i64 h, .int .i64 y, .int .i64 z, .slice A l c]) := ⟨Blk.new_at w _ _ N hN.symm⟩
  have B : Kept (Below w.heap.size w (w.alloc (.cells #[.int .i64 p, .int .i64 h, .int .i64 y, .int .i64 z, .slice A l c] 24))) := ⟨(Below.refl _ _).alloc (Nat.le_refl _) _⟩
  have HR := Kept.mk (hr.below B.out); have HK := Kept.mk (hk.below B.out); have HO := Kept.mk (ho.below B.out)
  have LR := Kept.mk hr.1
  have HTU := Kept.mk htu
  clear hr hk ho htu
  go_enter Try.func4, Try.ntmps4
  go_upto_region 1 with (fail)
  generalize w.alloc (.cells #[.int .i64 p, .int .i64 h, .int .i64 y, .int .i64 z, .slice A l c] 24) = w1 at *
  go_wp2_with fail
  refine (sfirst_any w1).mono ?_
  rintro e w2 ⟨rfl, bb⟩
  replace X := Kept.mk (X.out.below bb X.out.lt)
  replace HR := Kept.mk (HR.out.below bb)
  replace HK := Kept.mk (HK.out.below bb)
  replace HO := Kept.mk (HO.out.below bb)
  replace B := Kept.mk (B.out.trans (bb.mono B.out.size))
  clear bb
  have x4 := X.out.cell 4
  by_cases q : (2000 : Int) < l
  · go_wp2_with fail
    refine (sfirst_any w2).mono ?_
    rintro e wz ⟨rfl, bb⟩
    replace B := Kept.mk (B.out.trans (bb.mono B.out.size))
    clear bb
    go_wp2
    go_ret
    exact ⟨rfl, B.out⟩
  have ql : ((2000 : Int) < l) = False := eq_false q
  have bl : l ≤ 2000 := by omega
  clear q
  by_cases q : (200 : Int) < nk
  · go_wp2_with fail
    refine (sfirst_any w2).mono ?_
    rintro e wz ⟨rfl, bb⟩
    replace B := Kept.mk (B.out.trans (bb.mono B.out.size))
    clear bb
    go_wp2
    go_ret
    exact ⟨rfl, B.out⟩
  have qnk : ((200 : Int) < nk) = False := eq_false q
  have bnk : nk ≤ 200 := by omega
  clear q
  by_cases q : (200 : Int) < no
  · go_wp2_with fail
    refine (sfirst_any w2).mono ?_
    rintro e wz ⟨rfl, bb⟩
    replace B := Kept.mk (B.out.trans (bb.mono B.out.size))
    clear bb
    go_wp2
    go_ret
    exact ⟨rfl, B.out⟩
  have qno : ((200 : Int) < no) = False := eq_false q
  have bno : no ≤ 200 := by omega
  clear q
  go_wp2_with fail
  refine (newtable_any w2).mono ?_
  rintro e w3 ⟨rfl, rfl⟩
  obtain ⟨t, ht⟩ : ∃ t, w2.heap.size = t := ⟨_, rfl⟩
  rw [ht]
  have hwt : w.heap.size ≤ t := by rw [← ht]; exact B.out.size
  have T : Kept (Tab (w2.alloc (.cells (tbl (.int .u32 0) (.int .i32 0) (.int .u32 0) 0 0) 59)) t) := ⟨.inl (Blk.new_at _ _ _ t ht.symm)⟩
  have bb : Below w2.heap.size w2 (w2.alloc (.cells (tbl (.int .u32 0) (.int .i32 0) (.int .u32 0) 0 0) 59)) := (Below.refl _ _).alloc (Nat.le_refl _) _
  have ltX := X.out.lt
  replace X := Kept.mk (X.out.below bb X.out.lt)
  replace HR := Kept.mk (HR.out.below bb)
  replace HK := Kept.mk (HK.out.below bb)
  replace HO := Kept.mk (HO.out.below bb)
  replace B := Kept.mk (B.out.trans (bb.mono B.out.size))
  clear bb
  generalize w2.alloc (.cells (tbl (.int .u32 0) (.int .i32 0) (.int .u32 0) 0 0) 59) = w3 at *
  rw [ht] at ltX
  clear ht
  clear x4
  have x0 := X.out.cell 0; have x1 := X.out.cell 1; have x2 := X.out.cell 2; have x3 := X.out.cell 3; have x4 := X.out.cell 4
  obtain ⟨R, hR⟩ : ∃ R, sealN key ⟨p, h, y, z, bd⟩ = R := ⟨_, rfl⟩
  obtain ⟨Re, Rb⟩ := R
  have KR := Kept.mk hR
  clear hR
  have CC := cseal_any t Ak nk ck key ⟨p, h, y, z, bd⟩ A l c w3 T.out HK.out hck hmk (by omega) HR.out hc hcm (by omega)
  rw [KR.out] at CC
  unfold SealPost at CC
  dsimp only at CC
  replace CC := Kept.mk CC
  go_wp2_with fail
  refine CC.out.mono ?_
  rintro x w4 ⟨RA, Rl, Rc, rfl, hRc, hRm, rr, tt, bb⟩
  replace X := Kept.mk (X.out.bar bb (by rw [List.mem_singleton]; omega))
  replace HR := Kept.mk (HR.out.tab T.out bb)
  replace HK := Kept.mk (HK.out.tab T.out bb)
  replace HO := Kept.mk (HO.out.tab T.out bb)
  replace T := Kept.mk tt
  replace B := Kept.mk (B.out.trans (bb.below B.out.size (fun k hk => by rw [List.mem_singleton] at hk; omega)))
  clear bb tt
  clear CC
  have Rx := Kept.mk rr
  clear rr x0 x1 x2 x3 x4
  by_cases e1 : Re = 0
  rotate_left
  · have hRb : Rb = [] := by
      have h0 : errN ⟨p, h, y, z, bd⟩ = Re := congrArg Prod.fst KR.out
      have := congrArg Prod.snd KR.out
      unfold sealN at this; rw [if_neg (by rw [h0]; exact e1)] at this; exact this.symm
    subst hRb
    obtain rfl : Rl = 0 := Rx.out.1.symm
    have e1b : (Re == 0) = false := by simpa using e1
    clear e1
    go_wp2_with fail
    refine (sfirst_any w4).mono ?_
    rintro e wz ⟨rfl, bb⟩
    replace B := Kept.mk (B.out.trans (bb.mono B.out.size))
    clear bb
    go_wp2
    go_ret
    exact ⟨rfl, B.out⟩
  subst e1
  have hn0 : errN ⟨p, h, y, z, bd⟩ = 0 := congrArg Prod.fst KR.out
  obtain ⟨hn1, hn2⟩ := errN_ok.1 hn0
  have hRb : noteN key ⟨p, h, y, z, bd⟩ = Rb := by
    have := congrArg Prod.snd KR.out
    unfold sealN at this; rw [if_pos hn0] at this; exact this
  have hRl : Rl = 44 + l := by
    have h1 := Rx.out.1; have h2 := noteN_len key ⟨p, h, y, z, bd⟩; rw [hRb] at h2; have h3 := LR.out; dsimp only at h2; omega
  have hO : openN key Rb = (⟨p, h, y, z, bd⟩, 0) := by rw [← hRb]; exact open_note key hn1 hn2
  have hP : peekN Rb = (p, h, y, 0) := by rw [← hRb]; exact peekN_note key hn1 hn2
  have BB := Kept.mk Rx.out.2.1
  clear hn0 hn1 hn2 hRb KR
  subst hRl
  have CC := copen_any t Ak nk ck key RA (44 + l) Rc Rb w4 T.out HK.out hck hmk (by omega) Rx.out hRc hRm (by omega)
  rw [hO] at CC
  unfold OpenPost at CC
  dsimp only at CC
  replace CC := Kept.mk CC
  go_wp2_with fail
  refine CC.out.mono ?_
  rintro x w5 ⟨A3, l3, c3, rfl, hc3, hm3, rr, tt, bb⟩
  replace X := Kept.mk (X.out.bar bb (by rw [List.mem_singleton]; omega))
  replace HR := Kept.mk (HR.out.tab T.out bb)
  replace HK := Kept.mk (HK.out.tab T.out bb)
  replace HO := Kept.mk (HO.out.tab T.out bb)
  replace Rx := Kept.mk (Rx.out.tab T.out bb)
  replace T := Kept.mk tt
  replace B := Kept.mk (B.out.trans (bb.below B.out.size (fun k hk => by rw [List.mem_singleton] at hk; omega)))
  clear bb tt
  clear CC
  have R3x := Kept.mk rr
  clear rr hO
  obtain ⟨M, hM⟩ : ∃ M, w5.heap.size = M := ⟨_, rfl⟩
  have Y : Kept (Blk (w5.alloc (.cells #[.int .i64 p, .int .i64 h, .int .i64 y, .int .i64 z, .slice A3 l3 c3] 24)) M 24 #[.int .i64 p, .int .i64 h, .int .i64 y, .int .i64 z, .slice A3 l3 c3]) := ⟨Blk.new_at w5 _ _ M hM.symm⟩
  have htY : t < M := by rw [← hM]; exact T.out.lt
  have bb : Below w5.heap.size w5 (w5.alloc (.cells #[.int .i64 p, .int .i64 h, .int .i64 y, .int .i64 z, .slice A3 l3 c3] 24)) := (Below.refl _ _).alloc (Nat.le_refl _) _
  go_upto_region 10 with (fail)
  clear hM
  replace X := Kept.mk (X.out.below bb X.out.lt)
  replace HR := Kept.mk (HR.out.below bb)
  replace HK := Kept.mk (HK.out.below bb)
  replace HO := Kept.mk (HO.out.below bb)
  replace Rx := Kept.mk (Rx.out.below bb)
  replace R3x := Kept.mk (R3x.out.below bb)
  replace T := Kept.mk (T.out.below bb T.out.lt)
  replace B := Kept.mk (B.out.trans (bb.mono B.out.size))
  clear bb
  generalize (w5.alloc (.cells #[.int .i64 p, .int .i64 h, .int .i64 y, .int .i64 z, .slice A3 l3 c3] 24)) = w6 at *
  have CC := cpeek_any RA (44 + l) Rc Rb w6 Rx.out hRc (by omega)
  unfold PeekPost at CC
  rw [hP] at CC
  dsimp only at CC
  replace CC := Kept.mk CC
  go_wp2_with fail
  refine CC.out.mono ?_
  rintro x w7 ⟨rfl, bb⟩
  replace X := Kept.mk (X.out.below bb X.out.lt)
  replace HR := Kept.mk (HR.out.below bb)
  replace HK := Kept.mk (HK.out.below bb)
  replace HO := Kept.mk (HO.out.below bb)
  replace Rx := Kept.mk (Rx.out.below bb)
  replace R3x := Kept.mk (R3x.out.below bb)
  replace Y := Kept.mk (Y.out.below bb Y.out.lt)
  replace T := Kept.mk (T.out.below bb T.out.lt)
  replace B := Kept.mk (B.out.trans (bb.mono B.out.size))
  clear bb
  clear CC
  clear hP
  have x0 := X.out.cell 0; have x1 := X.out.cell 1; have x2 := X.out.cell 2; have x3 := X.out.cell 3; have x4 := X.out.cell 4; have y0 := Y.out.cell 0; have y1 := Y.out.cell 1; have y2 := Y.out.cell 2; have y3 := Y.out.cell 3; have y4 := Y.out.cell 4
  have CC := rsame_yes ⟨p, h, y, z, bd⟩ A3 A l3 c3 l c w7 R3x.out HR.out
  dsimp only at CC
  replace CC := Kept.mk CC
  go_wp2_with fail
  refine CC.out.mono ?_
  rintro x w8 ⟨rfl, bb⟩
  replace X := Kept.mk (X.out.below bb X.out.lt)
  replace HR := Kept.mk (HR.out.below bb)
  replace HK := Kept.mk (HK.out.below bb)
  replace HO := Kept.mk (HO.out.below bb)
  replace Rx := Kept.mk (Rx.out.below bb)
  replace R3x := Kept.mk (R3x.out.below bb)
  replace Y := Kept.mk (Y.out.below bb Y.out.lt)
  replace T := Kept.mk (T.out.below bb T.out.lt)
  replace B := Kept.mk (B.out.trans (bb.mono B.out.size))
  clear bb
  clear CC
  clear x4 y4
  replace x0 := X.out.cell 0; replace x1 := X.out.cell 1; replace x2 := X.out.cell 2; replace x3 := X.out.cell 3
  clear y0 y1 y2 y3
  obtain ⟨O, hO⟩ : ∃ O, openN other Rb = O := ⟨_, rfl⟩
  obtain ⟨⟨a1, a2, a3, a4, a5⟩, eo⟩ := O
  have HON := Kept.mk hO
  clear hO
  have CC := copen_any t Ao no co other RA (44 + l) Rc Rb w8 T.out HO.out hco hmo (by omega) Rx.out hRc hRm (by omega)
  rw [HON.out] at CC
  unfold OpenPost at CC
  dsimp only at CC
  replace CC := Kept.mk CC
  go_wp2_with fail
  refine CC.out.mono ?_
  rintro x w9 ⟨A5, l5, c5, rfl, hc5, hm5, rr, tt, bb⟩
  replace X := Kept.mk (X.out.bar bb (by rw [List.mem_singleton]; omega))
  replace HR := Kept.mk (HR.out.tab T.out bb)
  replace HK := Kept.mk (HK.out.tab T.out bb)
  replace HO := Kept.mk (HO.out.tab T.out bb)
  replace Rx := Kept.mk (Rx.out.tab T.out bb)
  replace R3x := Kept.mk (R3x.out.tab T.out bb)
  replace Y := Kept.mk (Y.out.bar bb (by rw [List.mem_singleton]; omega))
  replace T := Kept.mk tt
  replace B := Kept.mk (B.out.trans (bb.below B.out.size (fun k hk => by rw [List.mem_singleton] at hk; omega)))
  clear bb tt
  clear CC
  clear rr x0 x1 x2 x3
  have bb : Below w9.heap.size w9 (w9.alloc (.cells #[.int .i64 a1, .int .i64 a2, .int .i64 a3, .int .i64 a4, .slice A5 l5 c5] 24)) := (Below.refl _ _).alloc (Nat.le_refl _) _
  go_upto_region 14 with (fail)
  replace X := Kept.mk (X.out.below bb X.out.lt)
  replace HR := Kept.mk (HR.out.below bb)
  replace HK := Kept.mk (HK.out.below bb)
  replace HO := Kept.mk (HO.out.below bb)
  replace Rx := Kept.mk (Rx.out.below bb)
  replace R3x := Kept.mk (R3x.out.below bb)
  replace Y := Kept.mk (Y.out.below bb Y.out.lt)
  replace T := Kept.mk (T.out.below bb T.out.lt)
  replace B := Kept.mk (B.out.trans (bb.mono B.out.size))
  clear bb
  generalize (w9.alloc (.cells #[.int .i64 a1, .int .i64 a2, .int .i64 a3, .int .i64 a4, .slice A5 l5 c5] 24)) = w10 at *
  have CC := ropen_any Ao no co other RA (44 + l) Rc Rb w10 HO.out (by omega) Rx.out hRc hRm (by omega)
  rw [HON.out] at CC
  unfold ROpenPost at CC
  dsimp only at CC
  replace CC := Kept.mk CC
  go_wp2_with fail
  refine CC.out.mono ?_
  rintro x w11 ⟨A6, l6, c6, rfl, hc6, hm6, rr, bb⟩
  replace X := Kept.mk (X.out.below bb X.out.lt)
  replace HR := Kept.mk (HR.out.below bb)
  replace HK := Kept.mk (HK.out.below bb)
  replace HO := Kept.mk (HO.out.below bb)
  replace Rx := Kept.mk (Rx.out.below bb)
  replace R3x := Kept.mk (R3x.out.below bb)
  replace Y := Kept.mk (Y.out.below bb Y.out.lt)
  replace T := Kept.mk (T.out.below bb T.out.lt)
  replace B := Kept.mk (B.out.trans (bb.mono B.out.size))
  clear bb
  clear CC
  clear rr
  have bb : Below w11.heap.size w11 (w11.alloc (.cells #[.int .i64 a1, .int .i64 a2, .int .i64 a3, .int .i64 a4, .slice A6 l6 c6] 24)) := (Below.refl _ _).alloc (Nat.le_refl _) _
  go_upto_region 15 with (fail)
  replace X := Kept.mk (X.out.below bb X.out.lt)
  replace HR := Kept.mk (HR.out.below bb)
  replace HK := Kept.mk (HK.out.below bb)
  replace HO := Kept.mk (HO.out.below bb)
  replace Rx := Kept.mk (Rx.out.below bb)
  replace R3x := Kept.mk (R3x.out.below bb)
  replace Y := Kept.mk (Y.out.below bb Y.out.lt)
  replace T := Kept.mk (T.out.below bb T.out.lt)
  replace B := Kept.mk (B.out.trans (bb.mono B.out.size))
  clear bb
  generalize (w11.alloc (.cells #[.int .i64 a1, .int .i64 a2, .int .i64 a3, .int .i64 a4, .slice A6 l6 c6] 24)) = w12 at *
  clear X Y HR HO R3x HON
  go_cut [124] (fun v wx => v = .bool false ∧ Kept (Below w.heap.size w wx) ∧ Kept (Rd wx Ak nk key) ∧ Kept (Rd wx RA (44 + l) Rb) ∧ Kept (Tab wx t))
  case first =>
    by_cases q : eo = 0
    · subst q
      go_wp2
      go_meet
      case rel => exact ⟨rfl, B, HK, Rx, T⟩
    · have qb : (eo == 0) = false := by simpa using q
      go_wp2
      go_meet
      case rel => exact ⟨rfl, B, HK, Rx, T⟩
  case rest =>
  clear B HK Rx T
  obtain ⟨rfl, B, HK, Rx, T⟩ := hcut
  generalize wc = w12 at *
  by_cases q : at0 < 0
  · go_wp2_with fail
    refine (sfirst_any w12).mono ?_
    rintro e wz ⟨rfl, bb⟩
    replace B := Kept.mk (B.out.trans (bb.mono B.out.size))
    clear bb
    go_wp2
    go_ret
    exact ⟨rfl, B.out⟩
  by_cases q2 : ((44 + l : Nat) : Int) ≤ at0
  · have q2a : (44 + (l : Int)) ≤ at0 := by omega
    go_wp2_with fail
    refine (sfirst_any w12).mono ?_
    rintro e wz ⟨rfl, bb⟩
    replace B := Kept.mk (B.out.trans (bb.mono B.out.size))
    clear bb
    go_wp2
    go_ret
    exact ⟨rfl, B.out⟩
  by_cases q3 : turn = 0
  · subst q3
    obtain ⟨j, rfl⟩ : ∃ j : Nat, at0 = j := ⟨at0.toNat, by omega⟩
    have ha2 : ((44 + (l : Int)) ≤ (j : Int)) = False := eq_false (by omega)
    have ha3 : (((44 + l : Nat) : Int) ≤ (j : Int)) = False := eq_false (by omega)
    clear q q2
    go_wp2_with fail
    refine (sfirst_any w12).mono ?_
    rintro e wz ⟨rfl, bb⟩
    replace B := Kept.mk (B.out.trans (bb.mono B.out.size))
    clear bb
    go_wp2
    go_ret
    exact ⟨rfl, B.out⟩
  have q3b : (turn == 0) = false := by simpa using q3
  obtain ⟨j, rfl⟩ : ∃ j : Nat, at0 = j := ⟨at0.toNat, by omega⟩
  have hjn : j < 44 + l := by omega
  have hjn' : (j : Int) < ((44 + l : Nat) : Int) := by omega
  have hjn2 : (j : Int) < 44 + (l : Int) := by omega
  have ha2 : ((44 + (l : Int)) ≤ (j : Int)) = False := eq_false (by omega)
  have ha3 : (((44 + l : Nat) : Int) ≤ (j : Int)) = False := eq_false (by omega)
  clear q q2 q3
  have CC := Kept.mk (copy_any RA (44 + l) Rc Rb w12 Rx.out (by omega))
  go_wp2_with fail
  refine CC.out.mono ?_
  rintro x w13 ⟨v, rfl, own, bb⟩
  obtain ⟨g, gc, rfl, hg, hgc, hgm, hwr⟩ := wr_of_own own Rx.out.2.1 (by omega)
  have htA := T.out.lt
  have hgt : g ≠ t := by omega
  have hgN : w.heap.size ≤ g := by have := B.out.size; omega
  have W5 := Kept.mk hwr
  have y0 := hwr.cell j hjn
  have z0 := hwr.frozen j
  have OK6 : Kept (Off Ak nk [g]) := ⟨HK.out.off (by intro k hk; rw [List.mem_singleton] at hk; omega)⟩
  clear own hwr CC Rx
  replace HK := Kept.mk (HK.out.below bb)
  replace T := Kept.mk (T.out.below bb T.out.lt)
  replace B := Kept.mk (B.out.trans (bb.mono B.out.size))
  clear bb
  have hby := wr_byte W5.out j
  obtain ⟨vj, hvj⟩ : ∃ vj, at_ Rb j = vj := ⟨_, rfl⟩
  rw [hvj] at y0 hby
  have hxz := bits8 .xor vj turn
  obtain ⟨zx, hzx⟩ : ∃ zx, bits .xor .u8 vj turn = zx := ⟨_, rfl⟩
  rw [hzx] at hxz
  have W6 := Kept.mk (W5.out.set j zx hxz)
  have bb : Bar [g] w13 (w13.setCell ⟨g, j, none⟩ (.int .u8 zx)) := (Bar.refl [g] w13).setCell (by simp) (.int .u8 zx)
  have HZX := Kept.mk hzx
  replace T := Kept.mk (T.out.bar bb (by simpa using Ne.symm hgt))
  replace HK := Kept.mk (HK.out.far bb OK6.out)
  replace B := Kept.mk (B.out.trans (bb.below B.out.size (fun k hk => by rw [List.mem_singleton] at hk; omega)))
  clear hvj hby hxz hzx W5 bb
  go_upto_region 21 with (fail)
  rw [HZX.out]
  generalize w13.setCell ⟨g, j, none⟩ (.int .u8 zx) = w14 at *
  obtain ⟨C, hC⟩ : ∃ C, Rb.set j zx = C := ⟨_, rfl⟩
  rw [hC] at W6
  have RC := Kept.mk W6.out.rd
  clear hC W6 y0 z0 HZX
  obtain ⟨O, hO⟩ : ∃ O, openN key C = O := ⟨_, rfl⟩
  obtain ⟨⟨a1', a2', a3', a4', a5'⟩, ez⟩ := O
  have HON := Kept.mk hO
  clear hO
  have CC := copen_any t Ak nk ck key (some ⟨g, 0, none⟩) (44 + l) gc C w14 T.out HK.out hck hmk (by omega) RC.out hgc hgm (by omega)
  rw [HON.out] at CC
  unfold OpenPost at CC
  dsimp only at CC
  replace CC := Kept.mk CC
  go_wp2_with fail
  refine CC.out.mono ?_
  rintro x w15 ⟨A7, l7, c7, rfl, hc7, hm7, rr, tt, bb⟩
  replace HK := Kept.mk (HK.out.tab T.out bb)
  replace RC := Kept.mk (RC.out.tab T.out bb)
  replace T := Kept.mk tt
  replace B := Kept.mk (B.out.trans (bb.below B.out.size (fun k hk => by rw [List.mem_singleton] at hk; omega)))
  clear bb tt
  clear CC
  clear rr
  have bb : Below w15.heap.size w15 (w15.alloc (.cells #[.int .i64 a1', .int .i64 a2', .int .i64 a3', .int .i64 a4', .slice A7 l7 c7] 24)) := (Below.refl _ _).alloc (Nat.le_refl _) _
  go_upto_region 22 with (fail)
  replace HK := Kept.mk (HK.out.below bb)
  replace RC := Kept.mk (RC.out.below bb)
  replace T := Kept.mk (T.out.below bb T.out.lt)
  replace B := Kept.mk (B.out.trans (bb.mono B.out.size))
  clear bb
  generalize (w15.alloc (.cells #[.int .i64 a1', .int .i64 a2', .int .i64 a3', .int .i64 a4', .slice A7 l7 c7] 24)) = w16 at *
  have CC := ropen_any Ak nk ck key (some ⟨g, 0, none⟩) (44 + l) gc C w16 HK.out (by omega) RC.out hgc hgm (by omega)
  rw [HON.out] at CC
  unfold ROpenPost at CC
  dsimp only at CC
  replace CC := Kept.mk CC
  go_wp2_with fail
  refine CC.out.mono ?_
  rintro x w17 ⟨A8, l8, c8, rfl, hc8, hm8, rr, bb⟩
  replace HK := Kept.mk (HK.out.below bb)
  replace RC := Kept.mk (RC.out.below bb)
  replace T := Kept.mk (T.out.below bb T.out.lt)
  replace B := Kept.mk (B.out.trans (bb.mono B.out.size))
  clear bb
  clear CC
  clear rr
  have bb : Below w17.heap.size w17 (w17.alloc (.cells #[.int .i64 a1', .int .i64 a2', .int .i64 a3', .int .i64 a4', .slice A8 l8 c8] 24)) := (Below.refl _ _).alloc (Nat.le_refl _) _
  go_upto_region 23 with (fail)
  replace HK := Kept.mk (HK.out.below bb)
  replace RC := Kept.mk (RC.out.below bb)
  replace T := Kept.mk (T.out.below bb T.out.lt)
  replace B := Kept.mk (B.out.trans (bb.mono B.out.size))
  clear bb
  generalize (w17.alloc (.cells #[.int .i64 a1', .int .i64 a2', .int .i64 a3', .int .i64 a4', .slice A8 l8 c8] 24)) = w18 at *
  by_cases q4 : ez = 0
  · subst q4
    go_wp2_with fail
    refine (sfirst_any w18).mono ?_
    rintro e wz ⟨rfl, bb⟩
    replace B := Kept.mk (B.out.trans (bb.mono B.out.size))
    clear bb
    go_wp2
    go_ret
    exact ⟨rfl, B.out⟩
  · have q4b : (ez == 0) = false := by simpa using q4
    go_wp2_with fail
    refine (sfirst_any w18).mono ?_
    rintro e wz ⟨rfl, bb⟩
    replace B := Kept.mk (B.out.trans (bb.mono B.out.size))
    clear bb
    go_wp2
    go_ret
    exact ⟨rfl, B.out⟩
end Go.Proofs.Ytidjkhpekhpffaa.Seal
