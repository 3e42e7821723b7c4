/-
  The law SealEach, walked.
-/
import Derived.Test.YtidjkhpekhpffaaPart18
import Derived.Test.YtidjkhpekhpffaaPart4
import Derived.Deep.DeepCutAuto
namespace Go.Proofs.Ytidjkhpekhpffaa.Seal
open Go.RowKit Go.Proofs.Ytidjkhpekhpffaa.Sha Go.Proofs.Ytidjkhpekhpffaa.Wire Go.Proofs.Ytidjkhpekhpffaa.Mac

set_option maxRecDepth 100000 in
set_option maxHeartbeats 2000000 in
theorem seach_walk (n : NV) (A : Option Addr) (l c : Nat) (Ak : Option Addr) (nk ck : Nat) (key : List Int) (m : NV) (A' : Option Addr) (l' c' : Nat) (w : World) (hr : Rd w A l n.body) (hc : l ≤ c) (hcm : c ≤ 9223372036854775807) (hk : Rd w Ak nk key) (hck : nk ≤ ck) (hmk : ck ≤ 9223372036854775807) (hs : Rd w A' l' m.body) (hc' : l' ≤ c') (hcm' : c' ≤ 9223372036854775807) :
    Calls Try.prog 5 #[.agg #[.int .i64 n.party, .int .i64 n.which, .int .i64 n.way, .int .i64 n.seq, .slice A l c], .slice Ak nk ck, .agg #[.int .i64 m.party, .int .i64 m.which, .int .i64 m.way, .int .i64 m.seq, .slice A' l' c']] w fun e w' => e = .returned (.bool true) ∧ Below w.heap.size w w' := by
  obtain ⟨p, h, y, z, bd⟩ := n
  obtain ⟨p', h', y', z', bd'⟩ := m
  dsimp only at hr hs ⊢
  obtain ⟨N, hN⟩ : ∃ N, w.heap.size = N := ⟨_, rfl⟩
  have X : Kept (Blk ((w.alloc (.cells #[.int .i64 p, .int .i64 h, .int .i64 y, .int .i64 z, .slice A l c] 24)).alloc (.cells #[.int .i64 p', .int .i64 h', .int .i64 y', .int .i64 z', .slice A' l' c'] 24)) N 24 #[.int .i64 p, .int .i64 h, .int .i64 y, .int .i64 z, .slice A l c]) := ⟨(Blk.new_at w _ _ N hN.symm).alloc _⟩
  have Y : Kept (Blk ((w.alloc (.cells #[.int .i64 p, .int .i64 h, .int .i64 y, .int .i64 z, .slice A l c] 24)).alloc (.cells #[.int .i64 p', .int .i64 h', .int .i64 y', .int .i64 z', .slice A' l' c'] 24)) (N + 1) 24 #[.int .i64 p', .int .i64 h', .int .i64 y', .int .i64 z', .slice A' l' c']) := ⟨Blk.new_at _ _ _ (N + 1) (by simp [hN])⟩
  have B : Kept (Below w.heap.size w ((w.alloc (.cells #[.int .i64 p, .int .i64 h, .int .i64 y, .int .i64 z, .slice A l c] 24)).alloc (.cells #[.int .i64 p', .int .i64 h', .int .i64 y', .int .i64 z', .slice A' l' c'] 24))) := ⟨((Below.refl _ _).alloc (Nat.le_refl _) _).alloc (by simp) _⟩
  have HR := Kept.mk (hr.below B.out); have HS := Kept.mk (hs.below B.out); have HK := Kept.mk (hk.below B.out)
  have LR := Kept.mk hr.1; have LS := Kept.mk hs.1
  have BR := Kept.mk hr.2.1; have BS := Kept.mk hs.2.1
  clear hr hk hs
  go_enter Try.func5, Try.ntmps5
  go_upto_region 1 with (fail)
  generalize ((w.alloc (.cells #[.int .i64 p, .int .i64 h, .int .i64 y, .int .i64 z, .slice A l c] 24)).alloc (.cells #[.int .i64 p', .int .i64 h', .int .i64 y', .int .i64 z', .slice A' l' c'] 24)) = w1 at *
  go_wp2_with fail
  refine (sfirst_any w1).mono ?_
  rintro e w2 ⟨rfl, bb⟩
  replace X := Kept.mk (X.out.below bb X.out.lt)
  replace Y := Kept.mk (Y.out.below bb Y.out.lt)
  replace HR := Kept.mk (HR.out.below bb)
  replace HS := Kept.mk (HS.out.below bb)
  replace HK := Kept.mk (HK.out.below bb)
  replace B := Kept.mk (B.out.trans (bb.mono B.out.size))
  clear bb
  have x4 := X.out.cell 4; have y4 := Y.out.cell 4
  by_cases q : (2000 : Int) < l
  · go_wp2_with fail
    refine (sfirst_any w2).mono ?_
    rintro e wz ⟨rfl, bb⟩
    replace B := Kept.mk (B.out.trans (bb.mono B.out.size))
    clear bb
    go_wp2
    go_ret
    exact ⟨rfl, B.out⟩
  have ql : ((2000 : Int) < l) = False := eq_false q
  have bl : l ≤ 2000 := by omega
  clear q
  by_cases q : (2000 : Int) < l'
  · go_wp2_with fail
    refine (sfirst_any w2).mono ?_
    rintro e wz ⟨rfl, bb⟩
    replace B := Kept.mk (B.out.trans (bb.mono B.out.size))
    clear bb
    go_wp2
    go_ret
    exact ⟨rfl, B.out⟩
  have ql' : ((2000 : Int) < l') = False := eq_false q
  have bl' : l' ≤ 2000 := by omega
  clear q
  by_cases q : (200 : Int) < nk
  · go_wp2_with fail
    refine (sfirst_any w2).mono ?_
    rintro e wz ⟨rfl, bb⟩
    replace B := Kept.mk (B.out.trans (bb.mono B.out.size))
    clear bb
    go_wp2
    go_ret
    exact ⟨rfl, B.out⟩
  have qnk : ((200 : Int) < nk) = False := eq_false q
  have bnk : nk ≤ 200 := by omega
  clear q
  go_wp2_with fail
  refine (newtable_any w2).mono ?_
  rintro e w3 ⟨rfl, rfl⟩
  obtain ⟨t, ht⟩ : ∃ t, w2.heap.size = t := ⟨_, rfl⟩
  rw [ht]
  have hwt : w.heap.size ≤ t := by rw [← ht]; exact B.out.size
  have T : Kept (Tab (w2.alloc (.cells (tbl (.int .u32 0) (.int .i32 0) (.int .u32 0) 0 0) 59)) t) := ⟨.inl (Blk.new_at _ _ _ t ht.symm)⟩
  have bb : Below w2.heap.size w2 (w2.alloc (.cells (tbl (.int .u32 0) (.int .i32 0) (.int .u32 0) 0 0) 59)) := (Below.refl _ _).alloc (Nat.le_refl _) _
  have ltX := X.out.lt
  have ltY := Y.out.lt
  replace X := Kept.mk (X.out.below bb X.out.lt)
  replace Y := Kept.mk (Y.out.below bb Y.out.lt)
  replace HR := Kept.mk (HR.out.below bb)
  replace HS := Kept.mk (HS.out.below bb)
  replace HK := Kept.mk (HK.out.below bb)
  replace B := Kept.mk (B.out.trans (bb.mono B.out.size))
  clear bb
  generalize w2.alloc (.cells (tbl (.int .u32 0) (.int .i32 0) (.int .u32 0) 0 0) 59) = w3 at *
  rw [ht] at ltX
  rw [ht] at ltY
  clear ht
  clear x4 y4
  have x0 := X.out.cell 0; have x1 := X.out.cell 1; have x2 := X.out.cell 2; have x3 := X.out.cell 3; have x4 := X.out.cell 4
  obtain ⟨R, hR⟩ : ∃ R, sealN key ⟨p, h, y, z, bd⟩ = R := ⟨_, rfl⟩
  obtain ⟨Re, Rb⟩ := R
  have KR := Kept.mk hR
  clear hR
  have CC := cseal_any t Ak nk ck key ⟨p, h, y, z, bd⟩ A l c w3 T.out HK.out hck hmk (by omega) HR.out hc hcm (by omega)
  rw [KR.out] at CC
  unfold SealPost at CC
  dsimp only at CC
  replace CC := Kept.mk CC
  go_wp2_with fail
  refine CC.out.mono ?_
  rintro x w4 ⟨RA, Rl, Rc, rfl, hRc, hRm, rr, tt, bb⟩
  replace X := Kept.mk (X.out.bar bb (by rw [List.mem_singleton]; omega))
  replace Y := Kept.mk (Y.out.bar bb (by rw [List.mem_singleton]; omega))
  replace HR := Kept.mk (HR.out.tab T.out bb)
  replace HS := Kept.mk (HS.out.tab T.out bb)
  replace HK := Kept.mk (HK.out.tab T.out bb)
  replace T := Kept.mk tt
  replace B := Kept.mk (B.out.trans (bb.below B.out.size (fun k hk => by rw [List.mem_singleton] at hk; omega)))
  clear bb tt
  clear CC
  have Rx := Kept.mk rr
  clear rr x0 x1 x2 x3 x4
  have y0 := Y.out.cell 0; have y1 := Y.out.cell 1; have y2 := Y.out.cell 2; have y3 := Y.out.cell 3; have y4 := Y.out.cell 4
  obtain ⟨S, hS⟩ : ∃ R, sealN key ⟨p', h', y', z', bd'⟩ = R := ⟨_, rfl⟩
  obtain ⟨Se, Sb⟩ := S
  have KS := Kept.mk hS
  clear hS
  have CC := cseal_any t Ak nk ck key ⟨p', h', y', z', bd'⟩ A' l' c' w4 T.out HK.out hck hmk (by omega) HS.out hc' hcm' (by omega)
  rw [KS.out] at CC
  unfold SealPost at CC
  dsimp only at CC
  replace CC := Kept.mk CC
  go_wp2_with fail
  refine CC.out.mono ?_
  rintro x w5 ⟨SA, Sl, Sc, rfl, hSc, hSm, rr, tt, bb⟩
  replace X := Kept.mk (X.out.bar bb (by rw [List.mem_singleton]; omega))
  replace Y := Kept.mk (Y.out.bar bb (by rw [List.mem_singleton]; omega))
  replace HR := Kept.mk (HR.out.tab T.out bb)
  replace HS := Kept.mk (HS.out.tab T.out bb)
  replace HK := Kept.mk (HK.out.tab T.out bb)
  replace Rx := Kept.mk (Rx.out.tab T.out bb)
  replace T := Kept.mk tt
  replace B := Kept.mk (B.out.trans (bb.below B.out.size (fun k hk => by rw [List.mem_singleton] at hk; omega)))
  clear bb tt
  clear CC
  have Sx := Kept.mk rr
  clear rr y0 y1 y2 y3 y4
  by_cases e1 : Re = 0
  rotate_left
  · have e1b : (Re == 0) = false := by simpa using e1
    go_wp2_with fail
    refine (sfirst_any w5).mono ?_
    rintro e wz ⟨rfl, bb⟩
    replace B := Kept.mk (B.out.trans (bb.mono B.out.size))
    clear bb
    go_wp2
    go_ret
    exact ⟨rfl, B.out⟩
  subst e1
  by_cases e2 : Se = 0
  rotate_left
  · have e2b : (Se == 0) = false := by simpa using e2
    go_wp2_with fail
    refine (sfirst_any w5).mono ?_
    rintro e wz ⟨rfl, bb⟩
    replace B := Kept.mk (B.out.trans (bb.mono B.out.size))
    clear bb
    go_wp2
    go_ret
    exact ⟨rfl, B.out⟩
  subst e2
  have hn0 : errN ⟨p, h, y, z, bd⟩ = 0 := congrArg Prod.fst KR.out
  have hm0 : errN ⟨p', h', y', z', bd'⟩ = 0 := congrArg Prod.fst KS.out
  obtain ⟨hn1, hn2⟩ := errN_ok.1 hn0
  obtain ⟨hm1, hm2⟩ := errN_ok.1 hm0
  have hRb : noteN key ⟨p, h, y, z, bd⟩ = Rb := by
    have := congrArg Prod.snd KR.out
    unfold sealN at this; rw [if_pos hn0] at this; exact this
  have hSb : noteN key ⟨p', h', y', z', bd'⟩ = Sb := by
    have := congrArg Prod.snd KS.out
    unfold sealN at this; rw [if_pos hm0] at this; exact this
  have hRl : Rl = 44 + l := by
    have h1 := Rx.out.1; have h2 := noteN_len key ⟨p, h, y, z, bd⟩; rw [hRb] at h2; have h3 := LR.out; dsimp only at h2; omega
  have hSl : Sl = 44 + l' := by
    have h1 := Sx.out.1; have h2 := noteN_len key ⟨p', h', y', z', bd'⟩; rw [hSb] at h2; have h3 := LS.out; dsimp only at h2; omega
  obtain ⟨sm, hsm⟩ : ∃ sm : Bool, decide (p = p' ∧ h = h' ∧ y = y' ∧ z = z' ∧ bd = bd') = sm := ⟨_, rfl⟩
  have HSM := Kept.mk hsm
  have EQ : Kept (sameB Rb Sb = sm) := ⟨by
    rw [← hsm]; unfold sameB
    refine decide_eq_decide.2 ⟨fun e => ?_, fun e => ?_⟩
    · rw [← hRb, ← hSb] at e
      have := note_inj key hn1 hn2 hm1 hm2 e
      injection this with e1 e2 e3 e4 e5
      exact ⟨e1, e2, e3, e4, e5⟩
    · obtain ⟨rfl, rfl, rfl, rfl, rfl⟩ := e
      rw [← hRb, ← hSb]⟩
  have PK : Kept (peekOk Rb) := ⟨by rw [← hRb]; exact peek_note key hn1 hn2⟩
  have BB : Kept (Bytes Rb) := ⟨Rx.out.2.1⟩
  clear hsm hn0 hm0 hn1 hn2 hm1 hm2 hRb hSb KR KS
  subst hRl hSl
  have hz1 : (44 + (l : Int) == 0) = false := by
    have h : ¬ 44 + (l : Int) = 0 := by omega
    simpa using h
  have hz2 : (44 + (l' : Int) == 0) = false := by
    have h : ¬ 44 + (l' : Int) = 0 := by omega
    simpa using h
  go_upto_region 12 with (fail)
  clear hz1 hz2
  go_cut [12] (fun v wx => v = .bool sm ∧ Kept (Blk wx N 24 #[.int .i64 p, .int .i64 h, .int .i64 y, .int .i64 z, .slice A l c]) ∧ Kept (Below w.heap.size w wx) ∧ Kept (Rd wx Ak nk key) ∧ Kept (Rd wx RA (44 + l) Rb) ∧ Kept (Rd wx SA (44 + l') Sb) ∧ Kept (Tab wx t))
  case first =>
    have x0 := X.out.cell 0; have x1 := X.out.cell 1; have x2 := X.out.cell 2; have x3 := X.out.cell 3; have x4 := X.out.cell 4; have y0 := Y.out.cell 0; have y1 := Y.out.cell 1; have y2 := Y.out.cell 2; have y3 := Y.out.cell 3; have y4 := Y.out.cell 4
    by_cases q : p = p'
    rotate_left
    · have qb : (p == p') = false := by simpa using q
      obtain rfl : sm = false := by rw [← HSM.out]; exact decide_eq_false (fun e => q e.1)
      go_wp2
      go_meet
      case rel => exact ⟨rfl, X, B, HK, Rx, Sx, T⟩
    subst q
    by_cases q : h = h'
    rotate_left
    · have qb : (h == h') = false := by simpa using q
      obtain rfl : sm = false := by rw [← HSM.out]; exact decide_eq_false (fun e => q e.2.1)
      go_wp2
      go_meet
      case rel => exact ⟨rfl, X, B, HK, Rx, Sx, T⟩
    subst q
    by_cases q : y = y'
    rotate_left
    · have qb : (y == y') = false := by simpa using q
      obtain rfl : sm = false := by rw [← HSM.out]; exact decide_eq_false (fun e => q e.2.2.1)
      go_wp2
      go_meet
      case rel => exact ⟨rfl, X, B, HK, Rx, Sx, T⟩
    subst q
    by_cases q : z = z'
    rotate_left
    · have qb : (z == z') = false := by simpa using q
      obtain rfl : sm = false := by rw [← HSM.out]; exact decide_eq_false (fun e => q e.2.2.2.1)
      go_wp2
      go_meet
      case rel => exact ⟨rfl, X, B, HK, Rx, Sx, T⟩
    subst q
    have CB := bytes_any A A' l l' c c' bd bd' w5 HR.out HS.out
    have hq : sameB bd bd' = sm := by
      rw [← HSM.out]; unfold sameB
      exact decide_eq_decide.2 ⟨fun e => ⟨rfl, rfl, rfl, rfl, e⟩, fun e => e.2.2.2.2⟩
    rw [hq] at CB
    replace CB := Kept.mk CB
    clear hq
    go_wp2_with fail
    refine CB.out.mono ?_
    rintro x wq ⟨rfl, rfl⟩
    clear CB
    go_wp2
    go_meet
    case rel => exact ⟨rfl, X, B, HK, Rx, Sx, T⟩
  case rest =>
  clear X Y B HR HS HK Rx Sx T HSM
  obtain ⟨rfl, X, B, HK, Rx, Sx, T⟩ := hcut
  generalize wc = w5 at *
  have CC := Kept.mk (copy_any RA (44 + l) Rc Rb w5 Rx.out (by omega))
  go_wp2_with fail
  refine CC.out.mono ?_
  rintro x w6 ⟨v7, rfl, o7, bb⟩
  have O7 := Kept.mk o7
  clear o7 CC
  have sz7 := bb.size
  have B1 := Kept.mk bb
  clear bb
  obtain ⟨A7, c7, rfl⟩ := own_shape O7.out
  have O8 : Kept ((w6.alloc (.cells #[.int .u8 0] 5)).ownsRow w5.heap.size 5 1 (.slice A7 (44 + l) c7) (44 + l) (ints .u8 Rb)) := ⟨own_keep O7.out ((Bar.refl [] _).alloc _) (fun _ _ => by simp)⟩
  have Z8 : Kept (Rd (w6.alloc (.cells #[.int .u8 0] 5)) (some ⟨w6.heap.size, 0, none⟩) 1 [0]) := ⟨Rd.blk (Blk.new w6 5 (arr .u8 [0])) (by intro x hx; simp at hx; omega) rfl⟩
  have B2 : Kept (Below w6.heap.size w6 (w6.alloc (.cells #[.int .u8 0] 5))) := ⟨(Below.refl _ _).alloc (Nat.le_refl _) _⟩
  have hs8 : w5.heap.size ≤ (w6.alloc (.cells #[.int .u8 0] 5)).heap.size := by simp; omega
  go_wp2_with ((with_reducible refine sel 104 ?_); refine wpList_append_rd rfl (.tmp 102) (.tmp 103) 22 rfl w5.heap.size 5 Try.underlying22 info_u8 (.slice A7 (44 + l) c7) (44 + l) _ rfl O8.out (some ⟨w6.heap.size, 0, none⟩) 1 1 [0] rfl Z8.out (by omega) hs8 ?_; intro v9 w9 o9 g9; have B9 := Kept.mk (own_below O8.out g9 hs8); have O9 := Kept.mk o9.out; clear g9 o9)
  have o9 := O9.out
  rw [← ints_append] at o9
  obtain ⟨A9, c9, rfl, hc9, hm9, r9⟩ := own_rd o9 (BB.out.append (by intro x hx; simp at hx; omega))
  have R9 := Kept.mk r9
  have bb := B1.out.trans ((B2.out.mono sz7).trans B9.out)
  clear o9 O9 O8 O7 Z8 B1 B2 B9 hs8 sz7 r9
  replace X := Kept.mk (X.out.below bb X.out.lt)
  replace HK := Kept.mk (HK.out.below bb)
  replace Rx := Kept.mk (Rx.out.below bb)
  replace Sx := Kept.mk (Sx.out.below bb)
  replace T := Kept.mk (T.out.below bb T.out.lt)
  replace B := Kept.mk (B.out.trans (bb.mono B.out.size))
  clear bb
  generalize w9 = w7 at *
  have hE : openN key (Rb ++ [0]) = (⟨0, 0, 0, 0, []⟩, 2) := by
    have h2 : openE key (Rb ++ [0]) = 2 := by unfold openE; rw [if_neg (fun h => (not_more PK.out 0) h.1)]
    unfold openN; rw [h2, if_neg (by decide)]
  have CC := copen_any t Ak nk ck key A9 (44 + l + 1) c9 (Rb ++ [0]) w7 T.out HK.out hck hmk (by omega) R9.out hc9 hm9 (by omega)
  rw [hE] at CC
  unfold OpenPost at CC
  dsimp only at CC
  replace CC := Kept.mk CC
  go_wp2_with fail
  refine CC.out.mono ?_
  rintro x w8 ⟨A3, l3, c3, rfl, hc3, hm3, rr, tt, bb⟩
  replace X := Kept.mk (X.out.bar bb (by rw [List.mem_singleton]; omega))
  replace HK := Kept.mk (HK.out.tab T.out bb)
  replace Rx := Kept.mk (Rx.out.tab T.out bb)
  replace Sx := Kept.mk (Sx.out.tab T.out bb)
  replace R9 := Kept.mk (R9.out.tab T.out bb)
  replace T := Kept.mk tt
  replace B := Kept.mk (B.out.trans (bb.below B.out.size (fun k hk => by rw [List.mem_singleton] at hk; omega)))
  clear bb tt
  clear CC
  clear rr hE
  have bb : Below w8.heap.size w8 (w8.alloc (.cells #[.int .i64 0, .int .i64 0, .int .i64 0, .int .i64 0, .slice A3 l3 c3] 24)) := (Below.refl _ _).alloc (Nat.le_refl _) _
  go_upto_region 14 with (fail)
  replace X := Kept.mk (X.out.below bb X.out.lt)
  replace HK := Kept.mk (HK.out.below bb)
  replace Rx := Kept.mk (Rx.out.below bb)
  replace Sx := Kept.mk (Sx.out.below bb)
  replace R9 := Kept.mk (R9.out.below bb)
  replace T := Kept.mk (T.out.below bb T.out.lt)
  replace B := Kept.mk (B.out.trans (bb.mono B.out.size))
  clear bb
  generalize (w8.alloc (.cells #[.int .i64 0, .int .i64 0, .int .i64 0, .int .i64 0, .slice A3 l3 c3] 24)) = w9 at *
  have w43 : wrap64 (((44 + l : Nat) : Int) - 1) = ((43 + l : Nat) : Int) := by unfold wrap64; omega
  obtain ⟨A5, hs5, r5, -⟩ := slice_h Rx.out hRc (43 + l) (by omega) (44 + (l : Int) - 1) (by omega)
  have R5 := Kept.mk r5
  clear r5 w43
  have hLR : Rb.length = 44 + l := Rx.out.1
  have hE : openN key (Rb.take (43 + l)) = (⟨0, 0, 0, 0, []⟩, 2) := by
    have h2 : openE key (Rb.take (43 + l)) = 2 := by unfold openE; rw [if_neg (fun h => (not_less PK.out (43 + l) (by omega)) h.1)]
    unfold openN; rw [h2, if_neg (by decide)]
  have CC := copen_any t Ak nk ck key A5 (43 + l) Rc (Rb.take (43 + l)) w9 T.out HK.out hck hmk (by omega) R5.out (by omega) hRm (by omega)
  rw [hE] at CC
  unfold OpenPost at CC
  dsimp only at CC
  replace CC := Kept.mk CC
  go_wp2_with fail
  refine CC.out.mono ?_
  rintro x w10 ⟨A3, l3, c3, rfl, hc3, hm3, rr, tt, bb⟩
  replace X := Kept.mk (X.out.bar bb (by rw [List.mem_singleton]; omega))
  replace HK := Kept.mk (HK.out.tab T.out bb)
  replace Rx := Kept.mk (Rx.out.tab T.out bb)
  replace Sx := Kept.mk (Sx.out.tab T.out bb)
  replace R9 := Kept.mk (R9.out.tab T.out bb)
  replace R5 := Kept.mk (R5.out.tab T.out bb)
  replace T := Kept.mk tt
  replace B := Kept.mk (B.out.trans (bb.below B.out.size (fun k hk => by rw [List.mem_singleton] at hk; omega)))
  clear bb tt
  clear CC
  clear rr hE
  have bb : Below w10.heap.size w10 (w10.alloc (.cells #[.int .i64 0, .int .i64 0, .int .i64 0, .int .i64 0, .slice A3 l3 c3] 24)) := (Below.refl _ _).alloc (Nat.le_refl _) _
  go_upto_region 15 with (fail)
  replace X := Kept.mk (X.out.below bb X.out.lt)
  replace HK := Kept.mk (HK.out.below bb)
  replace Rx := Kept.mk (Rx.out.below bb)
  replace Sx := Kept.mk (Sx.out.below bb)
  replace R9 := Kept.mk (R9.out.below bb)
  replace R5 := Kept.mk (R5.out.below bb)
  replace T := Kept.mk (T.out.below bb T.out.lt)
  replace B := Kept.mk (B.out.trans (bb.mono B.out.size))
  clear bb
  generalize (w10.alloc (.cells #[.int .i64 0, .int .i64 0, .int .i64 0, .int .i64 0, .slice A3 l3 c3] 24)) = w11 at *
  go_wp2_with fail
  refine (sfirst_any w11).mono ?_
  rintro e w12 ⟨rfl, bb⟩
  replace X := Kept.mk (X.out.below bb X.out.lt)
  replace HK := Kept.mk (HK.out.below bb)
  replace Rx := Kept.mk (Rx.out.below bb)
  replace Sx := Kept.mk (Sx.out.below bb)
  replace R9 := Kept.mk (R9.out.below bb)
  replace R5 := Kept.mk (R5.out.below bb)
  replace T := Kept.mk (T.out.below bb T.out.lt)
  replace B := Kept.mk (B.out.trans (bb.mono B.out.size))
  clear bb
  have CB := bytes_any RA SA (44 + l) (44 + l') Rc Sc Rb Sb w12 Rx.out Sx.out
  rw [EQ.out] at CB
  replace CB := Kept.mk CB
  have x4 := X.out.cell 4
  clear hs5
  go_wp2_with fail
  refine CB.out.mono ?_
  rintro x wq ⟨rfl, rfl⟩
  clear CB
  go_wp2
  go_ret
  exact ⟨rfl, B.out⟩
end Go.Proofs.Ytidjkhpekhpffaa.Seal
