/-
  The law FrameBack, walked over contracts.
-/
import Derived.Test.YtimdbljagpbecaaPart3
import Derived.Test.YtimdbljagpbecaaPart5
import Derived.Test.YtimdbljagpbecaaPart2
namespace Go.Proofs.Ytimdbljagpbecaa.Frame
open Go.RowKit Go.Proofs.Ytimdbljagpbecaa.Sha Go.Proofs.Ytimdbljagpbecaa.Wire

theorem bit_is (bit : Int) (h0 : 0 ≤ bit) (h1 : bit < 18446744073709551616) : ∃ z : Int, (0 ≤ z ∧ z ≤ 255) ∧ ∀ (P : Program) (w : World), (Op.shift .shl .u8 1 .u64 (bits .and .u64 bit 7)).run P w = .ok (.int .u8 z) w := by
  have hk : bits .and .u64 bit 7 = ((bit.toNat &&& 7 : Nat) : Int) := u64_and bit 7 h0 h1 (by omega) (by omega)
  have h7 : bit.toNat &&& 7 ≤ 7 := Nat.and_le_right
  refine ⟨IntKind.u8.wrap (1 * 2 ^ (((bit.toNat &&& 7 : Nat) : Int)).toNat), ?_, fun P w => ?_⟩
  · rw [IntKind.wrap_u8]; omega
  · have e := shift_shl .u8 .u64 1 ((bit.toNat &&& 7 : Nat) : Int) (by omega) (by show ((bit.toNat &&& 7 : Nat) : Int) ≤ ((8 : Nat) : Int); omega)
    rw [hk, e]
    rfl
theorem xor_byte (a b : Int) (ha : 0 ≤ a ∧ a ≤ 255) (hb : 0 ≤ b ∧ b ≤ 255) : 0 ≤ bits .xor .u8 a b ∧ bits .xor .u8 a b ≤ 255 := by
  rw [u8_xor a b ha.1 (by omega) hb.1 (by omega)]
  have := Nat.xor_lt_two_pow (n := 8) (x := a.toNat) (y := b.toNat) (by omega) (by omega)
  omega
theorem eq_64 {S np : Nat} (h : np = 64 * S) : ((64 * (S : Int)) = (np : Int)) = True := eq_true (by omega)
theorem eq_64b {S np : Nat} (h : np = 64 * S) : ((64 * (S : Int)) != (np : Int)) = false := by simp; omega
theorem not_64 {q S np q9 : Nat} (h : np = 64 * S) (hq : q = S) (h9 : 64 * q = q9) : ((q9 : Int) < (np : Int)) = False := eq_false (by omega)
theorem wrap_64 {S np : Nat} (h : np = 64 * S) (hS : S ≤ 40) : wrap64 (64 * (S : Int)) = (np : Int) := by unfold wrap64; omega
theorem wrap_on {q S np : Nat} (h : np = 64 * S) (hS : S ≤ 40) (hq : q < S) : ∃ q1 q2 : Nat, 64 * q = q1 ∧ 64 * (q + 1) = q2 ∧ wrap64 ((q1 : Int) + 64) = (q2 : Int) ∧ q1 < np ∧ (q1 : Int) < np ∧ np - ((q2 : Nat) : Int).toNat < np - ((q1 : Nat) : Int).toNat :=
  ⟨64 * q, 64 * (q + 1), rfl, rfl, by unfold wrap64; omega, by omega, by omega, by rw [Int.toNat_natCast, Int.toNat_natCast]; omega⟩
set_option maxRecDepth 100000 in
set_option maxHeartbeats 2000000 in
theorem fback_walk (api : FrameApi) (f : FV) (A : Option Addr) (n cap : Nat) (A' : Option Addr) (m cap' : Nat) (xs : List Int) (at0 bit : Int) (w : World) (hr : Rd w A n f.body) (hc : n ≤ cap) (hcm : cap ≤ 9223372036854775807) (hr' : Rd w A' m xs) (hbit : 0 ≤ bit) (hbit2 : bit < 18446744073709551616) :
    Calls Try.prog 5 #[frv f A n cap, .slice A' m cap', .int .i64 at0, .int .u64 bit] w fun e w' => e = .returned (.bool true) ∧ Below w.heap.size w w' := by
  have HR' := Kept.mk hr'
  clear hr'
  obtain ⟨N, hN⟩ : ∃ N, w.heap.size = N := ⟨_, rfl⟩
  rw [hN]
  have HR := Kept.mk hr
  have hlen := hr.1
  have cf := Kept.mk fun w => ffirst_any api w
  have X1 := Blk.new_at w 24 #[.int .i64 f.kind, .int .i64 f.gen, .int .i64 f.seq, .slice A n cap] N hN.symm
  have B1 : Below N w (w.alloc (.cells #[.int .i64 f.kind, .int .i64 f.gen, .int .i64 f.seq, .slice A n cap] 24)) := (Below.refl _ _).alloc (by omega) _
  have HX1 := Kept.mk X1; have HB1 := Kept.mk B1
  unfold frv
  clear hr X1 B1
  go_enter Try.func5, Try.ntmps5
  go_wp2_with fail
  generalize w.alloc (.cells #[.int .i64 f.kind, .int .i64 f.gen, .int .i64 f.seq, .slice A n cap] 24) = w1 at *
  refine (cf.out _).mono ?_
  rintro x w2 ⟨rfl, b2⟩
  have X2 := HX1.out.below b2 HX1.out.lt
  have B2 := HB1.out.trans (b2.mono (by have := HX1.out.lt; omega))
  go_wp2_with fail
  refine (newtable_any w2).mono ?_
  rintro e w3 ⟨rfl, rfl⟩
  obtain ⟨t, ht⟩ : ∃ t, w2.heap.size = t := ⟨_, rfl⟩
  rw [ht]
  have hNt : N < t := by rw [← ht]; exact X2.lt
  have hT : Tab (w2.alloc (.cells (tbl (.int .u32 0) (.int .i32 0) (.int .u32 0) 0 0) 63)) t := .inl (Blk.new_at _ _ _ t ht.symm)
  have B3 : Below N w (w2.alloc (.cells (tbl (.int .u32 0) (.int .i32 0) (.int .u32 0) 0 0) 63)) := B2.alloc (by omega) _
  have X3 := X2.alloc (.cells (tbl (.int .u32 0) (.int .i32 0) (.int .u32 0) 0 0) 63)
  generalize w2.alloc (.cells (tbl (.int .u32 0) (.int .i32 0) (.int .u32 0) 0 0) 63) = w3 at *
  have x0 := X3.cell 0; have x1 := X3.cell 1; have x2 := X3.cell 2; have x3 := X3.cell 3
  have HB3 := Kept.mk B3; have HT3 := Kept.mk hT; have HX3 := Kept.mk X3
  clear X2 b2 B2 HX1 HB1 ht X3 B3 hT
  by_cases hbig : 2000 < n
  · have hbig' : (2000 : Int) < n := by omega
    go_wp2_with fail
    refine (cf.out _).mono ?_
    rintro x w4 ⟨rfl, b4⟩
    have B4 := Kept.mk (HB3.out.trans (b4.mono (by have := HB3.out.size; omega)))
    clear b4 HB3
    go_wp2
    go_ret
    exact ⟨rfl, B4.out⟩
  by_cases hbm : 2000 < m
  · have hbig' : ((2000 : Int) < n) = False := eq_false (by omega)
    have hbm' : (2000 : Int) < m := by omega
    go_wp2_with fail
    refine (cf.out _).mono ?_
    rintro x w4 ⟨rfl, b4⟩
    have B4 := Kept.mk (HB3.out.trans (b4.mono (by have := HB3.out.size; omega)))
    clear b4 HB3
    go_wp2
    go_ret
    exact ⟨rfl, B4.out⟩
  · have hbig' : ((2000 : Int) < n) = False := eq_false (by omega)
    have hbm' : ((2000 : Int) < m) = False := eq_false (by omega)
    have CP := Kept.mk (api.put (f := f) (c := cap) HT3.out (HR.out.below (hN ▸ HB3.out)) hc hcm (by omega) (HR.out.off (fun k hk => by rw [List.mem_singleton] at hk; omega)))
    unfold frv at CP
    go_wp2_with fail
    refine CP.out.mono ?_
    rintro x w4 ⟨Ap, np, cp, rfl, hcp, hmp, rp, op, tp, b4⟩
    have hs3 : t < w3.heap.size := ftab_lt HT3.out
    have B4 := Kept.mk (HB3.out.trans (b4.below (B := N) (by have := HB3.out.size; omega) (fun k hk => by rw [List.mem_singleton] at hk; omega)))
    have OP := Kept.mk (op [t] (fun k hk => by rw [List.mem_singleton] at hk; omega))
    have T4 := Kept.mk tp
    by_cases he : errF f = 0
    · have e1 : putF f = (0, laid (textF f)) := by unfold putF; rw [he, if_pos rfl]
      rw [e1] at rp ⊢
      obtain ⟨S, hS⟩ : ∃ S, secs (textF f).length = S := ⟨_, rfl⟩
      have hbl : np = 64 * S := by have := rp.1; rw [laid_len, hS] at this; omega
      have hS1 : 1 ≤ S ∧ S ≤ 40 := by rw [← hS]; unfold secs; rw [textF_len]; omega
      have GET := Kept.mk fun r => get_put f r he
      have SEC : Kept (sectorsF ((f.body.length : Nat) : Int) = (S : Int)) := ⟨by
        have := textF_len f
        unfold sectorsF
        rw [if_neg (by omega), ← hS]
        unfold secs
        omega⟩
      have MARK := Kept.mk fun i (h0 : i ≠ 0) (hi : i < S) => laid_mark (textF f) [] i (by rw [hS]; exact hi)
      have X4 : Kept (Blk w4 N 24 #[.int .i64 f.kind, .int .i64 f.gen, .int .i64 f.seq, .slice A n cap]) := ⟨HX3.out.bar b4 (by rw [List.mem_singleton]; omega)⟩
      have RF4 := Kept.mk ((HR.out.below (hN ▸ HB3.out)).far b4 (HR.out.off (F := [t]) (fun k hk => by rw [List.mem_singleton] at hk; omega)))
      have RX4 := Kept.mk ((HR'.out.below (hN ▸ HB3.out)).far b4 (HR'.out.off (F := [t]) (fun k hk => by rw [List.mem_singleton] at hk; omega)))
      clear CP HT3 HB3 x0 x1 x2 x3 op tp b4 HX3
      obtain ⟨b, hb⟩ : ∃ b, laid (textF f) = b := ⟨_, rfl⟩
      simp only [hb] at rp GET MARK ⊢
      have RP := Kept.mk rp
      have HBL := Kept.mk hbl
      have HNP : Kept (64 ≤ np ∧ np ≤ 2560) := ⟨by omega⟩
      have HMN : Kept (m ≤ 2000) := ⟨by omega⟩
      clear rp e1 hb hS he hbl
      go_wp2_with fail
      refine (copy_any Ap np cp b w4 RP.out (by have := HNP.out; omega)).mono ?_
      rintro x w5 ⟨v5, rfl, own5, b5⟩
      have HO5 := Kept.mk own5
      have HB5 := Kept.mk b5
      have hts4 : t < w4.heap.size := ftab_lt T4.out
      have BBY := Kept.mk (RP.out.2.1.append RX4.out.2.1)
      clear own5 b5
      go_wp2_with ((with_reducible refine sel 61 ?_); refine wpList_append_rda rfl (.tmp 59) (.tmp 60) 22 rfl w4.heap.size 5 Try.underlying22 info_u8 _ np _ rfl HO5.out _ _ _ _ rfl (RX4.out.below HB5.out) (by have := HNP.out; have := HMN.out; omega) HB5.out.size ?_; intro v7 w7 o7 g7 a7; rw [← ints_append] at o7; have B7 := Kept.mk (HB5.out.trans (own_below HO5.out g7 HB5.out.size)); obtain ⟨A7, c7, rfl, hc7, hm7, r7⟩ := own_rd o7.out BBY.out; have R7 := Kept.mk r7; have O7 := Kept.mk (own_off o7.out (F := [t]) (fun k hk hk2 => by rw [List.mem_singleton] at hk2; have := (o7.out.lt k (by simpa using hk)).1; omega)); clear g7 a7 o7 r7)
      have CG := Kept.mk (api.get (c := c7) (ftab_below T4.out B7.out hts4) R7.out hc7 hm7 (by have := HNP.out; have := HMN.out; omega) O7.out)
      rw [GET.out xs, SEC.out] at CG
      have X7 := Kept.mk (X4.out.below B7.out X4.out.lt)
      have RF7 := Kept.mk (RF4.out.below B7.out)
      have RP7 := Kept.mk (RP.out.below B7.out)
      have BW7 := Kept.mk (B4.out.trans (B7.out.mono (by have := B4.out.size; omega)))
      have T7 := Kept.mk (ftab_below T4.out B7.out hts4)
      clear T4 B4 X4 RF4 RP RX4 HO5 HB5 R7 O7 BBY
      refine CG.out.mono ?_
      rintro x w8 ⟨Ax, nx, cx, rfl, hcx, hmx, rx, -, tx, bx⟩
      unfold frv
      have ht7 : t < w7.heap.size := ftab_lt T7.out
      have X8 := X7.out.bar bx (by rw [List.mem_singleton]; omega)
      obtain ⟨p, hp⟩ : ∃ p, w8.heap.size = p := ⟨_, rfl⟩
      have ca : Below w8.heap.size w8 (w8.alloc (.cells #[.int .i64 f.kind, .int .i64 f.gen, .int .i64 f.seq, .slice Ax nx cx] 24)) := (Below.refl _ _).alloc (Nat.le_refl _) _
      have X9 := Kept.mk (X8.below ca X8.lt)
      have Y9 := Kept.mk (Blk.new_at w8 24 #[.int .i64 f.kind, .int .i64 f.gen, .int .i64 f.seq, .slice Ax nx cx] p hp.symm)
      have T9 := Kept.mk (ftab_below tx ca (ftab_lt tx))
      have RP9 := Kept.mk ((RP7.out.far bx OP.out).below ca)
      have OF := HR.out.off (F := [t]) (fun k hk => by rw [List.mem_singleton] at hk; omega)
      have RF9 := Kept.mk ((RF7.out.far bx OF).below ca)
      have RY9 := Kept.mk (rx.below ca)
      have B8 : Below N w w8 := BW7.out.trans (bx.below (B := N) (by have := BW7.out.size; omega) (fun k hk => by rw [List.mem_singleton] at hk; omega))
      have B9 := Kept.mk (B8.trans (ca.mono (by have := B8.size; omega)))
      have hk1 := wrap_64 HBL.out hS1.2
      have hk2 := eq_64 HBL.out
      have hk3 := eq_64b HBL.out
      have hnn : ((np : Int) == np) = true := by simp
      have hSS : ((S : Int) == S) = true := by simp
      have CS := Kept.mk fun w' => api.sectors (n : Int) w'
      rw [show (n : Int) = ((f.body.length : Nat) : Int) by rw [hlen], SEC.out] at CS
      rw [hlen] at CS
      have CM := Kept.mk (rsame_yes f Ax A nx cx n cap _ RY9.out RF9.out)
      unfold frv at CM
      have x0 := X9.out.cell 0; have x1 := X9.out.cell 1; have x2 := X9.out.cell 2; have x3 := X9.out.cell 3
      have y0 := Y9.out.cell 0; have y1 := Y9.out.cell 1; have y2 := Y9.out.cell 2; have y3 := Y9.out.cell 3
      clear CG X7 RF7 RP7 BW7 T7 X8 tx bx rx ca B8 RF9 RY9 X9 Y9
      go_wp2_with fail
      try rw [hp]
      generalize w8.alloc (.cells #[.int .i64 f.kind, .int .i64 f.gen, .int .i64 f.seq, .slice Ax nx cx] 24) = w9 at *
      refine (CS.out _).mono ?_
      rintro x w10 ⟨rfl, rfl⟩
      go_wp2_with fail
      refine CM.out.mono ?_
      rintro x w10 ⟨rfl, b10⟩
      have T10 := Kept.mk (ftab_below T9.out b10 (ftab_lt T9.out))
      have RP10 := Kept.mk (RP9.out.below b10)
      have B10 := Kept.mk (B9.out.trans (b10.mono (by have := B9.out.size; omega)))
      clear CS CM x0 x1 x2 x3 y0 y1 y2 y3 b10 T9 RP9 B9
      go_wp2
      clear hk1 hk2 hk3 hnn hSS
      go_loopw [16, 17, 18, 19] (fun i _a _b _c wr => ∃ q : Nat, 1 ≤ q ∧ q ≤ S ∧ i = .int .i64 ((64 * q : Nat) : Int) ∧ Kept (Tab wr t) ∧ Kept (Rd wr Ap np b) ∧ Kept (Below N w wr)) (fun i _ _ _ _ => np - (intOf i).toNat)
      case atStart => exact ⟨1, by omega, hS1.1, rfl, T10, RP10, B10⟩
      case round =>
        clear T10 RP10 B10
        obtain ⟨q, hq1, hqS, rfl, T, RP, B⟩ := hrel
        by_cases hql : q < S
        · obtain ⟨q1, q2, hqa, hqb, hwq, hqn, hqn', hms⟩ := wrap_on HBL.out hS1.2 hql
          have HMS := Kept.mk hms
          have HQB := Kept.mk hqb
          have hgv : getF (b.drop q1) = (noF, 0, 2) := by
            refine get_mark ?_
            have := MARK.out q (by omega) hql
            rw [List.append_nil, hqa] at this
            rw [this]; unfold mk; rw [if_neg (by omega)]; decide
          rw [hqa]
          obtain ⟨A2, hs2, r2, o2⟩ := slice_l RP.out hcp q1 (by omega) (q1 : Int) rfl
          have CG := Kept.mk (api.get (c := cp - q1) T.out r2 (by omega) (by omega) (by have := HNP.out; omega) (o2 [t] OP.out))
          rw [hgv] at CG
          clear r2 o2 hgv hqa hqb hms
          go_wp2_with fail
          refine CG.out.mono ?_
          rintro x w11 ⟨Az, nz, cz, rfl, -, -, -, -, tz, bz⟩
          unfold frv
          have ca : Below w11.heap.size w11 (w11.alloc (.cells #[.int .i64 noF.kind, .int .i64 noF.gen, .int .i64 noF.seq, .slice Az nz cz] 24)) := (Below.refl _ _).alloc (Nat.le_refl _) _
          have T12 := Kept.mk (ftab_below tz ca (ftab_lt tz))
          have RP12 := Kept.mk ((RP.out.far bz OP.out).below ca)
          have B11 : Below N w w11 := B.out.trans (bz.below (B := N) (by have := B.out.size; omega) (fun k hk => by rw [List.mem_singleton] at hk; omega))
          have B12 := Kept.mk (B11.trans (ca.mono (by have := B11.size; omega)))
          clear CG T RP B tz bz ca B11
          go_wp2
          go_roundw
          case rel => exact ⟨q + 1, by omega, by omega, by rw [hwq, HQB.out], T12, RP12, B12⟩
          case measure => rw [hwq]; exact HMS.out
        · have hqe : q = S := by omega
          obtain ⟨q9, hq9⟩ : ∃ q9, 64 * q = q9 := ⟨_, rfl⟩
          have hqn := not_64 HBL.out hqe hq9
          rw [hq9]
          clear hq9
          clear MARK
          by_cases ha : at0 < 0
          · go_wp2_with fail
            refine (cf.out _).mono ?_
            rintro x w11 ⟨rfl, b11⟩
            have B11 := Kept.mk (B.out.trans (b11.mono (by have := B.out.size; omega)))
            clear b11
            go_wp2
            go_ret
            exact ⟨rfl, B11.out⟩
          by_cases ha2 : (np : Int) ≤ at0
          · go_wp2_with fail
            refine (cf.out _).mono ?_
            rintro x w11 ⟨rfl, b11⟩
            have B11 := Kept.mk (B.out.trans (b11.mono (by have := B.out.size; omega)))
            clear b11
            go_wp2
            go_ret
            exact ⟨rfl, B11.out⟩
          obtain ⟨j, rfl⟩ : ∃ j : Nat, at0 = j := ⟨at0.toNat, by omega⟩
          have hjn : j < np := by omega
          have hjn' : (j : Int) < np := by omega
          have ha' : ((j : Int) < 0) = False := eq_false (by omega)
          have ha2' : ((np : Int) ≤ (j : Int)) = False := eq_false (by omega)
          clear ha ha2
          go_wp2_with fail
          refine (copy_any Ap np cp b wr RP.out (by have := HNP.out; omega)).mono ?_
          rintro x w5 ⟨v, rfl, own, b5⟩
          obtain ⟨g, gc, rfl, hg, hgc, hgm, hwr⟩ := wr_of_own own RP.out.2.1 (by have := HNP.out; omega)
          have ht9 : t < wr.heap.size := ftab_lt T.out
          have hgt : g ≠ t := by omega
          have T5 := Kept.mk (ftab_below T.out b5 ht9)
          have B5 := Kept.mk (B.out.trans (b5.mono (by have := B.out.size; omega)))
          have W5 := Kept.mk hwr
          have y0 := hwr.cell j hjn
          have z0 := hwr.frozen j
          have hgN : N ≤ g := by have := B.out.size; omega
          clear own b5 hwr T RP B
          obtain ⟨z, hz, hsh⟩ := bit_is bit hbit hbit2
          have hsh' := hsh Try.prog
          have hby := wr_byte W5.out j
          obtain ⟨vj, hvj⟩ : ∃ vj, at_ b j = vj := ⟨_, rfl⟩
          rw [hvj] at y0 hby
          have hxz := xor_byte vj z hby hz
          obtain ⟨zx, hzx⟩ : ∃ zx, bits .xor .u8 vj z = zx := ⟨_, rfl⟩
          rw [hzx] at hxz
          have W6 := Kept.mk (W5.out.set j zx hxz)
          have B6 := Kept.mk (B5.out.setCell (p := ⟨g, j, none⟩) (hgN) (.int .u8 zx))
          have T6 := Kept.mk (ftab_bar T5.out ((Bar.refl [g] w5).setCell (p := ⟨g, j, none⟩) (by simp) (.int .u8 zx)) (by simpa using Ne.symm hgt))
          have HZX := Kept.mk hzx
          clear hsh hvj hby hxz hzx W5 B5 T5 hbit hbit2 hz
          go_wp2_with fail
          rw [HZX.out]
          generalize w5.setCell ⟨g, j, none⟩ (.int .u8 zx) = w6 at *
          obtain ⟨C, hC⟩ : ∃ C, b.set j zx = C := ⟨_, rfl⟩
          rw [hC] at W6
          have OC : Off (some ⟨g, 0, none⟩) np [t] := .inr ⟨g, 0, rfl, by simpa using hgt⟩
          have CG := api.get (c := gc) T6.out W6.out.rd hgc hgm (by have := HNP.out; omega) OC
          obtain ⟨G, hG⟩ : ∃ G, getF C = G := ⟨_, rfl⟩
          have E2 : G.2.2 = 0 ∨ G.2.2 = 2 := by rw [← hG]; exact get_err C
          have CD : ∀ w', Rd w' (some ⟨g, 0, none⟩) np C → Calls Try.prog 16 #[.slice (some ⟨g, 0, none⟩) np gc] w' (RGetPost (getF C) w') := fun w' h => rget_any _ _ _ _ w' h hgc hgm
          rw [hG] at CG CD
          clear hG hC
          obtain ⟨fz, kz, ez⟩ := G
          simp only at E2
          have KG := Kept.mk CG; have KD := Kept.mk CD; have KR := Kept.mk W6.out.rd
          clear CG CD W6 y0 z0
          have hts : t < w6.heap.size := ftab_lt T6.out
          refine KG.out.mono ?_
          rintro x w11 ⟨Az, nz, cz, rfl, -, -, -, -, tz, bz⟩
          unfold frv
          have ca : Below w11.heap.size w11 (w11.alloc (.cells #[.int .i64 fz.kind, .int .i64 fz.gen, .int .i64 fz.seq, .slice Az nz cz] 24)) := (Below.refl _ _).alloc (Nat.le_refl _) _
          have R12 := Kept.mk ((KR.out.far bz OC).below ca)
          have B11 : Below N w w11 := B6.out.trans (bz.below (B := N) (by have := B6.out.size; omega) (fun k hk => by rw [List.mem_singleton] at hk; omega))
          have B12 := Kept.mk (B11.trans (ca.mono (by have := B11.size; omega)))
          clear KG KR B6 T6 tz bz ca B11
          go_wp2_with fail
          generalize w11.alloc (.cells #[.int .i64 fz.kind, .int .i64 fz.gen, .int .i64 fz.seq, .slice Az nz cz] 24) = w12 at *
          refine (KD.out _ R12.out).mono ?_
          rintro x w13 ⟨Av, nv, cv, rfl, -, -, -, b13⟩
          have ca : Below w13.heap.size w13 (w13.alloc (.cells #[.int .i64 fz.kind, .int .i64 fz.gen, .int .i64 fz.seq, .slice Av nv cv] 24)) := (Below.refl _ _).alloc (Nat.le_refl _) _
          have b14 : Below w12.heap.size w12 (w13.alloc (.cells #[.int .i64 fz.kind, .int .i64 fz.gen, .int .i64 fz.seq, .slice Av nv cv] 24)) := b13.trans (ca.mono b13.size)
          have B14 := Kept.mk (B12.out.trans (b14.mono (by have := B12.out.size; omega)))
          clear KD R12 B12 b13 ca b14
          go_wp2_with fail
          generalize w13.alloc (.cells #[.int .i64 fz.kind, .int .i64 fz.gen, .int .i64 fz.seq, .slice Av nv cv] 24) = w14 at *
          refine (cf.out _).mono ?_
          rintro x w15 ⟨rfl, b15⟩
          have B15 := Kept.mk (B14.out.trans (b15.mono (by have := B14.out.size; omega)))
          clear B14 b15
          rcases E2 with EZ | EZ
          · subst EZ
            go_wp2
            go_ret
            exact ⟨rfl, B15.out⟩
          · subst EZ
            go_wp2
            go_ret
            exact ⟨rfl, B15.out⟩
    · have e1 : (putF f).1 = errF f := rfl
      have e2 : (putF f).2 = [] := by simp only [putF]; rw [if_neg he]
      rw [e2] at rp
      rw [e1]
      obtain rfl : np = 0 := rp.1.symm
      have he2 : (errF f == 0) = false := by simpa using he
      clear rp e1 e2 OP T4 tp
      clear CP HT3 HB3 x0 x1 x2 x3 op b4 HX3
      have he3 : (errF f != 0) = true := by simpa using he
      generalize errF f = ee at *
      go_wp2_with fail
      refine (cf.out _).mono ?_
      rintro x w5 ⟨rfl, b5⟩
      have B5 := Kept.mk (B4.out.trans (b5.mono (by have := B4.out.size; omega)))
      clear b5 B4
      go_wp2
      go_ret
      exact ⟨rfl, B5.out⟩
end Go.Proofs.Ytimdbljagpbecaa.Frame
