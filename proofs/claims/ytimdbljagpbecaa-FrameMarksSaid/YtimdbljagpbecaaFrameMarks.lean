/-
  The law FrameMarks, walked over contracts.
-/
import Derived.Test.YtimdbljagpbecaaPart3
import Derived.Test.YtimdbljagpbecaaPart2
namespace Go.Proofs.Ytimdbljagpbecaa.Frame
open Go.RowKit Go.Proofs.Ytimdbljagpbecaa.Sha Go.Proofs.Ytimdbljagpbecaa.Wire

theorem make_row (w : World) (n : Nat) (hn : n ≤ 400) : ∃ w', (Instr.makeSlice 22 (.int .i64 (n : Int)) (.int .i64 (n : Int))).run Try.prog w = .ok (.slice (some ⟨w.heap.size, 0, none⟩) n n) w' ∧ w'.ownsRow w.heap.size 5 1 (.slice (some ⟨w.heap.size, 0, none⟩) n n) n (ints .u8 (List.replicate n 0)) ∧ Below w.heap.size w w' := by
  obtain ⟨iu, hi, hz0, hz1, hz2⟩ := info_parts info_u8
  obtain ⟨w', hm, own, gr⟩ := run_makeSlice_full (P := Try.prog) w w.heap.size 22 5 iu _ 1 Try.underlying22 hi hz0 hz1 .i64 .i64 n (by omega) (by rw [hz2]; omega) (by unfold maxLen; omega) (Nat.le_refl _)
  refine ⟨w', hm, ?_, ⟨gr.os, gr.tape, gr.output, gr.size, fun k hk => gr.block k hk (by simp)⟩⟩
  have e : (madeCells (Value.int .u8 0).cells (n * 1)).toList = ints .u8 (List.replicate n 0) := by
    rw [show (Value.int .u8 0).cells = #[.int .u8 0] from rfl, toList_madeCells_one, Nat.mul_one]
    simp [ints]
  rw [e] at own
  exact own

set_option maxRecDepth 100000 in
set_option maxHeartbeats 1000000 in
theorem fmarks_walk (api : FrameApi) (f : FV) (A : Option Addr) (n cap : Nat) (w : World) (hr : Rd w A n f.body) (hc : n ≤ cap) (hcm : cap ≤ 9223372036854775807) :
    Calls Try.prog 6 #[frv f A n cap] w fun e w' => e = .returned (.bool true) ∧ Below w.heap.size w w' := by
  obtain ⟨N, hN⟩ : ∃ N, w.heap.size = N := ⟨_, rfl⟩
  rw [hN]
  have HR := Kept.mk hr
  have hlen := hr.1
  have cf := Kept.mk fun w => ffirst_any api w
  have X1 := Blk.new_at w 24 #[.int .i64 f.kind, .int .i64 f.gen, .int .i64 f.seq, .slice A n cap] N hN.symm
  have B1 : Below N w (w.alloc (.cells #[.int .i64 f.kind, .int .i64 f.gen, .int .i64 f.seq, .slice A n cap] 24)) := (Below.refl _ _).alloc (by omega) _
  have HX1 := Kept.mk X1; have HB1 := Kept.mk B1
  unfold frv
  clear hr X1 B1
  go_enter Try.func6, Try.ntmps6
  go_wp2_with fail
  generalize w.alloc (.cells #[.int .i64 f.kind, .int .i64 f.gen, .int .i64 f.seq, .slice A n cap] 24) = w1 at *
  refine (cf.out _).mono ?_
  rintro x w2 ⟨rfl, b2⟩
  have X2 := HX1.out.below b2 HX1.out.lt
  have B2 := HB1.out.trans (b2.mono (by have := HX1.out.lt; omega))
  go_wp2_with fail
  refine (newtable_any w2).mono ?_
  rintro e w3 ⟨rfl, rfl⟩
  obtain ⟨t, ht⟩ : ∃ t, w2.heap.size = t := ⟨_, rfl⟩
  rw [ht]
  have hNt : N < t := by rw [← ht]; exact X2.lt
  have hT : Tab (w2.alloc (.cells (tbl (.int .u32 0) (.int .i32 0) (.int .u32 0) 0 0) 63)) t := .inl (Blk.new_at _ _ _ t ht.symm)
  have B3 : Below N w (w2.alloc (.cells (tbl (.int .u32 0) (.int .i32 0) (.int .u32 0) 0 0) 63)) := B2.alloc (by omega) _
  have X3 := X2.alloc (.cells (tbl (.int .u32 0) (.int .i32 0) (.int .u32 0) 0 0) 63)
  generalize w2.alloc (.cells (tbl (.int .u32 0) (.int .i32 0) (.int .u32 0) 0 0) 63) = w3 at *
  have x0 := X3.cell 0; have x1 := X3.cell 1; have x2 := X3.cell 2; have x3 := X3.cell 3
  have HB3 := Kept.mk B3; have HT3 := Kept.mk hT
  clear X2 b2 B2 HX1 HB1 ht X3 B3 hT
  by_cases hbig : 2000 < n
  · have hbig' : (2000 : Int) < n := by omega
    go_wp2_with fail
    refine (cf.out _).mono ?_
    rintro x w4 ⟨rfl, b4⟩
    have B4 := Kept.mk (HB3.out.trans (b4.mono (by have := HB3.out.size; omega)))
    clear b4 HB3
    go_wp2
    go_ret
    exact ⟨rfl, B4.out⟩
  · have hbig' : ((2000 : Int) < n) = False := eq_false (by omega)
    have CP := Kept.mk (api.put (f := f) (c := cap) HT3.out (HR.out.below (hN ▸ HB3.out)) hc hcm (by omega) (HR.out.off (fun k hk => by rw [List.mem_singleton] at hk; omega)))
    unfold frv at CP
    go_wp2_with fail
    refine CP.out.mono ?_
    rintro x w4 ⟨Ap, np, cp, rfl, hcp, hmp, rp, op, tp, b4⟩
    have hs3 : t < w3.heap.size := ftab_lt HT3.out
    have B4 := Kept.mk (HB3.out.trans (b4.below (B := N) (by have := HB3.out.size; omega) (fun k hk => by rw [List.mem_singleton] at hk; omega)))
    have OP := op [t] (fun k hk => by rw [List.mem_singleton] at hk; omega)
    have HTP := Kept.mk tp
    clear CP HT3 HB3 x0 x1 x2 x3 op tp b4
    by_cases he : errF f = 0
    · have e1 : putF f = (0, laid (textF f)) := by unfold putF; rw [he, if_pos rfl]
      rw [e1] at rp ⊢
      have hbl : np = 64 * secs (textF f).length := by have := rp.1; rw [laid_len] at this; omega
      have hsec : 1 ≤ secs (textF f).length ∧ secs (textF f).length ≤ 40 := by unfold secs; rw [textF_len]; omega
      have hb0 : at_ (laid (textF f)) 0 = 1 := by
        have := laid_mark (textF f) [] 0 (by omega)
        simpa [mk] using this
      obtain ⟨b, hb⟩ : ∃ b, laid (textF f) = b := ⟨_, rfl⟩
      simp only [hb] at rp hb0
      have hnp : 64 ≤ np ∧ np ≤ 2560 := by omega
      have hpm : Int.tmod (np : Int) 64 = 0 := by rw [Int.tmod_eq_emod_of_nonneg (by omega)]; omega
      have hp0 : ((np : Int) == 0) = false := by simp; omega
      have RP := Kept.mk rp
      obtain ⟨w5, hmk, own5, b5⟩ := make_row w4 39 (by omega)
      rw [show ((39 : Nat) : Int) = 39 from rfl] at hmk
      have HO5 := Kept.mk own5
      have HB5 := Kept.mk b5
      have hb8 : Bytes (List.replicate 39 0 ++ b) := Bytes.append (fun x hx => by have := List.eq_of_mem_replicate hx; omega) rp.2.1
      have hbb : b.length = np := rp.1
      have hts4 : t < w4.heap.size := ftab_lt HTP.out
      clear rp own5 b5 e1 hb hbl hsec he
      go_wp2_with ((with_reducible refine sel 38 ?_); refine wpList_append_rda rfl (.tmp 36) (.tmp 37) 22 rfl w4.heap.size 5 Try.underlying22 info_u8 _ 39 _ rfl HO5.out _ _ _ _ rfl (RP.out.below HB5.out) (by omega) HB5.out.size ?_; intro v7 w7 o7 g7 a7; rw [← ints_append] at o7; have B7 := Kept.mk (HB5.out.trans (own_below HO5.out g7 HB5.out.size)); obtain ⟨A7, c7, rfl, hc7, hm7, r7⟩ := own_rd o7.out hb8; have R7 := Kept.mk r7; have O7 := Kept.mk (own_off o7.out (F := [t]) (fun k hk hk2 => by rw [List.mem_singleton] at hk2; have := (o7.out.lt k (by simpa using hk)).1; omega)); clear g7 a7 o7 r7)
      obtain ⟨p, hp⟩ : ∃ p, w7.heap.size = p := ⟨_, rfl⟩
      have b8 : Below w7.heap.size w7 (w7.alloc (.cells #[.int .i64 2, .int .i64 1, .int .i64 1, .slice A7 (39 + np) c7] 24)) := (Below.refl _ _).alloc (Nat.le_refl _) _
      have b48 : Below w4.heap.size w4 (w7.alloc (.cells #[.int .i64 2, .int .i64 1, .int .i64 1, .slice A7 (39 + np) c7] 24)) := B7.out.trans (b8.mono B7.out.size)
      have B8 := Kept.mk (B4.out.trans (b48.mono (by have := B4.out.size; omega)))
      have T8 := Kept.mk (ftab_below HTP.out b48 hts4)
      have RP8 := Kept.mk (RP.out.below b48)
      obtain ⟨g, hg⟩ : ∃ g : FV, FV.mk 2 1 1 (List.replicate 39 0 ++ b) = g := ⟨_, rfl⟩
      have hgb : g.body.length = 39 + np := by
        rw [← hg]
        show (List.replicate 39 (0 : Int) ++ b).length = _
        rw [List.length_append, List.length_replicate, hbb]
      have CP := Kept.mk (api.put (f := g) (c := c7) T8.out (by rw [← hg]; exact R7.out.below b8) hc7 hm7 (by omega) O7.out)
      have hge : errF g = 0 := by
        unfold errF
        rw [if_neg (by omega), if_pos]
        rw [← hg]
        exact ⟨(by decide : fits 2 1 = true), (by decide : fits 1 4 = true), (by decide : fits 1 4 = true)⟩
      have hgp : putF g = (0, laid (textF g)) := by unfold putF; rw [hge, if_pos rfl]
      have hgs : frv g A7 (39 + np) c7 = .agg #[.int .i64 2, .int .i64 1, .int .i64 1, .slice A7 (39 + np) c7] := by rw [← hg]; rfl
      rw [hgs] at CP
      clear hp b8 b48 R7 B7 HB5 HO5 hmk O7 hgs B4 HTP RP hc7 hm7 hb8
      generalize w7.alloc (.cells #[.int .i64 2, .int .i64 1, .int .i64 1, .slice A7 (39 + np) c7] 24) = w8 at *
      refine CP.out.mono ?_
      rintro x w9 ⟨Ac, nc, cc, rfl, hcc, hmc, rc, oc, tc, bc⟩
      have ht8 : t < w8.heap.size := ftab_lt T8.out
      have OC := oc [t] (fun k hk => by rw [List.mem_singleton] at hk; omega)
      have RP9 := Kept.mk (RP8.out.far bc OP)
      have T9 := Kept.mk tc
      have B9 := Kept.mk (B8.out.trans (bc.below (B := N) (by have := B8.out.size; omega) (fun k hk => by rw [List.mem_singleton] at hk; omega)))
      rw [hgp] at rc ⊢
      obtain ⟨C, hC⟩ : ∃ C, laid (textF g) = C := ⟨_, rfl⟩
      obtain ⟨S, hS⟩ : ∃ S, secs (textF g).length = S := ⟨_, rfl⟩
      have hCl : C.length = 64 * S := by rw [← hC, laid_len, hS]
      have hS1 : 1 ≤ S ∧ S ≤ 60 := by rw [← hS]; unfold secs; rw [textF_len]; omega
      simp only [hC] at rc
      have hnc : nc = 64 * S := by have := rc.1; omega
      have hcm2 : Int.tmod (nc : Int) 64 = 0 := by rw [Int.tmod_eq_emod_of_nonneg (by omega)]; omega
      have hc0 : ((nc : Int) == 0) = false := by simp; omega
      have RC9 := Kept.mk rc
      have HNC := Kept.mk hnc
      clear rc oc tc bc CP T8 B8 RP8 hgp hnc
      go_wp2_with fail
      go_loopw [9, 10, 11, 12, 13] (fun i _a _b _c _d wr => ∃ m : Nat, m ≤ S ∧ i = .int .i64 ((64 * m : Nat) : Int) ∧ Kept (Tab wr t) ∧ Kept (Rd wr Ac nc C) ∧ Kept (Rd wr Ap np b) ∧ Kept (Below N w wr)) (fun i _ _ _ _ _ => nc - (intOf i).toNat)
      case atStart => exact ⟨0, by omega, rfl, T9, RC9, RP9, B9⟩
      case round =>
        clear RC9 T9 RP9 B9
        obtain ⟨m, hm, rfl, T, RC, RPr, B⟩ := hrel
        have hnc := HNC.out
        by_cases hml : m < S
        · obtain ⟨q, hq⟩ : ∃ q, 64 * m = q := ⟨_, rfl⟩
          rw [hq]
          obtain ⟨q2, hq2⟩ : ∃ q2, 64 * (m + 1) = q2 := ⟨_, rfl⟩
          have hwq : wrap64 ((q : Int) + 64) = (q2 : Int) := by unfold wrap64; omega
          have HMS : Kept (nc - ((q2 : Nat) : Int).toNat < nc - ((q : Nat) : Int).toNat) := ⟨by rw [Int.toNat_natCast, Int.toNat_natCast]; omega⟩
          have HQ2 := Kept.mk hq2
          have HQ3 : Kept (q2 = q + 64 ∧ q < nc) := ⟨by omega⟩
          clear hq2
          have hqn : (q : Int) < nc := by omega
          obtain ⟨A2, hs2, r2, o2⟩ := slice_l RC.out hcc q (by omega) (q : Int) rfl
          have CG := Kept.mk (api.get (c := cc - q) T.out r2 (by omega) (by omega) (by omega) (o2 [t] OC))
          clear r2 o2
          have HQ := Kept.mk hq
          by_cases hm0 : m = 0
          · have hq1 : ((q : Int) == 0) = true := by simp; omega
            have hgv : getF (C.drop q) = (g, sectorsF g.body.length, 0) := by rw [show q = 0 by omega, List.drop_zero, ← hC]; have := get_put g [] hge; rw [List.append_nil] at this; exact this
            have hmk2 : at_ C q = 1 := by
              have := laid_mark (textF g) [] m (by omega)
              rw [List.append_nil, hC, hq, at_drop, Nat.add_zero] at this
              rw [this]; unfold mk; rw [if_pos hm0]
            rw [hgv] at CG
            obtain ⟨cb, co, rfl, hcc2⟩ := RC.out.2.2.resolve_left (by omega)
            have hxc := hcc2 q (by omega)
            rw [hmk2] at hxc
            clear hcc2 hgv hmk2 hq hnc
            go_wp2_with fail
            refine CG.out.mono ?_
            rintro x w10 ⟨Ax, nx, cx, rfl, -, -, -, -, tx, bx⟩
            unfold frv
            have ca : Below w10.heap.size w10 (w10.alloc (.cells #[.int .i64 g.kind, .int .i64 g.gen, .int .i64 g.seq, .slice Ax nx cx] 24)) := (Below.refl _ _).alloc (Nat.le_refl _) _
            have T11 := Kept.mk (ftab_below tx ca (ftab_lt tx))
            have RC11 := Kept.mk ((RC.out.far bx OC).below ca)
            have RP11 := Kept.mk ((RPr.out.far bx OP).below ca)
            have B10 : Below N w w10 := B.out.trans (bx.below (B := N) (by have := B.out.size; omega) (fun k hk => by rw [List.mem_singleton] at hk; omega))
            have B11 := Kept.mk (B10.trans (ca.mono (by have := B10.size; omega)))
            have hne : cb ≠ t := by
              rcases OC with h0 | ⟨g1, o1, hA, hg1⟩
              · omega
              · injection hA with hA; injection hA with hA _; subst hA; simpa using hg1
            have xc := cell_bel (cell_bar hxc bx (by rw [List.mem_singleton]; exact hne)) ca
            clear CG bx tx ca hxc B10 T RC RPr B
            go_wp2
            go_roundw
            case rel => exact ⟨m + 1, by omega, by rw [hwq, HQ2.out], T11, RC11, RP11, B11⟩
            case measure => rw [hwq]; exact HMS.out
          · have hq0 : ¬ (q : Int) = 0 := by omega
            have hgv : getF (C.drop q) = (noF, 0, 2) := by
              refine get_mark ?_
              have := laid_mark (textF g) [] m (by omega)
              rw [List.append_nil, hC, hq] at this
              rw [this]; unfold mk; rw [if_neg hm0]; decide
            have hmk2 : at_ C q = 2 := by
              have := laid_mark (textF g) [] m (by omega)
              rw [List.append_nil, hC, hq, at_drop, Nat.add_zero] at this
              rw [this]; unfold mk; rw [if_neg hm0]
            rw [hgv] at CG
            obtain ⟨cb, co, rfl, hcc2⟩ := RC.out.2.2.resolve_left (by omega)
            have hxc := hcc2 q (by omega)
            rw [hmk2] at hxc
            clear hcc2 hgv hmk2 hq hnc
            go_wp2_with fail
            refine CG.out.mono ?_
            rintro x w10 ⟨Ax, nx, cx, rfl, -, -, -, -, tx, bx⟩
            unfold frv
            have ca : Below w10.heap.size w10 (w10.alloc (.cells #[.int .i64 noF.kind, .int .i64 noF.gen, .int .i64 noF.seq, .slice Ax nx cx] 24)) := (Below.refl _ _).alloc (Nat.le_refl _) _
            have T11 := Kept.mk (ftab_below tx ca (ftab_lt tx))
            have RC11 := Kept.mk ((RC.out.far bx OC).below ca)
            have RP11 := Kept.mk ((RPr.out.far bx OP).below ca)
            have B10 : Below N w w10 := B.out.trans (bx.below (B := N) (by have := B.out.size; omega) (fun k hk => by rw [List.mem_singleton] at hk; omega))
            have B11 := Kept.mk (B10.trans (ca.mono (by have := B10.size; omega)))
            have hne : cb ≠ t := by
              rcases OC with h0 | ⟨g1, o1, hA, hg1⟩
              · omega
              · injection hA with hA; injection hA with hA _; subst hA; simpa using hg1
            have xc := cell_bel (cell_bar hxc bx (by rw [List.mem_singleton]; exact hne)) ca
            clear CG bx tx ca hxc B10 T RC RPr B
            go_wp2
            go_roundw
            case rel => exact ⟨m + 1, by omega, by rw [hwq, HQ2.out], T11, RC11, RP11, B11⟩
            case measure => rw [hwq]; exact HMS.out
        · obtain rfl : m = S := by omega
          obtain ⟨q, hq⟩ : ∃ q, 64 * m = q := ⟨_, rfl⟩
          rw [hq]
          have hqn : ((q : Int) < nc) = False := eq_false (by omega)
          obtain ⟨pb, po, rfl, hpc⟩ := RPr.out.2.2.resolve_left (by omega)
          have x0 := hpc 0 (by omega)
          rw [hb0, Nat.add_zero] at x0
          clear hpc hnc hq
          go_wp2_with fail
          refine (cf.out _).mono ?_
          rintro x w11 ⟨rfl, b11⟩
          have x1 := cell_bel x0 b11
          have B11 := Kept.mk (B.out.trans (b11.mono (by have := B.out.size; omega)))
          clear x0 b11
          go_wp2
          go_ret
          exact ⟨rfl, B11.out⟩
    · have e1 : (putF f).1 = errF f := rfl
      have e2 : (putF f).2 = [] := by simp only [putF]; rw [if_neg he]
      rw [e2] at rp
      rw [e1]
      obtain rfl : np = 0 := rp.1.symm
      have he2 : (errF f == 0) = false := by simpa using he
      clear rp e1 e2 OP HTP
      generalize errF f = ee at *
      go_wp2_with fail
      refine (cf.out _).mono ?_
      rintro x w5 ⟨rfl, b5⟩
      have B5 := Kept.mk (B4.out.trans (b5.mono (by have := B4.out.size; omega)))
      clear b5 B4
      go_wp2
      go_ret
      exact ⟨rfl, B5.out⟩
end Go.Proofs.Ytimdbljagpbecaa.Frame
