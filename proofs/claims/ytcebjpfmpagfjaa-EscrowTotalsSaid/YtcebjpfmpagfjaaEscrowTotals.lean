/-
  The law EscrowTotals, walked.
-/
import Derived.Test.YtcebjpfmpagfjaaPart18
import Derived.Test.YtcebjpfmpagfjaaPart4
import Derived.Test.YtcebjpfmpagfjaaPart20
import Derived.Test.YtcebjpfmpagfjaaPart7
import Derived.Deep.CutBlock
import Derived.Deep.CutRange
namespace Go.Proofs.Ytcebjpfmpagfjaa.Escrow
open Go.RowKit Go.Proofs.Ytcebjpfmpagfjaa.Sha Go.Proofs.Ytcebjpfmpagfjaa.Purse Go.Proofs.Ytcebjpfmpagfjaa.Num

--PLAINHI
theorem op_cells {w : World} {O : Nat} {kd yw yt ya yn yi yd yk : Int} {yh : List Int} {yb : Bool} {yz : Int} (h : Blk w O 32 #[.int .i64 kd, .int .i64 yw, .int .i64 yt, .int .i64 ya, .int .i64 yn, .int .i64 yi, .int .i64 yd, .int .i64 yk, .string (strOfNums yh), .bool yb, .int .u8 yz]) :
    w.cell? ⟨O, 0, none⟩ = some (.int .i64 kd) ∧ w.cell? ⟨O, 1, none⟩ = some (.int .i64 yw) ∧ w.cell? ⟨O, 2, none⟩ = some (.int .i64 yt) ∧ w.cell? ⟨O, 3, none⟩ = some (.int .i64 ya) ∧ w.cell? ⟨O, 4, none⟩ = some (.int .i64 yn) ∧ w.cell? ⟨O, 5, none⟩ = some (.int .i64 yi) ∧ w.cell? ⟨O, 6, none⟩ = some (.int .i64 yd) ∧ w.cell? ⟨O, 7, none⟩ = some (.int .i64 yk) ∧ w.cell? ⟨O, 8, none⟩ = some (.string (strOfNums yh)) ∧ w.cell? ⟨O, 9, none⟩ = some (.bool yb) ∧ w.cell? ⟨O, 10, none⟩ = some (.int .u8 yz) :=
  ⟨h.cell 0, h.cell 1, h.cell 2, h.cell 3, h.cell 4, h.cell 5, h.cell 6, h.cell 7, h.cell 8, h.cell 9, h.cell 10⟩
theorem ev_cells {w : World} {N : Nat} {ws wd wa wn wu wt : Int} {wh wc : List Int} (h : Blk w N 34 #[.int .i64 ws, .int .i64 wd, .int .i64 wa, .int .i64 wn, .int .i64 wu, .int .i64 wt, .string (strOfNums wh), .string (strOfNums wc)]) :
    w.cell? ⟨N, 0, none⟩ = some (.int .i64 ws) ∧ w.cell? ⟨N, 1, none⟩ = some (.int .i64 wd) ∧ w.cell? ⟨N, 2, none⟩ = some (.int .i64 wa) ∧ w.cell? ⟨N, 3, none⟩ = some (.int .i64 wn) ∧ w.cell? ⟨N, 4, none⟩ = some (.int .i64 wu) ∧ w.cell? ⟨N, 5, none⟩ = some (.int .i64 wt) ∧ w.cell? ⟨N, 6, none⟩ = some (.string (strOfNums wh)) ∧ w.cell? ⟨N, 7, none⟩ = some (.string (strOfNums wc)) :=
  ⟨h.cell 0, h.cell 1, h.cell 2, h.cell 3, h.cell 4, h.cell 5, h.cell 6, h.cell 7⟩
section
variable {Ck : World → List Nat → Nat → Nat → BS → Prop}
set_option maxRecDepth 100000 in
set_option maxHeartbeats 4000000 in
theorem etotals_walk (api : EscrowApi Ck) (A : Option Addr) (len cap : Nat) (X : Nat → List Int) (A2 : Option Addr) (len2 cap2 : Nat) (Y : Nat → OE) (w : World) (hr : Rwi w A len X) (hlen : len ≤ 9223372036854775807) (ho : Ops w A2 len2 Y) : Calls Try.prog 3 #[.slice A len cap, .slice A2 len2 cap2] w (Holds w) := by
  have HR := Kept.mk hr
  have HO := Kept.mk ho
  clear hr ho
  go_enter Try.func3, Try.ntmps3
  go_wp2_with fail
  refine (first_any api w).mono ?_
  rintro e w1 ⟨rfl, b1⟩
  have B := Kept.mk b1
  have FW := Kept.mk (Purse.few_any A len cap X w1 (HR.out.below b1) hlen)
  have GW := Kept.mk (few_any A2 len2 cap2 Y w1 ((HO.out.imp id (fun ⟨b, o, h1, h2⟩ => ⟨b, o, h1, fun r hr => (h2 r hr).later B⟩)) : Ops w1 A2 len2 Y))
  clear b1
  go_wp2_with fail
  refine FW.out.mono ?_
  rintro e w2 ⟨t, rfl, ht, rfl⟩
  cases t with
  | false =>
    go_wp2_with fail
    refine (first_any api w1).mono ?_
    rintro e w3 ⟨rfl, b3⟩
    replace B := step_below B b3
    go_wp2
    go_ret
    exact ⟨rfl, B.out⟩
  | true =>
    clear ht FW
    go_wp2_with fail
    refine GW.out.mono ?_
    rintro e w2 ⟨t, rfl, ht, rfl⟩
    cases t with
    | false =>
      go_wp2_with fail
      refine (first_any api w1).mono ?_
      rintro e w3 ⟨rfl, b3⟩
      replace B := step_below B b3
      go_wp2
      go_ret
      exact ⟨rfl, B.out⟩
    | true =>
      have h200 := ht rfl
      have N2 := Kept.mk (made_any api A len cap X w1 (HR.out.below B.out))
      clear ht GW
      go_wp2_with fail
      refine N2.out.mono ?_
      rintro e w4 (⟨-, rfl, b2⟩ | ⟨ok, x, q, F, rfl, hc, fp⟩)
      · replace B := step_below B b2
        clear N2 b2
        go_wp2_with fail
        refine (first_any api w4).mono ?_
        rintro e w3 ⟨rfl, b3⟩
        replace B := step_below B b3
        go_wp2
        go_ret
        exact ⟨rfl, B.out⟩
      · obtain ⟨B, L⟩ := step_fp B fp (none_least _)
        have C := Kept.mk hc
        have OK := Kept.mk ok
        have WF0 : Kept (WF (newP len X)) := by obtain ⟨G, -, hp⟩ := api.purse hc; exact ⟨hp.1⟩
        have I : Kept (Inv ⟨newP len X, []⟩ 0 ⟨newP len X, []⟩) := ⟨⟨wb_of_wf WF0.out, Nat.le_refl _, fun _ => rfl⟩⟩
        have n2 := ok.1.1
        have l4 := ok.2.1.2
        have hn0 : ((len : Int) == 0) = false := beq_eq_false_iff_ne.2 (by omega)
        obtain ⟨b0, o0, A0, l0, c0, hA, x0, hl0, hc0, r0⟩ := HR.out.row 0 (by omega)
        subst hA
        have hL0 := Kept.mk r0.1
        rw [hL0.out] at l4
        rw [Nat.add_zero] at x0
        have X0 := Kept.mk x0
        have TOT : Kept (∀ a : Nat, a < l0 → totB ⟨newP len X, []⟩ a = tot (startV X) len a) := ⟨fun a ha => tot_start (by rw [hL0.out]; exact ha)⟩
        have EACH : Kept (∀ a k : Nat, a < l0 → k < len → 0 ≤ tot (startV X) k a ∧ 0 ≤ at_ (X k) a ∧ tot (startV X) k a + at_ (X k) a ≤ 4611686018427387904) := ⟨fun a k ha hk => by
          have hp : ∀ i, i < len → 0 ≤ startV X i a := fun i hi => WF0.out.pos i a hi (by show a < (X 0).length; rw [hL0.out]; exact ha)
          have h1 := tot_mono (v := startV X) (a := a) (m := k + 1) (n := len) (by omega) hp
          have h2 : tot (startV X) len a ≤ 4611686018427387904 := WF0.out.sum a (by show a < (X 0).length; rw [hL0.out]; exact ha)
          have h3 := tot_nonneg (v := startV X) (a := a) (n := k) (fun i hi => hp i (by omega))
          have h4 : tot (startV X) (k + 1) a = tot (startV X) k a + at_ (X k) a := rfl
          exact ⟨h3, hp k hk, by omega⟩⟩
        clear N2 fp hc WF0 ok r0 x0
        go_wp2_with fail
        refine (api.purseOf C.out).mono ?_
        rintro e w5 ⟨rfl, d, rfl⟩
        have b5 := below_drewN (Below.refl w4.heap.size w4) d
        replace C := api.below C b5
        replace B := step_below B b5
        clear b5
        generalize w4.drewN d = w5 at *
        go_wp2
        generalize (⟨newP len X, []⟩ : BS) = s0 at *
        go_loopw [6] (fun i wr => ∃ (k : Nat) (F : List Nat) (s : BS), k ≤ len2 ∧ i = .int .i64 k ∧ Kept (Ck wr F x q s) ∧ Kept (Inv s0 k s) ∧ Kept (Below w.heap.size w wr) ∧ Kept (∀ k ∈ F, w.heap.size ≤ k)) (fun i _ => len2 - (Go.RowKit.intOf i).toNat)
        case atStart => exact ⟨0, F, _, by omega, rfl, C, I, B, L⟩
        case round =>
          clear C I B L
          obtain ⟨k, F, s, hk, rfl, C, I, B, L⟩ := hrel
          by_cases hkn : k < len2
          · have hkn' : (k : Int) < len2 := by omega
            obtain ⟨bb, oo, rfl, OP⟩ := Ops.at_ HO k hkn
            obtain ⟨OQ, OK2⟩ := OP.later B
            obtain ⟨kd, yw, yt, ya, yn, yi, yd, yk, yh, yb, yz, hY⟩ : ∃ kd yw yt ya yn yi yd yk yh yb yz, Y k = ⟨kd, yw, yt, ya, yn, yi, yd, yk, yh, yb, yz⟩ := ⟨_, _, _, _, _, _, _, _, _, _, _, rfl⟩
            rw [hY] at OQ OK2
            have OE2 := Kept.mk OK2
            have hl100 : s.l.length ≤ 100000 := by have := I.out.len; omega
            have y0 : wr.cell? ⟨bb, oo + k * 11, none⟩ = some (.int .i64 kd) := OQ 0 _ rfl
            have y1 : wr.cell? ⟨bb, oo + k * 11 + 1, none⟩ = some (.int .i64 yw) := OQ 1 _ rfl
            have y2 : wr.cell? ⟨bb, oo + k * 11 + 2, none⟩ = some (.int .i64 yt) := OQ 2 _ rfl
            have y3 : wr.cell? ⟨bb, oo + k * 11 + 3, none⟩ = some (.int .i64 ya) := OQ 3 _ rfl
            have y4 : wr.cell? ⟨bb, oo + k * 11 + 4, none⟩ = some (.int .i64 yn) := OQ 4 _ rfl
            have y5 : wr.cell? ⟨bb, oo + k * 11 + 5, none⟩ = some (.int .i64 yi) := OQ 5 _ rfl
            have y6 : wr.cell? ⟨bb, oo + k * 11 + 6, none⟩ = some (.int .i64 yd) := OQ 6 _ rfl
            have y7 : wr.cell? ⟨bb, oo + k * 11 + 7, none⟩ = some (.int .i64 yk) := OQ 7 _ rfl
            have y8 : wr.cell? ⟨bb, oo + k * 11 + 8, none⟩ = some (.string (strOfNums yh)) := OQ 8 _ rfl
            have y9 : wr.cell? ⟨bb, oo + k * 11 + 9, none⟩ = some (.bool yb) := OQ 9 _ rfl
            have y10 : wr.cell? ⟨bb, oo + k * 11 + 10, none⟩ = some (.int .u8 yz) := OQ 10 _ rfl
            clear OP OQ hY OK2
            go_upto_region 12 with (fail)
            have ob : Blk (wr.alloc (.cells #[.int .i64 kd, .int .i64 yw, .int .i64 yt, .int .i64 ya, .int .i64 yn, .int .i64 yi, .int .i64 yd, .int .i64 yk, .string (strOfNums yh), .bool yb, .int .u8 yz] 32)) wr.heap.size 32 #[.int .i64 kd, .int .i64 yw, .int .i64 yt, .int .i64 ya, .int .i64 yn, .int .i64 yi, .int .i64 yd, .int .i64 yk, .string (strOfNums yh), .bool yb, .int .u8 yz] := Blk.new _ _ _
            have OF : Kept (wr.heap.size ∉ F) := ⟨fun hm => by have := api.lts C.out _ hm; omega⟩
            have b4 : Below wr.heap.size wr (wr.alloc (.cells #[.int .i64 kd, .int .i64 yw, .int .i64 yt, .int .i64 ya, .int .i64 yn, .int .i64 yi, .int .i64 yd, .int .i64 yk, .string (strOfNums yh), .bool yb, .int .u8 yz] 32)) := (Below.refl _ _).alloc (Nat.le_refl _) _
            replace C := api.below C b4
            replace B := step_below B b4
            obtain ⟨O, hO⟩ : ∃ O, wr.heap.size = O := ⟨_, rfl⟩
            rw [hO] at ob OF ⊢
            have OB := Kept.mk ob
            clear ob b4 hO y0 y1 y2 y3 y4 y5 y6 y7 y8 y9 y10
            generalize wr.alloc (.cells #[.int .i64 kd, .int .i64 yw, .int .i64 yt, .int .i64 ya, .int .i64 yn, .int .i64 yi, .int .i64 yd, .int .i64 yk, .string (strOfNums yh), .bool yb, .int .u8 yz] 32) = w6 at *
            obtain ⟨o0, o1, o2, o3, o4, o5, o6, o7, o8, o9, o10⟩ := op_cells OB.out
            obtain ⟨ws, wd, wa, wn, wu, wt, wh, wc, had, hG⟩ : ∃ ws wd wa wn wu wt wh wc had, getB s yi = (⟨ws, wd, wa, wn, wu, wt, wh, wc⟩, had) := ⟨_, _, _, _, _, _, _, _, _, rfl⟩
            have HG := Kept.mk hG
            clear hG
            go_wp2_with fail
            refine (api.get yi C.out).mono ?_
            rintro e w7 ⟨hx, b3⟩
            rw [HG.out] at hx
            replace hx : e = .returned (.tuple #[.agg #[.int .i64 ws, .int .i64 wd, .int .i64 wa, .int .i64 wn, .int .i64 wu, .int .i64 wt, .string (strOfNums wh), .string (strOfNums wc)], .bool had]) := hx
            subst hx
            replace OB := Kept.mk (OB.out.below b3 OB.out.lt)
            replace C := api.below C b3
            replace B := step_below B b3
            clear b3
            clear o0 o1 o2 o3 o4 o5 o6 o7 o8 o9 o10
            obtain ⟨o0, o1, o2, o3, o4, o5, o6, o7, o8, o9, o10⟩ := op_cells OB.out
            go_upto_region 13 with fail
            have nb : Blk (w7.alloc (.cells #[.int .i64 ws, .int .i64 wd, .int .i64 wa, .int .i64 wn, .int .i64 wu, .int .i64 wt, .string (strOfNums wh), .string (strOfNums wc)] 34)) w7.heap.size 34 #[.int .i64 ws, .int .i64 wd, .int .i64 wa, .int .i64 wn, .int .i64 wu, .int .i64 wt, .string (strOfNums wh), .string (strOfNums wc)] := Blk.new _ _ _
            have NF : Kept (w7.heap.size ∉ F) := ⟨fun hm => by have := api.lts C.out _ hm; omega⟩
            have b3 : Below w7.heap.size w7 (w7.alloc (.cells #[.int .i64 ws, .int .i64 wd, .int .i64 wa, .int .i64 wn, .int .i64 wu, .int .i64 wt, .string (strOfNums wh), .string (strOfNums wc)] 34)) := (Below.refl _ _).alloc (Nat.le_refl _) _
            replace OB := Kept.mk (OB.out.below b3 OB.out.lt)
            replace C := api.below C b3
            replace B := step_below B b3
            have NB := Kept.mk nb
            clear nb b3
            clear o0 o1 o2 o3 o4 o5 o6 o7 o8 o9 o10
            generalize (w7.alloc (.cells #[.int .i64 ws, .int .i64 wd, .int .i64 wa, .int .i64 wn, .int .i64 wu, .int .i64 wt, .string (strOfNums wh), .string (strOfNums wc)] 34)) = w8 at *
            generalize w7.heap.size = N at *
            obtain ⟨o0, o1, o2, o3, o4, o5, o6, o7, o8, o9, o10⟩ := op_cells OB.out
            obtain ⟨v0, v1, v2, v3, v4, v5, v6, v7⟩ := ev_cells NB.out
            go_upto_block 2 with (fail)
            clear o0 o1 o2 o3 o4 o5 o6 o7 o8 o9 o10
            clear v0 v1 v2 v3 v4 v5 v6 v7
            go_cut [10] from 59 to 237 (fun te wx => ∃ (F : List Nat) (s : BS) (ev : Int), te = .int .i64 ev ∧ Kept (Ck wx F x q s) ∧ Kept (Inv s0 (k + 1) s) ∧ Kept (Below w.heap.size w wx) ∧ Kept (∀ k ∈ F, w.heap.size ≤ k) ∧ Kept (TailOk ev ⟨ws, wd, wa, wn, wu, wt, wh, wc⟩ had (getB s yi)) ∧ Kept (Blk wx O 32 #[.int .i64 kd, .int .i64 yw, .int .i64 yt, .int .i64 ya, .int .i64 yn, .int .i64 yi, .int .i64 yd, .int .i64 yk, .string (strOfNums yh), .bool yb, .int .u8 yz]) ∧ Kept (Blk wx N 34 #[.int .i64 ws, .int .i64 wd, .int .i64 wa, .int .i64 wn, .int .i64 wu, .int .i64 wt, .string (strOfNums wh), .string (strOfNums wc)]))
            case first =>
              by_cases h0 : kd = 0
              · subst h0
                as_aux_lemma =>
                  have TX : Kept (∀ w, Calls Try.prog 13 #[.agg #[.int .i64 0, .int .i64 yw, .int .i64 yt, .int .i64 ya, .int .i64 yn, .int .i64 yi, .int .i64 yd, .int .i64 yk, .string (strOfNums yh), .bool yb, .int .u8 yz]] w (StrPost w (textE ⟨0, yw, yt, ya, yn, yi, yd, yk, yh, yb, yz⟩))) := ⟨fun w => text_any w _ OE2.out⟩
                  have BT := Kept.mk (textE_bytes OE2.out)
                  obtain ⟨T, hT⟩ : ∃ T, textE ⟨0, yw, yt, ya, yn, yi, yd, yk, yh, yb, yz⟩ = T := ⟨_, rfl⟩
                  rw [hT] at TX BT
                  clear hT OE2
                  obtain ⟨r1, r2, s2, hR⟩ : ∃ r1 r2 s2, lockB s yw yt ya yn T yd yk = ((r1, r2), s2) := ⟨_, _, _, rfl⟩
                  have I2 := I.out.lock yw yt ya yn BT.out yd yk
                  have TO : TailOk 0 ⟨ws, wd, wa, wn, wu, wt, wh, wc⟩ had (getB (lockB s yw yt ya yn T yd yk).2 yi) := TailOk.lock HG.out
                  rw [hR] at I2 TO
                  replace I := Kept.mk I2
                  have HR2 := Kept.mk hR
                  have TK := Kept.mk TO
                  clear I2 hR TO
                  obtain ⟨o0, o1, o2, o3, o4, o5, o6, o7, o8, o9, o10⟩ := op_cells OB.out
                  go_upto_region 16 with (fail)
                  refine wp_region_noPanic ?_
                  refine wp_region_held_drew (S := fun w' : World => w'.cell? ⟨O, 0, none⟩ = some (.int .i64 0) ∧ w'.cell? ⟨O, 1, none⟩ = some (.int .i64 yw) ∧ w'.cell? ⟨O, 2, none⟩ = some (.int .i64 yt) ∧ w'.cell? ⟨O, 3, none⟩ = some (.int .i64 ya) ∧ w'.cell? ⟨O, 4, none⟩ = some (.int .i64 yn) ∧ w'.cell? ⟨O, 5, none⟩ = some (.int .i64 yi) ∧ w'.cell? ⟨O, 6, none⟩ = some (.int .i64 yd) ∧ w'.cell? ⟨O, 7, none⟩ = some (.int .i64 yk) ∧ w'.cell? ⟨O, 8, none⟩ = some (.string (strOfNums yh)) ∧ w'.cell? ⟨O, 9, none⟩ = some (.bool yb) ∧ w'.cell? ⟨O, 10, none⟩ = some (.int .u8 yz)) (by kernel_rfl) ⟨o0, o1, o2, o3, o4, o5, o6, o7, o8, o9, o10⟩ (fun hHeld => ?_)
                  have bd : Below w8.heap.size w8 w8.drew := (Below.refl _ _).drew
                  replace NB := Kept.mk (NB.out.below bd NB.out.lt)
                  replace OB := Kept.mk (OB.out.below bd OB.out.lt)
                  replace C := api.below C bd
                  replace B := step_below B bd
                  clear bd o0 o1 o2 o3 o4 o5 o6 o7 o8 o9 o10
                  generalize w8.drew = w9 at *
                  refine wpAnyH_take (i := 0) (oi := ?o1) (v := ?v1) ?hi1 (by kernel_rfl) (by kernel_rfl) (by kernel_rfl) ?hq1 (Or.inl ⟨?hw1, ?hy1⟩) (by assumption) ?r1
                  case hi1 => (simp only [List.getElem?_toArray]; exact rfl)
                  case hq1 => exact fun _ _ _ h => h
                  case hw1 => rfl
                  case hy1 => (intro w hSw; (try dsimp only at hSw); go_simp; try exact rfl)
                  simp only [Act.put, List.setIfInBounds_toArray, List.set_cons_zero, List.set_cons_succ]
                  refine wpAnyH_take (i := 1) (oi := ?o2) (v := ?v2) ?hi2 (by kernel_rfl) (by kernel_rfl) (by kernel_rfl) ?hq2 (Or.inl ⟨?hw2, ?hy2⟩) (by assumption) ?r2
                  case hi2 => (simp only [List.getElem?_toArray]; exact rfl)
                  case hq2 => exact fun _ _ _ h => h
                  case hw2 => rfl
                  case hy2 => (intro w hSw; (try dsimp only at hSw); go_simp; try exact rfl)
                  simp only [Act.put, List.setIfInBounds_toArray, List.set_cons_zero, List.set_cons_succ]
                  refine wpAnyH_take (i := 2) (oi := ?o3) (v := ?v3) ?hi3 (by kernel_rfl) (by kernel_rfl) (by kernel_rfl) ?hq3 (Or.inl ⟨?hw3, ?hy3⟩) (by assumption) ?r3
                  case hi3 => (simp only [List.getElem?_toArray]; exact rfl)
                  case hq3 => exact fun _ _ _ h => h
                  case hw3 => rfl
                  case hy3 => (intro w hSw; (try dsimp only at hSw); go_simp; try exact rfl)
                  simp only [Act.put, List.setIfInBounds_toArray, List.set_cons_zero, List.set_cons_succ]
                  refine wpAnyH_take (i := 3) (oi := ?o4) (v := ?v4) ?hi4 (by kernel_rfl) (by kernel_rfl) (by kernel_rfl) ?hq4 (Or.inl ⟨?hw4, ?hy4⟩) (by assumption) ?r4
                  case hi4 => (simp only [List.getElem?_toArray]; exact rfl)
                  case hq4 => exact fun _ _ _ h => h
                  case hw4 => rfl
                  case hy4 => (intro w hSw; (try dsimp only at hSw); go_simp; try exact rfl)
                  simp only [Act.put, List.setIfInBounds_toArray, List.set_cons_zero, List.set_cons_succ]
                  refine wpAnyH_take (i := 4) (oi := ?o5) (v := ?v5) ?hi5 (by kernel_rfl) (by kernel_rfl) (by kernel_rfl) ?hq5 (Or.inl ⟨?hw5, ?hy5⟩) (by assumption) ?r5
                  case hi5 => (simp only [List.getElem?_toArray]; exact rfl)
                  case hq5 => exact fun _ _ _ h => h
                  case hw5 => rfl
                  case hy5 => (intro w hSw; (try dsimp only at hSw); go_simp; try exact rfl)
                  simp only [Act.put, List.setIfInBounds_toArray, List.set_cons_zero, List.set_cons_succ]
                  refine wpAnyH_take (i := 5) (oi := ?o6) (v := ?v6) ?hi6 (by kernel_rfl) (by kernel_rfl) (by kernel_rfl) ?hq6 (Or.inl ⟨?hw6, ?hy6⟩) (by assumption) ?r6
                  case hi6 => (simp only [List.getElem?_toArray]; exact rfl)
                  case hq6 => exact fun _ _ _ h => h
                  case hw6 => rfl
                  case hy6 => (intro w hSw; (try dsimp only at hSw); go_simp; try exact rfl)
                  simp only [Act.put, List.setIfInBounds_toArray, List.set_cons_zero, List.set_cons_succ]
                  refine wpAnyH_take (i := 6) (oi := ?o7) (v := ?v7) ?hi7 (by kernel_rfl) (by kernel_rfl) (by kernel_rfl) ?hq7 (Or.inl ⟨?hw7, ?hy7⟩) (by assumption) ?r7
                  case hi7 => (simp only [List.getElem?_toArray]; exact rfl)
                  case hq7 => exact fun _ _ _ h => h
                  case hw7 => rfl
                  case hy7 => (intro w hSw; (try dsimp only at hSw); go_simp; try exact rfl)
                  simp only [Act.put, List.setIfInBounds_toArray, List.set_cons_zero, List.set_cons_succ]
                  refine wpAnyH_take (i := 7) (oi := ?o8) (v := ?v8) ?hi8 (by kernel_rfl) (by kernel_rfl) (by kernel_rfl) ?hq8 (Or.inl ⟨?hw8, ?hy8⟩) (by assumption) ?r8
                  case hi8 => (simp only [List.getElem?_toArray]; exact rfl)
                  case hq8 => exact fun _ _ _ h => h
                  case hw8 => rfl
                  case hy8 => (intro w hSw; (try dsimp only at hSw); go_simp; try exact rfl)
                  simp only [Act.put, List.setIfInBounds_toArray, List.set_cons_zero, List.set_cons_succ]
                  refine wpAnyH_take (i := 8) (oi := ?o9) (v := ?v9) ?hi9 (by kernel_rfl) (by kernel_rfl) (by kernel_rfl) ?hq9 (Or.inl ⟨?hw9, ?hy9⟩) (by assumption) ?r9
                  case hi9 => (simp only [List.getElem?_toArray]; exact rfl)
                  case hq9 => exact fun _ _ _ h => h
                  case hw9 => rfl
                  case hy9 => (intro w hSw; (try dsimp only at hSw); go_simp; try exact rfl)
                  simp only [Act.put, List.setIfInBounds_toArray, List.set_cons_zero, List.set_cons_succ]
                  refine wpAnyH_take (i := 9) (oi := ?o10) (v := ?v10) ?hi10 (by kernel_rfl) (by kernel_rfl) (by kernel_rfl) ?hq10 (Or.inl ⟨?hw10, ?hy10⟩) (by assumption) ?r10
                  case hi10 => (simp only [List.getElem?_toArray]; exact rfl)
                  case hq10 => exact fun _ _ _ h => h
                  case hw10 => rfl
                  case hy10 => (intro w hSw; (try dsimp only at hSw); go_simp; try exact rfl)
                  simp only [Act.put, List.setIfInBounds_toArray, List.set_cons_zero, List.set_cons_succ]
                  refine wpAnyH_take (i := 11) (oi := ?o11) (v := ?v11) ?hi11 (by kernel_rfl) (by kernel_rfl) (by kernel_rfl) ?hq11 (Or.inl ⟨?hw11, ?hy11⟩) (by assumption) ?r11
                  case hi11 => (simp only [List.getElem?_toArray]; exact rfl)
                  case hq11 => exact fun _ _ _ h => h
                  case hw11 => rfl
                  case hy11 => (intro w hSw; (try dsimp only at hSw); go_simp; try exact rfl)
                  simp only [Act.put, List.setIfInBounds_toArray, List.set_cons_zero, List.set_cons_succ]
                  refine wpAnyH_take (i := 12) (oi := ?o12) (v := ?v12) ?hi12 (by kernel_rfl) (by kernel_rfl) (by kernel_rfl) ?hq12 (Or.inl ⟨?hw12, ?hy12⟩) (by assumption) ?r12
                  case hi12 => (simp only [List.getElem?_toArray]; exact rfl)
                  case hq12 => exact fun _ _ _ h => h
                  case hw12 => rfl
                  case hy12 => (intro w hSw; (try dsimp only at hSw); go_simp; try exact rfl)
                  simp only [Act.put, List.setIfInBounds_toArray, List.set_cons_zero, List.set_cons_succ]
                  refine wpAnyH_take (i := 13) (oi := ?o13) (v := ?v13) ?hi13 (by kernel_rfl) (by kernel_rfl) (by kernel_rfl) ?hq13 (Or.inl ⟨?hw13, ?hy13⟩) (by assumption) ?r13
                  case hi13 => (simp only [List.getElem?_toArray]; exact rfl)
                  case hq13 => exact fun _ _ _ h => h
                  case hw13 => rfl
                  case hy13 => (intro w hSw; (try dsimp only at hSw); go_simp; try exact rfl)
                  simp only [Act.put, List.setIfInBounds_toArray, List.set_cons_zero, List.set_cons_succ]
                  refine wpAnyH_take (i := 14) (oi := ?o14) (v := ?v14) ?hi14 (by kernel_rfl) (by kernel_rfl) (by kernel_rfl) ?hq14 (Or.inl ⟨?hw14, ?hy14⟩) (by assumption) ?r14
                  case hi14 => (simp only [List.getElem?_toArray]; exact rfl)
                  case hq14 => exact fun _ _ _ h => h
                  case hw14 => rfl
                  case hy14 => (intro w hSw; (try dsimp only at hSw); go_simp; try exact rfl)
                  simp only [Act.put, List.setIfInBounds_toArray, List.set_cons_zero, List.set_cons_succ]
                  refine wpAnyH_ready (rs := [10]) (by kernel_rfl) (by simp) ?_
                  refine AllReadyH.cons (o := ?o99) ?hi99 (fun K hK => ?_) AllReadyH.nil
                  case hi99 => (simp only [List.getElem?_toArray]; exact rfl)
                  go_simp
                  go_at_call 13
                  refine (TX.out _).mono ?_
                  rintro e w10 ⟨rfl, bt⟩
                  replace NB := Kept.mk (NB.out.below bt NB.out.lt)
                  replace OB := Kept.mk (OB.out.below bt OB.out.lt)
                  replace C := api.below C bt
                  replace B := step_below B bt
                  clear bt
                  refine hK.out _ _ (op_cells OB.out) (fun _ => ?_)
                  clear hK K
                  try simp only [Act.put, List.setIfInBounds_toArray, List.set_cons_zero, List.set_cons_succ]
                  have KC := api.lock yw yt ya yn T yd yk C.out BT.out hl100
                  rw [HR2.out] at KC
                  refine wpAnyH_ready (rs := [15]) (by kernel_rfl) (by simp) ?_
                  refine AllReadyH.cons (o := ?o100) ?hi100 (fun K hK => ?_) AllReadyH.nil
                  case hi100 => (simp only [List.getElem?_toArray]; exact rfl)
                  go_simp
                  go_at_call 12
                  refine KC.mono ?_
                  rintro e w11 ⟨rfl, F2, hc, fp⟩
                  have LTW := OB.out.lt
                  have LTN := NB.out.lt
                  replace OB := Kept.mk (OB.out.bar fp.1 OF.out)
                  replace NB := Kept.mk (NB.out.bar fp.1 NF.out)
                  obtain ⟨B, L⟩ := step_fp B fp L
                  replace C : Kept (Ck w11 F2 x q (s2)) := ⟨hc⟩
                  clear fp hc KC LTW LTN OF NF
                  refine hK.out _ _ (op_cells OB.out) (fun _ => ?_)
                  clear hK K
                  try dsimp only
                  refine wpAnyH_done (by kernel_rfl) ?_ _
                  refine NoPanic.normal ?_
                  have T := TK
                  go_wp2
                  go_meet
                  case rel => exact ⟨F2, _, 0, rfl, C, I, B, L, T, OB, NB⟩
              · by_cases h1 : kd = 1
                · subst h1
                  as_aux_lemma =>
                    have TX : Kept (∀ w, Calls Try.prog 13 #[.agg #[.int .i64 1, .int .i64 yw, .int .i64 yt, .int .i64 ya, .int .i64 yn, .int .i64 yi, .int .i64 yd, .int .i64 yk, .string (strOfNums yh), .bool yb, .int .u8 yz]] w (StrPost w (textE ⟨1, yw, yt, ya, yn, yi, yd, yk, yh, yb, yz⟩))) := ⟨fun w => text_any w _ OE2.out⟩
                    have BT := Kept.mk (textE_bytes OE2.out)
                    obtain ⟨T, hT⟩ : ∃ T, textE ⟨1, yw, yt, ya, yn, yi, yd, yk, yh, yb, yz⟩ = T := ⟨_, rfl⟩
                    rw [hT] at TX BT
                    clear hT OE2
                    rcases claim_out I.out.wb yw BT.out yk HG.out with ⟨e, he0, he⟩ | ⟨s2, he, h1, h2, h3, h4, hL, h5, h6⟩
                    · have HE := Kept.mk he
                      have he0' : (e == 0) = false := beq_eq_false_iff_ne.2 he0
                      have TK : Kept (TailOk e ⟨ws, wd, wa, wn, wu, wt, wh, wc⟩ had (getB s yi)) := ⟨TailOk.same HG.out⟩
                      clear he he0
                      obtain ⟨o0, o1, o2, o3, o4, o5, o6, o7, o8, o9, o10⟩ := op_cells OB.out
                      go_upto_region 18 with (fail)
                      refine wp_region_noPanic ?_
                      refine wp_region_held_drew (S := fun w' : World => w'.cell? ⟨O, 0, none⟩ = some (.int .i64 1) ∧ w'.cell? ⟨O, 1, none⟩ = some (.int .i64 yw) ∧ w'.cell? ⟨O, 2, none⟩ = some (.int .i64 yt) ∧ w'.cell? ⟨O, 3, none⟩ = some (.int .i64 ya) ∧ w'.cell? ⟨O, 4, none⟩ = some (.int .i64 yn) ∧ w'.cell? ⟨O, 5, none⟩ = some (.int .i64 yi) ∧ w'.cell? ⟨O, 6, none⟩ = some (.int .i64 yd) ∧ w'.cell? ⟨O, 7, none⟩ = some (.int .i64 yk) ∧ w'.cell? ⟨O, 8, none⟩ = some (.string (strOfNums yh)) ∧ w'.cell? ⟨O, 9, none⟩ = some (.bool yb) ∧ w'.cell? ⟨O, 10, none⟩ = some (.int .u8 yz)) (by kernel_rfl) ⟨o0, o1, o2, o3, o4, o5, o6, o7, o8, o9, o10⟩ (fun hHeld => ?_)
                      have bd : Below w8.heap.size w8 w8.drew := (Below.refl _ _).drew
                      replace NB := Kept.mk (NB.out.below bd NB.out.lt)
                      replace OB := Kept.mk (OB.out.below bd OB.out.lt)
                      replace C := api.below C bd
                      replace B := step_below B bd
                      clear bd o0 o1 o2 o3 o4 o5 o6 o7 o8 o9 o10
                      generalize w8.drew = w9 at *
                      refine wpAnyH_take (i := 0) (oi := ?o15) (v := ?v15) ?hi15 (by kernel_rfl) (by kernel_rfl) (by kernel_rfl) ?hq15 (Or.inl ⟨?hw15, ?hy15⟩) (by assumption) ?r15
                      case hi15 => (simp only [List.getElem?_toArray]; exact rfl)
                      case hq15 => exact fun _ _ _ h => h
                      case hw15 => rfl
                      case hy15 => (intro w hSw; (try dsimp only at hSw); go_simp; try exact rfl)
                      simp only [Act.put, List.setIfInBounds_toArray, List.set_cons_zero, List.set_cons_succ]
                      refine wpAnyH_take (i := 1) (oi := ?o16) (v := ?v16) ?hi16 (by kernel_rfl) (by kernel_rfl) (by kernel_rfl) ?hq16 (Or.inl ⟨?hw16, ?hy16⟩) (by assumption) ?r16
                      case hi16 => (simp only [List.getElem?_toArray]; exact rfl)
                      case hq16 => exact fun _ _ _ h => h
                      case hw16 => rfl
                      case hy16 => (intro w hSw; (try dsimp only at hSw); go_simp; try exact rfl)
                      simp only [Act.put, List.setIfInBounds_toArray, List.set_cons_zero, List.set_cons_succ]
                      refine wpAnyH_take (i := 2) (oi := ?o17) (v := ?v17) ?hi17 (by kernel_rfl) (by kernel_rfl) (by kernel_rfl) ?hq17 (Or.inl ⟨?hw17, ?hy17⟩) (by assumption) ?r17
                      case hi17 => (simp only [List.getElem?_toArray]; exact rfl)
                      case hq17 => exact fun _ _ _ h => h
                      case hw17 => rfl
                      case hy17 => (intro w hSw; (try dsimp only at hSw); go_simp; try exact rfl)
                      simp only [Act.put, List.setIfInBounds_toArray, List.set_cons_zero, List.set_cons_succ]
                      refine wpAnyH_take (i := 3) (oi := ?o18) (v := ?v18) ?hi18 (by kernel_rfl) (by kernel_rfl) (by kernel_rfl) ?hq18 (Or.inl ⟨?hw18, ?hy18⟩) (by assumption) ?r18
                      case hi18 => (simp only [List.getElem?_toArray]; exact rfl)
                      case hq18 => exact fun _ _ _ h => h
                      case hw18 => rfl
                      case hy18 => (intro w hSw; (try dsimp only at hSw); go_simp; try exact rfl)
                      simp only [Act.put, List.setIfInBounds_toArray, List.set_cons_zero, List.set_cons_succ]
                      refine wpAnyH_take (i := 4) (oi := ?o19) (v := ?v19) ?hi19 (by kernel_rfl) (by kernel_rfl) (by kernel_rfl) ?hq19 (Or.inl ⟨?hw19, ?hy19⟩) (by assumption) ?r19
                      case hi19 => (simp only [List.getElem?_toArray]; exact rfl)
                      case hq19 => exact fun _ _ _ h => h
                      case hw19 => rfl
                      case hy19 => (intro w hSw; (try dsimp only at hSw); go_simp; try exact rfl)
                      simp only [Act.put, List.setIfInBounds_toArray, List.set_cons_zero, List.set_cons_succ]
                      refine wpAnyH_take (i := 5) (oi := ?o20) (v := ?v20) ?hi20 (by kernel_rfl) (by kernel_rfl) (by kernel_rfl) ?hq20 (Or.inl ⟨?hw20, ?hy20⟩) (by assumption) ?r20
                      case hi20 => (simp only [List.getElem?_toArray]; exact rfl)
                      case hq20 => exact fun _ _ _ h => h
                      case hw20 => rfl
                      case hy20 => (intro w hSw; (try dsimp only at hSw); go_simp; try exact rfl)
                      simp only [Act.put, List.setIfInBounds_toArray, List.set_cons_zero, List.set_cons_succ]
                      refine wpAnyH_take (i := 7) (oi := ?o21) (v := ?v21) ?hi21 (by kernel_rfl) (by kernel_rfl) (by kernel_rfl) ?hq21 (Or.inl ⟨?hw21, ?hy21⟩) (by assumption) ?r21
                      case hi21 => (simp only [List.getElem?_toArray]; exact rfl)
                      case hq21 => exact fun _ _ _ h => h
                      case hw21 => rfl
                      case hy21 => (intro w hSw; (try dsimp only at hSw); go_simp; try exact rfl)
                      simp only [Act.put, List.setIfInBounds_toArray, List.set_cons_zero, List.set_cons_succ]
                      refine wpAnyH_take (i := 8) (oi := ?o22) (v := ?v22) ?hi22 (by kernel_rfl) (by kernel_rfl) (by kernel_rfl) ?hq22 (Or.inl ⟨?hw22, ?hy22⟩) (by assumption) ?r22
                      case hi22 => (simp only [List.getElem?_toArray]; exact rfl)
                      case hq22 => exact fun _ _ _ h => h
                      case hw22 => rfl
                      case hy22 => (intro w hSw; (try dsimp only at hSw); go_simp; try exact rfl)
                      simp only [Act.put, List.setIfInBounds_toArray, List.set_cons_zero, List.set_cons_succ]
                      refine wpAnyH_ready (rs := [6]) (by kernel_rfl) (by simp) ?_
                      refine AllReadyH.cons (o := ?o101) ?hi101 (fun K hK => ?_) AllReadyH.nil
                      case hi101 => (simp only [List.getElem?_toArray]; exact rfl)
                      go_simp
                      go_at_call 13
                      refine (TX.out _).mono ?_
                      rintro e w10 ⟨rfl, bt⟩
                      replace NB := Kept.mk (NB.out.below bt NB.out.lt)
                      replace OB := Kept.mk (OB.out.below bt OB.out.lt)
                      replace C := api.below C bt
                      replace B := step_below B bt
                      clear bt
                      refine hK.out _ _ (op_cells OB.out) (fun _ => ?_)
                      clear hK K
                      try simp only [Act.put, List.setIfInBounds_toArray, List.set_cons_zero, List.set_cons_succ]
                      have KC := api.claim yw yi T yk C.out BT.out I.out.hashes
                      rw [HE.out] at KC
                      refine wpAnyH_ready (rs := [9]) (by kernel_rfl) (by simp) ?_
                      refine AllReadyH.cons (o := ?o102) ?hi102 (fun K hK => ?_) AllReadyH.nil
                      case hi102 => (simp only [List.getElem?_toArray]; exact rfl)
                      go_simp
                      go_at_call 14
                      refine KC.mono ?_
                      rintro e w11 ⟨rfl, F2, hc, fp⟩
                      have LTW := OB.out.lt
                      have LTN := NB.out.lt
                      replace OB := Kept.mk (OB.out.bar fp.1 OF.out)
                      replace NB := Kept.mk (NB.out.bar fp.1 NF.out)
                      obtain ⟨B, L⟩ := step_fp B fp L
                      replace C : Kept (Ck w11 F2 x q (s)) := ⟨hc⟩
                      clear fp hc KC LTW LTN OF NF
                      refine hK.out _ _ (op_cells OB.out) (fun _ => ?_)
                      clear hK K
                      try dsimp only
                      refine wpAnyH_take (i := 10) (oi := ?o23) (v := ?v23) ?hi23 (by kernel_rfl) (by kernel_rfl) (by kernel_rfl) ?hq23 (Or.inl ⟨?hw23, ?hy23⟩) (by assumption) ?r23
                      case hi23 => (simp only [List.getElem?_toArray]; exact rfl)
                      case hq23 => exact fun _ _ _ h => h
                      case hw23 => rfl
                      case hy23 => (intro w hSw; (try dsimp only at hSw); go_simp; try exact rfl)
                      simp only [Act.put, List.setIfInBounds_toArray, List.set_cons_zero, List.set_cons_succ]
                      refine wpAnyH_done (by kernel_rfl) ?_ _
                      refine NoPanic.normal ?_
                      replace I := Kept.mk I.out.next
                      obtain ⟨o0, o1, o2, o3, o4, o5, o6, o7, o8, o9, o10⟩ := op_cells OB.out
                      go_upto_region 19 with fail
                      refine wp_region_noPanic ?_
                      refine wp_region_held_drew (S := fun _ : World => True) (by kernel_rfl) trivial (fun hHeld => ?_)
                      have bd : Below w11.heap.size w11 w11.drew := (Below.refl _ _).drew
                      replace NB := Kept.mk (NB.out.below bd NB.out.lt)
                      replace OB := Kept.mk (OB.out.below bd OB.out.lt)
                      replace C := api.below C bd
                      replace B := step_below B bd
                      clear bd o0 o1 o2 o3 o4 o5 o6 o7 o8 o9 o10
                      generalize w11.drew = w12 at *
                      refine wpAnyH_take (i := 0) (oi := ?o24) (v := ?v24) ?hi24 (by kernel_rfl) (by kernel_rfl) (by kernel_rfl) ?hq24 (Or.inl ⟨?hw24, ?hy24⟩) (by assumption) ?r24
                      case hi24 => (simp only [List.getElem?_toArray]; exact rfl)
                      case hq24 => exact fun _ _ _ h => h
                      case hw24 => rfl
                      case hy24 => (intro w hSw; (try dsimp only at hSw); go_simp; try exact rfl)
                      simp only [Act.put, List.setIfInBounds_toArray, List.set_cons_zero, List.set_cons_succ]
                      refine wpAnyH_take (i := 1) (oi := ?o25) (v := ?v25) ?hi25 (by kernel_rfl) (by kernel_rfl) (by kernel_rfl) ?hq25 (Or.inl ⟨?hw25, ?hy25⟩) (by assumption) ?r25
                      case hi25 => (simp only [List.getElem?_toArray]; exact rfl)
                      case hq25 => exact fun _ _ _ h => h
                      case hw25 => rfl
                      case hy25 => (intro w hSw; (try dsimp only at hSw); go_simp; try exact rfl)
                      simp only [Act.put, List.setIfInBounds_toArray, List.set_cons_zero, List.set_cons_succ]
                      refine wpAnyH_take (i := 2) (oi := ?o26) (v := ?v26) ?hi26 (by kernel_rfl) (by kernel_rfl) (by kernel_rfl) ?hq26 (Or.inl ⟨?hw26, ?hy26⟩) (by assumption) ?r26
                      case hi26 => (simp only [List.getElem?_toArray]; exact rfl)
                      case hq26 => exact fun _ _ _ h => h
                      case hw26 => rfl
                      case hy26 => (intro w hSw; (try dsimp only at hSw); go_simp; try exact rfl)
                      simp only [Act.put, List.setIfInBounds_toArray, List.set_cons_zero, List.set_cons_succ]
                      refine wpAnyH_take (i := 3) (oi := ?o27) (v := undef) ?hi27 (by kernel_rfl) (by kernel_rfl) (by kernel_rfl) ?hq27 (Or.inr ⟨?hw27, rfl⟩) (by assumption) ?r27
                      case hi27 => (simp only [List.getElem?_toArray]; exact rfl)
                      case hq27 => exact fun _ _ _ h => h
                      case hw27 => rfl
                      simp only [Act.put, List.setIfInBounds_toArray, List.set_cons_zero, List.set_cons_succ]
                      refine wpAnyH_take (i := 4) (oi := ?o28) (v := undef) ?hi28 (by kernel_rfl) (by kernel_rfl) (by kernel_rfl) ?hq28 (Or.inr ⟨?hw28, rfl⟩) (by assumption) ?r28
                      case hi28 => (simp only [List.getElem?_toArray]; exact rfl)
                      case hq28 => exact fun _ _ _ h => h
                      case hw28 => rfl
                      simp only [Act.put, List.setIfInBounds_toArray, List.set_cons_zero, List.set_cons_succ]
                      refine wpAnyH_take (i := 5) (oi := ?o29) (v := undef) ?hi29 (by kernel_rfl) (by kernel_rfl) (by kernel_rfl) ?hq29 (Or.inr ⟨?hw29, rfl⟩) (by assumption) ?r29
                      case hi29 => (simp only [List.getElem?_toArray]; exact rfl)
                      case hq29 => exact fun _ _ _ h => h
                      case hw29 => rfl
                      simp only [Act.put, List.setIfInBounds_toArray, List.set_cons_zero, List.set_cons_succ]
                      refine wpAnyH_take (i := 6) (oi := ?o30) (v := undef) ?hi30 (by kernel_rfl) (by kernel_rfl) (by kernel_rfl) ?hq30 (Or.inr ⟨?hw30, rfl⟩) (by assumption) ?r30
                      case hi30 => (simp only [List.getElem?_toArray]; exact rfl)
                      case hq30 => exact fun _ _ _ h => h
                      case hw30 => rfl
                      simp only [Act.put, List.setIfInBounds_toArray, List.set_cons_zero, List.set_cons_succ]
                      refine wpAnyH_take (i := 7) (oi := ?o31) (v := undef) ?hi31 (by kernel_rfl) (by kernel_rfl) (by kernel_rfl) ?hq31 (Or.inr ⟨?hw31, rfl⟩) (by assumption) ?r31
                      case hi31 => (simp only [List.getElem?_toArray]; exact rfl)
                      case hq31 => exact fun _ _ _ h => h
                      case hw31 => rfl
                      simp only [Act.put, List.setIfInBounds_toArray, List.set_cons_zero, List.set_cons_succ]
                      refine wpAnyH_take (i := 8) (oi := ?o32) (v := undef) ?hi32 (by kernel_rfl) (by kernel_rfl) (by kernel_rfl) ?hq32 (Or.inr ⟨?hw32, rfl⟩) (by assumption) ?r32
                      case hi32 => (simp only [List.getElem?_toArray]; exact rfl)
                      case hq32 => exact fun _ _ _ h => h
                      case hw32 => rfl
                      simp only [Act.put, List.setIfInBounds_toArray, List.set_cons_zero, List.set_cons_succ]
                      refine wpAnyH_take (i := 9) (oi := ?o33) (v := undef) ?hi33 (by kernel_rfl) (by kernel_rfl) (by kernel_rfl) ?hq33 (Or.inr ⟨?hw33, rfl⟩) (by assumption) ?r33
                      case hi33 => (simp only [List.getElem?_toArray]; exact rfl)
                      case hq33 => exact fun _ _ _ h => h
                      case hw33 => rfl
                      simp only [Act.put, List.setIfInBounds_toArray, List.set_cons_zero, List.set_cons_succ]
                      refine wpAnyH_take (i := 10) (oi := ?o34) (v := undef) ?hi34 (by kernel_rfl) (by kernel_rfl) (by kernel_rfl) ?hq34 (Or.inr ⟨?hw34, rfl⟩) (by assumption) ?r34
                      case hi34 => (simp only [List.getElem?_toArray]; exact rfl)
                      case hq34 => exact fun _ _ _ h => h
                      case hw34 => rfl
                      simp only [Act.put, List.setIfInBounds_toArray, List.set_cons_zero, List.set_cons_succ]
                      refine wpAnyH_take (i := 11) (oi := ?o35) (v := undef) ?hi35 (by kernel_rfl) (by kernel_rfl) (by kernel_rfl) ?hq35 (Or.inr ⟨?hw35, rfl⟩) (by assumption) ?r35
                      case hi35 => (simp only [List.getElem?_toArray]; exact rfl)
                      case hq35 => exact fun _ _ _ h => h
                      case hw35 => rfl
                      simp only [Act.put, List.setIfInBounds_toArray, List.set_cons_zero, List.set_cons_succ]
                      refine wpAnyH_take (i := 12) (oi := ?o36) (v := undef) ?hi36 (by kernel_rfl) (by kernel_rfl) (by kernel_rfl) ?hq36 (Or.inr ⟨?hw36, rfl⟩) (by assumption) ?r36
                      case hi36 => (simp only [List.getElem?_toArray]; exact rfl)
                      case hq36 => exact fun _ _ _ h => h
                      case hw36 => rfl
                      simp only [Act.put, List.setIfInBounds_toArray, List.set_cons_zero, List.set_cons_succ]
                      refine wpAnyH_take (i := 13) (oi := ?o37) (v := undef) ?hi37 (by kernel_rfl) (by kernel_rfl) (by kernel_rfl) ?hq37 (Or.inr ⟨?hw37, rfl⟩) (by assumption) ?r37
                      case hi37 => (simp only [List.getElem?_toArray]; exact rfl)
                      case hq37 => exact fun _ _ _ h => h
                      case hw37 => rfl
                      simp only [Act.put, List.setIfInBounds_toArray, List.set_cons_zero, List.set_cons_succ]
                      refine wpAnyH_take (i := 14) (oi := ?o38) (v := undef) ?hi38 (by kernel_rfl) (by kernel_rfl) (by kernel_rfl) ?hq38 (Or.inr ⟨?hw38, rfl⟩) (by assumption) ?r38
                      case hi38 => (simp only [List.getElem?_toArray]; exact rfl)
                      case hq38 => exact fun _ _ _ h => h
                      case hw38 => rfl
                      simp only [Act.put, List.setIfInBounds_toArray, List.set_cons_zero, List.set_cons_succ]
                      refine wpAnyH_take (i := 15) (oi := ?o39) (v := undef) ?hi39 (by kernel_rfl) (by kernel_rfl) (by kernel_rfl) ?hq39 (Or.inr ⟨?hw39, rfl⟩) (by assumption) ?r39
                      case hi39 => (simp only [List.getElem?_toArray]; exact rfl)
                      case hq39 => exact fun _ _ _ h => h
                      case hw39 => rfl
                      simp only [Act.put, List.setIfInBounds_toArray, List.set_cons_zero, List.set_cons_succ]
                      refine wpAnyH_take (i := 16) (oi := ?o40) (v := undef) ?hi40 (by kernel_rfl) (by kernel_rfl) (by kernel_rfl) ?hq40 (Or.inr ⟨?hw40, rfl⟩) (by assumption) ?r40
                      case hi40 => (simp only [List.getElem?_toArray]; exact rfl)
                      case hq40 => exact fun _ _ _ h => h
                      case hw40 => rfl
                      simp only [Act.put, List.setIfInBounds_toArray, List.set_cons_zero, List.set_cons_succ]
                      refine wpAnyH_take (i := 17) (oi := ?o41) (v := undef) ?hi41 (by kernel_rfl) (by kernel_rfl) (by kernel_rfl) ?hq41 (Or.inr ⟨?hw41, rfl⟩) (by assumption) ?r41
                      case hi41 => (simp only [List.getElem?_toArray]; exact rfl)
                      case hq41 => exact fun _ _ _ h => h
                      case hw41 => rfl
                      simp only [Act.put, List.setIfInBounds_toArray, List.set_cons_zero, List.set_cons_succ]
                      refine wpAnyH_take (i := 18) (oi := ?o42) (v := undef) ?hi42 (by kernel_rfl) (by kernel_rfl) (by kernel_rfl) ?hq42 (Or.inr ⟨?hw42, rfl⟩) (by assumption) ?r42
                      case hi42 => (simp only [List.getElem?_toArray]; exact rfl)
                      case hq42 => exact fun _ _ _ h => h
                      case hw42 => rfl
                      simp only [Act.put, List.setIfInBounds_toArray, List.set_cons_zero, List.set_cons_succ]
                      refine wpAnyH_take (i := 19) (oi := ?o43) (v := undef) ?hi43 (by kernel_rfl) (by kernel_rfl) (by kernel_rfl) ?hq43 (Or.inr ⟨?hw43, rfl⟩) (by assumption) ?r43
                      case hi43 => (simp only [List.getElem?_toArray]; exact rfl)
                      case hq43 => exact fun _ _ _ h => h
                      case hw43 => rfl
                      simp only [Act.put, List.setIfInBounds_toArray, List.set_cons_zero, List.set_cons_succ]
                      refine wpAnyH_take (i := 20) (oi := ?o44) (v := undef) ?hi44 (by kernel_rfl) (by kernel_rfl) (by kernel_rfl) ?hq44 (Or.inr ⟨?hw44, rfl⟩) (by assumption) ?r44
                      case hi44 => (simp only [List.getElem?_toArray]; exact rfl)
                      case hq44 => exact fun _ _ _ h => h
                      case hw44 => rfl
                      simp only [Act.put, List.setIfInBounds_toArray, List.set_cons_zero, List.set_cons_succ]
                      refine wpAnyH_take (i := 21) (oi := ?o45) (v := undef) ?hi45 (by kernel_rfl) (by kernel_rfl) (by kernel_rfl) ?hq45 (Or.inr ⟨?hw45, rfl⟩) (by assumption) ?r45
                      case hi45 => (simp only [List.getElem?_toArray]; exact rfl)
                      case hq45 => exact fun _ _ _ h => h
                      case hw45 => rfl
                      simp only [Act.put, List.setIfInBounds_toArray, List.set_cons_zero, List.set_cons_succ]
                      refine wpAnyH_take (i := 22) (oi := ?o46) (v := undef) ?hi46 (by kernel_rfl) (by kernel_rfl) (by kernel_rfl) ?hq46 (Or.inr ⟨?hw46, rfl⟩) (by assumption) ?r46
                      case hi46 => (simp only [List.getElem?_toArray]; exact rfl)
                      case hq46 => exact fun _ _ _ h => h
                      case hw46 => rfl
                      simp only [Act.put, List.setIfInBounds_toArray, List.set_cons_zero, List.set_cons_succ]
                      refine wpAnyH_take (i := 23) (oi := ?o47) (v := undef) ?hi47 (by kernel_rfl) (by kernel_rfl) (by kernel_rfl) ?hq47 (Or.inr ⟨?hw47, rfl⟩) (by assumption) ?r47
                      case hi47 => (simp only [List.getElem?_toArray]; exact rfl)
                      case hq47 => exact fun _ _ _ h => h
                      case hw47 => rfl
                      simp only [Act.put, List.setIfInBounds_toArray, List.set_cons_zero, List.set_cons_succ]
                      refine wpAnyH_take (i := 24) (oi := ?o48) (v := undef) ?hi48 (by kernel_rfl) (by kernel_rfl) (by kernel_rfl) ?hq48 (Or.inr ⟨?hw48, rfl⟩) (by assumption) ?r48
                      case hi48 => (simp only [List.getElem?_toArray]; exact rfl)
                      case hq48 => exact fun _ _ _ h => h
                      case hw48 => rfl
                      simp only [Act.put, List.setIfInBounds_toArray, List.set_cons_zero, List.set_cons_succ]
                      refine wpAnyH_take (i := 25) (oi := ?o49) (v := undef) ?hi49 (by kernel_rfl) (by kernel_rfl) (by kernel_rfl) ?hq49 (Or.inr ⟨?hw49, rfl⟩) (by assumption) ?r49
                      case hi49 => (simp only [List.getElem?_toArray]; exact rfl)
                      case hq49 => exact fun _ _ _ h => h
                      case hw49 => rfl
                      simp only [Act.put, List.setIfInBounds_toArray, List.set_cons_zero, List.set_cons_succ]
                      refine wpAnyH_take (i := 26) (oi := ?o50) (v := undef) ?hi50 (by kernel_rfl) (by kernel_rfl) (by kernel_rfl) ?hq50 (Or.inr ⟨?hw50, rfl⟩) (by assumption) ?r50
                      case hi50 => (simp only [List.getElem?_toArray]; exact rfl)
                      case hq50 => exact fun _ _ _ h => h
                      case hw50 => rfl
                      simp only [Act.put, List.setIfInBounds_toArray, List.set_cons_zero, List.set_cons_succ]
                      refine wpAnyH_take (i := 27) (oi := ?o51) (v := undef) ?hi51 (by kernel_rfl) (by kernel_rfl) (by kernel_rfl) ?hq51 (Or.inr ⟨?hw51, rfl⟩) (by assumption) ?r51
                      case hi51 => (simp only [List.getElem?_toArray]; exact rfl)
                      case hq51 => exact fun _ _ _ h => h
                      case hw51 => rfl
                      simp only [Act.put, List.setIfInBounds_toArray, List.set_cons_zero, List.set_cons_succ]
                      refine wpAnyH_take (i := 28) (oi := ?o52) (v := undef) ?hi52 (by kernel_rfl) (by kernel_rfl) (by kernel_rfl) ?hq52 (Or.inr ⟨?hw52, rfl⟩) (by assumption) ?r52
                      case hi52 => (simp only [List.getElem?_toArray]; exact rfl)
                      case hq52 => exact fun _ _ _ h => h
                      case hw52 => rfl
                      simp only [Act.put, List.setIfInBounds_toArray, List.set_cons_zero, List.set_cons_succ]
                      refine wpAnyH_take (i := 29) (oi := ?o53) (v := undef) ?hi53 (by kernel_rfl) (by kernel_rfl) (by kernel_rfl) ?hq53 (Or.inr ⟨?hw53, rfl⟩) (by assumption) ?r53
                      case hi53 => (simp only [List.getElem?_toArray]; exact rfl)
                      case hq53 => exact fun _ _ _ h => h
                      case hw53 => rfl
                      simp only [Act.put, List.setIfInBounds_toArray, List.set_cons_zero, List.set_cons_succ]
                      refine wpAnyH_take (i := 30) (oi := ?o54) (v := undef) ?hi54 (by kernel_rfl) (by kernel_rfl) (by kernel_rfl) ?hq54 (Or.inr ⟨?hw54, rfl⟩) (by assumption) ?r54
                      case hi54 => (simp only [List.getElem?_toArray]; exact rfl)
                      case hq54 => exact fun _ _ _ h => h
                      case hw54 => rfl
                      simp only [Act.put, List.setIfInBounds_toArray, List.set_cons_zero, List.set_cons_succ]
                      refine wpAnyH_take (i := 31) (oi := ?o55) (v := undef) ?hi55 (by kernel_rfl) (by kernel_rfl) (by kernel_rfl) ?hq55 (Or.inr ⟨?hw55, rfl⟩) (by assumption) ?r55
                      case hi55 => (simp only [List.getElem?_toArray]; exact rfl)
                      case hq55 => exact fun _ _ _ h => h
                      case hw55 => rfl
                      simp only [Act.put, List.setIfInBounds_toArray, List.set_cons_zero, List.set_cons_succ]
                      refine wpAnyH_take (i := 32) (oi := ?o56) (v := undef) ?hi56 (by kernel_rfl) (by kernel_rfl) (by kernel_rfl) ?hq56 (Or.inr ⟨?hw56, rfl⟩) (by assumption) ?r56
                      case hi56 => (simp only [List.getElem?_toArray]; exact rfl)
                      case hq56 => exact fun _ _ _ h => h
                      case hw56 => rfl
                      simp only [Act.put, List.setIfInBounds_toArray, List.set_cons_zero, List.set_cons_succ]
                      refine wpAnyH_take (i := 33) (oi := ?o57) (v := undef) ?hi57 (by kernel_rfl) (by kernel_rfl) (by kernel_rfl) ?hq57 (Or.inr ⟨?hw57, rfl⟩) (by assumption) ?r57
                      case hi57 => (simp only [List.getElem?_toArray]; exact rfl)
                      case hq57 => exact fun _ _ _ h => h
                      case hw57 => rfl
                      simp only [Act.put, List.setIfInBounds_toArray, List.set_cons_zero, List.set_cons_succ]
                      refine wpAnyH_take (i := 34) (oi := ?o58) (v := ?v58) ?hi58 (by kernel_rfl) (by kernel_rfl) (by kernel_rfl) ?hq58 (Or.inl ⟨?hw58, ?hy58⟩) (by assumption) ?r58
                      case hi58 => (simp only [List.getElem?_toArray]; exact rfl)
                      case hq58 => exact fun _ _ _ h => h
                      case hw58 => rfl
                      case hy58 => (intro w hSw; (try dsimp only at hSw); go_simp; try exact rfl)
                      simp only [Act.put, List.setIfInBounds_toArray, List.set_cons_zero, List.set_cons_succ]
                      refine wpAnyH_done (by kernel_rfl) ?_ _
                      refine NoPanic.normal ?_
                      clear hHeld
                      have T := TK
                      go_wp2
                      go_meet
                      case rel => exact ⟨F2, _, e, rfl, C, I, B, L, T, OB, NB⟩
                    · have HE := Kept.mk he
                      subst h1
                      dsimp only at h2 h3 h4 h5
                      obtain rfl : wt = 0 := h2
                      obtain rfl : yw = wd := h3.symm
                      have h4' : ¬ wu ≤ yk := by omega
                      have HS : Kept (sha T = wh) := ⟨h5⟩
                      have LT := Kept.mk hL
                      clear hL
                      have TK : Kept (TailOk 0 ⟨ws, yw, wa, wn, wu, 0, wh, wc⟩ true (getB s2 yi)) := ⟨.inr (.inr ⟨rfl, h6, rfl, rfl⟩)⟩
                      have I2 := I.out.claim yw yi BT.out yk
                      rw [he] at I2
                      have I3 := Kept.mk I2
                      clear he h5 h6 I2
                      obtain ⟨o0, o1, o2, o3, o4, o5, o6, o7, o8, o9, o10⟩ := op_cells OB.out
                      go_upto_region 18 with (fail)
                      refine wp_region_noPanic ?_
                      refine wp_region_held_drew (S := fun w' : World => w'.cell? ⟨O, 0, none⟩ = some (.int .i64 1) ∧ w'.cell? ⟨O, 1, none⟩ = some (.int .i64 yw) ∧ w'.cell? ⟨O, 2, none⟩ = some (.int .i64 yt) ∧ w'.cell? ⟨O, 3, none⟩ = some (.int .i64 ya) ∧ w'.cell? ⟨O, 4, none⟩ = some (.int .i64 yn) ∧ w'.cell? ⟨O, 5, none⟩ = some (.int .i64 yi) ∧ w'.cell? ⟨O, 6, none⟩ = some (.int .i64 yd) ∧ w'.cell? ⟨O, 7, none⟩ = some (.int .i64 yk) ∧ w'.cell? ⟨O, 8, none⟩ = some (.string (strOfNums yh)) ∧ w'.cell? ⟨O, 9, none⟩ = some (.bool yb) ∧ w'.cell? ⟨O, 10, none⟩ = some (.int .u8 yz)) (by kernel_rfl) ⟨o0, o1, o2, o3, o4, o5, o6, o7, o8, o9, o10⟩ (fun hHeld => ?_)
                      have bd : Below w8.heap.size w8 w8.drew := (Below.refl _ _).drew
                      replace NB := Kept.mk (NB.out.below bd NB.out.lt)
                      replace OB := Kept.mk (OB.out.below bd OB.out.lt)
                      replace C := api.below C bd
                      replace B := step_below B bd
                      clear bd o0 o1 o2 o3 o4 o5 o6 o7 o8 o9 o10
                      generalize w8.drew = w9 at *
                      refine wpAnyH_take (i := 0) (oi := ?o59) (v := ?v59) ?hi59 (by kernel_rfl) (by kernel_rfl) (by kernel_rfl) ?hq59 (Or.inl ⟨?hw59, ?hy59⟩) (by assumption) ?r59
                      case hi59 => (simp only [List.getElem?_toArray]; exact rfl)
                      case hq59 => exact fun _ _ _ h => h
                      case hw59 => rfl
                      case hy59 => (intro w hSw; (try dsimp only at hSw); go_simp; try exact rfl)
                      simp only [Act.put, List.setIfInBounds_toArray, List.set_cons_zero, List.set_cons_succ]
                      refine wpAnyH_take (i := 1) (oi := ?o60) (v := ?v60) ?hi60 (by kernel_rfl) (by kernel_rfl) (by kernel_rfl) ?hq60 (Or.inl ⟨?hw60, ?hy60⟩) (by assumption) ?r60
                      case hi60 => (simp only [List.getElem?_toArray]; exact rfl)
                      case hq60 => exact fun _ _ _ h => h
                      case hw60 => rfl
                      case hy60 => (intro w hSw; (try dsimp only at hSw); go_simp; try exact rfl)
                      simp only [Act.put, List.setIfInBounds_toArray, List.set_cons_zero, List.set_cons_succ]
                      refine wpAnyH_take (i := 2) (oi := ?o61) (v := ?v61) ?hi61 (by kernel_rfl) (by kernel_rfl) (by kernel_rfl) ?hq61 (Or.inl ⟨?hw61, ?hy61⟩) (by assumption) ?r61
                      case hi61 => (simp only [List.getElem?_toArray]; exact rfl)
                      case hq61 => exact fun _ _ _ h => h
                      case hw61 => rfl
                      case hy61 => (intro w hSw; (try dsimp only at hSw); go_simp; try exact rfl)
                      simp only [Act.put, List.setIfInBounds_toArray, List.set_cons_zero, List.set_cons_succ]
                      refine wpAnyH_take (i := 3) (oi := ?o62) (v := ?v62) ?hi62 (by kernel_rfl) (by kernel_rfl) (by kernel_rfl) ?hq62 (Or.inl ⟨?hw62, ?hy62⟩) (by assumption) ?r62
                      case hi62 => (simp only [List.getElem?_toArray]; exact rfl)
                      case hq62 => exact fun _ _ _ h => h
                      case hw62 => rfl
                      case hy62 => (intro w hSw; (try dsimp only at hSw); go_simp; try exact rfl)
                      simp only [Act.put, List.setIfInBounds_toArray, List.set_cons_zero, List.set_cons_succ]
                      refine wpAnyH_take (i := 4) (oi := ?o63) (v := ?v63) ?hi63 (by kernel_rfl) (by kernel_rfl) (by kernel_rfl) ?hq63 (Or.inl ⟨?hw63, ?hy63⟩) (by assumption) ?r63
                      case hi63 => (simp only [List.getElem?_toArray]; exact rfl)
                      case hq63 => exact fun _ _ _ h => h
                      case hw63 => rfl
                      case hy63 => (intro w hSw; (try dsimp only at hSw); go_simp; try exact rfl)
                      simp only [Act.put, List.setIfInBounds_toArray, List.set_cons_zero, List.set_cons_succ]
                      refine wpAnyH_take (i := 5) (oi := ?o64) (v := ?v64) ?hi64 (by kernel_rfl) (by kernel_rfl) (by kernel_rfl) ?hq64 (Or.inl ⟨?hw64, ?hy64⟩) (by assumption) ?r64
                      case hi64 => (simp only [List.getElem?_toArray]; exact rfl)
                      case hq64 => exact fun _ _ _ h => h
                      case hw64 => rfl
                      case hy64 => (intro w hSw; (try dsimp only at hSw); go_simp; try exact rfl)
                      simp only [Act.put, List.setIfInBounds_toArray, List.set_cons_zero, List.set_cons_succ]
                      refine wpAnyH_take (i := 7) (oi := ?o65) (v := ?v65) ?hi65 (by kernel_rfl) (by kernel_rfl) (by kernel_rfl) ?hq65 (Or.inl ⟨?hw65, ?hy65⟩) (by assumption) ?r65
                      case hi65 => (simp only [List.getElem?_toArray]; exact rfl)
                      case hq65 => exact fun _ _ _ h => h
                      case hw65 => rfl
                      case hy65 => (intro w hSw; (try dsimp only at hSw); go_simp; try exact rfl)
                      simp only [Act.put, List.setIfInBounds_toArray, List.set_cons_zero, List.set_cons_succ]
                      refine wpAnyH_take (i := 8) (oi := ?o66) (v := ?v66) ?hi66 (by kernel_rfl) (by kernel_rfl) (by kernel_rfl) ?hq66 (Or.inl ⟨?hw66, ?hy66⟩) (by assumption) ?r66
                      case hi66 => (simp only [List.getElem?_toArray]; exact rfl)
                      case hq66 => exact fun _ _ _ h => h
                      case hw66 => rfl
                      case hy66 => (intro w hSw; (try dsimp only at hSw); go_simp; try exact rfl)
                      simp only [Act.put, List.setIfInBounds_toArray, List.set_cons_zero, List.set_cons_succ]
                      refine wpAnyH_ready (rs := [6]) (by kernel_rfl) (by simp) ?_
                      refine AllReadyH.cons (o := ?o103) ?hi103 (fun K hK => ?_) AllReadyH.nil
                      case hi103 => (simp only [List.getElem?_toArray]; exact rfl)
                      go_simp
                      go_at_call 13
                      refine (TX.out _).mono ?_
                      rintro e w10 ⟨rfl, bt⟩
                      replace NB := Kept.mk (NB.out.below bt NB.out.lt)
                      replace OB := Kept.mk (OB.out.below bt OB.out.lt)
                      replace C := api.below C bt
                      replace B := step_below B bt
                      clear bt
                      refine hK.out _ _ (op_cells OB.out) (fun _ => ?_)
                      clear hK K
                      try simp only [Act.put, List.setIfInBounds_toArray, List.set_cons_zero, List.set_cons_succ]
                      have KC := api.claim yw yi T yk C.out BT.out I.out.hashes
                      rw [HE.out] at KC
                      refine wpAnyH_ready (rs := [9]) (by kernel_rfl) (by simp) ?_
                      refine AllReadyH.cons (o := ?o104) ?hi104 (fun K hK => ?_) AllReadyH.nil
                      case hi104 => (simp only [List.getElem?_toArray]; exact rfl)
                      go_simp
                      go_at_call 14
                      refine KC.mono ?_
                      rintro e w11 ⟨rfl, F2, hc, fp⟩
                      have LTW := OB.out.lt
                      have LTN := NB.out.lt
                      replace OB := Kept.mk (OB.out.bar fp.1 OF.out)
                      replace NB := Kept.mk (NB.out.bar fp.1 NF.out)
                      obtain ⟨B, L⟩ := step_fp B fp L
                      replace C : Kept (Ck w11 F2 x q (s2)) := ⟨hc⟩
                      clear fp hc KC LTW LTN OF NF
                      refine hK.out _ _ (op_cells OB.out) (fun _ => ?_)
                      clear hK K
                      try dsimp only
                      refine wpAnyH_take (i := 10) (oi := ?o67) (v := ?v67) ?hi67 (by kernel_rfl) (by kernel_rfl) (by kernel_rfl) ?hq67 (Or.inl ⟨?hw67, ?hy67⟩) (by assumption) ?r67
                      case hi67 => (simp only [List.getElem?_toArray]; exact rfl)
                      case hq67 => exact fun _ _ _ h => h
                      case hw67 => rfl
                      case hy67 => (intro w hSw; (try dsimp only at hSw); go_simp; try exact rfl)
                      simp only [Act.put, List.setIfInBounds_toArray, List.set_cons_zero, List.set_cons_succ]
                      refine wpAnyH_done (by kernel_rfl) ?_ _
                      refine NoPanic.normal ?_
                      replace I := I3
                      obtain ⟨o0, o1, o2, o3, o4, o5, o6, o7, o8, o9, o10⟩ := op_cells OB.out
                      go_upto_region 19 with fail
                      clear o0 o1 o2 o3 o4 o5 o6 o7 o8 o9 o10
                      refine wp_region_noPanic ?_
                      have bd : Below w11.heap.size w11 w11.drew := (Below.refl _ _).drew
                      replace NB := Kept.mk (NB.out.below bd NB.out.lt)
                      replace OB := Kept.mk (OB.out.below bd OB.out.lt)
                      replace C := api.below C bd
                      replace B := step_below B bd
                      clear bd
                      refine wp_region_held_drew (S := fun w' : World => w'.cell? ⟨O, 0, none⟩ = some (.int .i64 1) ∧ w'.cell? ⟨O, 1, none⟩ = some (.int .i64 yw) ∧ w'.cell? ⟨O, 2, none⟩ = some (.int .i64 yt) ∧ w'.cell? ⟨O, 3, none⟩ = some (.int .i64 ya) ∧ w'.cell? ⟨O, 4, none⟩ = some (.int .i64 yn) ∧ w'.cell? ⟨O, 5, none⟩ = some (.int .i64 yi) ∧ w'.cell? ⟨O, 6, none⟩ = some (.int .i64 yd) ∧ w'.cell? ⟨O, 7, none⟩ = some (.int .i64 yk) ∧ w'.cell? ⟨O, 8, none⟩ = some (.string (strOfNums yh)) ∧ w'.cell? ⟨O, 9, none⟩ = some (.bool yb) ∧ w'.cell? ⟨O, 10, none⟩ = some (.int .u8 yz) ∧ w'.cell? ⟨N, 0, none⟩ = some (.int .i64 ws) ∧ w'.cell? ⟨N, 1, none⟩ = some (.int .i64 yw) ∧ w'.cell? ⟨N, 2, none⟩ = some (.int .i64 wa) ∧ w'.cell? ⟨N, 3, none⟩ = some (.int .i64 wn) ∧ w'.cell? ⟨N, 4, none⟩ = some (.int .i64 wu) ∧ w'.cell? ⟨N, 5, none⟩ = some (.int .i64 0) ∧ w'.cell? ⟨N, 6, none⟩ = some (.string (strOfNums wh)) ∧ w'.cell? ⟨N, 7, none⟩ = some (.string (strOfNums wc))) (by kernel_rfl) ⟨(op_cells OB.out).1, (op_cells OB.out).2.1, (op_cells OB.out).2.2.1, (op_cells OB.out).2.2.2.1, (op_cells OB.out).2.2.2.2.1, (op_cells OB.out).2.2.2.2.2.1, (op_cells OB.out).2.2.2.2.2.2.1, (op_cells OB.out).2.2.2.2.2.2.2.1, (op_cells OB.out).2.2.2.2.2.2.2.2.1, (op_cells OB.out).2.2.2.2.2.2.2.2.2.1, (op_cells OB.out).2.2.2.2.2.2.2.2.2.2, (ev_cells NB.out).1, (ev_cells NB.out).2.1, (ev_cells NB.out).2.2.1, (ev_cells NB.out).2.2.2.1, (ev_cells NB.out).2.2.2.2.1, (ev_cells NB.out).2.2.2.2.2.1, (ev_cells NB.out).2.2.2.2.2.2.1, (ev_cells NB.out).2.2.2.2.2.2.2⟩ (fun hHeld => ?_)
                      generalize w11.drew = w12 at *
                      refine wpAnyH_take (i := 0) (oi := ?o68) (v := ?v68) ?hi68 (by kernel_rfl) (by kernel_rfl) (by kernel_rfl) ?hq68 (Or.inl ⟨?hw68, ?hy68⟩) (by assumption) ?r68
                      case hi68 => (simp only [List.getElem?_toArray]; exact rfl)
                      case hq68 => exact fun _ _ _ h => h
                      case hw68 => rfl
                      case hy68 => (intro w hSw; (try dsimp only at hSw); go_simp; try exact rfl)
                      simp only [Act.put, List.setIfInBounds_toArray, List.set_cons_zero, List.set_cons_succ]
                      refine wpAnyH_take (i := 1) (oi := ?o69) (v := ?v69) ?hi69 (by kernel_rfl) (by kernel_rfl) (by kernel_rfl) ?hq69 (Or.inl ⟨?hw69, ?hy69⟩) (by assumption) ?r69
                      case hi69 => (simp only [List.getElem?_toArray]; exact rfl)
                      case hq69 => exact fun _ _ _ h => h
                      case hw69 => rfl
                      case hy69 => (intro w hSw; (try dsimp only at hSw); go_simp; try exact rfl)
                      simp only [Act.put, List.setIfInBounds_toArray, List.set_cons_zero, List.set_cons_succ]
                      refine wpAnyH_take (i := 2) (oi := ?o70) (v := ?v70) ?hi70 (by kernel_rfl) (by kernel_rfl) (by kernel_rfl) ?hq70 (Or.inl ⟨?hw70, ?hy70⟩) (by assumption) ?r70
                      case hi70 => (simp only [List.getElem?_toArray]; exact rfl)
                      case hq70 => exact fun _ _ _ h => h
                      case hw70 => rfl
                      case hy70 => (intro w hSw; (try dsimp only at hSw); go_simp; try exact rfl)
                      simp only [Act.put, List.setIfInBounds_toArray, List.set_cons_zero, List.set_cons_succ]
                      refine wpAnyH_take (i := 3) (oi := ?o71) (v := ?v71) ?hi71 (by kernel_rfl) (by kernel_rfl) (by kernel_rfl) ?hq71 (Or.inl ⟨?hw71, ?hy71⟩) (by assumption) ?r71
                      case hi71 => (simp only [List.getElem?_toArray]; exact rfl)
                      case hq71 => exact fun _ _ _ h => h
                      case hw71 => rfl
                      case hy71 => (intro w hSw; (try dsimp only at hSw); go_simp; try exact rfl)
                      simp only [Act.put, List.setIfInBounds_toArray, List.set_cons_zero, List.set_cons_succ]
                      refine wpAnyH_take (i := 4) (oi := ?o72) (v := ?v72) ?hi72 (by kernel_rfl) (by kernel_rfl) (by kernel_rfl) ?hq72 (Or.inl ⟨?hw72, ?hy72⟩) (by assumption) ?r72
                      case hi72 => (simp only [List.getElem?_toArray]; exact rfl)
                      case hq72 => exact fun _ _ _ h => h
                      case hw72 => rfl
                      case hy72 => (intro w hSw; (try dsimp only at hSw); go_simp; try exact rfl)
                      simp only [Act.put, List.setIfInBounds_toArray, List.set_cons_zero, List.set_cons_succ]
                      refine wpAnyH_take (i := 5) (oi := ?o73) (v := ?v73) ?hi73 (by kernel_rfl) (by kernel_rfl) (by kernel_rfl) ?hq73 (Or.inl ⟨?hw73, ?hy73⟩) (by assumption) ?r73
                      case hi73 => (simp only [List.getElem?_toArray]; exact rfl)
                      case hq73 => exact fun _ _ _ h => h
                      case hw73 => rfl
                      case hy73 => (intro w hSw; (try dsimp only at hSw); go_simp; try exact rfl)
                      simp only [Act.put, List.setIfInBounds_toArray, List.set_cons_zero, List.set_cons_succ]
                      refine wpAnyH_take (i := 6) (oi := ?o74) (v := ?v74) ?hi74 (by kernel_rfl) (by kernel_rfl) (by kernel_rfl) ?hq74 (Or.inl ⟨?hw74, ?hy74⟩) (by assumption) ?r74
                      case hi74 => (simp only [List.getElem?_toArray]; exact rfl)
                      case hq74 => exact fun _ _ _ h => h
                      case hw74 => rfl
                      case hy74 => (intro w hSw; (try dsimp only at hSw); go_simp; try exact rfl)
                      simp only [Act.put, List.setIfInBounds_toArray, List.set_cons_zero, List.set_cons_succ]
                      refine wpAnyH_take (i := 7) (oi := ?o75) (v := ?v75) ?hi75 (by kernel_rfl) (by kernel_rfl) (by kernel_rfl) ?hq75 (Or.inl ⟨?hw75, ?hy75⟩) (by assumption) ?r75
                      case hi75 => (simp only [List.getElem?_toArray]; exact rfl)
                      case hq75 => exact fun _ _ _ h => h
                      case hw75 => rfl
                      case hy75 => (intro w hSw; (try dsimp only at hSw); go_simp; try exact rfl)
                      simp only [Act.put, List.setIfInBounds_toArray, List.set_cons_zero, List.set_cons_succ]
                      refine wpAnyH_take (i := 8) (oi := ?o76) (v := ?v76) ?hi76 (by kernel_rfl) (by kernel_rfl) (by kernel_rfl) ?hq76 (Or.inl ⟨?hw76, ?hy76⟩) (by assumption) ?r76
                      case hi76 => (simp only [List.getElem?_toArray]; exact rfl)
                      case hq76 => exact fun _ _ _ h => h
                      case hw76 => rfl
                      case hy76 => (intro w hSw; (try dsimp only at hSw); go_simp; try exact rfl)
                      simp only [Act.put, List.setIfInBounds_toArray, List.set_cons_zero, List.set_cons_succ]
                      refine wpAnyH_take (i := 9) (oi := ?o77) (v := ?v77) ?hi77 (by kernel_rfl) (by kernel_rfl) (by kernel_rfl) ?hq77 (Or.inl ⟨?hw77, ?hy77⟩) (by assumption) ?r77
                      case hi77 => (simp only [List.getElem?_toArray]; exact rfl)
                      case hq77 => exact fun _ _ _ h => h
                      case hw77 => rfl
                      case hy77 => (intro w hSw; (try dsimp only at hSw); go_simp; try exact rfl)
                      simp only [Act.put, List.setIfInBounds_toArray, List.set_cons_zero, List.set_cons_succ]
                      refine wpAnyH_take (i := 10) (oi := ?o78) (v := ?v78) ?hi78 (by kernel_rfl) (by kernel_rfl) (by kernel_rfl) ?hq78 (Or.inl ⟨?hw78, ?hy78⟩) (by assumption) ?r78
                      case hi78 => (simp only [List.getElem?_toArray]; exact rfl)
                      case hq78 => exact fun _ _ _ h => h
                      case hw78 => rfl
                      case hy78 => (intro w hSw; (try dsimp only at hSw); go_simp; try exact rfl)
                      simp only [Act.put, List.setIfInBounds_toArray, List.set_cons_zero, List.set_cons_succ]
                      refine wpAnyH_take (i := 11) (oi := ?o79) (v := ?v79) ?hi79 (by kernel_rfl) (by kernel_rfl) (by kernel_rfl) ?hq79 (Or.inl ⟨?hw79, ?hy79⟩) (by assumption) ?r79
                      case hi79 => (simp only [List.getElem?_toArray]; exact rfl)
                      case hq79 => exact fun _ _ _ h => h
                      case hw79 => rfl
                      case hy79 => (intro w hSw; (try dsimp only at hSw); go_simp; try exact rfl)
                      simp only [Act.put, List.setIfInBounds_toArray, List.set_cons_zero, List.set_cons_succ]
                      refine wpAnyH_take (i := 12) (oi := ?o80) (v := ?v80) ?hi80 (by kernel_rfl) (by kernel_rfl) (by kernel_rfl) ?hq80 (Or.inl ⟨?hw80, ?hy80⟩) (by assumption) ?r80
                      case hi80 => (simp only [List.getElem?_toArray]; exact rfl)
                      case hq80 => exact fun _ _ _ h => h
                      case hw80 => rfl
                      case hy80 => (intro w hSw; (try dsimp only at hSw); go_simp; try exact rfl)
                      simp only [Act.put, List.setIfInBounds_toArray, List.set_cons_zero, List.set_cons_succ]
                      refine wpAnyH_take (i := 13) (oi := ?o81) (v := ?v81) ?hi81 (by kernel_rfl) (by kernel_rfl) (by kernel_rfl) ?hq81 (Or.inl ⟨?hw81, ?hy81⟩) (by assumption) ?r81
                      case hi81 => (simp only [List.getElem?_toArray]; exact rfl)
                      case hq81 => exact fun _ _ _ h => h
                      case hw81 => rfl
                      case hy81 => (intro w hSw; (try dsimp only at hSw); go_simp; try exact rfl)
                      simp only [Act.put, List.setIfInBounds_toArray, List.set_cons_zero, List.set_cons_succ]
                      refine wpAnyH_take (i := 14) (oi := ?o82) (v := ?v82) ?hi82 (by kernel_rfl) (by kernel_rfl) (by kernel_rfl) ?hq82 (Or.inl ⟨?hw82, ?hy82⟩) (by assumption) ?r82
                      case hi82 => (simp only [List.getElem?_toArray]; exact rfl)
                      case hq82 => exact fun _ _ _ h => h
                      case hw82 => rfl
                      case hy82 => (intro w hSw; (try dsimp only at hSw); go_simp; try exact rfl)
                      simp only [Act.put, List.setIfInBounds_toArray, List.set_cons_zero, List.set_cons_succ]
                      refine wpAnyH_take (i := 15) (oi := ?o83) (v := ?v83) ?hi83 (by kernel_rfl) (by kernel_rfl) (by kernel_rfl) ?hq83 (Or.inl ⟨?hw83, ?hy83⟩) (by assumption) ?r83
                      case hi83 => (simp only [List.getElem?_toArray]; exact rfl)
                      case hq83 => exact fun _ _ _ h => h
                      case hw83 => rfl
                      case hy83 => (intro w hSw; (try dsimp only at hSw); go_simp; try exact rfl)
                      simp only [Act.put, List.setIfInBounds_toArray, List.set_cons_zero, List.set_cons_succ]
                      refine wpAnyH_take (i := 16) (oi := ?o84) (v := ?v84) ?hi84 (by kernel_rfl) (by kernel_rfl) (by kernel_rfl) ?hq84 (Or.inl ⟨?hw84, ?hy84⟩) (by assumption) ?r84
                      case hi84 => (simp only [List.getElem?_toArray]; exact rfl)
                      case hq84 => exact fun _ _ _ h => h
                      case hw84 => rfl
                      case hy84 => (intro w hSw; (try dsimp only at hSw); go_simp; try exact rfl)
                      simp only [Act.put, List.setIfInBounds_toArray, List.set_cons_zero, List.set_cons_succ]
                      refine wpAnyH_take (i := 17) (oi := ?o85) (v := ?v85) ?hi85 (by kernel_rfl) (by kernel_rfl) (by kernel_rfl) ?hq85 (Or.inl ⟨?hw85, ?hy85⟩) (by assumption) ?r85
                      case hi85 => (simp only [List.getElem?_toArray]; exact rfl)
                      case hq85 => exact fun _ _ _ h => h
                      case hw85 => rfl
                      case hy85 => (intro w hSw; (try dsimp only at hSw); go_simp; try exact rfl)
                      simp only [Act.put, List.setIfInBounds_toArray, List.set_cons_zero, List.set_cons_succ]
                      refine wpAnyH_take (i := 18) (oi := ?o86) (v := ?v86) ?hi86 (by kernel_rfl) (by kernel_rfl) (by kernel_rfl) ?hq86 (Or.inl ⟨?hw86, ?hy86⟩) (by assumption) ?r86
                      case hi86 => (simp only [List.getElem?_toArray]; exact rfl)
                      case hq86 => exact fun _ _ _ h => h
                      case hw86 => rfl
                      case hy86 => (intro w hSw; (try dsimp only at hSw); go_simp; try exact rfl)
                      simp only [Act.put, List.setIfInBounds_toArray, List.set_cons_zero, List.set_cons_succ]
                      refine wpAnyH_take (i := 19) (oi := ?o87) (v := ?v87) ?hi87 (by kernel_rfl) (by kernel_rfl) (by kernel_rfl) ?hq87 (Or.inl ⟨?hw87, ?hy87⟩) (by assumption) ?r87
                      case hi87 => (simp only [List.getElem?_toArray]; exact rfl)
                      case hq87 => exact fun _ _ _ h => h
                      case hw87 => rfl
                      case hy87 => (intro w hSw; (try dsimp only at hSw); go_simp; try exact rfl)
                      simp only [Act.put, List.setIfInBounds_toArray, List.set_cons_zero, List.set_cons_succ]
                      refine wpAnyH_take (i := 20) (oi := ?o88) (v := ?v88) ?hi88 (by kernel_rfl) (by kernel_rfl) (by kernel_rfl) ?hq88 (Or.inl ⟨?hw88, ?hy88⟩) (by assumption) ?r88
                      case hi88 => (simp only [List.getElem?_toArray]; exact rfl)
                      case hq88 => exact fun _ _ _ h => h
                      case hw88 => rfl
                      case hy88 => (intro w hSw; (try dsimp only at hSw); go_simp; try exact rfl)
                      simp only [Act.put, List.setIfInBounds_toArray, List.set_cons_zero, List.set_cons_succ]
                      refine wpAnyH_take (i := 21) (oi := ?o89) (v := ?v89) ?hi89 (by kernel_rfl) (by kernel_rfl) (by kernel_rfl) ?hq89 (Or.inl ⟨?hw89, ?hy89⟩) (by assumption) ?r89
                      case hi89 => (simp only [List.getElem?_toArray]; exact rfl)
                      case hq89 => exact fun _ _ _ h => h
                      case hw89 => rfl
                      case hy89 => (intro w hSw; (try dsimp only at hSw); go_simp; try exact rfl)
                      simp only [Act.put, List.setIfInBounds_toArray, List.set_cons_zero, List.set_cons_succ]
                      refine wpAnyH_take (i := 22) (oi := ?o90) (v := ?v90) ?hi90 (by kernel_rfl) (by kernel_rfl) (by kernel_rfl) ?hq90 (Or.inl ⟨?hw90, ?hy90⟩) (by assumption) ?r90
                      case hi90 => (simp only [List.getElem?_toArray]; exact rfl)
                      case hq90 => exact fun _ _ _ h => h
                      case hw90 => rfl
                      case hy90 => (intro w hSw; (try dsimp only at hSw); go_simp; try exact rfl)
                      simp only [Act.put, List.setIfInBounds_toArray, List.set_cons_zero, List.set_cons_succ]
                      refine wpAnyH_take (i := 23) (oi := ?o91) (v := ?v91) ?hi91 (by kernel_rfl) (by kernel_rfl) (by kernel_rfl) ?hq91 (Or.inl ⟨?hw91, ?hy91⟩) (by assumption) ?r91
                      case hi91 => (simp only [List.getElem?_toArray]; exact rfl)
                      case hq91 => exact fun _ _ _ h => h
                      case hw91 => rfl
                      case hy91 => (intro w hSw; (try dsimp only at hSw); go_simp; try exact rfl)
                      simp only [Act.put, List.setIfInBounds_toArray, List.set_cons_zero, List.set_cons_succ]
                      refine wpAnyH_take (i := 24) (oi := ?o92) (v := ?v92) ?hi92 (by kernel_rfl) (by kernel_rfl) (by kernel_rfl) ?hq92 (Or.inl ⟨?hw92, ?hy92⟩) (by assumption) ?r92
                      case hi92 => (simp only [List.getElem?_toArray]; exact rfl)
                      case hq92 => exact fun _ _ _ h => h
                      case hw92 => rfl
                      case hy92 => (intro w hSw; (try dsimp only at hSw); go_simp; try exact rfl)
                      simp only [Act.put, List.setIfInBounds_toArray, List.set_cons_zero, List.set_cons_succ]
                      refine wpAnyH_take (i := 25) (oi := ?o93) (v := ?v93) ?hi93 (by kernel_rfl) (by kernel_rfl) (by kernel_rfl) ?hq93 (Or.inl ⟨?hw93, ?hy93⟩) (by assumption) ?r93
                      case hi93 => (simp only [List.getElem?_toArray]; exact rfl)
                      case hq93 => exact fun _ _ _ h => h
                      case hw93 => rfl
                      case hy93 => (intro w hSw; (try dsimp only at hSw); go_simp; try exact rfl)
                      simp only [Act.put, List.setIfInBounds_toArray, List.set_cons_zero, List.set_cons_succ]
                      refine wpAnyH_take (i := 30) (oi := ?o94) (v := ?v94) ?hi94 (by kernel_rfl) (by kernel_rfl) (by kernel_rfl) ?hq94 (Or.inl ⟨?hw94, ?hy94⟩) (by assumption) ?r94
                      case hi94 => (simp only [List.getElem?_toArray]; exact rfl)
                      case hq94 => exact fun _ _ _ h => h
                      case hw94 => rfl
                      case hy94 => (intro w hSw; (try dsimp only at hSw); go_simp; try exact rfl)
                      simp only [Act.put, List.setIfInBounds_toArray, List.set_cons_zero, List.set_cons_succ]
                      refine wpAnyH_take (i := 31) (oi := ?o95) (v := ?v95) ?hi95 (by kernel_rfl) (by kernel_rfl) (by kernel_rfl) ?hq95 (Or.inl ⟨?hw95, ?hy95⟩) (by assumption) ?r95
                      case hi95 => (simp only [List.getElem?_toArray]; exact rfl)
                      case hq95 => exact fun _ _ _ h => h
                      case hw95 => rfl
                      case hy95 => (intro w hSw; (try dsimp only at hSw); go_simp; try exact rfl)
                      simp only [Act.put, List.setIfInBounds_toArray, List.set_cons_zero, List.set_cons_succ]
                      refine wpAnyH_ready (rs := [26]) (by kernel_rfl) (by simp) ?_
                      refine AllReadyH.cons (o := ?o105) ?hi105 (fun K hK => ?_) AllReadyH.nil
                      case hi105 => (simp only [List.getElem?_toArray]; exact rfl)
                      go_simp
                      go_at_call 13
                      refine (TX.out _).mono ?_
                      rintro e w13 ⟨rfl, bt⟩
                      replace NB := Kept.mk (NB.out.below bt NB.out.lt)
                      replace OB := Kept.mk (OB.out.below bt OB.out.lt)
                      replace C := api.below C bt
                      replace B := step_below B bt
                      clear bt hHeld
                      refine hK.out _ _ ⟨(op_cells OB.out).1, (op_cells OB.out).2.1, (op_cells OB.out).2.2.1, (op_cells OB.out).2.2.2.1, (op_cells OB.out).2.2.2.2.1, (op_cells OB.out).2.2.2.2.2.1, (op_cells OB.out).2.2.2.2.2.2.1, (op_cells OB.out).2.2.2.2.2.2.2.1, (op_cells OB.out).2.2.2.2.2.2.2.2.1, (op_cells OB.out).2.2.2.2.2.2.2.2.2.1, (op_cells OB.out).2.2.2.2.2.2.2.2.2.2, (ev_cells NB.out).1, (ev_cells NB.out).2.1, (ev_cells NB.out).2.2.1, (ev_cells NB.out).2.2.2.1, (ev_cells NB.out).2.2.2.2.1, (ev_cells NB.out).2.2.2.2.2.1, (ev_cells NB.out).2.2.2.2.2.2.1, (ev_cells NB.out).2.2.2.2.2.2.2⟩ (fun hHeld => ?_)
                      clear hK K
                      try simp only [Act.put, List.setIfInBounds_toArray, List.set_cons_zero, List.set_cons_succ]
                      obtain ⟨w14, c14, hcv, r14, b14⟩ := to_bytes w13 T BT.out
                      rw [LT.out] at hcv r14
                      have HH := Kept.mk (rhash_any _ 32 c14 T w14 r14 (by decide))
                      replace NB := Kept.mk (NB.out.below b14 NB.out.lt)
                      replace OB := Kept.mk (OB.out.below b14 OB.out.lt)
                      replace C := api.below C b14
                      replace B := step_below B b14
                      refine wpAnyH_ready (rs := [27]) (by kernel_rfl) (by simp) ?_
                      refine AllReadyH.cons (o := ?o106) ?hi106 (fun K hK => ?_) AllReadyH.nil
                      case hi106 => (simp only [List.getElem?_toArray]; exact rfl)
                      go_simp
                      clear r14 b14
                      refine hK.out _ _ ⟨(op_cells OB.out).1, (op_cells OB.out).2.1, (op_cells OB.out).2.2.1, (op_cells OB.out).2.2.2.1, (op_cells OB.out).2.2.2.2.1, (op_cells OB.out).2.2.2.2.2.1, (op_cells OB.out).2.2.2.2.2.2.1, (op_cells OB.out).2.2.2.2.2.2.2.1, (op_cells OB.out).2.2.2.2.2.2.2.2.1, (op_cells OB.out).2.2.2.2.2.2.2.2.2.1, (op_cells OB.out).2.2.2.2.2.2.2.2.2.2, (ev_cells NB.out).1, (ev_cells NB.out).2.1, (ev_cells NB.out).2.2.1, (ev_cells NB.out).2.2.2.1, (ev_cells NB.out).2.2.2.2.1, (ev_cells NB.out).2.2.2.2.2.1, (ev_cells NB.out).2.2.2.2.2.2.1, (ev_cells NB.out).2.2.2.2.2.2.2⟩ (fun hHeld => ?_)
                      clear hK K
                      try simp only [Act.put, List.setIfInBounds_toArray, List.set_cons_zero, List.set_cons_succ]
                      clear hcv
                      refine wpAnyH_ready (rs := [28]) (by kernel_rfl) (by simp) ?_
                      refine AllReadyH.cons (o := ?o107) ?hi107 (fun K hK => ?_) AllReadyH.nil
                      case hi107 => (simp only [List.getElem?_toArray]; exact rfl)
                      go_simp
                      go_at_call 15
                      refine HH.out.mono ?_
                      rintro e w15 ⟨M, mc, rfl, hM, m1, m2, rd, b15⟩
                      have hcv2 := conv_same (cap := mc) rd
                      replace NB := Kept.mk (NB.out.below b15 NB.out.lt)
                      replace OB := Kept.mk (OB.out.below b15 OB.out.lt)
                      replace C := api.below C b15
                      replace B := step_below B b15
                      clear b15 hHeld
                      refine hK.out _ _ ⟨(op_cells OB.out).1, (op_cells OB.out).2.1, (op_cells OB.out).2.2.1, (op_cells OB.out).2.2.2.1, (op_cells OB.out).2.2.2.2.1, (op_cells OB.out).2.2.2.2.2.1, (op_cells OB.out).2.2.2.2.2.2.1, (op_cells OB.out).2.2.2.2.2.2.2.1, (op_cells OB.out).2.2.2.2.2.2.2.2.1, (op_cells OB.out).2.2.2.2.2.2.2.2.2.1, (op_cells OB.out).2.2.2.2.2.2.2.2.2.2, (ev_cells NB.out).1, (ev_cells NB.out).2.1, (ev_cells NB.out).2.2.1, (ev_cells NB.out).2.2.2.1, (ev_cells NB.out).2.2.2.2.1, (ev_cells NB.out).2.2.2.2.2.1, (ev_cells NB.out).2.2.2.2.2.2.1, (ev_cells NB.out).2.2.2.2.2.2.2⟩ (fun hHeld => ?_)
                      clear hK K
                      try simp only [Act.put, List.setIfInBounds_toArray, List.set_cons_zero, List.set_cons_succ]
                      rw [HS.out] at hcv2
                      refine wpAnyH_ready (rs := [29]) (by kernel_rfl) (by simp) ?_
                      refine AllReadyH.cons (o := ?o108) ?hi108 (fun K hK => ?_) AllReadyH.nil
                      case hi108 => (simp only [List.getElem?_toArray]; exact rfl)
                      go_simp
                      refine hK.out _ _ ⟨(op_cells OB.out).1, (op_cells OB.out).2.1, (op_cells OB.out).2.2.1, (op_cells OB.out).2.2.2.1, (op_cells OB.out).2.2.2.2.1, (op_cells OB.out).2.2.2.2.2.1, (op_cells OB.out).2.2.2.2.2.2.1, (op_cells OB.out).2.2.2.2.2.2.2.1, (op_cells OB.out).2.2.2.2.2.2.2.2.1, (op_cells OB.out).2.2.2.2.2.2.2.2.2.1, (op_cells OB.out).2.2.2.2.2.2.2.2.2.2, (ev_cells NB.out).1, (ev_cells NB.out).2.1, (ev_cells NB.out).2.2.1, (ev_cells NB.out).2.2.2.1, (ev_cells NB.out).2.2.2.2.1, (ev_cells NB.out).2.2.2.2.2.1, (ev_cells NB.out).2.2.2.2.2.2.1, (ev_cells NB.out).2.2.2.2.2.2.2⟩ (fun hHeld => ?_)
                      clear hK K
                      try simp only [Act.put, List.setIfInBounds_toArray, List.set_cons_zero, List.set_cons_succ]
                      refine wpAnyH_take (i := 32) (oi := ?o96) (v := ?v96) ?hi96 (by kernel_rfl) (by kernel_rfl) (by kernel_rfl) ?hq96 (Or.inl ⟨?hw96, ?hy96⟩) (by assumption) ?r96
                      case hi96 => (simp only [List.getElem?_toArray]; exact rfl)
                      case hq96 => exact fun _ _ _ h => h
                      case hw96 => rfl
                      case hy96 => (intro w hSw; (try dsimp only at hSw); go_simp; try exact rfl)
                      simp only [Act.put, List.setIfInBounds_toArray, List.set_cons_zero, List.set_cons_succ]
                      refine wpAnyH_take (i := 33) (oi := ?o97) (v := ?v97) ?hi97 (by kernel_rfl) (by kernel_rfl) (by kernel_rfl) ?hq97 (Or.inl ⟨?hw97, ?hy97⟩) (by assumption) ?r97
                      case hi97 => (simp only [List.getElem?_toArray]; exact rfl)
                      case hq97 => exact fun _ _ _ h => h
                      case hw97 => rfl
                      case hy97 => (intro w hSw; (try dsimp only at hSw); go_simp; try exact rfl)
                      simp only [Act.put, List.setIfInBounds_toArray, List.set_cons_zero, List.set_cons_succ]
                      refine wpAnyH_take (i := 34) (oi := ?o98) (v := ?v98) ?hi98 (by kernel_rfl) (by kernel_rfl) (by kernel_rfl) ?hq98 (Or.inl ⟨?hw98, ?hy98⟩) (by assumption) ?r98
                      case hi98 => (simp only [List.getElem?_toArray]; exact rfl)
                      case hq98 => exact fun _ _ _ h => h
                      case hw98 => rfl
                      case hy98 => (intro w hSw; (try dsimp only at hSw); go_simp; try exact rfl)
                      simp only [Act.put, List.setIfInBounds_toArray, List.set_cons_zero, List.set_cons_succ]
                      refine wpAnyH_done (by kernel_rfl) ?_ _
                      refine NoPanic.normal ?_
                      clear hHeld
                      have T := TK
                      go_wp2
                      go_meet
                      case rel => exact ⟨F2, _, 0, rfl, C, I, B, L, T, OB, NB⟩
                · by_cases h2 : kd = 2
                  · subst h2
                    as_aux_lemma =>
                      rcases refund_out I.out.wb yw yk HG.out with ⟨e, he0, he⟩ | ⟨s2, he, h1, h2, h3, h4, h6⟩
                      · have HE := Kept.mk he
                        have he0' : (e == 0) = false := beq_eq_false_iff_ne.2 he0
                        have T : Kept (TailOk e ⟨ws, wd, wa, wn, wu, wt, wh, wc⟩ had (getB s yi)) := ⟨TailOk.same HG.out⟩
                        clear he he0
                        obtain ⟨o0, o1, o2, o3, o4, o5, o6, o7, o8, o9, o10⟩ := op_cells OB.out
                        obtain ⟨v0, v1, v2, v3, v4, v5, v6, v7⟩ := ev_cells NB.out
                        have KC := api.refund yw yi yk C.out
                        rw [HE.out] at KC
                        go_wp2_with fail
                        refine KC.mono ?_
                        rintro e w11 ⟨rfl, F2, hc, fp⟩
                        have LTW := OB.out.lt
                        have LTN := NB.out.lt
                        replace OB := Kept.mk (OB.out.bar fp.1 OF.out)
                        replace NB := Kept.mk (NB.out.bar fp.1 NF.out)
                        obtain ⟨B, L⟩ := step_fp B fp L
                        replace C : Kept (Ck w11 F2 x q (s)) := ⟨hc⟩
                        clear fp hc KC LTW LTN OF NF
                        clear o0 o1 o2 o3 o4 o5 o6 o7 o8 o9 o10
                        clear v0 v1 v2 v3 v4 v5 v6 v7
                        replace I := Kept.mk I.out.next
                        obtain ⟨o0, o1, o2, o3, o4, o5, o6, o7, o8, o9, o10⟩ := op_cells OB.out
                        obtain ⟨v0, v1, v2, v3, v4, v5, v6, v7⟩ := ev_cells NB.out
                        go_wp2
                        go_meet
                        case rel => exact ⟨F2, _, e, rfl, C, I, B, L, T, OB, NB⟩
                      · have HE := Kept.mk he
                        subst h1
                        dsimp only at h2 h3 h4
                        obtain rfl : wt = 0 := h2
                        obtain rfl : yw = ws := h3.symm
                        have T : Kept (TailOk 0 ⟨yw, wd, wa, wn, wu, 0, wh, wc⟩ true (getB s2 yi)) := ⟨.inr (.inr ⟨rfl, h6, rfl, rfl⟩)⟩
                        have I2 := I.out.refund yw yi yk
                        rw [he] at I2
                        have I3 := Kept.mk I2
                        clear he h6 I2
                        obtain ⟨o0, o1, o2, o3, o4, o5, o6, o7, o8, o9, o10⟩ := op_cells OB.out
                        obtain ⟨v0, v1, v2, v3, v4, v5, v6, v7⟩ := ev_cells NB.out
                        have KC := api.refund yw yi yk C.out
                        rw [HE.out] at KC
                        go_wp2_with fail
                        refine KC.mono ?_
                        rintro e w11 ⟨rfl, F2, hc, fp⟩
                        have LTW := OB.out.lt
                        have LTN := NB.out.lt
                        replace OB := Kept.mk (OB.out.bar fp.1 OF.out)
                        replace NB := Kept.mk (NB.out.bar fp.1 NF.out)
                        obtain ⟨B, L⟩ := step_fp B fp L
                        replace C : Kept (Ck w11 F2 x q (s2)) := ⟨hc⟩
                        clear fp hc KC LTW LTN OF NF
                        clear o0 o1 o2 o3 o4 o5 o6 o7 o8 o9 o10
                        clear v0 v1 v2 v3 v4 v5 v6 v7
                        replace I := I3
                        obtain ⟨o0, o1, o2, o3, o4, o5, o6, o7, o8, o9, o10⟩ := op_cells OB.out
                        obtain ⟨v0, v1, v2, v3, v4, v5, v6, v7⟩ := ev_cells NB.out
                        go_wp2
                        go_meet
                        case rel => exact ⟨F2, _, 0, rfl, C, I, B, L, T, OB, NB⟩
                  · have hd0 : (kd == 0) = false := beq_eq_false_iff_ne.2 h0
                    have hd1 : (kd == 1) = false := beq_eq_false_iff_ne.2 h1
                    have hd2 : (kd == 2) = false := beq_eq_false_iff_ne.2 h2
                    clear h0 h1 h2
                    replace I := Kept.mk I.out.next
                    have T : Kept (TailOk 0 ⟨ws, wd, wa, wn, wu, wt, wh, wc⟩ had (getB s yi)) := ⟨TailOk.same HG.out⟩
                    obtain ⟨o0, o1, o2, o3, o4, o5, o6, o7, o8, o9, o10⟩ := op_cells OB.out
                    go_wp2
                    go_meet
                    case rel => exact ⟨F, _, 0, rfl, C, I, B, L, T, OB, NB⟩
            case rest =>
              clear C I B L OB OF NB NF hl100
              obtain ⟨F, s, ev, rfl, C, I, B, L, T, OB, NB⟩ := hcut
              generalize wc = w16 at *
              obtain ⟨es, ed, ea, en, eu, et, eh, ec, hb, hG2⟩ : ∃ es ed ea en eu et eh ec hb, getB s yi = (⟨es, ed, ea, en, eu, et, eh, ec⟩, hb) := ⟨_, _, _, _, _, _, _, _, _, rfl⟩
              rw [hG2] at T
              have HG2 := Kept.mk hG2
              clear hG2 HG
              obtain ⟨o0, o1, o2, o3, o4, o5, o6, o7, o8, o9, o10⟩ := op_cells OB.out
              go_wp2_with fail
              refine (api.get yi C.out).mono ?_
              rintro e w17 ⟨hx, b3⟩
              rw [HG2.out] at hx
              replace hx : e = .returned (.tuple #[.agg #[.int .i64 es, .int .i64 ed, .int .i64 ea, .int .i64 en, .int .i64 eu, .int .i64 et, .string (strOfNums eh), .string (strOfNums ec)], .bool hb]) := hx
              subst hx
              replace NB := Kept.mk (NB.out.below b3 NB.out.lt)
              replace OB := Kept.mk (OB.out.below b3 OB.out.lt)
              replace C := api.below C b3
              replace B := step_below B b3
              clear b3
              clear o0 o1 o2 o3 o4 o5 o6 o7 o8 o9 o10
              obtain ⟨o0, o1, o2, o3, o4, o5, o6, o7, o8, o9, o10⟩ := op_cells OB.out
              go_upto_region 26 with fail
              have nb : Blk (w17.alloc (.cells #[.int .i64 es, .int .i64 ed, .int .i64 ea, .int .i64 en, .int .i64 eu, .int .i64 et, .string (strOfNums eh), .string (strOfNums ec)] 34)) w17.heap.size 34 #[.int .i64 es, .int .i64 ed, .int .i64 ea, .int .i64 en, .int .i64 eu, .int .i64 et, .string (strOfNums eh), .string (strOfNums ec)] := Blk.new _ _ _
              have b3 : Below w17.heap.size w17 (w17.alloc (.cells #[.int .i64 es, .int .i64 ed, .int .i64 ea, .int .i64 en, .int .i64 eu, .int .i64 et, .string (strOfNums eh), .string (strOfNums ec)] 34)) := (Below.refl _ _).alloc (Nat.le_refl _) _
              replace NB := Kept.mk (NB.out.below b3 NB.out.lt)
              replace OB := Kept.mk (OB.out.below b3 OB.out.lt)
              replace C := api.below C b3
              replace B := step_below B b3
              have MB := Kept.mk nb
              clear nb b3 HG2
              clear o0 o1 o2 o3 o4 o5 o6 o7 o8 o9 o10
              generalize (w17.alloc (.cells #[.int .i64 es, .int .i64 ed, .int .i64 ea, .int .i64 en, .int .i64 eu, .int .i64 et, .string (strOfNums eh), .string (strOfNums ec)] 34)) = w18 at *
              generalize w17.heap.size = M at *
              go_cut [196] from 168 to 237 (fun c wx => c = .bool false ∧ wx = w18)
              case first =>
                obtain ⟨o0, o1, o2, o3, o4, o5, o6, o7, o8, o9, o10⟩ := op_cells OB.out
                obtain ⟨v0, v1, v2, v3, v4, v5, v6, v7⟩ := ev_cells NB.out
                obtain ⟨m0, m1, m2, m3, m4, m5, m6, m7⟩ := ev_cells MB.out
                clear C I B L OB NB MB
                rcases T.out with h | ⟨h, h2⟩ | ⟨h, h2, h3, h4⟩
                · subst h
                  go_wp2
                  go_meet
                  case rel => exact ⟨rfl, rfl⟩
                · subst h
                  injection h2 with h2 h3
                  injection h2 with e0 e1 e2 e3 e4 e5 e6 e7
                  subst e0 e1 e2 e3 e4 e5 e6 e7 h3
                  clear T
                  by_cases hkd : 0 < kd
                  · skip
                    by_cases hev : ev = 0
                    · subst hev
                      by_cases hst : et = 0
                      · subst hst
                        go_wp2
                        go_meet
                        case rel => exact ⟨rfl, rfl⟩
                      · have hst' : (et == 0) = false := beq_eq_false_iff_ne.2 hst
                        go_wp2
                        go_meet
                        case rel => exact ⟨rfl, rfl⟩
                    · have hev' : (ev == 0) = false := beq_eq_false_iff_ne.2 hev
                      by_cases hst : et = 0
                      · subst hst
                        go_wp2
                        go_meet
                        case rel => exact ⟨rfl, rfl⟩
                      · have hst' : (et == 0) = false := beq_eq_false_iff_ne.2 hst
                        go_wp2
                        go_meet
                        case rel => exact ⟨rfl, rfl⟩
                  · skip
                    by_cases hst : et = 0
                    · subst hst
                      go_wp2
                      go_meet
                      case rel => exact ⟨rfl, rfl⟩
                    · have hst' : (et == 0) = false := beq_eq_false_iff_ne.2 hst
                      go_wp2
                      go_meet
                      case rel => exact ⟨rfl, rfl⟩
                · subst h
                  obtain rfl : hb = true := h2
                  subst h3
                  obtain rfl : wt = 0 := h4
                  clear T
                  by_cases hkd : 0 < kd
                  · skip
                    go_wp2
                    go_meet
                    case rel => exact ⟨rfl, rfl⟩
                  · skip
                    go_wp2
                    go_meet
                    case rel => exact ⟨rfl, rfl⟩
              case rest =>
                clear OB NB MB T
                obtain ⟨rfl, rfl⟩ := hcut
                go_wp2
                go_loopw [13] (fun i wr => ∃ a : Nat, a ≤ l0 ∧ i = .int .i64 a ∧ Kept (Ck wr F x q s) ∧ Kept (Below w.heap.size w wr)) (fun i _ => l0 - (Go.RowKit.intOf i).toNat)
                case atStart => exact ⟨0, by omega, rfl, C, B⟩
                case round =>
                  clear C B
                  obtain ⟨a, ha, rfl, C, B⟩ := hrel
                  have x1 : wr.cell? ⟨b0, o0, none⟩ = some (.slice A0 l0 c0) := by rw [B.out.cell (World.block_lt_of_cell? _ _ X0.out)]; exact X0.out
                  by_cases han : a < l0
                  · have han' : (a : Int) < l0 := by omega
                    have ha4 : (a : Int) < 4 := by omega
                    go_wp2
                    go_loop [14, 15] (fun t i => ∃ (k : Nat) (T : Int), k ≤ len ∧ i = .int .i64 k ∧ t = .int .i64 T ∧ Kept (tot (startV X) k a = T)) (fun _ i => len - (Go.RowKit.intOf i).toNat)
                    case atStart => exact ⟨0, 0, by omega, rfl, rfl, ⟨rfl⟩⟩
                    case round =>
                      clear x1
                      obtain ⟨k2, T, hk2, rfl, rfl, HT⟩ := hrel
                      by_cases hkl : k2 < len
                      · have hkl' : (k2 : Int) < len := by omega
                        obtain ⟨b9, o9, Ak, lk, ck, hA, xw, hlk, hck, rk⟩ := HR.out.row k2 hkl
                        injection hA with hA
                        injection hA with e1 e2
                        subst e1 e2
                        obtain rfl : lk = l0 := by rw [← rk.1, OK.out.2.2.1 k2 hkl, hL0.out]
                        have xk : wr.cell? ⟨b0, o0 + k2, none⟩ = some (.slice Ak lk ck) := by rw [B.out.cell (World.block_lt_of_cell? _ _ xw)]; exact xw
                        obtain ⟨Q, h3⟩ := rk.below B.out
                        obtain ⟨bk, ok, rfl, hcl⟩ := h3.resolve_left (by omega)
                        have xe := hcl a han
                        have hE := EACH.out a k2 han hkl
                        have HT2 : Kept (tot (startV X) (k2 + 1) a = T + at_ (X k2) a) := ⟨by rw [← HT.out]; rfl⟩
                        rw [HT.out] at hE
                        obtain ⟨q0, q1, q2⟩ := hE
                        clear xw Q h3 hcl rk
                        generalize at_ (X k2) a = z at *
                        go_wp2
                        go_round
                        case rel => exact ⟨k2 + 1, T + z, by omega, by go_num, rfl, HT2⟩
                        case measure => simp [Go.RowKit.intOf]; omega
                      · have hkl' : ¬ (k2 : Int) < len := by omega
                        obtain rfl : len = k2 := by omega
                        have KT := api.total a C.out I.out.wb
                        rw [I.out.tot, TOT.out a han, HT.out] at KT
                        have KT := Kept.mk KT
                        go_wp2_with fail
                        refine KT.out.mono ?_
                        rintro e w19 ⟨rfl, b9⟩
                        replace C := api.below C b9
                        replace B := step_below B b9
                        clear b9 KT
                        go_wp2
                        go_roundw
                        case rel => exact ⟨a + 1, by omega, by go_num, C, B⟩
                        case measure => simp [Go.RowKit.intOf]; omega
                  · have han' : ¬ (a : Int) < l0 := by omega
                    go_wp2
                    go_roundw
                    case rel => exact ⟨k + 1, F, s, by omega, by go_num, C, I, B, L⟩
                    case measure => simp [Go.RowKit.intOf]; omega
          · have hkn' : ¬ (k : Int) < len2 := by omega
            go_wp2_with fail
            refine (first_any api wr).mono ?_
            rintro e w3 ⟨rfl, b3⟩
            replace B := step_below B b3
            go_wp2
            go_ret
            exact ⟨rfl, B.out⟩
end
end Go.Proofs.Ytcebjpfmpagfjaa.Escrow
