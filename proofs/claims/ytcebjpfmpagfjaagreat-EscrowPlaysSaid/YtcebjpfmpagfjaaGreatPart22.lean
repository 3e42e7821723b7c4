/-
  Parts laid together: EscrowPlays.
-/
import Derived.Test.YtcebjpfmpagfjaaGreatPart19
import Derived.Test.YtcebjpfmpagfjaaGreatPart4
import Derived.Test.YtcebjpfmpagfjaaGreatPart21
import Derived.Test.YtcebjpfmpagfjaaGreatPart18
import Derived.Test.YtcebjpfmpagfjaaGreatPart13
import Derived.Test.YtcebjpfmpagfjaaGreatPart7
import Derived.Deep.CutBlock
import Derived.Deep.CutRange

namespace Go.Proofs.YtcebjpfmpagfjaaGreat.Escrow
open Go.RowKit Go.Proofs.YtcebjpfmpagfjaaGreat.Sha Go.Proofs.YtcebjpfmpagfjaaGreat.Purse Go.Proofs.YtcebjpfmpagfjaaGreat.Num

--PLAINHI
theorem rk_new {w : World} {G : List Nat} {q : Nat} {s : PS} (h : Pr w G q s) : Rk (w.alloc (.cells #[.pointer (some ⟨q, 0, none⟩), .slice none 0 0] 34)) (w.heap.size :: ([] ++ G)) w.heap.size q ⟨s, []⟩ :=
  ⟨G, .slice none 0 0, ⟨h.1, h.2.below ((Below.refl _ _).alloc (Nat.le_refl _) _)⟩, Blk.new _ _ _, El.nil _, fun g hg => by simp [Value.ownBlock] at hg, fun hm => Nat.lt_irrefl _ (h.2.lts _ hm), rfl⟩
theorem Rk.belowK {w w' : World} {F : List Nat} {x q : Nat} {b : BS} (h : Kept (Rk w F x q b)) (bb : Below w.heap.size w w') : Kept (Rk w' F x q b) := ⟨h.out.below bb⟩
theorem op_cells {w : World} {O : Nat} {kd yw yt ya yn yi yd yk : Int} {yh : List Int} {yb : Bool} {yz : Int} (h : Blk w O 40 #[.int .i64 kd, .int .i64 yw, .int .i64 yt, .int .i64 ya, .int .i64 yn, .int .i64 yi, .int .i64 yd, .int .i64 yk, .string (strOfNums yh), .bool yb, .int .u8 yz]) :
    w.cell? ⟨O, 0, none⟩ = some (.int .i64 kd) ∧ w.cell? ⟨O, 1, none⟩ = some (.int .i64 yw) ∧ w.cell? ⟨O, 2, none⟩ = some (.int .i64 yt) ∧ w.cell? ⟨O, 3, none⟩ = some (.int .i64 ya) ∧ w.cell? ⟨O, 4, none⟩ = some (.int .i64 yn) ∧ w.cell? ⟨O, 5, none⟩ = some (.int .i64 yi) ∧ w.cell? ⟨O, 6, none⟩ = some (.int .i64 yd) ∧ w.cell? ⟨O, 7, none⟩ = some (.int .i64 yk) ∧ w.cell? ⟨O, 8, none⟩ = some (.string (strOfNums yh)) ∧ w.cell? ⟨O, 9, none⟩ = some (.bool yb) ∧ w.cell? ⟨O, 10, none⟩ = some (.int .u8 yz) :=
  ⟨h.cell 0, h.cell 1, h.cell 2, h.cell 3, h.cell 4, h.cell 5, h.cell 6, h.cell 7, h.cell 8, h.cell 9, h.cell 10⟩
section
variable {Ck : World → List Nat → Nat → Nat → BS → Prop}
set_option maxRecDepth 100000 in
set_option maxHeartbeats 4000000 in
theorem plays_walk (api : EscrowApi Ck) (A : Option Addr) (len cap : Nat) (X : Nat → List Int) (A2 : Option Addr) (len2 cap2 : Nat) (Y : Nat → OE) (w : World) (hr : Rwi w A len X) (hlen : len ≤ 9223372036854775807) (ho : Ops w A2 len2 Y) : Calls Tryz.prog 3 #[.slice A len cap, .slice A2 len2 cap2] w (Holds w) := by
  have HR := Kept.mk hr
  have HO := Kept.mk ho
  clear hr ho
  go_enter Tryz.func3, Tryz.ntmps3
  go_wp2_with fail
  refine (first_any api w).mono ?_
  rintro e w1 ⟨rfl, b1⟩
  have B := Kept.mk b1
  have FW := Kept.mk (Purse.few_any A len cap X w1 (HR.out.below b1) hlen)
  have GW := Kept.mk (few_any A2 len2 cap2 Y w1 ((HO.out.imp id (fun ⟨b, o, h1, h2⟩ => ⟨b, o, h1, fun r hr => (h2 r hr).later B⟩)) : Ops w1 A2 len2 Y))
  clear b1
  go_wp2_with fail
  refine FW.out.mono ?_
  rintro e w2 ⟨t, rfl, ht, rfl⟩
  cases t with
  | false =>
    go_wp2_with fail
    refine (first_any api w1).mono ?_
    rintro e w3 ⟨rfl, b3⟩
    replace B := step_below B b3
    go_wp2
    go_ret
    exact ⟨rfl, B.out⟩
  | true =>
    clear ht FW
    go_wp2_with fail
    refine GW.out.mono ?_
    rintro e w2 ⟨t, rfl, ht, rfl⟩
    cases t with
    | false =>
      go_wp2_with fail
      refine (first_any api w1).mono ?_
      rintro e w3 ⟨rfl, b3⟩
      replace B := step_below B b3
      go_wp2
      go_ret
      exact ⟨rfl, B.out⟩
    | true =>
      have h200 := ht rfl
      have N1 := Kept.mk (rnew_any A len cap X w1 (HR.out.below B.out))
      clear ht GW
      go_wp2_with fail
      refine N1.out.mono ?_
      rintro e w2 (⟨bad, rfl, b2⟩ | ⟨ok, qb, G0, rfl, hp, fp⟩)
      · replace B := step_below B b2
        clear N1 b2
        go_wp2_with fail
        refine (first_any api w2).mono ?_
        rintro e w3 ⟨rfl, b3⟩
        replace B := step_below B b3
        go_wp2
        go_ret
        exact ⟨rfl, B.out⟩
      · obtain ⟨B, L⟩ := step_fp B fp (none_least _)
        have OK := Kept.mk ok
        have RN := rk_new hp
        have WF0 := Kept.mk hp.1
        have b3 : Below w2.heap.size w2 (w2.alloc (.cells #[.pointer (some ⟨qb, 0, none⟩), .slice none 0 0] 34)) := (Below.refl _ _).alloc (Nat.le_refl _) _
        have M : Kept (∀ k ∈ w2.heap.size :: ([] ++ G0), w.heap.size ≤ k) := ⟨fun k hk => by
          rcases List.mem_cons.1 hk with h | h
          · have := B.out.size; omega
          · exact L.out k (by simpa using h)⟩
        have D := Kept.mk RN
        replace B := step_below B b3
        clear N1 fp hp ok RN b3 L
        go_upto_region 9 with fail
        generalize (w2.heap.size :: ([] ++ G0)) = G at *
        generalize w2.heap.size = xb at *
        generalize (w2.alloc (.cells #[.pointer (some ⟨qb, 0, none⟩), .slice none 0 0] 34)) = w3 at *
        have N2 := Kept.mk (made_any api A len cap X w3 (HR.out.below B.out))
        go_wp2_with fail
        refine N2.out.mono ?_
        rintro e w4 (⟨bad, -⟩ | ⟨-, x, q, F, rfl, hc, fp⟩)
        · exact absurd OK.out bad
        · have DJ : Kept (Disj F G) := ⟨Disj.new (n := w3.heap.size) (fp.least (by simp) (Nat.le_refl _)) (fun g hg => D.out.lts g hg)⟩
          replace D : Kept (Rk w4 G xb qb ⟨newP len X, []⟩) := ⟨D.out.keep fp.1 (fun _ _ => by simp)⟩
          have C := Kept.mk hc
          obtain ⟨B, L⟩ := step_fp B fp (none_least _)
          have I : Kept (Inv ⟨newP len X, []⟩ 0 ⟨newP len X, []⟩) := ⟨⟨wb_of_wf WF0.out, Nat.le_refl _, fun _ => rfl⟩⟩
          clear N2 fp hc WF0
          go_wp2_with fail
          refine (api.purseOf C.out).mono ?_
          rintro e w5 ⟨rfl, d, rfl⟩
          have b5 := below_drewN (Below.refl w4.heap.size w4) d
          replace C := api.below C b5
          replace D := Rk.belowK D b5
          replace B := step_below B b5
          clear b5
          generalize w4.drewN d = w5 at *
          go_wp2
          generalize (⟨newP len X, []⟩ : BS) = s0 at *
          go_loopw [9] (fun i wr => ∃ (k : Nat) (F G : List Nat) (s : BS), k ≤ len2 ∧ i = .int .i64 k ∧ Kept (Ck wr F x q s) ∧ Kept (Rk wr G xb qb s) ∧ Kept (Inv s0 k s) ∧ Kept (Disj F G) ∧ Kept (Below w.heap.size w wr) ∧ Kept (∀ k ∈ F, w.heap.size ≤ k) ∧ Kept (∀ k ∈ G, w.heap.size ≤ k)) (fun i _ => len2 - (Go.RowKit.intOf i).toNat)
          case atStart => exact ⟨0, F, G, _, by omega, rfl, C, D, I, DJ, B, L, M⟩
          case round =>
            clear C D I DJ B L M
            obtain ⟨k, F, G, s, hk, rfl, C, D, I, DJ, B, L, M⟩ := hrel
            by_cases hkn : k < len2
            · have hkn' : (k : Int) < len2 := by omega
              obtain ⟨bb, oo, rfl, OP⟩ := Ops.at_ HO k hkn
              obtain ⟨OQ, OK2⟩ := OP.later B
              obtain ⟨kd, yw, yt, ya, yn, yi, yd, yk, yh, yb, yz, hY⟩ : ∃ kd yw yt ya yn yi yd yk yh yb yz, Y k = ⟨kd, yw, yt, ya, yn, yi, yd, yk, yh, yb, yz⟩ := ⟨_, _, _, _, _, _, _, _, _, _, _, rfl⟩
              rw [hY] at OQ OK2
              have OE2 := Kept.mk OK2
              have hl100 : s.l.length ≤ 100000 := by have := I.out.len; omega
              have y0 : wr.cell? ⟨bb, oo + k * 11, none⟩ = some (.int .i64 kd) := OQ 0 _ rfl
              have y1 : wr.cell? ⟨bb, oo + k * 11 + 1, none⟩ = some (.int .i64 yw) := OQ 1 _ rfl
              have y2 : wr.cell? ⟨bb, oo + k * 11 + 2, none⟩ = some (.int .i64 yt) := OQ 2 _ rfl
              have y3 : wr.cell? ⟨bb, oo + k * 11 + 3, none⟩ = some (.int .i64 ya) := OQ 3 _ rfl
              have y4 : wr.cell? ⟨bb, oo + k * 11 + 4, none⟩ = some (.int .i64 yn) := OQ 4 _ rfl
              have y5 : wr.cell? ⟨bb, oo + k * 11 + 5, none⟩ = some (.int .i64 yi) := OQ 5 _ rfl
              have y6 : wr.cell? ⟨bb, oo + k * 11 + 6, none⟩ = some (.int .i64 yd) := OQ 6 _ rfl
              have y7 : wr.cell? ⟨bb, oo + k * 11 + 7, none⟩ = some (.int .i64 yk) := OQ 7 _ rfl
              have y8 : wr.cell? ⟨bb, oo + k * 11 + 8, none⟩ = some (.string (strOfNums yh)) := OQ 8 _ rfl
              have y9 : wr.cell? ⟨bb, oo + k * 11 + 9, none⟩ = some (.bool yb) := OQ 9 _ rfl
              have y10 : wr.cell? ⟨bb, oo + k * 11 + 10, none⟩ = some (.int .u8 yz) := OQ 10 _ rfl
              clear OP OQ hY OK2
              go_upto_region 16 with (fail)
              have ob : Blk (wr.alloc (.cells #[.int .i64 kd, .int .i64 yw, .int .i64 yt, .int .i64 ya, .int .i64 yn, .int .i64 yi, .int .i64 yd, .int .i64 yk, .string (strOfNums yh), .bool yb, .int .u8 yz] 40)) wr.heap.size 40 #[.int .i64 kd, .int .i64 yw, .int .i64 yt, .int .i64 ya, .int .i64 yn, .int .i64 yi, .int .i64 yd, .int .i64 yk, .string (strOfNums yh), .bool yb, .int .u8 yz] := Blk.new _ _ _
              have OF : Kept (wr.heap.size ∉ F) := ⟨fun hm => by have := api.lts C.out _ hm; omega⟩
              have OG : Kept (wr.heap.size ∉ G) := ⟨fun hm => by have := D.out.lts _ hm; omega⟩
              have b4 : Below wr.heap.size wr (wr.alloc (.cells #[.int .i64 kd, .int .i64 yw, .int .i64 yt, .int .i64 ya, .int .i64 yn, .int .i64 yi, .int .i64 yd, .int .i64 yk, .string (strOfNums yh), .bool yb, .int .u8 yz] 40)) := (Below.refl _ _).alloc (Nat.le_refl _) _
              replace C := api.below C b4
              replace D := Rk.belowK D b4
              replace B := step_below B b4
              obtain ⟨O, hO⟩ : ∃ O, wr.heap.size = O := ⟨_, rfl⟩
              rw [hO] at ob OF OG ⊢
              have OB := Kept.mk ob
              clear ob b4 hO y0 y1 y2 y3 y4 y5 y6 y7 y8 y9 y10
              generalize wr.alloc (.cells #[.int .i64 kd, .int .i64 yw, .int .i64 yt, .int .i64 ya, .int .i64 yn, .int .i64 yi, .int .i64 yd, .int .i64 yk, .string (strOfNums yh), .bool yb, .int .u8 yz] 40) = w5 at *
              obtain ⟨o0, o1, o2, o3, o4, o5, o6, o7, o8, o9, o10⟩ := op_cells OB.out
              go_upto_block 2 with (fail)
              clear o0 o1 o2 o3 o4 o5 o6 o7 o8 o9 o10
              go_cut [11, 12, 13, 14, 15] from 61 to 238 (fun tb _ _ _ _ wx => ∃ (F G : List Nat) (s : BS), tb = .bool true ∧ Kept (Ck wx F x q s) ∧ Kept (Rk wx G xb qb s) ∧ Kept (Inv s0 (k + 1) s) ∧ Kept (Disj F G) ∧ Kept (Below w.heap.size w wx) ∧ Kept (∀ k ∈ F, w.heap.size ≤ k) ∧ Kept (∀ k ∈ G, w.heap.size ≤ k) ∧ Kept (Blk wx O 40 #[.int .i64 kd, .int .i64 yw, .int .i64 yt, .int .i64 ya, .int .i64 yn, .int .i64 yi, .int .i64 yd, .int .i64 yk, .string (strOfNums yh), .bool yb, .int .u8 yz]))
              case first =>
                by_cases h0 : kd = 0
                · subst h0
                  as_aux_lemma =>
                    have TX : Kept (∀ w, Calls Tryz.prog 11 #[.agg #[.int .i64 0, .int .i64 yw, .int .i64 yt, .int .i64 ya, .int .i64 yn, .int .i64 yi, .int .i64 yd, .int .i64 yk, .string (strOfNums yh), .bool yb, .int .u8 yz]] w (StrPost w (textE ⟨0, yw, yt, ya, yn, yi, yd, yk, yh, yb, yz⟩))) := ⟨fun w => text_any w _ OE2.out⟩
                    have BT := Kept.mk (textE_bytes OE2.out)
                    obtain ⟨T, hT⟩ : ∃ T, textE ⟨0, yw, yt, ya, yn, yi, yd, yk, yh, yb, yz⟩ = T := ⟨_, rfl⟩
                    rw [hT] at TX BT
                    clear hT OE2
                    obtain ⟨r1, r2, s2, hR⟩ : ∃ r1 r2 s2, lockB s yw yt ya yn T yd yk = ((r1, r2), s2) := ⟨_, _, _, rfl⟩
                    have I2 := I.out.lock yw yt ya yn BT.out yd yk
                    rw [hR] at I2
                    replace I := Kept.mk I2
                    have HR2 := Kept.mk hR
                    clear I2 hR
                    obtain ⟨o0, o1, o2, o3, o4, o5, o6, o7, o8, o9, o10⟩ := op_cells OB.out
                    go_upto_region 19 with (fail)
                    refine wp_region_noPanic ?_
                    refine wp_region_held_drew (S := fun w' : World => w'.cell? ⟨O, 0, none⟩ = some (.int .i64 0) ∧ w'.cell? ⟨O, 1, none⟩ = some (.int .i64 yw) ∧ w'.cell? ⟨O, 2, none⟩ = some (.int .i64 yt) ∧ w'.cell? ⟨O, 3, none⟩ = some (.int .i64 ya) ∧ w'.cell? ⟨O, 4, none⟩ = some (.int .i64 yn) ∧ w'.cell? ⟨O, 5, none⟩ = some (.int .i64 yi) ∧ w'.cell? ⟨O, 6, none⟩ = some (.int .i64 yd) ∧ w'.cell? ⟨O, 7, none⟩ = some (.int .i64 yk) ∧ w'.cell? ⟨O, 8, none⟩ = some (.string (strOfNums yh)) ∧ w'.cell? ⟨O, 9, none⟩ = some (.bool yb) ∧ w'.cell? ⟨O, 10, none⟩ = some (.int .u8 yz)) (by kernel_rfl) ⟨o0, o1, o2, o3, o4, o5, o6, o7, o8, o9, o10⟩ (fun hHeld => ?_)
                    have bd : Below w5.heap.size w5 w5.drew := (Below.refl _ _).drew
                    replace OB := Kept.mk (OB.out.below bd OB.out.lt)
                    replace C := api.below C bd
                    replace D := Rk.belowK D bd
                    replace B := step_below B bd
                    clear bd o0 o1 o2 o3 o4 o5 o6 o7 o8 o9 o10
                    generalize w5.drew = w6 at *
                    refine wpAnyH_take (i := 0) (oi := ?o1) (v := ?v1) ?hi1 (by kernel_rfl) (by kernel_rfl) (by kernel_rfl) ?hq1 (Or.inl ⟨?hw1, ?hy1⟩) (by assumption) ?r1
                    case hi1 => (simp only [List.getElem?_toArray]; exact rfl)
                    case hq1 => exact fun _ _ _ h => h
                    case hw1 => rfl
                    case hy1 => (intro w hSw; (try dsimp only at hSw); go_simp; try exact rfl)
                    simp only [Act.put, List.setIfInBounds_toArray, List.set_cons_zero, List.set_cons_succ]
                    refine wpAnyH_take (i := 1) (oi := ?o2) (v := ?v2) ?hi2 (by kernel_rfl) (by kernel_rfl) (by kernel_rfl) ?hq2 (Or.inl ⟨?hw2, ?hy2⟩) (by assumption) ?r2
                    case hi2 => (simp only [List.getElem?_toArray]; exact rfl)
                    case hq2 => exact fun _ _ _ h => h
                    case hw2 => rfl
                    case hy2 => (intro w hSw; (try dsimp only at hSw); go_simp; try exact rfl)
                    simp only [Act.put, List.setIfInBounds_toArray, List.set_cons_zero, List.set_cons_succ]
                    refine wpAnyH_take (i := 2) (oi := ?o3) (v := ?v3) ?hi3 (by kernel_rfl) (by kernel_rfl) (by kernel_rfl) ?hq3 (Or.inl ⟨?hw3, ?hy3⟩) (by assumption) ?r3
                    case hi3 => (simp only [List.getElem?_toArray]; exact rfl)
                    case hq3 => exact fun _ _ _ h => h
                    case hw3 => rfl
                    case hy3 => (intro w hSw; (try dsimp only at hSw); go_simp; try exact rfl)
                    simp only [Act.put, List.setIfInBounds_toArray, List.set_cons_zero, List.set_cons_succ]
                    refine wpAnyH_take (i := 3) (oi := ?o4) (v := ?v4) ?hi4 (by kernel_rfl) (by kernel_rfl) (by kernel_rfl) ?hq4 (Or.inl ⟨?hw4, ?hy4⟩) (by assumption) ?r4
                    case hi4 => (simp only [List.getElem?_toArray]; exact rfl)
                    case hq4 => exact fun _ _ _ h => h
                    case hw4 => rfl
                    case hy4 => (intro w hSw; (try dsimp only at hSw); go_simp; try exact rfl)
                    simp only [Act.put, List.setIfInBounds_toArray, List.set_cons_zero, List.set_cons_succ]
                    refine wpAnyH_take (i := 4) (oi := ?o5) (v := ?v5) ?hi5 (by kernel_rfl) (by kernel_rfl) (by kernel_rfl) ?hq5 (Or.inl ⟨?hw5, ?hy5⟩) (by assumption) ?r5
                    case hi5 => (simp only [List.getElem?_toArray]; exact rfl)
                    case hq5 => exact fun _ _ _ h => h
                    case hw5 => rfl
                    case hy5 => (intro w hSw; (try dsimp only at hSw); go_simp; try exact rfl)
                    simp only [Act.put, List.setIfInBounds_toArray, List.set_cons_zero, List.set_cons_succ]
                    refine wpAnyH_take (i := 5) (oi := ?o6) (v := ?v6) ?hi6 (by kernel_rfl) (by kernel_rfl) (by kernel_rfl) ?hq6 (Or.inl ⟨?hw6, ?hy6⟩) (by assumption) ?r6
                    case hi6 => (simp only [List.getElem?_toArray]; exact rfl)
                    case hq6 => exact fun _ _ _ h => h
                    case hw6 => rfl
                    case hy6 => (intro w hSw; (try dsimp only at hSw); go_simp; try exact rfl)
                    simp only [Act.put, List.setIfInBounds_toArray, List.set_cons_zero, List.set_cons_succ]
                    refine wpAnyH_take (i := 6) (oi := ?o7) (v := ?v7) ?hi7 (by kernel_rfl) (by kernel_rfl) (by kernel_rfl) ?hq7 (Or.inl ⟨?hw7, ?hy7⟩) (by assumption) ?r7
                    case hi7 => (simp only [List.getElem?_toArray]; exact rfl)
                    case hq7 => exact fun _ _ _ h => h
                    case hw7 => rfl
                    case hy7 => (intro w hSw; (try dsimp only at hSw); go_simp; try exact rfl)
                    simp only [Act.put, List.setIfInBounds_toArray, List.set_cons_zero, List.set_cons_succ]
                    refine wpAnyH_take (i := 7) (oi := ?o8) (v := ?v8) ?hi8 (by kernel_rfl) (by kernel_rfl) (by kernel_rfl) ?hq8 (Or.inl ⟨?hw8, ?hy8⟩) (by assumption) ?r8
                    case hi8 => (simp only [List.getElem?_toArray]; exact rfl)
                    case hq8 => exact fun _ _ _ h => h
                    case hw8 => rfl
                    case hy8 => (intro w hSw; (try dsimp only at hSw); go_simp; try exact rfl)
                    simp only [Act.put, List.setIfInBounds_toArray, List.set_cons_zero, List.set_cons_succ]
                    refine wpAnyH_take (i := 8) (oi := ?o9) (v := ?v9) ?hi9 (by kernel_rfl) (by kernel_rfl) (by kernel_rfl) ?hq9 (Or.inl ⟨?hw9, ?hy9⟩) (by assumption) ?r9
                    case hi9 => (simp only [List.getElem?_toArray]; exact rfl)
                    case hq9 => exact fun _ _ _ h => h
                    case hw9 => rfl
                    case hy9 => (intro w hSw; (try dsimp only at hSw); go_simp; try exact rfl)
                    simp only [Act.put, List.setIfInBounds_toArray, List.set_cons_zero, List.set_cons_succ]
                    refine wpAnyH_take (i := 9) (oi := ?o10) (v := ?v10) ?hi10 (by kernel_rfl) (by kernel_rfl) (by kernel_rfl) ?hq10 (Or.inl ⟨?hw10, ?hy10⟩) (by assumption) ?r10
                    case hi10 => (simp only [List.getElem?_toArray]; exact rfl)
                    case hq10 => exact fun _ _ _ h => h
                    case hw10 => rfl
                    case hy10 => (intro w hSw; (try dsimp only at hSw); go_simp; try exact rfl)
                    simp only [Act.put, List.setIfInBounds_toArray, List.set_cons_zero, List.set_cons_succ]
                    refine wpAnyH_take (i := 11) (oi := ?o11) (v := ?v11) ?hi11 (by kernel_rfl) (by kernel_rfl) (by kernel_rfl) ?hq11 (Or.inl ⟨?hw11, ?hy11⟩) (by assumption) ?r11
                    case hi11 => (simp only [List.getElem?_toArray]; exact rfl)
                    case hq11 => exact fun _ _ _ h => h
                    case hw11 => rfl
                    case hy11 => (intro w hSw; (try dsimp only at hSw); go_simp; try exact rfl)
                    simp only [Act.put, List.setIfInBounds_toArray, List.set_cons_zero, List.set_cons_succ]
                    refine wpAnyH_take (i := 12) (oi := ?o12) (v := ?v12) ?hi12 (by kernel_rfl) (by kernel_rfl) (by kernel_rfl) ?hq12 (Or.inl ⟨?hw12, ?hy12⟩) (by assumption) ?r12
                    case hi12 => (simp only [List.getElem?_toArray]; exact rfl)
                    case hq12 => exact fun _ _ _ h => h
                    case hw12 => rfl
                    case hy12 => (intro w hSw; (try dsimp only at hSw); go_simp; try exact rfl)
                    simp only [Act.put, List.setIfInBounds_toArray, List.set_cons_zero, List.set_cons_succ]
                    refine wpAnyH_take (i := 13) (oi := ?o13) (v := ?v13) ?hi13 (by kernel_rfl) (by kernel_rfl) (by kernel_rfl) ?hq13 (Or.inl ⟨?hw13, ?hy13⟩) (by assumption) ?r13
                    case hi13 => (simp only [List.getElem?_toArray]; exact rfl)
                    case hq13 => exact fun _ _ _ h => h
                    case hw13 => rfl
                    case hy13 => (intro w hSw; (try dsimp only at hSw); go_simp; try exact rfl)
                    simp only [Act.put, List.setIfInBounds_toArray, List.set_cons_zero, List.set_cons_succ]
                    refine wpAnyH_take (i := 14) (oi := ?o14) (v := ?v14) ?hi14 (by kernel_rfl) (by kernel_rfl) (by kernel_rfl) ?hq14 (Or.inl ⟨?hw14, ?hy14⟩) (by assumption) ?r14
                    case hi14 => (simp only [List.getElem?_toArray]; exact rfl)
                    case hq14 => exact fun _ _ _ h => h
                    case hw14 => rfl
                    case hy14 => (intro w hSw; (try dsimp only at hSw); go_simp; try exact rfl)
                    simp only [Act.put, List.setIfInBounds_toArray, List.set_cons_zero, List.set_cons_succ]
                    refine wpAnyH_ready (rs := [10]) (by kernel_rfl) (by simp) ?_
                    refine AllReadyH.cons (o := ?o134) ?hi134 (fun K hK => ?_) AllReadyH.nil
                    case hi134 => (simp only [List.getElem?_toArray]; exact rfl)
                    go_simp
                    go_at_call 11
                    refine (TX.out _).mono ?_
                    rintro e w7 ⟨rfl, bt⟩
                    replace OB := Kept.mk (OB.out.below bt OB.out.lt)
                    replace C := api.below C bt
                    replace D := Rk.belowK D bt
                    replace B := step_below B bt
                    clear bt
                    refine hK.out _ _ (op_cells OB.out) (fun _ => ?_)
                    clear hK K
                    try simp only [Act.put, List.setIfInBounds_toArray, List.set_cons_zero, List.set_cons_succ]
                    have KC := api.lock yw yt ya yn T yd yk C.out BT.out hl100
                    rw [HR2.out] at KC
                    refine wpAnyH_ready (rs := [15]) (by kernel_rfl) (by simp) ?_
                    refine AllReadyH.cons (o := ?o135) ?hi135 (fun K hK => ?_) AllReadyH.nil
                    case hi135 => (simp only [List.getElem?_toArray]; exact rfl)
                    go_simp
                    go_at_call 10
                    refine KC.mono ?_
                    rintro e w8 ⟨rfl, F2, hc, fp⟩
                    have LTW := OB.out.lt
                    have DLT := Kept.mk D.out.lts
                    replace OB := Kept.mk (OB.out.bar fp.1 OF.out)
                    replace D := Kept.mk (D.out.keep fp.1 DJ.out.symm)
                    replace DJ := Kept.mk (DJ.out.step fp DLT.out)
                    replace OF : Kept (O ∉ F2) := ⟨fun hm => by
                      rcases fp.2 O hm with h1 | h1
                      · exact OF.out h1
                      · omega⟩
                    obtain ⟨B, L⟩ := step_fp B fp L
                    replace C : Kept (Ck w8 F2 x q s2) := ⟨hc⟩
                    clear fp hc KC LTW DLT
                    refine hK.out _ _ (op_cells OB.out) (fun _ => ?_)
                    clear hK K
                    try dsimp only
                    refine wpAnyH_take (i := 16) (oi := ?o15) (v := ?v15) ?hi15 (by kernel_rfl) (by kernel_rfl) (by kernel_rfl) ?hq15 (Or.inl ⟨?hw15, ?hy15⟩) (by assumption) ?r15
                    case hi15 => (simp only [List.getElem?_toArray]; exact rfl)
                    case hq15 => exact fun _ _ _ h => h
                    case hw15 => rfl
                    case hy15 => (intro w hSw; (try dsimp only at hSw); go_simp; try exact rfl)
                    simp only [Act.put, List.setIfInBounds_toArray, List.set_cons_zero, List.set_cons_succ]
                    refine wpAnyH_take (i := 17) (oi := ?o16) (v := ?v16) ?hi16 (by kernel_rfl) (by kernel_rfl) (by kernel_rfl) ?hq16 (Or.inl ⟨?hw16, ?hy16⟩) (by assumption) ?r16
                    case hi16 => (simp only [List.getElem?_toArray]; exact rfl)
                    case hq16 => exact fun _ _ _ h => h
                    case hw16 => rfl
                    case hy16 => (intro w hSw; (try dsimp only at hSw); go_simp; try exact rfl)
                    simp only [Act.put, List.setIfInBounds_toArray, List.set_cons_zero, List.set_cons_succ]
                    refine wpAnyH_take (i := 18) (oi := ?o17) (v := ?v17) ?hi17 (by kernel_rfl) (by kernel_rfl) (by kernel_rfl) ?hq17 (Or.inl ⟨?hw17, ?hy17⟩) (by assumption) ?r17
                    case hi17 => (simp only [List.getElem?_toArray]; exact rfl)
                    case hq17 => exact fun _ _ _ h => h
                    case hw17 => rfl
                    case hy17 => (intro w hSw; (try dsimp only at hSw); go_simp; try exact rfl)
                    simp only [Act.put, List.setIfInBounds_toArray, List.set_cons_zero, List.set_cons_succ]
                    refine wpAnyH_take (i := 19) (oi := ?o18) (v := ?v18) ?hi18 (by kernel_rfl) (by kernel_rfl) (by kernel_rfl) ?hq18 (Or.inl ⟨?hw18, ?hy18⟩) (by assumption) ?r18
                    case hi18 => (simp only [List.getElem?_toArray]; exact rfl)
                    case hq18 => exact fun _ _ _ h => h
                    case hw18 => rfl
                    case hy18 => (intro w hSw; (try dsimp only at hSw); go_simp; try exact rfl)
                    simp only [Act.put, List.setIfInBounds_toArray, List.set_cons_zero, List.set_cons_succ]
                    refine wpAnyH_take (i := 20) (oi := ?o19) (v := ?v19) ?hi19 (by kernel_rfl) (by kernel_rfl) (by kernel_rfl) ?hq19 (Or.inl ⟨?hw19, ?hy19⟩) (by assumption) ?r19
                    case hi19 => (simp only [List.getElem?_toArray]; exact rfl)
                    case hq19 => exact fun _ _ _ h => h
                    case hw19 => rfl
                    case hy19 => (intro w hSw; (try dsimp only at hSw); go_simp; try exact rfl)
                    simp only [Act.put, List.setIfInBounds_toArray, List.set_cons_zero, List.set_cons_succ]
                    refine wpAnyH_done (by kernel_rfl) ?_ _
                    refine NoPanic.normal ?_
                    obtain ⟨o0, o1, o2, o3, o4, o5, o6, o7, o8, o9, o10⟩ := op_cells OB.out
                    go_upto_region 20 with (fail)
                    refine wp_region_noPanic ?_
                    refine wp_region_held_drew (S := fun w' : World => w'.cell? ⟨O, 0, none⟩ = some (.int .i64 0) ∧ w'.cell? ⟨O, 1, none⟩ = some (.int .i64 yw) ∧ w'.cell? ⟨O, 2, none⟩ = some (.int .i64 yt) ∧ w'.cell? ⟨O, 3, none⟩ = some (.int .i64 ya) ∧ w'.cell? ⟨O, 4, none⟩ = some (.int .i64 yn) ∧ w'.cell? ⟨O, 5, none⟩ = some (.int .i64 yi) ∧ w'.cell? ⟨O, 6, none⟩ = some (.int .i64 yd) ∧ w'.cell? ⟨O, 7, none⟩ = some (.int .i64 yk) ∧ w'.cell? ⟨O, 8, none⟩ = some (.string (strOfNums yh)) ∧ w'.cell? ⟨O, 9, none⟩ = some (.bool yb) ∧ w'.cell? ⟨O, 10, none⟩ = some (.int .u8 yz)) (by kernel_rfl) ⟨o0, o1, o2, o3, o4, o5, o6, o7, o8, o9, o10⟩ (fun hHeld => ?_)
                    have bd : Below w8.heap.size w8 w8.drew := (Below.refl _ _).drew
                    replace OB := Kept.mk (OB.out.below bd OB.out.lt)
                    replace C := api.below C bd
                    replace D := Rk.belowK D bd
                    replace B := step_below B bd
                    clear bd o0 o1 o2 o3 o4 o5 o6 o7 o8 o9 o10
                    generalize w8.drew = w9 at *
                    refine wpAnyH_take (i := 0) (oi := ?o20) (v := ?v20) ?hi20 (by kernel_rfl) (by kernel_rfl) (by kernel_rfl) ?hq20 (Or.inl ⟨?hw20, ?hy20⟩) (by assumption) ?r20
                    case hi20 => (simp only [List.getElem?_toArray]; exact rfl)
                    case hq20 => exact fun _ _ _ h => h
                    case hw20 => rfl
                    case hy20 => (intro w hSw; (try dsimp only at hSw); go_simp; try exact rfl)
                    simp only [Act.put, List.setIfInBounds_toArray, List.set_cons_zero, List.set_cons_succ]
                    refine wpAnyH_take (i := 1) (oi := ?o21) (v := ?v21) ?hi21 (by kernel_rfl) (by kernel_rfl) (by kernel_rfl) ?hq21 (Or.inl ⟨?hw21, ?hy21⟩) (by assumption) ?r21
                    case hi21 => (simp only [List.getElem?_toArray]; exact rfl)
                    case hq21 => exact fun _ _ _ h => h
                    case hw21 => rfl
                    case hy21 => (intro w hSw; (try dsimp only at hSw); go_simp; try exact rfl)
                    simp only [Act.put, List.setIfInBounds_toArray, List.set_cons_zero, List.set_cons_succ]
                    refine wpAnyH_take (i := 2) (oi := ?o22) (v := ?v22) ?hi22 (by kernel_rfl) (by kernel_rfl) (by kernel_rfl) ?hq22 (Or.inl ⟨?hw22, ?hy22⟩) (by assumption) ?r22
                    case hi22 => (simp only [List.getElem?_toArray]; exact rfl)
                    case hq22 => exact fun _ _ _ h => h
                    case hw22 => rfl
                    case hy22 => (intro w hSw; (try dsimp only at hSw); go_simp; try exact rfl)
                    simp only [Act.put, List.setIfInBounds_toArray, List.set_cons_zero, List.set_cons_succ]
                    refine wpAnyH_take (i := 3) (oi := ?o23) (v := ?v23) ?hi23 (by kernel_rfl) (by kernel_rfl) (by kernel_rfl) ?hq23 (Or.inl ⟨?hw23, ?hy23⟩) (by assumption) ?r23
                    case hi23 => (simp only [List.getElem?_toArray]; exact rfl)
                    case hq23 => exact fun _ _ _ h => h
                    case hw23 => rfl
                    case hy23 => (intro w hSw; (try dsimp only at hSw); go_simp; try exact rfl)
                    simp only [Act.put, List.setIfInBounds_toArray, List.set_cons_zero, List.set_cons_succ]
                    refine wpAnyH_take (i := 4) (oi := ?o24) (v := ?v24) ?hi24 (by kernel_rfl) (by kernel_rfl) (by kernel_rfl) ?hq24 (Or.inl ⟨?hw24, ?hy24⟩) (by assumption) ?r24
                    case hi24 => (simp only [List.getElem?_toArray]; exact rfl)
                    case hq24 => exact fun _ _ _ h => h
                    case hw24 => rfl
                    case hy24 => (intro w hSw; (try dsimp only at hSw); go_simp; try exact rfl)
                    simp only [Act.put, List.setIfInBounds_toArray, List.set_cons_zero, List.set_cons_succ]
                    refine wpAnyH_take (i := 5) (oi := ?o25) (v := ?v25) ?hi25 (by kernel_rfl) (by kernel_rfl) (by kernel_rfl) ?hq25 (Or.inl ⟨?hw25, ?hy25⟩) (by assumption) ?r25
                    case hi25 => (simp only [List.getElem?_toArray]; exact rfl)
                    case hq25 => exact fun _ _ _ h => h
                    case hw25 => rfl
                    case hy25 => (intro w hSw; (try dsimp only at hSw); go_simp; try exact rfl)
                    simp only [Act.put, List.setIfInBounds_toArray, List.set_cons_zero, List.set_cons_succ]
                    refine wpAnyH_take (i := 6) (oi := ?o26) (v := ?v26) ?hi26 (by kernel_rfl) (by kernel_rfl) (by kernel_rfl) ?hq26 (Or.inl ⟨?hw26, ?hy26⟩) (by assumption) ?r26
                    case hi26 => (simp only [List.getElem?_toArray]; exact rfl)
                    case hq26 => exact fun _ _ _ h => h
                    case hw26 => rfl
                    case hy26 => (intro w hSw; (try dsimp only at hSw); go_simp; try exact rfl)
                    simp only [Act.put, List.setIfInBounds_toArray, List.set_cons_zero, List.set_cons_succ]
                    refine wpAnyH_take (i := 7) (oi := ?o27) (v := ?v27) ?hi27 (by kernel_rfl) (by kernel_rfl) (by kernel_rfl) ?hq27 (Or.inl ⟨?hw27, ?hy27⟩) (by assumption) ?r27
                    case hi27 => (simp only [List.getElem?_toArray]; exact rfl)
                    case hq27 => exact fun _ _ _ h => h
                    case hw27 => rfl
                    case hy27 => (intro w hSw; (try dsimp only at hSw); go_simp; try exact rfl)
                    simp only [Act.put, List.setIfInBounds_toArray, List.set_cons_zero, List.set_cons_succ]
                    refine wpAnyH_take (i := 8) (oi := ?o28) (v := ?v28) ?hi28 (by kernel_rfl) (by kernel_rfl) (by kernel_rfl) ?hq28 (Or.inl ⟨?hw28, ?hy28⟩) (by assumption) ?r28
                    case hi28 => (simp only [List.getElem?_toArray]; exact rfl)
                    case hq28 => exact fun _ _ _ h => h
                    case hw28 => rfl
                    case hy28 => (intro w hSw; (try dsimp only at hSw); go_simp; try exact rfl)
                    simp only [Act.put, List.setIfInBounds_toArray, List.set_cons_zero, List.set_cons_succ]
                    refine wpAnyH_take (i := 9) (oi := ?o29) (v := ?v29) ?hi29 (by kernel_rfl) (by kernel_rfl) (by kernel_rfl) ?hq29 (Or.inl ⟨?hw29, ?hy29⟩) (by assumption) ?r29
                    case hi29 => (simp only [List.getElem?_toArray]; exact rfl)
                    case hq29 => exact fun _ _ _ h => h
                    case hw29 => rfl
                    case hy29 => (intro w hSw; (try dsimp only at hSw); go_simp; try exact rfl)
                    simp only [Act.put, List.setIfInBounds_toArray, List.set_cons_zero, List.set_cons_succ]
                    refine wpAnyH_take (i := 11) (oi := ?o30) (v := ?v30) ?hi30 (by kernel_rfl) (by kernel_rfl) (by kernel_rfl) ?hq30 (Or.inl ⟨?hw30, ?hy30⟩) (by assumption) ?r30
                    case hi30 => (simp only [List.getElem?_toArray]; exact rfl)
                    case hq30 => exact fun _ _ _ h => h
                    case hw30 => rfl
                    case hy30 => (intro w hSw; (try dsimp only at hSw); go_simp; try exact rfl)
                    simp only [Act.put, List.setIfInBounds_toArray, List.set_cons_zero, List.set_cons_succ]
                    refine wpAnyH_take (i := 12) (oi := ?o31) (v := ?v31) ?hi31 (by kernel_rfl) (by kernel_rfl) (by kernel_rfl) ?hq31 (Or.inl ⟨?hw31, ?hy31⟩) (by assumption) ?r31
                    case hi31 => (simp only [List.getElem?_toArray]; exact rfl)
                    case hq31 => exact fun _ _ _ h => h
                    case hw31 => rfl
                    case hy31 => (intro w hSw; (try dsimp only at hSw); go_simp; try exact rfl)
                    simp only [Act.put, List.setIfInBounds_toArray, List.set_cons_zero, List.set_cons_succ]
                    refine wpAnyH_take (i := 13) (oi := ?o32) (v := ?v32) ?hi32 (by kernel_rfl) (by kernel_rfl) (by kernel_rfl) ?hq32 (Or.inl ⟨?hw32, ?hy32⟩) (by assumption) ?r32
                    case hi32 => (simp only [List.getElem?_toArray]; exact rfl)
                    case hq32 => exact fun _ _ _ h => h
                    case hw32 => rfl
                    case hy32 => (intro w hSw; (try dsimp only at hSw); go_simp; try exact rfl)
                    simp only [Act.put, List.setIfInBounds_toArray, List.set_cons_zero, List.set_cons_succ]
                    refine wpAnyH_take (i := 14) (oi := ?o33) (v := ?v33) ?hi33 (by kernel_rfl) (by kernel_rfl) (by kernel_rfl) ?hq33 (Or.inl ⟨?hw33, ?hy33⟩) (by assumption) ?r33
                    case hi33 => (simp only [List.getElem?_toArray]; exact rfl)
                    case hq33 => exact fun _ _ _ h => h
                    case hw33 => rfl
                    case hy33 => (intro w hSw; (try dsimp only at hSw); go_simp; try exact rfl)
                    simp only [Act.put, List.setIfInBounds_toArray, List.set_cons_zero, List.set_cons_succ]
                    refine wpAnyH_ready (rs := [10]) (by kernel_rfl) (by simp) ?_
                    refine AllReadyH.cons (o := ?o136) ?hi136 (fun K hK => ?_) AllReadyH.nil
                    case hi136 => (simp only [List.getElem?_toArray]; exact rfl)
                    go_simp
                    go_at_call 11
                    refine (TX.out _).mono ?_
                    rintro e w10 ⟨rfl, bt⟩
                    replace OB := Kept.mk (OB.out.below bt OB.out.lt)
                    replace C := api.below C bt
                    replace D := Rk.belowK D bt
                    replace B := step_below B bt
                    clear bt
                    refine hK.out _ _ (op_cells OB.out) (fun _ => ?_)
                    clear hK K
                    try simp only [Act.put, List.setIfInBounds_toArray, List.set_cons_zero, List.set_cons_succ]
                    have KD := rlock_any D.out yw yt ya yn T yd yk hl100
                    rw [HR2.out] at KD
                    refine wpAnyH_ready (rs := [15]) (by kernel_rfl) (by simp) ?_
                    refine AllReadyH.cons (o := ?o137) ?hi137 (fun K hK => ?_) AllReadyH.nil
                    case hi137 => (simp only [List.getElem?_toArray]; exact rfl)
                    go_simp
                    go_at_call 12
                    refine KD.mono ?_
                    rintro e w11 ⟨rfl, G2, hc, fp⟩
                    have LTW := OB.out.lt
                    have CLT := Kept.mk (api.lts C.out)
                    replace OB := Kept.mk (OB.out.bar fp.1 OG.out)
                    replace C := Kept.mk (api.keep C.out fp.1 DJ.out)
                    replace DJ := Kept.mk ((DJ.out.symm.step fp CLT.out).symm)
                    replace OG : Kept (O ∉ G2) := ⟨fun hm => by
                      rcases fp.2 O hm with h1 | h1
                      · exact OG.out h1
                      · omega⟩
                    obtain ⟨B, M⟩ := step_fp B fp M
                    replace D : Kept (Rk w11 G2 xb qb s2) := ⟨hc⟩
                    clear fp hc KD LTW CLT
                    refine hK.out _ _ (op_cells OB.out) (fun _ => ?_)
                    clear hK K
                    try dsimp only
                    refine wpAnyH_take (i := 16) (oi := ?o34) (v := ?v34) ?hi34 (by kernel_rfl) (by kernel_rfl) (by kernel_rfl) ?hq34 (Or.inl ⟨?hw34, ?hy34⟩) (by assumption) ?r34
                    case hi34 => (simp only [List.getElem?_toArray]; exact rfl)
                    case hq34 => exact fun _ _ _ h => h
                    case hw34 => rfl
                    case hy34 => (intro w hSw; (try dsimp only at hSw); go_simp; try exact rfl)
                    simp only [Act.put, List.setIfInBounds_toArray, List.set_cons_zero, List.set_cons_succ]
                    refine wpAnyH_take (i := 17) (oi := ?o35) (v := ?v35) ?hi35 (by kernel_rfl) (by kernel_rfl) (by kernel_rfl) ?hq35 (Or.inl ⟨?hw35, ?hy35⟩) (by assumption) ?r35
                    case hi35 => (simp only [List.getElem?_toArray]; exact rfl)
                    case hq35 => exact fun _ _ _ h => h
                    case hw35 => rfl
                    case hy35 => (intro w hSw; (try dsimp only at hSw); go_simp; try exact rfl)
                    simp only [Act.put, List.setIfInBounds_toArray, List.set_cons_zero, List.set_cons_succ]
                    refine wpAnyH_take (i := 18) (oi := ?o36) (v := ?v36) ?hi36 (by kernel_rfl) (by kernel_rfl) (by kernel_rfl) ?hq36 (Or.inl ⟨?hw36, ?hy36⟩) (by assumption) ?r36
                    case hi36 => (simp only [List.getElem?_toArray]; exact rfl)
                    case hq36 => exact fun _ _ _ h => h
                    case hw36 => rfl
                    case hy36 => (intro w hSw; (try dsimp only at hSw); go_simp; try exact rfl)
                    simp only [Act.put, List.setIfInBounds_toArray, List.set_cons_zero, List.set_cons_succ]
                    refine wpAnyH_take (i := 19) (oi := ?o37) (v := ?v37) ?hi37 (by kernel_rfl) (by kernel_rfl) (by kernel_rfl) ?hq37 (Or.inl ⟨?hw37, ?hy37⟩) (by assumption) ?r37
                    case hi37 => (simp only [List.getElem?_toArray]; exact rfl)
                    case hq37 => exact fun _ _ _ h => h
                    case hw37 => rfl
                    case hy37 => (intro w hSw; (try dsimp only at hSw); go_simp; try exact rfl)
                    simp only [Act.put, List.setIfInBounds_toArray, List.set_cons_zero, List.set_cons_succ]
                    refine wpAnyH_take (i := 20) (oi := ?o38) (v := ?v38) ?hi38 (by kernel_rfl) (by kernel_rfl) (by kernel_rfl) ?hq38 (Or.inl ⟨?hw38, ?hy38⟩) (by assumption) ?r38
                    case hi38 => (simp only [List.getElem?_toArray]; exact rfl)
                    case hq38 => exact fun _ _ _ h => h
                    case hw38 => rfl
                    case hy38 => (intro w hSw; (try dsimp only at hSw); go_simp; try exact rfl)
                    simp only [Act.put, List.setIfInBounds_toArray, List.set_cons_zero, List.set_cons_succ]
                    refine wpAnyH_done (by kernel_rfl) ?_ _
                    refine NoPanic.normal ?_
                    go_wp2
                    go_meet
                    case rel => exact ⟨F2, G2, _, rfl, C, D, I, DJ, B, L, M, OB⟩
                · by_cases h1 : kd = 1
                  · subst h1
                    as_aux_lemma =>
                      have TX : Kept (∀ w, Calls Tryz.prog 11 #[.agg #[.int .i64 1, .int .i64 yw, .int .i64 yt, .int .i64 ya, .int .i64 yn, .int .i64 yi, .int .i64 yd, .int .i64 yk, .string (strOfNums yh), .bool yb, .int .u8 yz]] w (StrPost w (textE ⟨1, yw, yt, ya, yn, yi, yd, yk, yh, yb, yz⟩))) := ⟨fun w => text_any w _ OE2.out⟩
                      have BT := Kept.mk (textE_bytes OE2.out)
                      obtain ⟨T, hT⟩ : ∃ T, textE ⟨1, yw, yt, ya, yn, yi, yd, yk, yh, yb, yz⟩ = T := ⟨_, rfl⟩
                      rw [hT] at TX BT
                      clear hT OE2
                      obtain ⟨r1, s2, hR⟩ : ∃ r1 s2, claimB s yw yi T yk = (r1, s2) := ⟨_, _, rfl⟩
                      have HB := Kept.mk I.out.hashes
                      have I2 := I.out.claim yw yi BT.out yk
                      rw [hR] at I2
                      replace I := Kept.mk I2
                      have HR2 := Kept.mk hR
                      clear I2 hR
                      obtain ⟨o0, o1, o2, o3, o4, o5, o6, o7, o8, o9, o10⟩ := op_cells OB.out
                      go_upto_region 23 with (fail)
                      refine wp_region_noPanic ?_
                      refine wp_region_held_drew (S := fun w' : World => w'.cell? ⟨O, 0, none⟩ = some (.int .i64 1) ∧ w'.cell? ⟨O, 1, none⟩ = some (.int .i64 yw) ∧ w'.cell? ⟨O, 2, none⟩ = some (.int .i64 yt) ∧ w'.cell? ⟨O, 3, none⟩ = some (.int .i64 ya) ∧ w'.cell? ⟨O, 4, none⟩ = some (.int .i64 yn) ∧ w'.cell? ⟨O, 5, none⟩ = some (.int .i64 yi) ∧ w'.cell? ⟨O, 6, none⟩ = some (.int .i64 yd) ∧ w'.cell? ⟨O, 7, none⟩ = some (.int .i64 yk) ∧ w'.cell? ⟨O, 8, none⟩ = some (.string (strOfNums yh)) ∧ w'.cell? ⟨O, 9, none⟩ = some (.bool yb) ∧ w'.cell? ⟨O, 10, none⟩ = some (.int .u8 yz)) (by kernel_rfl) ⟨o0, o1, o2, o3, o4, o5, o6, o7, o8, o9, o10⟩ (fun hHeld => ?_)
                      have bd : Below w5.heap.size w5 w5.drew := (Below.refl _ _).drew
                      replace OB := Kept.mk (OB.out.below bd OB.out.lt)
                      replace C := api.below C bd
                      replace D := Rk.belowK D bd
                      replace B := step_below B bd
                      clear bd o0 o1 o2 o3 o4 o5 o6 o7 o8 o9 o10
                      generalize w5.drew = w6 at *
                      refine wpAnyH_take (i := 0) (oi := ?o39) (v := ?v39) ?hi39 (by kernel_rfl) (by kernel_rfl) (by kernel_rfl) ?hq39 (Or.inl ⟨?hw39, ?hy39⟩) (by assumption) ?r39
                      case hi39 => (simp only [List.getElem?_toArray]; exact rfl)
                      case hq39 => exact fun _ _ _ h => h
                      case hw39 => rfl
                      case hy39 => (intro w hSw; (try dsimp only at hSw); go_simp; try exact rfl)
                      simp only [Act.put, List.setIfInBounds_toArray, List.set_cons_zero, List.set_cons_succ]
                      refine wpAnyH_take (i := 1) (oi := ?o40) (v := ?v40) ?hi40 (by kernel_rfl) (by kernel_rfl) (by kernel_rfl) ?hq40 (Or.inl ⟨?hw40, ?hy40⟩) (by assumption) ?r40
                      case hi40 => (simp only [List.getElem?_toArray]; exact rfl)
                      case hq40 => exact fun _ _ _ h => h
                      case hw40 => rfl
                      case hy40 => (intro w hSw; (try dsimp only at hSw); go_simp; try exact rfl)
                      simp only [Act.put, List.setIfInBounds_toArray, List.set_cons_zero, List.set_cons_succ]
                      refine wpAnyH_take (i := 2) (oi := ?o41) (v := ?v41) ?hi41 (by kernel_rfl) (by kernel_rfl) (by kernel_rfl) ?hq41 (Or.inl ⟨?hw41, ?hy41⟩) (by assumption) ?r41
                      case hi41 => (simp only [List.getElem?_toArray]; exact rfl)
                      case hq41 => exact fun _ _ _ h => h
                      case hw41 => rfl
                      case hy41 => (intro w hSw; (try dsimp only at hSw); go_simp; try exact rfl)
                      simp only [Act.put, List.setIfInBounds_toArray, List.set_cons_zero, List.set_cons_succ]
                      refine wpAnyH_take (i := 3) (oi := ?o42) (v := ?v42) ?hi42 (by kernel_rfl) (by kernel_rfl) (by kernel_rfl) ?hq42 (Or.inl ⟨?hw42, ?hy42⟩) (by assumption) ?r42
                      case hi42 => (simp only [List.getElem?_toArray]; exact rfl)
                      case hq42 => exact fun _ _ _ h => h
                      case hw42 => rfl
                      case hy42 => (intro w hSw; (try dsimp only at hSw); go_simp; try exact rfl)
                      simp only [Act.put, List.setIfInBounds_toArray, List.set_cons_zero, List.set_cons_succ]
                      refine wpAnyH_take (i := 4) (oi := ?o43) (v := ?v43) ?hi43 (by kernel_rfl) (by kernel_rfl) (by kernel_rfl) ?hq43 (Or.inl ⟨?hw43, ?hy43⟩) (by assumption) ?r43
                      case hi43 => (simp only [List.getElem?_toArray]; exact rfl)
                      case hq43 => exact fun _ _ _ h => h
                      case hw43 => rfl
                      case hy43 => (intro w hSw; (try dsimp only at hSw); go_simp; try exact rfl)
                      simp only [Act.put, List.setIfInBounds_toArray, List.set_cons_zero, List.set_cons_succ]
                      refine wpAnyH_take (i := 5) (oi := ?o44) (v := ?v44) ?hi44 (by kernel_rfl) (by kernel_rfl) (by kernel_rfl) ?hq44 (Or.inl ⟨?hw44, ?hy44⟩) (by assumption) ?r44
                      case hi44 => (simp only [List.getElem?_toArray]; exact rfl)
                      case hq44 => exact fun _ _ _ h => h
                      case hw44 => rfl
                      case hy44 => (intro w hSw; (try dsimp only at hSw); go_simp; try exact rfl)
                      simp only [Act.put, List.setIfInBounds_toArray, List.set_cons_zero, List.set_cons_succ]
                      refine wpAnyH_take (i := 7) (oi := ?o45) (v := ?v45) ?hi45 (by kernel_rfl) (by kernel_rfl) (by kernel_rfl) ?hq45 (Or.inl ⟨?hw45, ?hy45⟩) (by assumption) ?r45
                      case hi45 => (simp only [List.getElem?_toArray]; exact rfl)
                      case hq45 => exact fun _ _ _ h => h
                      case hw45 => rfl
                      case hy45 => (intro w hSw; (try dsimp only at hSw); go_simp; try exact rfl)
                      simp only [Act.put, List.setIfInBounds_toArray, List.set_cons_zero, List.set_cons_succ]
                      refine wpAnyH_take (i := 8) (oi := ?o46) (v := ?v46) ?hi46 (by kernel_rfl) (by kernel_rfl) (by kernel_rfl) ?hq46 (Or.inl ⟨?hw46, ?hy46⟩) (by assumption) ?r46
                      case hi46 => (simp only [List.getElem?_toArray]; exact rfl)
                      case hq46 => exact fun _ _ _ h => h
                      case hw46 => rfl
                      case hy46 => (intro w hSw; (try dsimp only at hSw); go_simp; try exact rfl)
                      simp only [Act.put, List.setIfInBounds_toArray, List.set_cons_zero, List.set_cons_succ]
                      refine wpAnyH_take (i := 10) (oi := ?o47) (v := ?v47) ?hi47 (by kernel_rfl) (by kernel_rfl) (by kernel_rfl) ?hq47 (Or.inl ⟨?hw47, ?hy47⟩) (by assumption) ?r47
                      case hi47 => (simp only [List.getElem?_toArray]; exact rfl)
                      case hq47 => exact fun _ _ _ h => h
                      case hw47 => rfl
                      case hy47 => (intro w hSw; (try dsimp only at hSw); go_simp; try exact rfl)
                      simp only [Act.put, List.setIfInBounds_toArray, List.set_cons_zero, List.set_cons_succ]
                      refine wpAnyH_take (i := 11) (oi := ?o48) (v := ?v48) ?hi48 (by kernel_rfl) (by kernel_rfl) (by kernel_rfl) ?hq48 (Or.inl ⟨?hw48, ?hy48⟩) (by assumption) ?r48
                      case hi48 => (simp only [List.getElem?_toArray]; exact rfl)
                      case hq48 => exact fun _ _ _ h => h
                      case hw48 => rfl
                      case hy48 => (intro w hSw; (try dsimp only at hSw); go_simp; try exact rfl)
                      simp only [Act.put, List.setIfInBounds_toArray, List.set_cons_zero, List.set_cons_succ]
                      refine wpAnyH_take (i := 12) (oi := ?o49) (v := ?v49) ?hi49 (by kernel_rfl) (by kernel_rfl) (by kernel_rfl) ?hq49 (Or.inl ⟨?hw49, ?hy49⟩) (by assumption) ?r49
                      case hi49 => (simp only [List.getElem?_toArray]; exact rfl)
                      case hq49 => exact fun _ _ _ h => h
                      case hw49 => rfl
                      case hy49 => (intro w hSw; (try dsimp only at hSw); go_simp; try exact rfl)
                      simp only [Act.put, List.setIfInBounds_toArray, List.set_cons_zero, List.set_cons_succ]
                      refine wpAnyH_take (i := 13) (oi := ?o50) (v := ?v50) ?hi50 (by kernel_rfl) (by kernel_rfl) (by kernel_rfl) ?hq50 (Or.inl ⟨?hw50, ?hy50⟩) (by assumption) ?r50
                      case hi50 => (simp only [List.getElem?_toArray]; exact rfl)
                      case hq50 => exact fun _ _ _ h => h
                      case hw50 => rfl
                      case hy50 => (intro w hSw; (try dsimp only at hSw); go_simp; try exact rfl)
                      simp only [Act.put, List.setIfInBounds_toArray, List.set_cons_zero, List.set_cons_succ]
                      refine wpAnyH_take (i := 14) (oi := ?o51) (v := ?v51) ?hi51 (by kernel_rfl) (by kernel_rfl) (by kernel_rfl) ?hq51 (Or.inl ⟨?hw51, ?hy51⟩) (by assumption) ?r51
                      case hi51 => (simp only [List.getElem?_toArray]; exact rfl)
                      case hq51 => exact fun _ _ _ h => h
                      case hw51 => rfl
                      case hy51 => (intro w hSw; (try dsimp only at hSw); go_simp; try exact rfl)
                      simp only [Act.put, List.setIfInBounds_toArray, List.set_cons_zero, List.set_cons_succ]
                      refine wpAnyH_take (i := 15) (oi := ?o52) (v := ?v52) ?hi52 (by kernel_rfl) (by kernel_rfl) (by kernel_rfl) ?hq52 (Or.inl ⟨?hw52, ?hy52⟩) (by assumption) ?r52
                      case hi52 => (simp only [List.getElem?_toArray]; exact rfl)
                      case hq52 => exact fun _ _ _ h => h
                      case hw52 => rfl
                      case hy52 => (intro w hSw; (try dsimp only at hSw); go_simp; try exact rfl)
                      simp only [Act.put, List.setIfInBounds_toArray, List.set_cons_zero, List.set_cons_succ]
                      refine wpAnyH_take (i := 17) (oi := ?o53) (v := ?v53) ?hi53 (by kernel_rfl) (by kernel_rfl) (by kernel_rfl) ?hq53 (Or.inl ⟨?hw53, ?hy53⟩) (by assumption) ?r53
                      case hi53 => (simp only [List.getElem?_toArray]; exact rfl)
                      case hq53 => exact fun _ _ _ h => h
                      case hw53 => rfl
                      case hy53 => (intro w hSw; (try dsimp only at hSw); go_simp; try exact rfl)
                      simp only [Act.put, List.setIfInBounds_toArray, List.set_cons_zero, List.set_cons_succ]
                      refine wpAnyH_take (i := 18) (oi := ?o54) (v := ?v54) ?hi54 (by kernel_rfl) (by kernel_rfl) (by kernel_rfl) ?hq54 (Or.inl ⟨?hw54, ?hy54⟩) (by assumption) ?r54
                      case hi54 => (simp only [List.getElem?_toArray]; exact rfl)
                      case hq54 => exact fun _ _ _ h => h
                      case hw54 => rfl
                      case hy54 => (intro w hSw; (try dsimp only at hSw); go_simp; try exact rfl)
                      simp only [Act.put, List.setIfInBounds_toArray, List.set_cons_zero, List.set_cons_succ]
                      refine wpAnyH_ready (rs := [6]) (by kernel_rfl) (by simp) ?_
                      refine AllReadyH.cons (o := ?o138) ?hi138 (fun K hK => ?_) AllReadyH.nil
                      case hi138 => (simp only [List.getElem?_toArray]; exact rfl)
                      go_simp
                      go_at_call 11
                      refine (TX.out _).mono ?_
                      rintro e w7 ⟨rfl, bt⟩
                      replace OB := Kept.mk (OB.out.below bt OB.out.lt)
                      replace C := api.below C bt
                      replace D := Rk.belowK D bt
                      replace B := step_below B bt
                      clear bt
                      refine hK.out _ _ (op_cells OB.out) (fun _ => ?_)
                      clear hK K
                      try simp only [Act.put, List.setIfInBounds_toArray, List.set_cons_zero, List.set_cons_succ]
                      have KC := api.claim yw yi T yk C.out BT.out HB.out
                      rw [HR2.out] at KC
                      refine wpAnyH_ready (rs := [9]) (by kernel_rfl) (by simp) ?_
                      refine AllReadyH.cons (o := ?o139) ?hi139 (fun K hK => ?_) AllReadyH.nil
                      case hi139 => (simp only [List.getElem?_toArray]; exact rfl)
                      go_simp
                      go_at_call 13
                      refine KC.mono ?_
                      rintro e w8 ⟨rfl, F2, hc, fp⟩
                      have LTW := OB.out.lt
                      have DLT := Kept.mk D.out.lts
                      replace OB := Kept.mk (OB.out.bar fp.1 OF.out)
                      replace D := Kept.mk (D.out.keep fp.1 DJ.out.symm)
                      replace DJ := Kept.mk (DJ.out.step fp DLT.out)
                      replace OF : Kept (O ∉ F2) := ⟨fun hm => by
                        rcases fp.2 O hm with h1 | h1
                        · exact OF.out h1
                        · omega⟩
                      obtain ⟨B, L⟩ := step_fp B fp L
                      replace C : Kept (Ck w8 F2 x q s2) := ⟨hc⟩
                      clear fp hc KC LTW DLT
                      refine hK.out _ _ (op_cells OB.out) (fun _ => ?_)
                      clear hK K
                      try dsimp only
                      refine wpAnyH_ready (rs := [16]) (by kernel_rfl) (by simp) ?_
                      refine AllReadyH.cons (o := ?o140) ?hi140 (fun K hK => ?_) AllReadyH.nil
                      case hi140 => (simp only [List.getElem?_toArray]; exact rfl)
                      go_simp
                      go_at_call 11
                      refine (TX.out _).mono ?_
                      rintro e w9 ⟨rfl, bt⟩
                      replace OB := Kept.mk (OB.out.below bt OB.out.lt)
                      replace C := api.below C bt
                      replace D := Rk.belowK D bt
                      replace B := step_below B bt
                      clear bt
                      refine hK.out _ _ (op_cells OB.out) (fun _ => ?_)
                      clear hK K
                      try simp only [Act.put, List.setIfInBounds_toArray, List.set_cons_zero, List.set_cons_succ]
                      have KD := rclaim_any D.out yw yi yk T BT.out HB.out
                      rw [HR2.out] at KD
                      refine wpAnyH_ready (rs := [19]) (by kernel_rfl) (by simp) ?_
                      refine AllReadyH.cons (o := ?o141) ?hi141 (fun K hK => ?_) AllReadyH.nil
                      case hi141 => (simp only [List.getElem?_toArray]; exact rfl)
                      go_simp
                      go_at_call 14
                      refine KD.mono ?_
                      rintro e w10 ⟨rfl, G2, hc, fp⟩
                      have LTW := OB.out.lt
                      have CLT := Kept.mk (api.lts C.out)
                      replace OB := Kept.mk (OB.out.bar fp.1 OG.out)
                      replace C := Kept.mk (api.keep C.out fp.1 DJ.out)
                      replace DJ := Kept.mk ((DJ.out.symm.step fp CLT.out).symm)
                      replace OG : Kept (O ∉ G2) := ⟨fun hm => by
                        rcases fp.2 O hm with h1 | h1
                        · exact OG.out h1
                        · omega⟩
                      obtain ⟨B, M⟩ := step_fp B fp M
                      replace D : Kept (Rk w10 G2 xb qb s2) := ⟨hc⟩
                      clear fp hc KD LTW CLT
                      refine hK.out _ _ (op_cells OB.out) (fun _ => ?_)
                      clear hK K
                      try dsimp only
                      refine wpAnyH_take (i := 20) (oi := ?o55) (v := ?v55) ?hi55 (by kernel_rfl) (by kernel_rfl) (by kernel_rfl) ?hq55 (Or.inl ⟨?hw55, ?hy55⟩) (by assumption) ?r55
                      case hi55 => (simp only [List.getElem?_toArray]; exact rfl)
                      case hq55 => exact fun _ _ _ h => h
                      case hw55 => rfl
                      case hy55 => (intro w hSw; (try dsimp only at hSw); go_simp; try exact rfl)
                      simp only [Act.put, List.setIfInBounds_toArray, List.set_cons_zero, List.set_cons_succ]
                      refine wpAnyH_take (i := 21) (oi := ?o56) (v := ?v56) ?hi56 (by kernel_rfl) (by kernel_rfl) (by kernel_rfl) ?hq56 (Or.inl ⟨?hw56, ?hy56⟩) (by assumption) ?r56
                      case hi56 => (simp only [List.getElem?_toArray]; exact rfl)
                      case hq56 => exact fun _ _ _ h => h
                      case hw56 => rfl
                      case hy56 => (intro w hSw; (try dsimp only at hSw); go_simp; try exact rfl)
                      simp only [Act.put, List.setIfInBounds_toArray, List.set_cons_zero, List.set_cons_succ]
                      refine wpAnyH_done (by kernel_rfl) ?_ _
                      refine NoPanic.normal ?_
                      go_wp2
                      go_meet
                      case rel => exact ⟨F2, G2, _, rfl, C, D, I, DJ, B, L, M, OB⟩
                  · by_cases h2 : kd = 2
                    · subst h2
                      as_aux_lemma =>
                        obtain ⟨r1, s2, hR⟩ : ∃ r1 s2, refundB s yw yi yk = (r1, s2) := ⟨_, _, rfl⟩
                        have I2 := I.out.refund yw yi yk
                        rw [hR] at I2
                        replace I := Kept.mk I2
                        have HR2 := Kept.mk hR
                        clear I2 hR
                        obtain ⟨o0, o1, o2, o3, o4, o5, o6, o7, o8, o9, o10⟩ := op_cells OB.out
                        go_upto_region 25 with (fail)
                        refine wp_region_noPanic ?_
                        refine wp_region_held_drew (S := fun w' : World => w'.cell? ⟨O, 0, none⟩ = some (.int .i64 2) ∧ w'.cell? ⟨O, 1, none⟩ = some (.int .i64 yw) ∧ w'.cell? ⟨O, 2, none⟩ = some (.int .i64 yt) ∧ w'.cell? ⟨O, 3, none⟩ = some (.int .i64 ya) ∧ w'.cell? ⟨O, 4, none⟩ = some (.int .i64 yn) ∧ w'.cell? ⟨O, 5, none⟩ = some (.int .i64 yi) ∧ w'.cell? ⟨O, 6, none⟩ = some (.int .i64 yd) ∧ w'.cell? ⟨O, 7, none⟩ = some (.int .i64 yk) ∧ w'.cell? ⟨O, 8, none⟩ = some (.string (strOfNums yh)) ∧ w'.cell? ⟨O, 9, none⟩ = some (.bool yb) ∧ w'.cell? ⟨O, 10, none⟩ = some (.int .u8 yz)) (by kernel_rfl) ⟨o0, o1, o2, o3, o4, o5, o6, o7, o8, o9, o10⟩ (fun hHeld => ?_)
                        have bd : Below w5.heap.size w5 w5.drew := (Below.refl _ _).drew
                        replace OB := Kept.mk (OB.out.below bd OB.out.lt)
                        replace C := api.below C bd
                        replace D := Rk.belowK D bd
                        replace B := step_below B bd
                        clear bd o0 o1 o2 o3 o4 o5 o6 o7 o8 o9 o10
                        generalize w5.drew = w6 at *
                        refine wpAnyH_take (i := 0) (oi := ?o57) (v := ?v57) ?hi57 (by kernel_rfl) (by kernel_rfl) (by kernel_rfl) ?hq57 (Or.inl ⟨?hw57, ?hy57⟩) (by assumption) ?r57
                        case hi57 => (simp only [List.getElem?_toArray]; exact rfl)
                        case hq57 => exact fun _ _ _ h => h
                        case hw57 => rfl
                        case hy57 => (intro w hSw; (try dsimp only at hSw); go_simp; try exact rfl)
                        simp only [Act.put, List.setIfInBounds_toArray, List.set_cons_zero, List.set_cons_succ]
                        refine wpAnyH_take (i := 1) (oi := ?o58) (v := ?v58) ?hi58 (by kernel_rfl) (by kernel_rfl) (by kernel_rfl) ?hq58 (Or.inl ⟨?hw58, ?hy58⟩) (by assumption) ?r58
                        case hi58 => (simp only [List.getElem?_toArray]; exact rfl)
                        case hq58 => exact fun _ _ _ h => h
                        case hw58 => rfl
                        case hy58 => (intro w hSw; (try dsimp only at hSw); go_simp; try exact rfl)
                        simp only [Act.put, List.setIfInBounds_toArray, List.set_cons_zero, List.set_cons_succ]
                        refine wpAnyH_take (i := 2) (oi := ?o59) (v := ?v59) ?hi59 (by kernel_rfl) (by kernel_rfl) (by kernel_rfl) ?hq59 (Or.inl ⟨?hw59, ?hy59⟩) (by assumption) ?r59
                        case hi59 => (simp only [List.getElem?_toArray]; exact rfl)
                        case hq59 => exact fun _ _ _ h => h
                        case hw59 => rfl
                        case hy59 => (intro w hSw; (try dsimp only at hSw); go_simp; try exact rfl)
                        simp only [Act.put, List.setIfInBounds_toArray, List.set_cons_zero, List.set_cons_succ]
                        refine wpAnyH_take (i := 3) (oi := ?o60) (v := ?v60) ?hi60 (by kernel_rfl) (by kernel_rfl) (by kernel_rfl) ?hq60 (Or.inl ⟨?hw60, ?hy60⟩) (by assumption) ?r60
                        case hi60 => (simp only [List.getElem?_toArray]; exact rfl)
                        case hq60 => exact fun _ _ _ h => h
                        case hw60 => rfl
                        case hy60 => (intro w hSw; (try dsimp only at hSw); go_simp; try exact rfl)
                        simp only [Act.put, List.setIfInBounds_toArray, List.set_cons_zero, List.set_cons_succ]
                        refine wpAnyH_take (i := 4) (oi := ?o61) (v := ?v61) ?hi61 (by kernel_rfl) (by kernel_rfl) (by kernel_rfl) ?hq61 (Or.inl ⟨?hw61, ?hy61⟩) (by assumption) ?r61
                        case hi61 => (simp only [List.getElem?_toArray]; exact rfl)
                        case hq61 => exact fun _ _ _ h => h
                        case hw61 => rfl
                        case hy61 => (intro w hSw; (try dsimp only at hSw); go_simp; try exact rfl)
                        simp only [Act.put, List.setIfInBounds_toArray, List.set_cons_zero, List.set_cons_succ]
                        refine wpAnyH_take (i := 5) (oi := ?o62) (v := ?v62) ?hi62 (by kernel_rfl) (by kernel_rfl) (by kernel_rfl) ?hq62 (Or.inl ⟨?hw62, ?hy62⟩) (by assumption) ?r62
                        case hi62 => (simp only [List.getElem?_toArray]; exact rfl)
                        case hq62 => exact fun _ _ _ h => h
                        case hw62 => rfl
                        case hy62 => (intro w hSw; (try dsimp only at hSw); go_simp; try exact rfl)
                        simp only [Act.put, List.setIfInBounds_toArray, List.set_cons_zero, List.set_cons_succ]
                        refine wpAnyH_take (i := 6) (oi := ?o63) (v := ?v63) ?hi63 (by kernel_rfl) (by kernel_rfl) (by kernel_rfl) ?hq63 (Or.inl ⟨?hw63, ?hy63⟩) (by assumption) ?r63
                        case hi63 => (simp only [List.getElem?_toArray]; exact rfl)
                        case hq63 => exact fun _ _ _ h => h
                        case hw63 => rfl
                        case hy63 => (intro w hSw; (try dsimp only at hSw); go_simp; try exact rfl)
                        simp only [Act.put, List.setIfInBounds_toArray, List.set_cons_zero, List.set_cons_succ]
                        refine wpAnyH_take (i := 8) (oi := ?o64) (v := ?v64) ?hi64 (by kernel_rfl) (by kernel_rfl) (by kernel_rfl) ?hq64 (Or.inl ⟨?hw64, ?hy64⟩) (by assumption) ?r64
                        case hi64 => (simp only [List.getElem?_toArray]; exact rfl)
                        case hq64 => exact fun _ _ _ h => h
                        case hw64 => rfl
                        case hy64 => (intro w hSw; (try dsimp only at hSw); go_simp; try exact rfl)
                        simp only [Act.put, List.setIfInBounds_toArray, List.set_cons_zero, List.set_cons_succ]
                        refine wpAnyH_take (i := 9) (oi := ?o65) (v := ?v65) ?hi65 (by kernel_rfl) (by kernel_rfl) (by kernel_rfl) ?hq65 (Or.inl ⟨?hw65, ?hy65⟩) (by assumption) ?r65
                        case hi65 => (simp only [List.getElem?_toArray]; exact rfl)
                        case hq65 => exact fun _ _ _ h => h
                        case hw65 => rfl
                        case hy65 => (intro w hSw; (try dsimp only at hSw); go_simp; try exact rfl)
                        simp only [Act.put, List.setIfInBounds_toArray, List.set_cons_zero, List.set_cons_succ]
                        refine wpAnyH_take (i := 10) (oi := ?o66) (v := ?v66) ?hi66 (by kernel_rfl) (by kernel_rfl) (by kernel_rfl) ?hq66 (Or.inl ⟨?hw66, ?hy66⟩) (by assumption) ?r66
                        case hi66 => (simp only [List.getElem?_toArray]; exact rfl)
                        case hq66 => exact fun _ _ _ h => h
                        case hw66 => rfl
                        case hy66 => (intro w hSw; (try dsimp only at hSw); go_simp; try exact rfl)
                        simp only [Act.put, List.setIfInBounds_toArray, List.set_cons_zero, List.set_cons_succ]
                        refine wpAnyH_take (i := 11) (oi := ?o67) (v := ?v67) ?hi67 (by kernel_rfl) (by kernel_rfl) (by kernel_rfl) ?hq67 (Or.inl ⟨?hw67, ?hy67⟩) (by assumption) ?r67
                        case hi67 => (simp only [List.getElem?_toArray]; exact rfl)
                        case hq67 => exact fun _ _ _ h => h
                        case hw67 => rfl
                        case hy67 => (intro w hSw; (try dsimp only at hSw); go_simp; try exact rfl)
                        simp only [Act.put, List.setIfInBounds_toArray, List.set_cons_zero, List.set_cons_succ]
                        refine wpAnyH_take (i := 12) (oi := ?o68) (v := ?v68) ?hi68 (by kernel_rfl) (by kernel_rfl) (by kernel_rfl) ?hq68 (Or.inl ⟨?hw68, ?hy68⟩) (by assumption) ?r68
                        case hi68 => (simp only [List.getElem?_toArray]; exact rfl)
                        case hq68 => exact fun _ _ _ h => h
                        case hw68 => rfl
                        case hy68 => (intro w hSw; (try dsimp only at hSw); go_simp; try exact rfl)
                        simp only [Act.put, List.setIfInBounds_toArray, List.set_cons_zero, List.set_cons_succ]
                        refine wpAnyH_take (i := 13) (oi := ?o69) (v := ?v69) ?hi69 (by kernel_rfl) (by kernel_rfl) (by kernel_rfl) ?hq69 (Or.inl ⟨?hw69, ?hy69⟩) (by assumption) ?r69
                        case hi69 => (simp only [List.getElem?_toArray]; exact rfl)
                        case hq69 => exact fun _ _ _ h => h
                        case hw69 => rfl
                        case hy69 => (intro w hSw; (try dsimp only at hSw); go_simp; try exact rfl)
                        simp only [Act.put, List.setIfInBounds_toArray, List.set_cons_zero, List.set_cons_succ]
                        refine wpAnyH_take (i := 14) (oi := ?o70) (v := ?v70) ?hi70 (by kernel_rfl) (by kernel_rfl) (by kernel_rfl) ?hq70 (Or.inl ⟨?hw70, ?hy70⟩) (by assumption) ?r70
                        case hi70 => (simp only [List.getElem?_toArray]; exact rfl)
                        case hq70 => exact fun _ _ _ h => h
                        case hw70 => rfl
                        case hy70 => (intro w hSw; (try dsimp only at hSw); go_simp; try exact rfl)
                        simp only [Act.put, List.setIfInBounds_toArray, List.set_cons_zero, List.set_cons_succ]
                        have KC := api.refund yw yi yk C.out
                        rw [HR2.out] at KC
                        refine wpAnyH_ready (rs := [7]) (by kernel_rfl) (by simp) ?_
                        refine AllReadyH.cons (o := ?o142) ?hi142 (fun K hK => ?_) AllReadyH.nil
                        case hi142 => (simp only [List.getElem?_toArray]; exact rfl)
                        go_simp
                        go_at_call 15
                        refine KC.mono ?_
                        rintro e w8 ⟨rfl, F2, hc, fp⟩
                        have LTW := OB.out.lt
                        have DLT := Kept.mk D.out.lts
                        replace OB := Kept.mk (OB.out.bar fp.1 OF.out)
                        replace D := Kept.mk (D.out.keep fp.1 DJ.out.symm)
                        replace DJ := Kept.mk (DJ.out.step fp DLT.out)
                        replace OF : Kept (O ∉ F2) := ⟨fun hm => by
                          rcases fp.2 O hm with h1 | h1
                          · exact OF.out h1
                          · omega⟩
                        obtain ⟨B, L⟩ := step_fp B fp L
                        replace C : Kept (Ck w8 F2 x q s2) := ⟨hc⟩
                        clear fp hc KC LTW DLT
                        refine hK.out _ _ (op_cells OB.out) (fun _ => ?_)
                        clear hK K
                        try dsimp only
                        have KD := rrefund_any D.out yw yi yk
                        rw [HR2.out] at KD
                        refine wpAnyH_ready (rs := [15]) (by kernel_rfl) (by simp) ?_
                        refine AllReadyH.cons (o := ?o143) ?hi143 (fun K hK => ?_) AllReadyH.nil
                        case hi143 => (simp only [List.getElem?_toArray]; exact rfl)
                        go_simp
                        go_at_call 16
                        refine KD.mono ?_
                        rintro e w10 ⟨rfl, G2, hc, fp⟩
                        have LTW := OB.out.lt
                        have CLT := Kept.mk (api.lts C.out)
                        replace OB := Kept.mk (OB.out.bar fp.1 OG.out)
                        replace C := Kept.mk (api.keep C.out fp.1 DJ.out)
                        replace DJ := Kept.mk ((DJ.out.symm.step fp CLT.out).symm)
                        replace OG : Kept (O ∉ G2) := ⟨fun hm => by
                          rcases fp.2 O hm with h1 | h1
                          · exact OG.out h1
                          · omega⟩
                        obtain ⟨B, M⟩ := step_fp B fp M
                        replace D : Kept (Rk w10 G2 xb qb s2) := ⟨hc⟩
                        clear fp hc KD LTW CLT
                        refine hK.out _ _ (op_cells OB.out) (fun _ => ?_)
                        clear hK K
                        try dsimp only
                        refine wpAnyH_take (i := 16) (oi := ?o71) (v := ?v71) ?hi71 (by kernel_rfl) (by kernel_rfl) (by kernel_rfl) ?hq71 (Or.inl ⟨?hw71, ?hy71⟩) (by assumption) ?r71
                        case hi71 => (simp only [List.getElem?_toArray]; exact rfl)
                        case hq71 => exact fun _ _ _ h => h
                        case hw71 => rfl
                        case hy71 => (intro w hSw; (try dsimp only at hSw); go_simp; try exact rfl)
                        simp only [Act.put, List.setIfInBounds_toArray, List.set_cons_zero, List.set_cons_succ]
                        refine wpAnyH_take (i := 17) (oi := ?o72) (v := ?v72) ?hi72 (by kernel_rfl) (by kernel_rfl) (by kernel_rfl) ?hq72 (Or.inl ⟨?hw72, ?hy72⟩) (by assumption) ?r72
                        case hi72 => (simp only [List.getElem?_toArray]; exact rfl)
                        case hq72 => exact fun _ _ _ h => h
                        case hw72 => rfl
                        case hy72 => (intro w hSw; (try dsimp only at hSw); go_simp; try exact rfl)
                        simp only [Act.put, List.setIfInBounds_toArray, List.set_cons_zero, List.set_cons_succ]
                        refine wpAnyH_done (by kernel_rfl) ?_ _
                        refine NoPanic.normal ?_
                        go_wp2
                        go_meet
                        case rel => exact ⟨F2, G2, _, rfl, C, D, I, DJ, B, L, M, OB⟩
                    · have hd0 : (kd == 0) = false := beq_eq_false_iff_ne.2 h0
                      have hd1 : (kd == 1) = false := beq_eq_false_iff_ne.2 h1
                      have hd2 : (kd == 2) = false := beq_eq_false_iff_ne.2 h2
                      clear h0 h1 h2
                      obtain ⟨o0, o1, o2, o3, o4, o5, o6, o7, o8, o9, o10⟩ := op_cells OB.out
                      replace I := Kept.mk I.out.next
                      go_wp2
                      go_meet
                      case rel => exact ⟨F, G, _, rfl, C, D, I, DJ, B, L, M, OB⟩
              case rest =>
                as_aux_lemma =>
                  clear C D I DJ B L M OB OF OG hl100
                  obtain ⟨F, G, s, rfl, C, D, I, DJ, B, L, M, OB⟩ := hcut
                  generalize wc = w11 at *
                  obtain ⟨o0, o1, o2, o3, o4, o5, o6, o7, o8, o9, o10⟩ := op_cells OB.out
                  obtain ⟨es, ed, ea, en, eu, et, eh, ec, gb, hG⟩ : ∃ es ed ea en eu et eh ec gb, getB s yi = (⟨es, ed, ea, en, eu, et, eh, ec⟩, gb) := ⟨_, _, _, _, _, _, _, _, _, rfl⟩
                  have HG := Kept.mk hG
                  clear hG
                  go_wp2_with fail
                  refine (api.get yi C.out).mono ?_
                  rintro e w12 ⟨hx, b3⟩
                  rw [HG.out] at hx
                  replace hx : e = .returned (.tuple #[.agg #[.int .i64 es, .int .i64 ed, .int .i64 ea, .int .i64 en, .int .i64 eu, .int .i64 et, .string (strOfNums eh), .string (strOfNums ec)], .bool gb]) := hx
                  subst hx
                  replace OB := Kept.mk (OB.out.below b3 OB.out.lt)
                  replace C := api.below C b3
                  replace D := Rk.belowK D b3
                  replace B := step_below B b3
                  clear b3
                  have nb : Blk (w12.alloc (.cells #[.int .i64 es, .int .i64 ed, .int .i64 ea, .int .i64 en, .int .i64 eu, .int .i64 et, .string (strOfNums eh), .string (strOfNums ec)] 47)) w12.heap.size 47 #[.int .i64 es, .int .i64 ed, .int .i64 ea, .int .i64 en, .int .i64 eu, .int .i64 et, .string (strOfNums eh), .string (strOfNums ec)] := Blk.new _ _ _
                  have b3 : Below w12.heap.size w12 (w12.alloc (.cells #[.int .i64 es, .int .i64 ed, .int .i64 ea, .int .i64 en, .int .i64 eu, .int .i64 et, .string (strOfNums eh), .string (strOfNums ec)] 47)) := (Below.refl _ _).alloc (Nat.le_refl _) _
                  replace OB := Kept.mk (OB.out.below b3 OB.out.lt)
                  replace C := api.below C b3
                  replace D := Rk.belowK D b3
                  replace B := step_below B b3
                  clear o0 o1 o2 o3 o4 o5 o6 o7 o8 o9 o10
                  obtain ⟨o0, o1, o2, o3, o4, o5, o6, o7, o8, o9, o10⟩ := op_cells OB.out
                  have N1 := Kept.mk nb
                  clear nb b3
                  go_upto_region 27 with fail
                  generalize (w12.alloc (.cells #[.int .i64 es, .int .i64 ed, .int .i64 ea, .int .i64 en, .int .i64 eu, .int .i64 et, .string (strOfNums eh), .string (strOfNums ec)] 47)) = w13 at *
                  generalize w12.heap.size = n1 at *
                  go_wp2_with fail
                  refine (rget_any D.out yi).mono ?_
                  rintro e w14 ⟨hx, b3⟩
                  rw [HG.out] at hx
                  replace hx : e = .returned (.tuple #[.agg #[.int .i64 es, .int .i64 ed, .int .i64 ea, .int .i64 en, .int .i64 eu, .int .i64 et, .string (strOfNums eh), .string (strOfNums ec)], .bool gb]) := hx
                  subst hx
                  replace OB := Kept.mk (OB.out.below b3 OB.out.lt)
                  replace C := api.below C b3
                  replace D := Rk.belowK D b3
                  replace B := step_below B b3
                  replace N1 := Kept.mk (N1.out.below b3 N1.out.lt)
                  clear b3
                  have nb : Blk (w14.alloc (.cells #[.int .i64 es, .int .i64 ed, .int .i64 ea, .int .i64 en, .int .i64 eu, .int .i64 et, .string (strOfNums eh), .string (strOfNums ec)] 47)) w14.heap.size 47 #[.int .i64 es, .int .i64 ed, .int .i64 ea, .int .i64 en, .int .i64 eu, .int .i64 et, .string (strOfNums eh), .string (strOfNums ec)] := Blk.new _ _ _
                  have b3 : Below w14.heap.size w14 (w14.alloc (.cells #[.int .i64 es, .int .i64 ed, .int .i64 ea, .int .i64 en, .int .i64 eu, .int .i64 et, .string (strOfNums eh), .string (strOfNums ec)] 47)) := (Below.refl _ _).alloc (Nat.le_refl _) _
                  replace OB := Kept.mk (OB.out.below b3 OB.out.lt)
                  replace C := api.below C b3
                  replace D := Rk.belowK D b3
                  replace B := step_below B b3
                  replace N1 := Kept.mk (N1.out.below b3 N1.out.lt)
                  have N2 := Kept.mk nb
                  clear nb b3
                  go_upto_region 28 with fail
                  obtain ⟨A1, c1, x1, hc1, hcm1⟩ := D.out.list
                  clear HG
                  generalize (w14.alloc (.cells #[.int .i64 es, .int .i64 ed, .int .i64 ea, .int .i64 en, .int .i64 eu, .int .i64 et, .string (strOfNums eh), .string (strOfNums ec)] 47)) = w15 at *
                  generalize w14.heap.size = n2 at *
                  have HS : Kept (∀ w', Below w15.heap.size w15 w' → w'.cell? ⟨O, 1, none⟩ = some (.int .i64 yw) ∧ w'.cell? ⟨O, 2, none⟩ = some (.int .i64 yt) ∧ w'.cell? ⟨O, 3, none⟩ = some (.int .i64 ya) ∧ w'.cell? ⟨xb, 1, none⟩ = some (.slice A1 s.l.length c1) ∧ w'.cell? ⟨n1, 0, none⟩ = some (.int .i64 es) ∧ w'.cell? ⟨n1, 1, none⟩ = some (.int .i64 ed) ∧ w'.cell? ⟨n1, 2, none⟩ = some (.int .i64 ea) ∧ w'.cell? ⟨n1, 3, none⟩ = some (.int .i64 en) ∧ w'.cell? ⟨n1, 4, none⟩ = some (.int .i64 eu) ∧ w'.cell? ⟨n1, 5, none⟩ = some (.int .i64 et) ∧ w'.cell? ⟨n1, 6, none⟩ = some (.string (strOfNums eh)) ∧ w'.cell? ⟨n1, 7, none⟩ = some (.string (strOfNums ec)) ∧ w'.cell? ⟨n2, 0, none⟩ = some (.int .i64 es) ∧ w'.cell? ⟨n2, 1, none⟩ = some (.int .i64 ed) ∧ w'.cell? ⟨n2, 2, none⟩ = some (.int .i64 ea) ∧ w'.cell? ⟨n2, 3, none⟩ = some (.int .i64 en) ∧ w'.cell? ⟨n2, 4, none⟩ = some (.int .i64 eu) ∧ w'.cell? ⟨n2, 5, none⟩ = some (.int .i64 et) ∧ w'.cell? ⟨n2, 6, none⟩ = some (.string (strOfNums eh)) ∧ w'.cell? ⟨n2, 7, none⟩ = some (.string (strOfNums ec))) := ⟨fun w' bb => by
                    have h1 := OB.out.below bb OB.out.lt
                    have h2 := N1.out.below bb N1.out.lt
                    have h3 := N2.out.below bb N2.out.lt
                    exact ⟨h1.cell 1, h1.cell 2, h1.cell 3, (bb.cell (World.block_lt_of_cell? _ _ x1)).trans x1, h2.cell 0, h2.cell 1, h2.cell 2, h2.cell 3, h2.cell 4, h2.cell 5, h2.cell 6, h2.cell 7, h3.cell 0, h3.cell 1, h3.cell 2, h3.cell 3, h3.cell 4, h3.cell 5, h3.cell 6, h3.cell 7⟩⟩
                  clear o0 o1 o2 o3 o4 o5 o6 o7 o8 o9 o10
                  refine wp_region_noPanic ?_
                  refine wp_region_held_drew (S := fun w' : World => w'.cell? ⟨O, 1, none⟩ = some (.int .i64 yw) ∧ w'.cell? ⟨O, 2, none⟩ = some (.int .i64 yt) ∧ w'.cell? ⟨O, 3, none⟩ = some (.int .i64 ya) ∧ w'.cell? ⟨xb, 1, none⟩ = some (.slice A1 s.l.length c1) ∧ w'.cell? ⟨n1, 0, none⟩ = some (.int .i64 es) ∧ w'.cell? ⟨n1, 1, none⟩ = some (.int .i64 ed) ∧ w'.cell? ⟨n1, 2, none⟩ = some (.int .i64 ea) ∧ w'.cell? ⟨n1, 3, none⟩ = some (.int .i64 en) ∧ w'.cell? ⟨n1, 4, none⟩ = some (.int .i64 eu) ∧ w'.cell? ⟨n1, 5, none⟩ = some (.int .i64 et) ∧ w'.cell? ⟨n1, 6, none⟩ = some (.string (strOfNums eh)) ∧ w'.cell? ⟨n1, 7, none⟩ = some (.string (strOfNums ec)) ∧ w'.cell? ⟨n2, 0, none⟩ = some (.int .i64 es) ∧ w'.cell? ⟨n2, 1, none⟩ = some (.int .i64 ed) ∧ w'.cell? ⟨n2, 2, none⟩ = some (.int .i64 ea) ∧ w'.cell? ⟨n2, 3, none⟩ = some (.int .i64 en) ∧ w'.cell? ⟨n2, 4, none⟩ = some (.int .i64 eu) ∧ w'.cell? ⟨n2, 5, none⟩ = some (.int .i64 et) ∧ w'.cell? ⟨n2, 6, none⟩ = some (.string (strOfNums eh)) ∧ w'.cell? ⟨n2, 7, none⟩ = some (.string (strOfNums ec))) (by kernel_rfl) (HS.out _ (Below.refl _ _).drew) (fun hHeld => ?_)
                  have bd : Below w15.heap.size w15 w15.drew := (Below.refl _ _).drew
                  have BW := Kept.mk bd
                  replace C := api.below C bd
                  replace D := Rk.belowK D bd
                  replace B := step_below B bd
                  clear bd OB N1 N2 x1
                  generalize w15.drew = w16 at *
                  refine wpAnyH_take (i := 0) (oi := ?o73) (v := ?v73) ?hi73 (by kernel_rfl) (by kernel_rfl) (by kernel_rfl) ?hq73 (Or.inl ⟨?hw73, ?hy73⟩) (by assumption) ?r73
                  case hi73 => (simp only [List.getElem?_toArray]; exact rfl)
                  case hq73 => exact fun _ _ _ h => h
                  case hw73 => rfl
                  case hy73 => (intro w hSw; (try dsimp only at hSw); go_simp; try exact rfl)
                  simp only [Act.put, List.setIfInBounds_toArray, List.set_cons_zero, List.set_cons_succ]
                  refine wpAnyH_take (i := 1) (oi := ?o74) (v := ?v74) ?hi74 (by kernel_rfl) (by kernel_rfl) (by kernel_rfl) ?hq74 (Or.inl ⟨?hw74, ?hy74⟩) (by assumption) ?r74
                  case hi74 => (simp only [List.getElem?_toArray]; exact rfl)
                  case hq74 => exact fun _ _ _ h => h
                  case hw74 => rfl
                  case hy74 => (intro w hSw; (try dsimp only at hSw); go_simp; try exact rfl)
                  simp only [Act.put, List.setIfInBounds_toArray, List.set_cons_zero, List.set_cons_succ]
                  refine wpAnyH_take (i := 2) (oi := ?o75) (v := ?v75) ?hi75 (by kernel_rfl) (by kernel_rfl) (by kernel_rfl) ?hq75 (Or.inl ⟨?hw75, ?hy75⟩) (by assumption) ?r75
                  case hi75 => (simp only [List.getElem?_toArray]; exact rfl)
                  case hq75 => exact fun _ _ _ h => h
                  case hw75 => rfl
                  case hy75 => (intro w hSw; (try dsimp only at hSw); go_simp; try exact rfl)
                  simp only [Act.put, List.setIfInBounds_toArray, List.set_cons_zero, List.set_cons_succ]
                  refine wpAnyH_take (i := 3) (oi := ?o76) (v := ?v76) ?hi76 (by kernel_rfl) (by kernel_rfl) (by kernel_rfl) ?hq76 (Or.inl ⟨?hw76, ?hy76⟩) (by assumption) ?r76
                  case hi76 => (simp only [List.getElem?_toArray]; exact rfl)
                  case hq76 => exact fun _ _ _ h => h
                  case hw76 => rfl
                  case hy76 => (intro w hSw; (try dsimp only at hSw); go_simp; try exact rfl)
                  simp only [Act.put, List.setIfInBounds_toArray, List.set_cons_zero, List.set_cons_succ]
                  refine wpAnyH_take (i := 4) (oi := ?o77) (v := ?v77) ?hi77 (by kernel_rfl) (by kernel_rfl) (by kernel_rfl) ?hq77 (Or.inl ⟨?hw77, ?hy77⟩) (by assumption) ?r77
                  case hi77 => (simp only [List.getElem?_toArray]; exact rfl)
                  case hq77 => exact fun _ _ _ h => h
                  case hw77 => rfl
                  case hy77 => (intro w hSw; (try dsimp only at hSw); go_simp; try exact rfl)
                  simp only [Act.put, List.setIfInBounds_toArray, List.set_cons_zero, List.set_cons_succ]
                  refine wpAnyH_take (i := 5) (oi := ?o78) (v := ?v78) ?hi78 (by kernel_rfl) (by kernel_rfl) (by kernel_rfl) ?hq78 (Or.inl ⟨?hw78, ?hy78⟩) (by assumption) ?r78
                  case hi78 => (simp only [List.getElem?_toArray]; exact rfl)
                  case hq78 => exact fun _ _ _ h => h
                  case hw78 => rfl
                  case hy78 => (intro w hSw; (try dsimp only at hSw); go_simp; try exact rfl)
                  simp only [Act.put, List.setIfInBounds_toArray, List.set_cons_zero, List.set_cons_succ]
                  refine wpAnyH_take (i := 6) (oi := ?o79) (v := ?v79) ?hi79 (by kernel_rfl) (by kernel_rfl) (by kernel_rfl) ?hq79 (Or.inl ⟨?hw79, ?hy79⟩) (by assumption) ?r79
                  case hi79 => (simp only [List.getElem?_toArray]; exact rfl)
                  case hq79 => exact fun _ _ _ h => h
                  case hw79 => rfl
                  case hy79 => (intro w hSw; (try dsimp only at hSw); go_simp; try exact rfl)
                  simp only [Act.put, List.setIfInBounds_toArray, List.set_cons_zero, List.set_cons_succ]
                  refine wpAnyH_take (i := 7) (oi := ?o80) (v := ?v80) ?hi80 (by kernel_rfl) (by kernel_rfl) (by kernel_rfl) ?hq80 (Or.inl ⟨?hw80, ?hy80⟩) (by assumption) ?r80
                  case hi80 => (simp only [List.getElem?_toArray]; exact rfl)
                  case hq80 => exact fun _ _ _ h => h
                  case hw80 => rfl
                  case hy80 => (intro w hSw; (try dsimp only at hSw); go_simp; try exact rfl)
                  simp only [Act.put, List.setIfInBounds_toArray, List.set_cons_zero, List.set_cons_succ]
                  refine wpAnyH_take (i := 8) (oi := ?o81) (v := ?v81) ?hi81 (by kernel_rfl) (by kernel_rfl) (by kernel_rfl) ?hq81 (Or.inl ⟨?hw81, ?hy81⟩) (by assumption) ?r81
                  case hi81 => (simp only [List.getElem?_toArray]; exact rfl)
                  case hq81 => exact fun _ _ _ h => h
                  case hw81 => rfl
                  case hy81 => (intro w hSw; (try dsimp only at hSw); go_simp; try exact rfl)
                  simp only [Act.put, List.setIfInBounds_toArray, List.set_cons_zero, List.set_cons_succ]
                  refine wpAnyH_take (i := 9) (oi := ?o82) (v := ?v82) ?hi82 (by kernel_rfl) (by kernel_rfl) (by kernel_rfl) ?hq82 (Or.inl ⟨?hw82, ?hy82⟩) (by assumption) ?r82
                  case hi82 => (simp only [List.getElem?_toArray]; exact rfl)
                  case hq82 => exact fun _ _ _ h => h
                  case hw82 => rfl
                  case hy82 => (intro w hSw; (try dsimp only at hSw); go_simp; try exact rfl)
                  simp only [Act.put, List.setIfInBounds_toArray, List.set_cons_zero, List.set_cons_succ]
                  refine wpAnyH_take (i := 10) (oi := ?o83) (v := ?v83) ?hi83 (by kernel_rfl) (by kernel_rfl) (by kernel_rfl) ?hq83 (Or.inl ⟨?hw83, ?hy83⟩) (by assumption) ?r83
                  case hi83 => (simp only [List.getElem?_toArray]; exact rfl)
                  case hq83 => exact fun _ _ _ h => h
                  case hw83 => rfl
                  case hy83 => (intro w hSw; (try dsimp only at hSw); go_simp; try exact rfl)
                  simp only [Act.put, List.setIfInBounds_toArray, List.set_cons_zero, List.set_cons_succ]
                  refine wpAnyH_take (i := 11) (oi := ?o84) (v := ?v84) ?hi84 (by kernel_rfl) (by kernel_rfl) (by kernel_rfl) ?hq84 (Or.inl ⟨?hw84, ?hy84⟩) (by assumption) ?r84
                  case hi84 => (simp only [List.getElem?_toArray]; exact rfl)
                  case hq84 => exact fun _ _ _ h => h
                  case hw84 => rfl
                  case hy84 => (intro w hSw; (try dsimp only at hSw); go_simp; try exact rfl)
                  simp only [Act.put, List.setIfInBounds_toArray, List.set_cons_zero, List.set_cons_succ]
                  refine wpAnyH_take (i := 12) (oi := ?o85) (v := ?v85) ?hi85 (by kernel_rfl) (by kernel_rfl) (by kernel_rfl) ?hq85 (Or.inl ⟨?hw85, ?hy85⟩) (by assumption) ?r85
                  case hi85 => (simp only [List.getElem?_toArray]; exact rfl)
                  case hq85 => exact fun _ _ _ h => h
                  case hw85 => rfl
                  case hy85 => (intro w hSw; (try dsimp only at hSw); go_simp; try exact rfl)
                  simp only [Act.put, List.setIfInBounds_toArray, List.set_cons_zero, List.set_cons_succ]
                  refine wpAnyH_take (i := 13) (oi := ?o86) (v := ?v86) ?hi86 (by kernel_rfl) (by kernel_rfl) (by kernel_rfl) ?hq86 (Or.inl ⟨?hw86, ?hy86⟩) (by assumption) ?r86
                  case hi86 => (simp only [List.getElem?_toArray]; exact rfl)
                  case hq86 => exact fun _ _ _ h => h
                  case hw86 => rfl
                  case hy86 => (intro w hSw; (try dsimp only at hSw); go_simp; try exact rfl)
                  simp only [Act.put, List.setIfInBounds_toArray, List.set_cons_zero, List.set_cons_succ]
                  refine wpAnyH_take (i := 15) (oi := ?o87) (v := ?v87) ?hi87 (by kernel_rfl) (by kernel_rfl) (by kernel_rfl) ?hq87 (Or.inl ⟨?hw87, ?hy87⟩) (by assumption) ?r87
                  case hi87 => (simp only [List.getElem?_toArray]; exact rfl)
                  case hq87 => exact fun _ _ _ h => h
                  case hw87 => rfl
                  case hy87 => (intro w hSw; (try dsimp only at hSw); go_simp; try exact rfl)
                  simp only [Act.put, List.setIfInBounds_toArray, List.set_cons_zero, List.set_cons_succ]
                  refine wpAnyH_take (i := 16) (oi := ?o88) (v := ?v88) ?hi88 (by kernel_rfl) (by kernel_rfl) (by kernel_rfl) ?hq88 (Or.inl ⟨?hw88, ?hy88⟩) (by assumption) ?r88
                  case hi88 => (simp only [List.getElem?_toArray]; exact rfl)
                  case hq88 => exact fun _ _ _ h => h
                  case hw88 => rfl
                  case hy88 => (intro w hSw; (try dsimp only at hSw); go_simp; try exact rfl)
                  simp only [Act.put, List.setIfInBounds_toArray, List.set_cons_zero, List.set_cons_succ]
                  refine wpAnyH_take (i := 17) (oi := ?o89) (v := ?v89) ?hi89 (by kernel_rfl) (by kernel_rfl) (by kernel_rfl) ?hq89 (Or.inl ⟨?hw89, ?hy89⟩) (by assumption) ?r89
                  case hi89 => (simp only [List.getElem?_toArray]; exact rfl)
                  case hq89 => exact fun _ _ _ h => h
                  case hw89 => rfl
                  case hy89 => (intro w hSw; (try dsimp only at hSw); go_simp; try exact rfl)
                  simp only [Act.put, List.setIfInBounds_toArray, List.set_cons_zero, List.set_cons_succ]
                  refine wpAnyH_take (i := 18) (oi := ?o90) (v := ?v90) ?hi90 (by kernel_rfl) (by kernel_rfl) (by kernel_rfl) ?hq90 (Or.inl ⟨?hw90, ?hy90⟩) (by assumption) ?r90
                  case hi90 => (simp only [List.getElem?_toArray]; exact rfl)
                  case hq90 => exact fun _ _ _ h => h
                  case hw90 => rfl
                  case hy90 => (intro w hSw; (try dsimp only at hSw); go_simp; try exact rfl)
                  simp only [Act.put, List.setIfInBounds_toArray, List.set_cons_zero, List.set_cons_succ]
                  refine wpAnyH_take (i := 19) (oi := ?o91) (v := ?v91) ?hi91 (by kernel_rfl) (by kernel_rfl) (by kernel_rfl) ?hq91 (Or.inl ⟨?hw91, ?hy91⟩) (by assumption) ?r91
                  case hi91 => (simp only [List.getElem?_toArray]; exact rfl)
                  case hq91 => exact fun _ _ _ h => h
                  case hw91 => rfl
                  case hy91 => (intro w hSw; (try dsimp only at hSw); go_simp; try exact rfl)
                  simp only [Act.put, List.setIfInBounds_toArray, List.set_cons_zero, List.set_cons_succ]
                  refine wpAnyH_ready (rs := [14]) (by kernel_rfl) (by simp) ?_
                  refine AllReadyH.cons (o := ?o144) ?hi144 (fun K hK => ?_) AllReadyH.nil
                  case hi144 => (simp only [List.getElem?_toArray]; exact rfl)
                  go_simp
                  go_at_call 19
                  refine (api.len C.out).mono ?_
                  rintro e _ ⟨rfl, d, rfl⟩
                  have bn := below_drewN (Below.refl w16.heap.size w16) d
                  clear hHeld
                  generalize w16.drewN d = w17 at *
                  replace BW := Kept.mk (BW.out.trans (bn.mono BW.out.size))
                  replace C := api.below C bn
                  replace D := Rk.belowK D bn
                  replace B := step_below B bn
                  clear bn
                  refine hK.out _ _ (HS.out _ BW.out) (fun hHeld => ?_)
                  clear hK K
                  try simp only [Act.put, List.setIfInBounds_toArray, List.set_cons_zero, List.set_cons_succ]
                  refine wpAnyH_take (i := 20) (oi := ?o92) (v := ?v92) ?hi92 (by kernel_rfl) (by kernel_rfl) (by kernel_rfl) ?hq92 (Or.inl ⟨?hw92, ?hy92⟩) (by assumption) ?r92
                  case hi92 => (simp only [List.getElem?_toArray]; exact rfl)
                  case hq92 => exact fun _ _ _ h => h
                  case hw92 => rfl
                  case hy92 => (intro w hSw; (try dsimp only at hSw); go_simp; try exact rfl)
                  simp only [Act.put, List.setIfInBounds_toArray, List.set_cons_zero, List.set_cons_succ]
                  refine wpAnyH_take (i := 21) (oi := ?o93) (v := ?v93) ?hi93 (by kernel_rfl) (by kernel_rfl) (by kernel_rfl) ?hq93 (Or.inl ⟨?hw93, ?hy93⟩) (by assumption) ?r93
                  case hi93 => (simp only [List.getElem?_toArray]; exact rfl)
                  case hq93 => exact fun _ _ _ h => h
                  case hw93 => rfl
                  case hy93 => (intro w hSw; (try dsimp only at hSw); go_simp; try exact rfl)
                  simp only [Act.put, List.setIfInBounds_toArray, List.set_cons_zero, List.set_cons_succ]
                  refine wpAnyH_take (i := 22) (oi := ?o94) (v := ?v94) ?hi94 (by kernel_rfl) (by kernel_rfl) (by kernel_rfl) ?hq94 (Or.inl ⟨?hw94, ?hy94⟩) (by assumption) ?r94
                  case hi94 => (simp only [List.getElem?_toArray]; exact rfl)
                  case hq94 => exact fun _ _ _ h => h
                  case hw94 => rfl
                  case hy94 => (intro w hSw; (try dsimp only at hSw); go_simp; try exact rfl)
                  simp only [Act.put, List.setIfInBounds_toArray, List.set_cons_zero, List.set_cons_succ]
                  refine wpAnyH_take (i := 23) (oi := ?o95) (v := ?v95) ?hi95 (by kernel_rfl) (by kernel_rfl) (by kernel_rfl) ?hq95 (Or.inl ⟨?hw95, ?hy95⟩) (by assumption) ?r95
                  case hi95 => (simp only [List.getElem?_toArray]; exact rfl)
                  case hq95 => exact fun _ _ _ h => h
                  case hw95 => rfl
                  case hy95 => (intro w hSw; (try dsimp only at hSw); go_simp; try exact rfl)
                  simp only [Act.put, List.setIfInBounds_toArray, List.set_cons_zero, List.set_cons_succ]
                  refine wpAnyH_take (i := 25) (oi := ?o96) (v := ?v96) ?hi96 (by kernel_rfl) (by kernel_rfl) (by kernel_rfl) ?hq96 (Or.inl ⟨?hw96, ?hy96⟩) (by assumption) ?r96
                  case hi96 => (simp only [List.getElem?_toArray]; exact rfl)
                  case hq96 => exact fun _ _ _ h => h
                  case hw96 => rfl
                  case hy96 => (intro w hSw; (try dsimp only at hSw); go_simp; try exact rfl)
                  simp only [Act.put, List.setIfInBounds_toArray, List.set_cons_zero, List.set_cons_succ]
                  refine wpAnyH_ready (rs := [24]) (by kernel_rfl) (by simp) ?_
                  refine AllReadyH.cons (o := ?o145) ?hi145 (fun K hK => ?_) AllReadyH.nil
                  case hi145 => (simp only [List.getElem?_toArray]; exact rfl)
                  go_simp
                  go_at_call 20
                  refine (api.open_ C.out).mono ?_
                  rintro e w18 ⟨rfl, bn⟩
                  clear hHeld
                  replace BW := Kept.mk (BW.out.trans (bn.mono BW.out.size))
                  replace C := api.below C bn
                  replace D := Rk.belowK D bn
                  replace B := step_below B bn
                  clear bn
                  refine hK.out _ _ (HS.out _ BW.out) (fun hHeld => ?_)
                  clear hK K
                  try simp only [Act.put, List.setIfInBounds_toArray, List.set_cons_zero, List.set_cons_succ]
                  refine wpAnyH_ready (rs := [26]) (by kernel_rfl) (by simp) ?_
                  refine AllReadyH.cons (o := ?o146) ?hi146 (fun K hK => ?_) AllReadyH.nil
                  case hi146 => (simp only [List.getElem?_toArray]; exact rfl)
                  go_simp
                  go_at_call 21
                  refine (ropen_any D.out).mono ?_
                  rintro e _ ⟨rfl, rfl⟩
                  refine hK.out _ _ hHeld (fun hHeld => ?_)
                  clear hK K
                  try simp only [Act.put, List.setIfInBounds_toArray, List.set_cons_zero, List.set_cons_succ]
                  refine wpAnyH_take (i := 27) (oi := ?o97) (v := ?v97) ?hi97 (by kernel_rfl) (by kernel_rfl) (by kernel_rfl) ?hq97 (Or.inl ⟨?hw97, ?hy97⟩) (by assumption) ?r97
                  case hi97 => (simp only [List.getElem?_toArray]; exact rfl)
                  case hq97 => exact fun _ _ _ h => h
                  case hw97 => rfl
                  case hy97 => (intro w hSw; (try dsimp only at hSw); go_simp; try exact rfl)
                  simp only [Act.put, List.setIfInBounds_toArray, List.set_cons_zero, List.set_cons_succ]
                  refine wpAnyH_take (i := 28) (oi := ?o98) (v := ?v98) ?hi98 (by kernel_rfl) (by kernel_rfl) (by kernel_rfl) ?hq98 (Or.inl ⟨?hw98, ?hy98⟩) (by assumption) ?r98
                  case hi98 => (simp only [List.getElem?_toArray]; exact rfl)
                  case hq98 => exact fun _ _ _ h => h
                  case hw98 => rfl
                  case hy98 => (intro w hSw; (try dsimp only at hSw); go_simp; try exact rfl)
                  simp only [Act.put, List.setIfInBounds_toArray, List.set_cons_zero, List.set_cons_succ]
                  refine wpAnyH_take (i := 29) (oi := ?o99) (v := ?v99) ?hi99 (by kernel_rfl) (by kernel_rfl) (by kernel_rfl) ?hq99 (Or.inl ⟨?hw99, ?hy99⟩) (by assumption) ?r99
                  case hi99 => (simp only [List.getElem?_toArray]; exact rfl)
                  case hq99 => exact fun _ _ _ h => h
                  case hw99 => rfl
                  case hy99 => (intro w hSw; (try dsimp only at hSw); go_simp; try exact rfl)
                  simp only [Act.put, List.setIfInBounds_toArray, List.set_cons_zero, List.set_cons_succ]
                  refine wpAnyH_take (i := 30) (oi := ?o100) (v := ?v100) ?hi100 (by kernel_rfl) (by kernel_rfl) (by kernel_rfl) ?hq100 (Or.inl ⟨?hw100, ?hy100⟩) (by assumption) ?r100
                  case hi100 => (simp only [List.getElem?_toArray]; exact rfl)
                  case hq100 => exact fun _ _ _ h => h
                  case hw100 => rfl
                  case hy100 => (intro w hSw; (try dsimp only at hSw); go_simp; try exact rfl)
                  simp only [Act.put, List.setIfInBounds_toArray, List.set_cons_zero, List.set_cons_succ]
                  refine wpAnyH_take (i := 31) (oi := ?o101) (v := ?v101) ?hi101 (by kernel_rfl) (by kernel_rfl) (by kernel_rfl) ?hq101 (Or.inl ⟨?hw101, ?hy101⟩) (by assumption) ?r101
                  case hi101 => (simp only [List.getElem?_toArray]; exact rfl)
                  case hq101 => exact fun _ _ _ h => h
                  case hw101 => rfl
                  case hy101 => (intro w hSw; (try dsimp only at hSw); go_simp; try exact rfl)
                  simp only [Act.put, List.setIfInBounds_toArray, List.set_cons_zero, List.set_cons_succ]
                  refine wpAnyH_take (i := 32) (oi := ?o102) (v := ?v102) ?hi102 (by kernel_rfl) (by kernel_rfl) (by kernel_rfl) ?hq102 (Or.inl ⟨?hw102, ?hy102⟩) (by assumption) ?r102
                  case hi102 => (simp only [List.getElem?_toArray]; exact rfl)
                  case hq102 => exact fun _ _ _ h => h
                  case hw102 => rfl
                  case hy102 => (intro w hSw; (try dsimp only at hSw); go_simp; try exact rfl)
                  simp only [Act.put, List.setIfInBounds_toArray, List.set_cons_zero, List.set_cons_succ]
                  refine wpAnyH_take (i := 34) (oi := ?o103) (v := ?v103) ?hi103 (by kernel_rfl) (by kernel_rfl) (by kernel_rfl) ?hq103 (Or.inl ⟨?hw103, ?hy103⟩) (by assumption) ?r103
                  case hi103 => (simp only [List.getElem?_toArray]; exact rfl)
                  case hq103 => exact fun _ _ _ h => h
                  case hw103 => rfl
                  case hy103 => (intro w hSw; (try dsimp only at hSw); go_simp; try exact rfl)
                  simp only [Act.put, List.setIfInBounds_toArray, List.set_cons_zero, List.set_cons_succ]
                  refine wpAnyH_take (i := 35) (oi := ?o104) (v := ?v104) ?hi104 (by kernel_rfl) (by kernel_rfl) (by kernel_rfl) ?hq104 (Or.inl ⟨?hw104, ?hy104⟩) (by assumption) ?r104
                  case hi104 => (simp only [List.getElem?_toArray]; exact rfl)
                  case hq104 => exact fun _ _ _ h => h
                  case hw104 => rfl
                  case hy104 => (intro w hSw; (try dsimp only at hSw); go_simp; try exact rfl)
                  simp only [Act.put, List.setIfInBounds_toArray, List.set_cons_zero, List.set_cons_succ]
                  refine wpAnyH_take (i := 36) (oi := ?o105) (v := ?v105) ?hi105 (by kernel_rfl) (by kernel_rfl) (by kernel_rfl) ?hq105 (Or.inl ⟨?hw105, ?hy105⟩) (by assumption) ?r105
                  case hi105 => (simp only [List.getElem?_toArray]; exact rfl)
                  case hq105 => exact fun _ _ _ h => h
                  case hw105 => rfl
                  case hy105 => (intro w hSw; (try dsimp only at hSw); go_simp; try exact rfl)
                  simp only [Act.put, List.setIfInBounds_toArray, List.set_cons_zero, List.set_cons_succ]
                  refine wpAnyH_ready (rs := [33]) (by kernel_rfl) (by simp) ?_
                  refine AllReadyH.cons (o := ?o147) ?hi147 (fun K hK => ?_) AllReadyH.nil
                  case hi147 => (simp only [List.getElem?_toArray]; exact rfl)
                  go_simp
                  go_at_call 22
                  refine (api.total ya C.out I.out.wb).mono ?_
                  rintro e w19 ⟨rfl, bn⟩
                  clear hHeld
                  replace BW := Kept.mk (BW.out.trans (bn.mono BW.out.size))
                  replace C := api.below C bn
                  replace D := Rk.belowK D bn
                  replace B := step_below B bn
                  clear bn
                  refine hK.out _ _ (HS.out _ BW.out) (fun hHeld => ?_)
                  clear hK K
                  try simp only [Act.put, List.setIfInBounds_toArray, List.set_cons_zero, List.set_cons_succ]
                  refine wpAnyH_ready (rs := [37]) (by kernel_rfl) (by simp) ?_
                  refine AllReadyH.cons (o := ?o148) ?hi148 (fun K hK => ?_) AllReadyH.nil
                  case hi148 => (simp only [List.getElem?_toArray]; exact rfl)
                  go_simp
                  go_at_call 23
                  refine (rtot_any D.out I.out.wb ya).mono ?_
                  rintro e _ ⟨rfl, rfl⟩
                  refine hK.out _ _ hHeld (fun hHeld => ?_)
                  clear hK K
                  try simp only [Act.put, List.setIfInBounds_toArray, List.set_cons_zero, List.set_cons_succ]
                  refine wpAnyH_take (i := 38) (oi := ?o106) (v := ?v106) ?hi106 (by kernel_rfl) (by kernel_rfl) (by kernel_rfl) ?hq106 (Or.inl ⟨?hw106, ?hy106⟩) (by assumption) ?r106
                  case hi106 => (simp only [List.getElem?_toArray]; exact rfl)
                  case hq106 => exact fun _ _ _ h => h
                  case hw106 => rfl
                  case hy106 => (intro w hSw; (try dsimp only at hSw); go_simp; try exact rfl)
                  simp only [Act.put, List.setIfInBounds_toArray, List.set_cons_zero, List.set_cons_succ]
                  refine wpAnyH_take (i := 39) (oi := ?o107) (v := ?v107) ?hi107 (by kernel_rfl) (by kernel_rfl) (by kernel_rfl) ?hq107 (Or.inl ⟨?hw107, ?hy107⟩) (by assumption) ?r107
                  case hi107 => (simp only [List.getElem?_toArray]; exact rfl)
                  case hq107 => exact fun _ _ _ h => h
                  case hw107 => rfl
                  case hy107 => (intro w hSw; (try dsimp only at hSw); go_simp; try exact rfl)
                  simp only [Act.put, List.setIfInBounds_toArray, List.set_cons_zero, List.set_cons_succ]
                  refine wpAnyH_take (i := 40) (oi := ?o108) (v := ?v108) ?hi108 (by kernel_rfl) (by kernel_rfl) (by kernel_rfl) ?hq108 (Or.inl ⟨?hw108, ?hy108⟩) (by assumption) ?r108
                  case hi108 => (simp only [List.getElem?_toArray]; exact rfl)
                  case hq108 => exact fun _ _ _ h => h
                  case hw108 => rfl
                  case hy108 => (intro w hSw; (try dsimp only at hSw); go_simp; try exact rfl)
                  simp only [Act.put, List.setIfInBounds_toArray, List.set_cons_zero, List.set_cons_succ]
                  refine wpAnyH_take (i := 41) (oi := ?o109) (v := ?v109) ?hi109 (by kernel_rfl) (by kernel_rfl) (by kernel_rfl) ?hq109 (Or.inl ⟨?hw109, ?hy109⟩) (by assumption) ?r109
                  case hi109 => (simp only [List.getElem?_toArray]; exact rfl)
                  case hq109 => exact fun _ _ _ h => h
                  case hw109 => rfl
                  case hy109 => (intro w hSw; (try dsimp only at hSw); go_simp; try exact rfl)
                  simp only [Act.put, List.setIfInBounds_toArray, List.set_cons_zero, List.set_cons_succ]
                  refine wpAnyH_take (i := 43) (oi := ?o110) (v := ?v110) ?hi110 (by kernel_rfl) (by kernel_rfl) (by kernel_rfl) ?hq110 (Or.inl ⟨?hw110, ?hy110⟩) (by assumption) ?r110
                  case hi110 => (simp only [List.getElem?_toArray]; exact rfl)
                  case hq110 => exact fun _ _ _ h => h
                  case hw110 => rfl
                  case hy110 => (intro w hSw; (try dsimp only at hSw); go_simp; try exact rfl)
                  simp only [Act.put, List.setIfInBounds_toArray, List.set_cons_zero, List.set_cons_succ]
                  refine wpAnyH_take (i := 44) (oi := ?o111) (v := ?v111) ?hi111 (by kernel_rfl) (by kernel_rfl) (by kernel_rfl) ?hq111 (Or.inl ⟨?hw111, ?hy111⟩) (by assumption) ?r111
                  case hi111 => (simp only [List.getElem?_toArray]; exact rfl)
                  case hq111 => exact fun _ _ _ h => h
                  case hw111 => rfl
                  case hy111 => (intro w hSw; (try dsimp only at hSw); go_simp; try exact rfl)
                  simp only [Act.put, List.setIfInBounds_toArray, List.set_cons_zero, List.set_cons_succ]
                  refine wpAnyH_take (i := 45) (oi := ?o112) (v := ?v112) ?hi112 (by kernel_rfl) (by kernel_rfl) (by kernel_rfl) ?hq112 (Or.inl ⟨?hw112, ?hy112⟩) (by assumption) ?r112
                  case hi112 => (simp only [List.getElem?_toArray]; exact rfl)
                  case hq112 => exact fun _ _ _ h => h
                  case hw112 => rfl
                  case hy112 => (intro w hSw; (try dsimp only at hSw); go_simp; try exact rfl)
                  simp only [Act.put, List.setIfInBounds_toArray, List.set_cons_zero, List.set_cons_succ]
                  refine wpAnyH_take (i := 46) (oi := ?o113) (v := ?v113) ?hi113 (by kernel_rfl) (by kernel_rfl) (by kernel_rfl) ?hq113 (Or.inl ⟨?hw113, ?hy113⟩) (by assumption) ?r113
                  case hi113 => (simp only [List.getElem?_toArray]; exact rfl)
                  case hq113 => exact fun _ _ _ h => h
                  case hw113 => rfl
                  case hy113 => (intro w hSw; (try dsimp only at hSw); go_simp; try exact rfl)
                  simp only [Act.put, List.setIfInBounds_toArray, List.set_cons_zero, List.set_cons_succ]
                  refine wpAnyH_take (i := 48) (oi := ?o114) (v := ?v114) ?hi114 (by kernel_rfl) (by kernel_rfl) (by kernel_rfl) ?hq114 (Or.inl ⟨?hw114, ?hy114⟩) (by assumption) ?r114
                  case hi114 => (simp only [List.getElem?_toArray]; exact rfl)
                  case hq114 => exact fun _ _ _ h => h
                  case hw114 => rfl
                  case hy114 => (intro w hSw; (try dsimp only at hSw); go_simp; try exact rfl)
                  simp only [Act.put, List.setIfInBounds_toArray, List.set_cons_zero, List.set_cons_succ]
                  refine wpAnyH_take (i := 49) (oi := ?o115) (v := ?v115) ?hi115 (by kernel_rfl) (by kernel_rfl) (by kernel_rfl) ?hq115 (Or.inl ⟨?hw115, ?hy115⟩) (by assumption) ?r115
                  case hi115 => (simp only [List.getElem?_toArray]; exact rfl)
                  case hq115 => exact fun _ _ _ h => h
                  case hw115 => rfl
                  case hy115 => (intro w hSw; (try dsimp only at hSw); go_simp; try exact rfl)
                  simp only [Act.put, List.setIfInBounds_toArray, List.set_cons_zero, List.set_cons_succ]
                  refine wpAnyH_take (i := 50) (oi := ?o116) (v := ?v116) ?hi116 (by kernel_rfl) (by kernel_rfl) (by kernel_rfl) ?hq116 (Or.inl ⟨?hw116, ?hy116⟩) (by assumption) ?r116
                  case hi116 => (simp only [List.getElem?_toArray]; exact rfl)
                  case hq116 => exact fun _ _ _ h => h
                  case hw116 => rfl
                  case hy116 => (intro w hSw; (try dsimp only at hSw); go_simp; try exact rfl)
                  simp only [Act.put, List.setIfInBounds_toArray, List.set_cons_zero, List.set_cons_succ]
                  refine wpAnyH_take (i := 51) (oi := ?o117) (v := ?v117) ?hi117 (by kernel_rfl) (by kernel_rfl) (by kernel_rfl) ?hq117 (Or.inl ⟨?hw117, ?hy117⟩) (by assumption) ?r117
                  case hi117 => (simp only [List.getElem?_toArray]; exact rfl)
                  case hq117 => exact fun _ _ _ h => h
                  case hw117 => rfl
                  case hy117 => (intro w hSw; (try dsimp only at hSw); go_simp; try exact rfl)
                  simp only [Act.put, List.setIfInBounds_toArray, List.set_cons_zero, List.set_cons_succ]
                  refine wpAnyH_take (i := 52) (oi := ?o118) (v := ?v118) ?hi118 (by kernel_rfl) (by kernel_rfl) (by kernel_rfl) ?hq118 (Or.inl ⟨?hw118, ?hy118⟩) (by assumption) ?r118
                  case hi118 => (simp only [List.getElem?_toArray]; exact rfl)
                  case hq118 => exact fun _ _ _ h => h
                  case hw118 => rfl
                  case hy118 => (intro w hSw; (try dsimp only at hSw); go_simp; try exact rfl)
                  simp only [Act.put, List.setIfInBounds_toArray, List.set_cons_zero, List.set_cons_succ]
                  refine wpAnyH_ready (rs := [42]) (by kernel_rfl) (by simp) ?_
                  refine AllReadyH.cons (o := ?o149) ?hi149 (fun K hK => ?_) AllReadyH.nil
                  case hi149 => (simp only [List.getElem?_toArray]; exact rfl)
                  go_simp
                  go_at_call 9
                  refine (api.purseOf C.out).mono ?_
                  rintro e _ ⟨rfl, d, rfl⟩
                  have bn := below_drewN (Below.refl w19.heap.size w19) d
                  clear hHeld
                  generalize w19.drewN d = w20 at *
                  replace BW := Kept.mk (BW.out.trans (bn.mono BW.out.size))
                  replace C := api.below C bn
                  replace D := Rk.belowK D bn
                  replace B := step_below B bn
                  clear bn
                  refine hK.out _ _ (HS.out _ BW.out) (fun hHeld => ?_)
                  clear hK K
                  try simp only [Act.put, List.setIfInBounds_toArray, List.set_cons_zero, List.set_cons_succ]
                  obtain ⟨GP, -, hp⟩ := api.purse C.out
                  refine wpAnyH_ready (rs := [47]) (by kernel_rfl) (by simp) ?_
                  refine AllReadyH.cons (o := ?o150) ?hi150 (fun K hK => ?_) AllReadyH.nil
                  case hi150 => (simp only [List.getElem?_toArray]; exact rfl)
                  go_simp
                  go_at_call 24
                  refine (has_any hp yw ya).mono ?_
                  rintro e _ ⟨rfl, rfl⟩
                  refine hK.out _ _ hHeld (fun hHeld => ?_)
                  clear hK K
                  try simp only [Act.put, List.setIfInBounds_toArray, List.set_cons_zero, List.set_cons_succ]
                  clear hp
                  obtain ⟨GP2, hp⟩ := D.out.purse
                  refine wpAnyH_ready (rs := [53]) (by kernel_rfl) (by simp) ?_
                  refine AllReadyH.cons (o := ?o151) ?hi151 (fun K hK => ?_) AllReadyH.nil
                  case hi151 => (simp only [List.getElem?_toArray]; exact rfl)
                  go_simp
                  go_at_call 25
                  refine (rhas_any hp yw ya).mono ?_
                  rintro e _ ⟨rfl, rfl⟩
                  refine hK.out _ _ hHeld (fun hHeld => ?_)
                  clear hK K
                  try simp only [Act.put, List.setIfInBounds_toArray, List.set_cons_zero, List.set_cons_succ]
                  clear hp
                  refine wpAnyH_take (i := 54) (oi := ?o119) (v := ?v119) ?hi119 (by kernel_rfl) (by kernel_rfl) (by kernel_rfl) ?hq119 (Or.inl ⟨?hw119, ?hy119⟩) (by assumption) ?r119
                  case hi119 => (simp only [List.getElem?_toArray]; exact rfl)
                  case hq119 => exact fun _ _ _ h => h
                  case hw119 => rfl
                  case hy119 => (intro w hSw; (try dsimp only at hSw); go_simp; try exact rfl)
                  simp only [Act.put, List.setIfInBounds_toArray, List.set_cons_zero, List.set_cons_succ]
                  refine wpAnyH_take (i := 55) (oi := ?o120) (v := ?v120) ?hi120 (by kernel_rfl) (by kernel_rfl) (by kernel_rfl) ?hq120 (Or.inl ⟨?hw120, ?hy120⟩) (by assumption) ?r120
                  case hi120 => (simp only [List.getElem?_toArray]; exact rfl)
                  case hq120 => exact fun _ _ _ h => h
                  case hw120 => rfl
                  case hy120 => (intro w hSw; (try dsimp only at hSw); go_simp; try exact rfl)
                  simp only [Act.put, List.setIfInBounds_toArray, List.set_cons_zero, List.set_cons_succ]
                  refine wpAnyH_take (i := 56) (oi := ?o121) (v := ?v121) ?hi121 (by kernel_rfl) (by kernel_rfl) (by kernel_rfl) ?hq121 (Or.inl ⟨?hw121, ?hy121⟩) (by assumption) ?r121
                  case hi121 => (simp only [List.getElem?_toArray]; exact rfl)
                  case hq121 => exact fun _ _ _ h => h
                  case hw121 => rfl
                  case hy121 => (intro w hSw; (try dsimp only at hSw); go_simp; try exact rfl)
                  simp only [Act.put, List.setIfInBounds_toArray, List.set_cons_zero, List.set_cons_succ]
                  refine wpAnyH_take (i := 57) (oi := ?o122) (v := ?v122) ?hi122 (by kernel_rfl) (by kernel_rfl) (by kernel_rfl) ?hq122 (Or.inl ⟨?hw122, ?hy122⟩) (by assumption) ?r122
                  case hi122 => (simp only [List.getElem?_toArray]; exact rfl)
                  case hq122 => exact fun _ _ _ h => h
                  case hw122 => rfl
                  case hy122 => (intro w hSw; (try dsimp only at hSw); go_simp; try exact rfl)
                  simp only [Act.put, List.setIfInBounds_toArray, List.set_cons_zero, List.set_cons_succ]
                  refine wpAnyH_take (i := 59) (oi := ?o123) (v := ?v123) ?hi123 (by kernel_rfl) (by kernel_rfl) (by kernel_rfl) ?hq123 (Or.inl ⟨?hw123, ?hy123⟩) (by assumption) ?r123
                  case hi123 => (simp only [List.getElem?_toArray]; exact rfl)
                  case hq123 => exact fun _ _ _ h => h
                  case hw123 => rfl
                  case hy123 => (intro w hSw; (try dsimp only at hSw); go_simp; try exact rfl)
                  simp only [Act.put, List.setIfInBounds_toArray, List.set_cons_zero, List.set_cons_succ]
                  refine wpAnyH_take (i := 60) (oi := ?o124) (v := ?v124) ?hi124 (by kernel_rfl) (by kernel_rfl) (by kernel_rfl) ?hq124 (Or.inl ⟨?hw124, ?hy124⟩) (by assumption) ?r124
                  case hi124 => (simp only [List.getElem?_toArray]; exact rfl)
                  case hq124 => exact fun _ _ _ h => h
                  case hw124 => rfl
                  case hy124 => (intro w hSw; (try dsimp only at hSw); go_simp; try exact rfl)
                  simp only [Act.put, List.setIfInBounds_toArray, List.set_cons_zero, List.set_cons_succ]
                  refine wpAnyH_take (i := 61) (oi := ?o125) (v := ?v125) ?hi125 (by kernel_rfl) (by kernel_rfl) (by kernel_rfl) ?hq125 (Or.inl ⟨?hw125, ?hy125⟩) (by assumption) ?r125
                  case hi125 => (simp only [List.getElem?_toArray]; exact rfl)
                  case hq125 => exact fun _ _ _ h => h
                  case hw125 => rfl
                  case hy125 => (intro w hSw; (try dsimp only at hSw); go_simp; try exact rfl)
                  simp only [Act.put, List.setIfInBounds_toArray, List.set_cons_zero, List.set_cons_succ]
                  refine wpAnyH_take (i := 62) (oi := ?o126) (v := ?v126) ?hi126 (by kernel_rfl) (by kernel_rfl) (by kernel_rfl) ?hq126 (Or.inl ⟨?hw126, ?hy126⟩) (by assumption) ?r126
                  case hi126 => (simp only [List.getElem?_toArray]; exact rfl)
                  case hq126 => exact fun _ _ _ h => h
                  case hw126 => rfl
                  case hy126 => (intro w hSw; (try dsimp only at hSw); go_simp; try exact rfl)
                  simp only [Act.put, List.setIfInBounds_toArray, List.set_cons_zero, List.set_cons_succ]
                  refine wpAnyH_take (i := 64) (oi := ?o127) (v := ?v127) ?hi127 (by kernel_rfl) (by kernel_rfl) (by kernel_rfl) ?hq127 (Or.inl ⟨?hw127, ?hy127⟩) (by assumption) ?r127
                  case hi127 => (simp only [List.getElem?_toArray]; exact rfl)
                  case hq127 => exact fun _ _ _ h => h
                  case hw127 => rfl
                  case hy127 => (intro w hSw; (try dsimp only at hSw); go_simp; try exact rfl)
                  simp only [Act.put, List.setIfInBounds_toArray, List.set_cons_zero, List.set_cons_succ]
                  refine wpAnyH_take (i := 65) (oi := ?o128) (v := ?v128) ?hi128 (by kernel_rfl) (by kernel_rfl) (by kernel_rfl) ?hq128 (Or.inl ⟨?hw128, ?hy128⟩) (by assumption) ?r128
                  case hi128 => (simp only [List.getElem?_toArray]; exact rfl)
                  case hq128 => exact fun _ _ _ h => h
                  case hw128 => rfl
                  case hy128 => (intro w hSw; (try dsimp only at hSw); go_simp; try exact rfl)
                  simp only [Act.put, List.setIfInBounds_toArray, List.set_cons_zero, List.set_cons_succ]
                  refine wpAnyH_take (i := 66) (oi := ?o129) (v := ?v129) ?hi129 (by kernel_rfl) (by kernel_rfl) (by kernel_rfl) ?hq129 (Or.inl ⟨?hw129, ?hy129⟩) (by assumption) ?r129
                  case hi129 => (simp only [List.getElem?_toArray]; exact rfl)
                  case hq129 => exact fun _ _ _ h => h
                  case hw129 => rfl
                  case hy129 => (intro w hSw; (try dsimp only at hSw); go_simp; try exact rfl)
                  simp only [Act.put, List.setIfInBounds_toArray, List.set_cons_zero, List.set_cons_succ]
                  refine wpAnyH_take (i := 67) (oi := ?o130) (v := ?v130) ?hi130 (by kernel_rfl) (by kernel_rfl) (by kernel_rfl) ?hq130 (Or.inl ⟨?hw130, ?hy130⟩) (by assumption) ?r130
                  case hi130 => (simp only [List.getElem?_toArray]; exact rfl)
                  case hq130 => exact fun _ _ _ h => h
                  case hw130 => rfl
                  case hy130 => (intro w hSw; (try dsimp only at hSw); go_simp; try exact rfl)
                  simp only [Act.put, List.setIfInBounds_toArray, List.set_cons_zero, List.set_cons_succ]
                  refine wpAnyH_take (i := 68) (oi := ?o131) (v := ?v131) ?hi131 (by kernel_rfl) (by kernel_rfl) (by kernel_rfl) ?hq131 (Or.inl ⟨?hw131, ?hy131⟩) (by assumption) ?r131
                  case hi131 => (simp only [List.getElem?_toArray]; exact rfl)
                  case hq131 => exact fun _ _ _ h => h
                  case hw131 => rfl
                  case hy131 => (intro w hSw; (try dsimp only at hSw); go_simp; try exact rfl)
                  simp only [Act.put, List.setIfInBounds_toArray, List.set_cons_zero, List.set_cons_succ]
                  refine wpAnyH_ready (rs := [58]) (by kernel_rfl) (by simp) ?_
                  refine AllReadyH.cons (o := ?o152) ?hi152 (fun K hK => ?_) AllReadyH.nil
                  case hi152 => (simp only [List.getElem?_toArray]; exact rfl)
                  go_simp
                  go_at_call 9
                  refine (api.purseOf C.out).mono ?_
                  rintro e _ ⟨rfl, d, rfl⟩
                  have bn := below_drewN (Below.refl w20.heap.size w20) d
                  clear hHeld
                  generalize w20.drewN d = w21 at *
                  replace BW := Kept.mk (BW.out.trans (bn.mono BW.out.size))
                  replace C := api.below C bn
                  replace D := Rk.belowK D bn
                  replace B := step_below B bn
                  clear bn
                  refine hK.out _ _ (HS.out _ BW.out) (fun hHeld => ?_)
                  clear hK K
                  try simp only [Act.put, List.setIfInBounds_toArray, List.set_cons_zero, List.set_cons_succ]
                  obtain ⟨GP, -, hp⟩ := api.purse C.out
                  refine wpAnyH_ready (rs := [63]) (by kernel_rfl) (by simp) ?_
                  refine AllReadyH.cons (o := ?o153) ?hi153 (fun K hK => ?_) AllReadyH.nil
                  case hi153 => (simp only [List.getElem?_toArray]; exact rfl)
                  go_simp
                  go_at_call 24
                  refine (has_any hp yt ya).mono ?_
                  rintro e _ ⟨rfl, rfl⟩
                  refine hK.out _ _ hHeld (fun hHeld => ?_)
                  clear hK K
                  try simp only [Act.put, List.setIfInBounds_toArray, List.set_cons_zero, List.set_cons_succ]
                  clear hp
                  obtain ⟨GP2, hp⟩ := D.out.purse
                  refine wpAnyH_ready (rs := [69]) (by kernel_rfl) (by simp) ?_
                  refine AllReadyH.cons (o := ?o154) ?hi154 (fun K hK => ?_) AllReadyH.nil
                  case hi154 => (simp only [List.getElem?_toArray]; exact rfl)
                  go_simp
                  go_at_call 25
                  refine (rhas_any hp yt ya).mono ?_
                  rintro e _ ⟨rfl, rfl⟩
                  refine hK.out _ _ hHeld (fun hHeld => ?_)
                  clear hK K
                  try simp only [Act.put, List.setIfInBounds_toArray, List.set_cons_zero, List.set_cons_succ]
                  clear hp
                  refine wpAnyH_take (i := 70) (oi := ?o132) (v := ?v132) ?hi132 (by kernel_rfl) (by kernel_rfl) (by kernel_rfl) ?hq132 (Or.inl ⟨?hw132, ?hy132⟩) (by assumption) ?r132
                  case hi132 => (simp only [List.getElem?_toArray]; exact rfl)
                  case hq132 => exact fun _ _ _ h => h
                  case hw132 => rfl
                  case hy132 => (intro w hSw; (try dsimp only at hSw); go_simp; try exact rfl)
                  simp only [Act.put, List.setIfInBounds_toArray, List.set_cons_zero, List.set_cons_succ]
                  refine wpAnyH_take (i := 71) (oi := ?o133) (v := ?v133) ?hi133 (by kernel_rfl) (by kernel_rfl) (by kernel_rfl) ?hq133 (Or.inl ⟨?hw133, ?hy133⟩) (by assumption) ?r133
                  case hi133 => (simp only [List.getElem?_toArray]; exact rfl)
                  case hq133 => exact fun _ _ _ h => h
                  case hw133 => rfl
                  case hy133 => (intro w hSw; (try dsimp only at hSw); go_simp; try exact rfl)
                  simp only [Act.put, List.setIfInBounds_toArray, List.set_cons_zero, List.set_cons_succ]
                  refine wpAnyH_done (by kernel_rfl) ?_ _
                  refine NoPanic.normal ?_
                  clear hHeld HS BW
                  go_wp2
                  go_roundw
                  case rel => exact ⟨k + 1, F, G, s, by omega, by go_num, C, D, I, DJ, B, L, M⟩
                  case measure => simp [Go.RowKit.intOf]; omega
            · have hkn' : ¬ (k : Int) < len2 := by omega
              go_wp2_with fail
              refine (first_any api wr).mono ?_
              rintro e w8 ⟨rfl, b8⟩
              replace B := step_below B b8
              go_wp2
              go_ret
              exact ⟨rfl, B.out⟩
end
end Go.Proofs.YtcebjpfmpagfjaaGreat.Escrow
