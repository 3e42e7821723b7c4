/-
  Parts laid together: EscrowCClaim EscrowApi.
-/
import Derived.Test.YtcebjpfmpagfjaaGreatPart15
import Derived.Test.YtcebjpfmpagfjaaGreatPart5
import Derived.Test.YtcebjpfmpagfjaaGreatPart9
import Derived.Test.YtcebjpfmpagfjaaGreatPart23
import Derived.Test.YtcebjpfmpagfjaaGreatPart25
import Derived.Test.YtcebjpfmpagfjaaGreatPart24

namespace Go.Proofs.YtcebjpfmpagfjaaGreat.Escrow
open Go.RowKit Go.Proofs.YtcebjpfmpagfjaaGreat.Sha Go.Proofs.YtcebjpfmpagfjaaGreat.Purse Go.Proofs.YtcebjpfmpagfjaaGreat.Num

section
variable {w : World} {F : List Nat} {x q : Nat} {b : BS}
set_option maxRecDepth 100000 in
set_option maxHeartbeats 2000000 in
theorem cclaim_any (h : Ck w F x q b) (who id : Int) (s : List Int) (clock : Int) (hb : Bytes s) (hh : ∀ k, k < b.l.length → Bytes (atE b.l k).hash) : Calls Tryz.prog 13 #[.pointer (some ⟨x, 0, none⟩), .int .i64 who, .int .i64 id, .string (strOfNums s), .int .i64 clock] w (BookPost (fun w' F' b' => Ck w' F' x q b') w F (claimB b who id s clock)) := by
  obtain ⟨t, G, v, P, rfl⟩ := h
  have GT := Kept.mk (cget_any P id)
  have P0 := Kept.mk P
  have TI := Kept.mk (fun w => tick_any clock w)
  clear P
  have BS := Kept.mk hb
  have HH := Kept.mk hh
  clear hb hh
  cases hE : hasE b.l id with
  | false =>
    rw [show getB b id = (noE, false) from by unfold getB; rw [hE]; rfl] at GT
    have RF : Kept (claimB b who id s clock = (8, b)) := ⟨by unfold claimB; rw [if_pos hE]⟩
    go_enter Tryz.func13, Tryz.ntmps13
    go_wp2_with fail
    refine GT.out.mono ?_
    rintro e w1 ⟨hx, b1⟩
    replace hx : e = .returned (.tuple #[.agg #[.int .i64 0, .int .i64 0, .int .i64 0, .int .i64 0, .int .i64 0, .int .i64 0, .string ⟨#[]⟩, .string ⟨#[]⟩], .bool false]) := hx
    subst hx
    have B1 := Kept.mk b1
    clear b1 GT
    go_wp2_with (go_at_call 35; (with_reducible refine (TI.out _).mono ?_); rintro e w' ⟨rfl, rfl⟩)
    go_ret
    rw [RF.out]
    have b2 := B1.out.alloc B1.out.size (.cells #[.int .i64 0, .int .i64 0, .int .i64 0, .int .i64 0, .int .i64 0, .int .i64 0, .string ⟨#[]⟩, .string ⟨#[]⟩] 47)
    exact ⟨rfl, _, ⟨t, G, v, P0.out.below b2, rfl⟩, fp_below b2⟩
  | true =>
    rw [show getB b id = (atE b.l id.toNat, true) from by unfold getB; rw [if_pos hE]] at GT
    obtain ⟨k, rfl, hk⟩ := hasE_nat hE
    rw [Int.toNat_natCast] at GT
    have RS := Kept.mk (claim_some (who := who) (clock := clock) (s := s) hk)
    have BH := Kept.mk (HH.out k hk)
    obtain ⟨es, ed, ea, en, eu, et, eh, ec, hev⟩ : ∃ es ed ea en eu et eh ec, atE b.l k = ⟨es, ed, ea, en, eu, et, eh, ec⟩ := ⟨_, _, _, _, _, _, _, _, rfl⟩
    rw [hev] at GT RS BH
    dsimp only at RS BH
    have HK := Kept.mk hk
    obtain ⟨L, hL⟩ : ∃ L, s.length = L := ⟨_, rfl⟩
    have hsz : (strOfNums s).size = L := by rw [strOfNums_size, hL]
    rw [hL] at RS
    have LS := Kept.mk hL
    clear hE hev hk HH hL
    by_cases hw : ed = who
    · subst hw
      by_cases hs : et = 0
      · subst hs
        by_cases hd : eu ≤ clock
        · have RF : Kept (claimB b ed k s clock = (11, b)) := ⟨by rw [RS.out, if_neg (fun e => e rfl), if_neg (fun e => e rfl), if_pos (.inl hd)]⟩
          go_enter Tryz.func13, Tryz.ntmps13
          go_wp2_with fail
          refine GT.out.mono ?_
          rintro e w1 ⟨hx, b1⟩
          replace hx : e = .returned (.tuple #[.agg #[.int .i64 es, .int .i64 ed, .int .i64 ea, .int .i64 en, .int .i64 eu, .int .i64 0, .string (strOfNums eh), .string (strOfNums ec)], .bool true]) := hx
          subst hx
          have B1 := Kept.mk b1
          clear b1 GT
          go_wp2_with (go_at_call 35; (with_reducible refine (TI.out _).mono ?_); rintro e w' ⟨rfl, rfl⟩)
          go_ret
          rw [RF.out]
          have b2 := B1.out.alloc B1.out.size (.cells #[.int .i64 es, .int .i64 ed, .int .i64 ea, .int .i64 en, .int .i64 eu, .int .i64 0, .string (strOfNums eh), .string (strOfNums ec)] 47)
          exact ⟨rfl, _, ⟨t, G, v, P0.out.below b2, rfl⟩, fp_below b2⟩
        · cases ht : tickB clock with
          | false =>
            rw [ht] at TI
            have RF : Kept (claimB b ed k s clock = (11, b)) := ⟨by rw [RS.out, if_neg (fun e => e rfl), if_neg (fun e => e rfl), if_pos (.inr ht)]⟩
            go_enter Tryz.func13, Tryz.ntmps13
            go_wp2_with fail
            refine GT.out.mono ?_
            rintro e w1 ⟨hx, b1⟩
            replace hx : e = .returned (.tuple #[.agg #[.int .i64 es, .int .i64 ed, .int .i64 ea, .int .i64 en, .int .i64 eu, .int .i64 0, .string (strOfNums eh), .string (strOfNums ec)], .bool true]) := hx
            subst hx
            have B1 := Kept.mk b1
            clear b1 GT
            go_wp2_with (go_at_call 35; (with_reducible refine (TI.out _).mono ?_); rintro e w' ⟨rfl, rfl⟩)
            go_ret
            rw [RF.out]
            have b2 := B1.out.alloc B1.out.size (.cells #[.int .i64 es, .int .i64 ed, .int .i64 ea, .int .i64 en, .int .i64 eu, .int .i64 0, .string (strOfNums eh), .string (strOfNums ec)] 47)
            exact ⟨rfl, _, ⟨t, G, v, P0.out.below b2, rfl⟩, fp_below b2⟩
          | true =>
            rw [ht] at TI
            by_cases h32 : L ≠ 32
            · have h32' : ¬ (L : Int) = 32 := by omega
              have RF : Kept (claimB b ed k s clock = (2, b)) := ⟨by rw [RS.out, if_neg (fun e => e rfl), if_neg (fun e => e rfl), if_neg (fun e => e.elim hd (by rw [ht]; simp)), if_pos h32]⟩
              go_enter Tryz.func13, Tryz.ntmps13
              go_wp2_with fail
              refine GT.out.mono ?_
              rintro e w1 ⟨hx, b1⟩
              replace hx : e = .returned (.tuple #[.agg #[.int .i64 es, .int .i64 ed, .int .i64 ea, .int .i64 en, .int .i64 eu, .int .i64 0, .string (strOfNums eh), .string (strOfNums ec)], .bool true]) := hx
              subst hx
              have B1 := Kept.mk b1
              clear b1 GT
              go_wp2_with (go_at_call 35; (with_reducible refine (TI.out _).mono ?_); rintro e w' ⟨rfl, rfl⟩)
              go_ret
              rw [RF.out]
              have b2 := B1.out.alloc B1.out.size (.cells #[.int .i64 es, .int .i64 ed, .int .i64 ea, .int .i64 en, .int .i64 eu, .int .i64 0, .string (strOfNums eh), .string (strOfNums ec)] 47)
              exact ⟨rfl, _, ⟨t, G, v, P0.out.below b2, rfl⟩, fp_below b2⟩
            · obtain rfl : L = 32 := Decidable.not_not.1 h32
              by_cases hsh : sha s = eh
              · have heq : ((strOfNums (sha s)).toList == (strOfNums eh).toList) = true := by rw [hsh]; exact beq_self_eq_true _
                have RF : Kept (claimB b ed k s clock = payB b ed k ⟨es, ed, ea, en, eu, 1, eh, s⟩) := ⟨by rw [RS.out, if_neg (fun e => e rfl), if_neg (fun e => e rfl), if_neg (fun e => e.elim hd (by rw [ht]; simp)), if_neg h32, if_neg (fun e => e hsh)]; rfl⟩
                rw [RF.out]
                clear ht RS RF h32 hsh
                go_enter Tryz.func13, Tryz.ntmps13
                go_wp2_with fail
                refine GT.out.mono ?_
                rintro e w1 ⟨hx, b1⟩
                replace hx : e = .returned (.tuple #[.agg #[.int .i64 es, .int .i64 ed, .int .i64 ea, .int .i64 en, .int .i64 eu, .int .i64 0, .string (strOfNums eh), .string (strOfNums ec)], .bool true]) := hx
                subst hx
                have B1 := Kept.mk b1
                clear b1 GT
                go_upto_region 12 with (go_at_call 35; (with_reducible refine (TI.out _).mono ?_); rintro e w' ⟨rfl, rfl⟩)
                have nb : Blk (w1.alloc (.cells #[.int .i64 es, .int .i64 ed, .int .i64 ea, .int .i64 en, .int .i64 eu, .int .i64 0, .string (strOfNums eh), .string (strOfNums ec)] 47)) w1.heap.size 47 #[.int .i64 es, .int .i64 ed, .int .i64 ea, .int .i64 en, .int .i64 eu, .int .i64 0, .string (strOfNums eh), .string (strOfNums ec)] := Blk.new _ _ _
                have B2 := Kept.mk (B1.out.alloc B1.out.size (.cells #[.int .i64 es, .int .i64 ed, .int .i64 ea, .int .i64 en, .int .i64 eu, .int .i64 0, .string (strOfNums eh), .string (strOfNums ec)] 47))
                have B1s := B1.out.size
                obtain ⟨N, hN⟩ : ∃ N, w1.heap.size = N := ⟨_, rfl⟩
                rw [hN] at nb ⊢
                rw [hN] at B1s
                have NB := Kept.mk nb
                clear nb B1 hN
                generalize (w1.alloc (.cells #[.int .i64 es, .int .i64 ed, .int .i64 ea, .int .i64 en, .int .i64 eu, .int .i64 0, .string (strOfNums eh), .string (strOfNums ec)] 47)) = w2 at *
                have tl : t < w.heap.size := ctab_lt P0.out.tab
                have P2 := Kept.mk (P0.out.below B2.out.drew)
                have FB := Kept.mk (fp_below (F := fk t x G v) B2.out.drew)
                have ND := Kept.mk (NB.out.below (Below.refl _ _).drew NB.out.lt)
                obtain ⟨w3, c3, hcv, hc1, hc2, r3, b3⟩ : ∃ w3 c3, (convert 9 69 (.string (strOfNums s))).run Tryz.prog w2.drew = .ok (.slice (some ⟨w2.heap.size, 0, none⟩) s.length c3) w3 ∧ s.length ≤ c3 ∧ c3 ≤ 9223372036854775807 ∧ Rd w3 (some ⟨w2.heap.size, 0, none⟩) s.length s ∧ Below w2.heap.size w2.drew w3 := to_bytes2 w2.drew s BS.out (by rw [LS.out]; decide)
                rw [LS.out] at hcv r3 hc1
                have P3 := Kept.mk (P2.out.below b3)
                have F3 := Kept.mk (FB.out.trans (fp_below b3))
                have N3 := Kept.mk (ND.out.below b3 ND.out.lt)
                have OC := Kept.mk (one_any t _ 32 c3 s w3 P3.out.tab r3 hc1 hc2 (by decide))
                have HELD0 : (fun w' : World => w'.cell? ⟨x, 0, none⟩ = some (.pointer (some ⟨t, 0, none⟩)) ∧ w'.cell? ⟨N, 6, none⟩ = some (.string (strOfNums eh))) w2.drew := ⟨P2.out.c0, ND.out.cell 6⟩
                clear FB P2 ND r3 b3 NB B2
                refine wp_region_noPanic ?_
                refine wp_region_held_drew (S := fun w' : World => w'.cell? ⟨x, 0, none⟩ = some (.pointer (some ⟨t, 0, none⟩)) ∧ w'.cell? ⟨N, 6, none⟩ = some (.string (strOfNums eh))) (by kernel_rfl) HELD0 (fun hHeld => ?_)
                clear HELD0
                refine wpAnyH_take (i := 0) (oi := ?o19) (v := ?v19) ?hi19 (by kernel_rfl) (by kernel_rfl) (by kernel_rfl) ?hq19 (Or.inl ⟨?hw19, ?hy19⟩) (by assumption) ?r19
                case hi19 => (simp only [List.getElem?_toArray, List.getElem?_cons_zero]; exact rfl)
                case hq19 => exact fun _ _ _ h => h
                case hw19 => rfl
                case hy19 => (intro w hSw; (try dsimp only at hSw); go_simp; try exact rfl)
                simp only [Act.put, List.setIfInBounds_toArray, List.set_cons_zero, List.set_cons_succ]
                refine wpAnyH_take (i := 1) (oi := ?o20) (v := ?v20) ?hi20 (by kernel_rfl) (by kernel_rfl) (by kernel_rfl) ?hq20 (Or.inl ⟨?hw20, ?hy20⟩) (by assumption) ?r20
                case hi20 => (simp only [List.getElem?_toArray, List.getElem?_cons_succ, List.getElem?_cons_zero]; exact rfl)
                case hq20 => exact fun _ _ _ h => h
                case hw20 => rfl
                case hy20 => (intro w hSw; (try dsimp only at hSw); go_simp; try exact rfl)
                simp only [Act.put, List.setIfInBounds_toArray, List.set_cons_zero, List.set_cons_succ]
                refine wpAnyH_take (i := 2) (oi := ?o21) (v := ?v21) ?hi21 (by kernel_rfl) (by kernel_rfl) (by kernel_rfl) ?hq21 (Or.inl ⟨?hw21, ?hy21⟩) (by assumption) ?r21
                case hi21 => (simp only [List.getElem?_toArray, List.getElem?_cons_succ, List.getElem?_cons_zero]; exact rfl)
                case hq21 => exact fun _ _ _ h => h
                case hw21 => rfl
                case hy21 => (intro w hSw; (try dsimp only at hSw); go_simp; try exact rfl)
                simp only [Act.put, List.setIfInBounds_toArray, List.set_cons_zero, List.set_cons_succ]
                refine wpAnyH_take (i := 3) (oi := ?o22) (v := ?v22) ?hi22 (by kernel_rfl) (by kernel_rfl) (by kernel_rfl) ?hq22 (Or.inl ⟨?hw22, ?hy22⟩) (by assumption) ?r22
                case hi22 => (simp only [List.getElem?_toArray, List.getElem?_cons_succ, List.getElem?_cons_zero]; exact rfl)
                case hq22 => exact fun _ _ _ h => h
                case hw22 => rfl
                case hy22 => (intro w hSw; (try dsimp only at hSw); go_simp; try exact rfl)
                simp only [Act.put, List.setIfInBounds_toArray, List.set_cons_zero, List.set_cons_succ]
                refine wpAnyH_take (i := 4) (oi := ?o23) (v := ?v23) ?hi23 (by kernel_rfl) (by kernel_rfl) (by kernel_rfl) ?hq23 (Or.inl ⟨?hw23, ?hy23⟩) (by assumption) ?r23
                case hi23 => (simp only [List.getElem?_toArray, List.getElem?_cons_succ, List.getElem?_cons_zero]; exact rfl)
                case hq23 => exact fun _ _ _ h => h
                case hw23 => rfl
                case hy23 => (intro w hSw; (try dsimp only at hSw); go_simp; try exact rfl)
                simp only [Act.put, List.setIfInBounds_toArray, List.set_cons_zero, List.set_cons_succ]
                refine wpAnyH_take (i := 8) (oi := ?o24) (v := ?v24) ?hi24 (by kernel_rfl) (by kernel_rfl) (by kernel_rfl) ?hq24 (Or.inl ⟨?hw24, ?hy24⟩) (by assumption) ?r24
                case hi24 => (simp only [List.getElem?_toArray, List.getElem?_cons_succ, List.getElem?_cons_zero]; exact rfl)
                case hq24 => exact fun _ _ _ h => h
                case hw24 => rfl
                case hy24 => (intro w hSw; (try dsimp only at hSw); go_simp; try exact rfl)
                simp only [Act.put, List.setIfInBounds_toArray, List.set_cons_zero, List.set_cons_succ]
                refine wpAnyH_take (i := 9) (oi := ?o25) (v := ?v25) ?hi25 (by kernel_rfl) (by kernel_rfl) (by kernel_rfl) ?hq25 (Or.inl ⟨?hw25, ?hy25⟩) (by assumption) ?r25
                case hi25 => (simp only [List.getElem?_toArray, List.getElem?_cons_succ, List.getElem?_cons_zero]; exact rfl)
                case hq25 => exact fun _ _ _ h => h
                case hw25 => rfl
                case hy25 => (intro w hSw; (try dsimp only at hSw); go_simp; try exact rfl)
                simp only [Act.put, List.setIfInBounds_toArray, List.set_cons_zero, List.set_cons_succ]
                refine wpAnyH_ready (rs := [5]) (by kernel_rfl) (by simp) ?_
                refine AllReadyH.cons (o := ?o37) ?hi37 (fun K hK => ?_) AllReadyH.nil
                case hi37 => (simp only [List.getElem?_toArray, List.getElem?_cons_succ, List.getElem?_cons_zero]; exact rfl)
                go_simp
                refine hK.out _ _ ⟨P3.out.c0, N3.out.cell 6⟩ (fun hHeld2 => ?_)
                clear hK K hHeld
                try simp only [Act.put, List.setIfInBounds_toArray, List.set_cons_zero, List.set_cons_succ]
                refine wpAnyH_ready (rs := [6]) (by kernel_rfl) (by simp) ?_
                refine AllReadyH.cons (o := ?o38) ?hi38 (fun K hK => ?_) AllReadyH.nil
                case hi38 => (simp only [List.getElem?_toArray, List.getElem?_cons_succ, List.getElem?_cons_zero]; exact rfl)
                go_simp
                go_at_call 43
                refine OC.out.mono ?_
                rintro e w4 ⟨M, rfl, hM, kM, mt, bt⟩
                have hcv2 := conv_same (cap := 32) (Rd.blk kM (sha_bytes s) (sha_len s))
                have PT := P3.out.tabled (.inr mt) bt
                have P4 := Kept.mk PT.1
                have F4 := Kept.mk (F3.out.trans PT.2)
                have N4 := Kept.mk (N3.out.bar bt (by simp; omega))
                clear PT kM mt bt P3 F3 N3 OC
                refine hK.out _ _ ⟨P4.out.c0, N4.out.cell 6⟩ (fun hHeld3 => ?_)
                clear hK K hHeld2
                try simp only [Act.put, List.setIfInBounds_toArray, List.set_cons_zero, List.set_cons_succ]
                refine wpAnyH_ready (rs := [7]) (by kernel_rfl) (by simp) ?_
                refine AllReadyH.cons (o := ?o39) ?hi39 (fun K hK => ?_) AllReadyH.nil
                case hi39 => (simp only [List.getElem?_toArray, List.getElem?_cons_succ, List.getElem?_cons_zero]; exact rfl)
                go_simp
                refine hK.out _ _ hHeld3 (fun hHeld4 => ?_)
                clear hK K hHeld3
                try simp only [Act.put, List.setIfInBounds_toArray, List.set_cons_zero, List.set_cons_succ]
                refine wpAnyH_take (i := 10) (oi := ?o26) (v := ?v26) ?hi26 (by kernel_rfl) (by kernel_rfl) (by kernel_rfl) ?hq26 (Or.inl ⟨?hw26, ?hy26⟩) (by assumption) ?r26
                case hi26 => (simp only [List.getElem?_toArray, List.getElem?_cons_succ, List.getElem?_cons_zero]; exact rfl)
                case hq26 => exact fun _ _ _ h => h
                case hw26 => rfl
                case hy26 => (intro w hSw; (try dsimp only at hSw); go_simp; try exact rfl)
                simp only [Act.put, List.setIfInBounds_toArray, List.set_cons_zero, List.set_cons_succ]
                refine wpAnyH_take (i := 11) (oi := ?o27) (v := ?v27) ?hi27 (by kernel_rfl) (by kernel_rfl) (by kernel_rfl) ?hq27 (Or.inl ⟨?hw27, ?hy27⟩) (by assumption) ?r27
                case hi27 => (simp only [List.getElem?_toArray, List.getElem?_cons_succ, List.getElem?_cons_zero]; exact rfl)
                case hq27 => exact fun _ _ _ h => h
                case hw27 => rfl
                case hy27 => (intro w hSw; (try dsimp only at hSw); go_simp; try exact rfl)
                simp only [Act.put, List.setIfInBounds_toArray, List.set_cons_zero, List.set_cons_succ]
                refine wpAnyH_done (by kernel_rfl) ?_ _
                refine NoPanic.normal ?_
                have n5 : w4.cell? ⟨N, 5, none⟩ = some (.int .i64 0) := N4.out.cell 5
                have f5 := N4.out.frozen 5
                have jN : Kept (Disj (fk t x G v) [N]) := ⟨fun z hz hm => by have h1 := P0.out.lts z hz; rw [List.mem_singleton] at hm; omega⟩
                clear hcv hcv2 hHeld4 hM P0
                go_upto_region 15 with fail
                have bs : Bar [N] w4 (w4.setCell ⟨N, 5, none⟩ (.int .i64 1)) := (Bar.refl [N] w4).setCell (by simp) _
                have P5 := Kept.mk (P4.out.keep bs jN.out)
                have F5 : Kept (Fp (fk t x G v) (fk t x G v) w (w4.setCell ⟨N, 5, none⟩ (.int .i64 1))) := ⟨F4.out.1.trans bs (fun z hz => .inr (by rw [List.mem_singleton] at hz; omega)), F4.out.2⟩
                have N5 := Kept.mk (N4.out.set_ 5 (.int .i64 1))
                clear bs P4 F4 N4 n5 f5
                generalize (w4.setCell ⟨N, 5, none⟩ (.int .i64 1)) = w5 at *
                go_wp2_with fail
                refine (clone32_any s LS.out w5).mono ?_
                rintro e w6 ⟨rfl, b6⟩
                have P6 := Kept.mk (P5.out.below b6)
                have F6 := Kept.mk (F5.out.trans (fp_below b6))
                have N6 := Kept.mk (N5.out.below b6 N5.out.lt)
                have n7 : w6.cell? ⟨N, 7, none⟩ = some (.string (strOfNums ec)) := N6.out.cell 7
                have f7 := N6.out.frozen 7
                clear P5 F5 N5 b6
                go_upto_region 16 with fail
                have bs : Bar [N] w6 (w6.setCell ⟨N, 7, none⟩ (.string (strOfNums s))) := (Bar.refl [N] w6).setCell (by simp) _
                have P7 := Kept.mk (P6.out.keep bs jN.out)
                have F7 : Kept (Fp (fk t x G v) (fk t x G v) w (w6.setCell ⟨N, 7, none⟩ (.string (strOfNums s)))) := ⟨F6.out.1.trans bs (fun z hz => .inr (by rw [List.mem_singleton] at hz; omega)), F6.out.2⟩
                have N7 := N6.out.set_ 7 (.string (strOfNums s))
                clear bs P6 F6 N6 n7 f7
                generalize (w6.setCell ⟨N, 7, none⟩ (.string (strOfNums s))) = w7 at *
                have n0 : w7.cell? ⟨N, 0, none⟩ = some (.int .i64 es) := N7.cell 0
                have n1 : w7.cell? ⟨N, 1, none⟩ = some (.int .i64 ed) := N7.cell 1
                have n2 : w7.cell? ⟨N, 2, none⟩ = some (.int .i64 ea) := N7.cell 2
                have n3 : w7.cell? ⟨N, 3, none⟩ = some (.int .i64 en) := N7.cell 3
                have n4 : w7.cell? ⟨N, 4, none⟩ = some (.int .i64 eu) := N7.cell 4
                have n5 : w7.cell? ⟨N, 5, none⟩ = some (.int .i64 1) := N7.cell 5
                have n6 : w7.cell? ⟨N, 6, none⟩ = some (.string (strOfNums eh)) := N7.cell 6
                have n7 : w7.cell? ⟨N, 7, none⟩ = some (.string (strOfNums s)) := N7.cell 7
                have PY := Kept.mk (pay_any P7.out ed k HK.out ⟨es, ed, ea, en, eu, 1, eh, s⟩)
                unfold evV at PY
                dsimp only at PY
                clear N7
                go_wp2_with fail
                refine PY.out.mono ?_
                rintro e w8 ⟨rfl, F', hc, fp⟩
                have HC := Kept.mk hc
                have FF := Kept.mk (F7.out.trans fp)
                clear hc fp PY
                go_wp2
                go_ret
                exact ⟨rfl, F', HC.out, FF.out⟩
              · have heq : ((strOfNums (sha s)).toList == (strOfNums eh).toList) = false := beq_eq_false_iff_ne.2 (fun e => hsh (strOfNums_inj (sha_bytes s) BH.out e))
                have RF : Kept (claimB b ed k s clock = (10, b)) := ⟨by rw [RS.out, if_neg (fun e => e rfl), if_neg (fun e => e rfl), if_neg (fun e => e.elim hd (by rw [ht]; simp)), if_neg h32, if_pos hsh]⟩
                clear ht RS h32 hsh
                go_enter Tryz.func13, Tryz.ntmps13
                go_wp2_with fail
                refine GT.out.mono ?_
                rintro e w1 ⟨hx, b1⟩
                replace hx : e = .returned (.tuple #[.agg #[.int .i64 es, .int .i64 ed, .int .i64 ea, .int .i64 en, .int .i64 eu, .int .i64 0, .string (strOfNums eh), .string (strOfNums ec)], .bool true]) := hx
                subst hx
                have B1 := Kept.mk b1
                clear b1 GT
                go_upto_region 12 with (go_at_call 35; (with_reducible refine (TI.out _).mono ?_); rintro e w' ⟨rfl, rfl⟩)
                have nb : Blk (w1.alloc (.cells #[.int .i64 es, .int .i64 ed, .int .i64 ea, .int .i64 en, .int .i64 eu, .int .i64 0, .string (strOfNums eh), .string (strOfNums ec)] 47)) w1.heap.size 47 #[.int .i64 es, .int .i64 ed, .int .i64 ea, .int .i64 en, .int .i64 eu, .int .i64 0, .string (strOfNums eh), .string (strOfNums ec)] := Blk.new _ _ _
                have B2 := Kept.mk (B1.out.alloc B1.out.size (.cells #[.int .i64 es, .int .i64 ed, .int .i64 ea, .int .i64 en, .int .i64 eu, .int .i64 0, .string (strOfNums eh), .string (strOfNums ec)] 47))
                have B1s := B1.out.size
                obtain ⟨N, hN⟩ : ∃ N, w1.heap.size = N := ⟨_, rfl⟩
                rw [hN] at nb ⊢
                rw [hN] at B1s
                have NB := Kept.mk nb
                clear nb B1 hN
                generalize (w1.alloc (.cells #[.int .i64 es, .int .i64 ed, .int .i64 ea, .int .i64 en, .int .i64 eu, .int .i64 0, .string (strOfNums eh), .string (strOfNums ec)] 47)) = w2 at *
                have tl : t < w.heap.size := ctab_lt P0.out.tab
                have P2 := Kept.mk (P0.out.below B2.out.drew)
                have FB := Kept.mk (fp_below (F := fk t x G v) B2.out.drew)
                have ND := Kept.mk (NB.out.below (Below.refl _ _).drew NB.out.lt)
                obtain ⟨w3, c3, hcv, hc1, hc2, r3, b3⟩ : ∃ w3 c3, (convert 9 69 (.string (strOfNums s))).run Tryz.prog w2.drew = .ok (.slice (some ⟨w2.heap.size, 0, none⟩) s.length c3) w3 ∧ s.length ≤ c3 ∧ c3 ≤ 9223372036854775807 ∧ Rd w3 (some ⟨w2.heap.size, 0, none⟩) s.length s ∧ Below w2.heap.size w2.drew w3 := to_bytes2 w2.drew s BS.out (by rw [LS.out]; decide)
                rw [LS.out] at hcv r3 hc1
                have P3 := Kept.mk (P2.out.below b3)
                have F3 := Kept.mk (FB.out.trans (fp_below b3))
                have N3 := Kept.mk (ND.out.below b3 ND.out.lt)
                have OC := Kept.mk (one_any t _ 32 c3 s w3 P3.out.tab r3 hc1 hc2 (by decide))
                have HELD0 : (fun w' : World => w'.cell? ⟨x, 0, none⟩ = some (.pointer (some ⟨t, 0, none⟩)) ∧ w'.cell? ⟨N, 6, none⟩ = some (.string (strOfNums eh))) w2.drew := ⟨P2.out.c0, ND.out.cell 6⟩
                clear FB P2 ND r3 b3 NB B2
                refine wp_region_noPanic ?_
                refine wp_region_held_drew (S := fun w' : World => w'.cell? ⟨x, 0, none⟩ = some (.pointer (some ⟨t, 0, none⟩)) ∧ w'.cell? ⟨N, 6, none⟩ = some (.string (strOfNums eh))) (by kernel_rfl) HELD0 (fun hHeld => ?_)
                clear HELD0
                refine wpAnyH_take (i := 0) (oi := ?o28) (v := ?v28) ?hi28 (by kernel_rfl) (by kernel_rfl) (by kernel_rfl) ?hq28 (Or.inl ⟨?hw28, ?hy28⟩) (by assumption) ?r28
                case hi28 => (simp only [List.getElem?_toArray, List.getElem?_cons_zero]; exact rfl)
                case hq28 => exact fun _ _ _ h => h
                case hw28 => rfl
                case hy28 => (intro w hSw; (try dsimp only at hSw); go_simp; try exact rfl)
                simp only [Act.put, List.setIfInBounds_toArray, List.set_cons_zero, List.set_cons_succ]
                refine wpAnyH_take (i := 1) (oi := ?o29) (v := ?v29) ?hi29 (by kernel_rfl) (by kernel_rfl) (by kernel_rfl) ?hq29 (Or.inl ⟨?hw29, ?hy29⟩) (by assumption) ?r29
                case hi29 => (simp only [List.getElem?_toArray, List.getElem?_cons_succ, List.getElem?_cons_zero]; exact rfl)
                case hq29 => exact fun _ _ _ h => h
                case hw29 => rfl
                case hy29 => (intro w hSw; (try dsimp only at hSw); go_simp; try exact rfl)
                simp only [Act.put, List.setIfInBounds_toArray, List.set_cons_zero, List.set_cons_succ]
                refine wpAnyH_take (i := 2) (oi := ?o30) (v := ?v30) ?hi30 (by kernel_rfl) (by kernel_rfl) (by kernel_rfl) ?hq30 (Or.inl ⟨?hw30, ?hy30⟩) (by assumption) ?r30
                case hi30 => (simp only [List.getElem?_toArray, List.getElem?_cons_succ, List.getElem?_cons_zero]; exact rfl)
                case hq30 => exact fun _ _ _ h => h
                case hw30 => rfl
                case hy30 => (intro w hSw; (try dsimp only at hSw); go_simp; try exact rfl)
                simp only [Act.put, List.setIfInBounds_toArray, List.set_cons_zero, List.set_cons_succ]
                refine wpAnyH_take (i := 3) (oi := ?o31) (v := ?v31) ?hi31 (by kernel_rfl) (by kernel_rfl) (by kernel_rfl) ?hq31 (Or.inl ⟨?hw31, ?hy31⟩) (by assumption) ?r31
                case hi31 => (simp only [List.getElem?_toArray, List.getElem?_cons_succ, List.getElem?_cons_zero]; exact rfl)
                case hq31 => exact fun _ _ _ h => h
                case hw31 => rfl
                case hy31 => (intro w hSw; (try dsimp only at hSw); go_simp; try exact rfl)
                simp only [Act.put, List.setIfInBounds_toArray, List.set_cons_zero, List.set_cons_succ]
                refine wpAnyH_take (i := 4) (oi := ?o32) (v := ?v32) ?hi32 (by kernel_rfl) (by kernel_rfl) (by kernel_rfl) ?hq32 (Or.inl ⟨?hw32, ?hy32⟩) (by assumption) ?r32
                case hi32 => (simp only [List.getElem?_toArray, List.getElem?_cons_succ, List.getElem?_cons_zero]; exact rfl)
                case hq32 => exact fun _ _ _ h => h
                case hw32 => rfl
                case hy32 => (intro w hSw; (try dsimp only at hSw); go_simp; try exact rfl)
                simp only [Act.put, List.setIfInBounds_toArray, List.set_cons_zero, List.set_cons_succ]
                refine wpAnyH_take (i := 8) (oi := ?o33) (v := ?v33) ?hi33 (by kernel_rfl) (by kernel_rfl) (by kernel_rfl) ?hq33 (Or.inl ⟨?hw33, ?hy33⟩) (by assumption) ?r33
                case hi33 => (simp only [List.getElem?_toArray, List.getElem?_cons_succ, List.getElem?_cons_zero]; exact rfl)
                case hq33 => exact fun _ _ _ h => h
                case hw33 => rfl
                case hy33 => (intro w hSw; (try dsimp only at hSw); go_simp; try exact rfl)
                simp only [Act.put, List.setIfInBounds_toArray, List.set_cons_zero, List.set_cons_succ]
                refine wpAnyH_take (i := 9) (oi := ?o34) (v := ?v34) ?hi34 (by kernel_rfl) (by kernel_rfl) (by kernel_rfl) ?hq34 (Or.inl ⟨?hw34, ?hy34⟩) (by assumption) ?r34
                case hi34 => (simp only [List.getElem?_toArray, List.getElem?_cons_succ, List.getElem?_cons_zero]; exact rfl)
                case hq34 => exact fun _ _ _ h => h
                case hw34 => rfl
                case hy34 => (intro w hSw; (try dsimp only at hSw); go_simp; try exact rfl)
                simp only [Act.put, List.setIfInBounds_toArray, List.set_cons_zero, List.set_cons_succ]
                refine wpAnyH_ready (rs := [5]) (by kernel_rfl) (by simp) ?_
                refine AllReadyH.cons (o := ?o40) ?hi40 (fun K hK => ?_) AllReadyH.nil
                case hi40 => (simp only [List.getElem?_toArray, List.getElem?_cons_succ, List.getElem?_cons_zero]; exact rfl)
                go_simp
                refine hK.out _ _ ⟨P3.out.c0, N3.out.cell 6⟩ (fun hHeld2 => ?_)
                clear hK K hHeld
                try simp only [Act.put, List.setIfInBounds_toArray, List.set_cons_zero, List.set_cons_succ]
                refine wpAnyH_ready (rs := [6]) (by kernel_rfl) (by simp) ?_
                refine AllReadyH.cons (o := ?o41) ?hi41 (fun K hK => ?_) AllReadyH.nil
                case hi41 => (simp only [List.getElem?_toArray, List.getElem?_cons_succ, List.getElem?_cons_zero]; exact rfl)
                go_simp
                go_at_call 43
                refine OC.out.mono ?_
                rintro e w4 ⟨M, rfl, hM, kM, mt, bt⟩
                have hcv2 := conv_same (cap := 32) (Rd.blk kM (sha_bytes s) (sha_len s))
                have PT := P3.out.tabled (.inr mt) bt
                have P4 := Kept.mk PT.1
                have F4 := Kept.mk (F3.out.trans PT.2)
                have N4 := Kept.mk (N3.out.bar bt (by simp; omega))
                clear PT kM mt bt P3 F3 N3 OC
                refine hK.out _ _ ⟨P4.out.c0, N4.out.cell 6⟩ (fun hHeld3 => ?_)
                clear hK K hHeld2
                try simp only [Act.put, List.setIfInBounds_toArray, List.set_cons_zero, List.set_cons_succ]
                refine wpAnyH_ready (rs := [7]) (by kernel_rfl) (by simp) ?_
                refine AllReadyH.cons (o := ?o42) ?hi42 (fun K hK => ?_) AllReadyH.nil
                case hi42 => (simp only [List.getElem?_toArray, List.getElem?_cons_succ, List.getElem?_cons_zero]; exact rfl)
                go_simp
                refine hK.out _ _ hHeld3 (fun hHeld4 => ?_)
                clear hK K hHeld3
                try simp only [Act.put, List.setIfInBounds_toArray, List.set_cons_zero, List.set_cons_succ]
                refine wpAnyH_take (i := 10) (oi := ?o35) (v := ?v35) ?hi35 (by kernel_rfl) (by kernel_rfl) (by kernel_rfl) ?hq35 (Or.inl ⟨?hw35, ?hy35⟩) (by assumption) ?r35
                case hi35 => (simp only [List.getElem?_toArray, List.getElem?_cons_succ, List.getElem?_cons_zero]; exact rfl)
                case hq35 => exact fun _ _ _ h => h
                case hw35 => rfl
                case hy35 => (intro w hSw; (try dsimp only at hSw); go_simp; try exact rfl)
                simp only [Act.put, List.setIfInBounds_toArray, List.set_cons_zero, List.set_cons_succ]
                refine wpAnyH_take (i := 11) (oi := ?o36) (v := ?v36) ?hi36 (by kernel_rfl) (by kernel_rfl) (by kernel_rfl) ?hq36 (Or.inl ⟨?hw36, ?hy36⟩) (by assumption) ?r36
                case hi36 => (simp only [List.getElem?_toArray, List.getElem?_cons_succ, List.getElem?_cons_zero]; exact rfl)
                case hq36 => exact fun _ _ _ h => h
                case hw36 => rfl
                case hy36 => (intro w hSw; (try dsimp only at hSw); go_simp; try exact rfl)
                simp only [Act.put, List.setIfInBounds_toArray, List.set_cons_zero, List.set_cons_succ]
                refine wpAnyH_done (by kernel_rfl) ?_ _
                refine NoPanic.normal ?_
                clear hcv hcv2 hHeld4
                go_wp2
                go_ret
                rw [RF.out]
                exact ⟨rfl, _, ⟨t, G, v, P4.out, rfl⟩, F4.out⟩
      · have hs' : (et == 0) = false := beq_eq_false_iff_ne.2 hs
        have RF : Kept (claimB b ed k s clock = (9, b)) := ⟨by rw [RS.out, if_neg (fun e => e rfl), if_pos hs]⟩
        go_enter Tryz.func13, Tryz.ntmps13
        go_wp2_with fail
        refine GT.out.mono ?_
        rintro e w1 ⟨hx, b1⟩
        replace hx : e = .returned (.tuple #[.agg #[.int .i64 es, .int .i64 ed, .int .i64 ea, .int .i64 en, .int .i64 eu, .int .i64 et, .string (strOfNums eh), .string (strOfNums ec)], .bool true]) := hx
        subst hx
        have B1 := Kept.mk b1
        clear b1 GT
        go_wp2_with (go_at_call 35; (with_reducible refine (TI.out _).mono ?_); rintro e w' ⟨rfl, rfl⟩)
        go_ret
        rw [RF.out]
        have b2 := B1.out.alloc B1.out.size (.cells #[.int .i64 es, .int .i64 ed, .int .i64 ea, .int .i64 en, .int .i64 eu, .int .i64 et, .string (strOfNums eh), .string (strOfNums ec)] 47)
        exact ⟨rfl, _, ⟨t, G, v, P0.out.below b2, rfl⟩, fp_below b2⟩
    · have hw' : (who == ed) = false := beq_eq_false_iff_ne.2 (fun e => hw e.symm)
      have RF : Kept (claimB b who k s clock = (14, b)) := ⟨by rw [RS.out, if_pos hw]⟩
      go_enter Tryz.func13, Tryz.ntmps13
      go_wp2_with fail
      refine GT.out.mono ?_
      rintro e w1 ⟨hx, b1⟩
      replace hx : e = .returned (.tuple #[.agg #[.int .i64 es, .int .i64 ed, .int .i64 ea, .int .i64 en, .int .i64 eu, .int .i64 et, .string (strOfNums eh), .string (strOfNums ec)], .bool true]) := hx
      subst hx
      have B1 := Kept.mk b1
      clear b1 GT
      go_wp2_with (go_at_call 35; (with_reducible refine (TI.out _).mono ?_); rintro e w' ⟨rfl, rfl⟩)
      go_ret
      rw [RF.out]
      have b2 := B1.out.alloc B1.out.size (.cells #[.int .i64 es, .int .i64 ed, .int .i64 ea, .int .i64 en, .int .i64 eu, .int .i64 et, .string (strOfNums eh), .string (strOfNums ec)] 47)
      exact ⟨rfl, _, ⟨t, G, v, P0.out.below b2, rfl⟩, fp_below b2⟩
end
end Go.Proofs.YtcebjpfmpagfjaaGreat.Escrow

namespace Go.Proofs.YtcebjpfmpagfjaaGreat.Escrow
open Go.RowKit Go.Proofs.YtcebjpfmpagfjaaGreat.Sha Go.Proofs.YtcebjpfmpagfjaaGreat.Purse Go.Proofs.YtcebjpfmpagfjaaGreat.Num

theorem eapi : EscrowApi Ck where
  lts h := h.lts
  keep h b j := h.keep b j
  purse h := by
    obtain ⟨t, G, v, h, rfl⟩ := h
    exact ⟨G, fun g hg => fk_mem.2 (.inr (.inr (.inr hg))), h.pc⟩
  new hf hp ht := cnew_any hf hp ht
  lock i j a n hs due clock h _ hl := clock_any h i j a n hs due clock hl
  claim who id s clock h hb hh := cclaim_any h who id s clock hb hh
  refund who id clock h := crefund_any h who id clock
  get id h := by
    obtain ⟨t, G, v, h, rfl⟩ := h
    exact cget_any h id
  len h := by
    obtain ⟨t, G, v, h, rfl⟩ := h
    exact (clen_any h).mono fun e w' k => ⟨k.1, 0, k.2.symm⟩
  open_ h := by
    obtain ⟨t, G, v, h, rfl⟩ := h
    exact copen_any h
  total a h wb := by
    obtain ⟨t, G, v, h, rfl⟩ := h
    exact ctot_any h wb a
  purseOf h := by
    obtain ⟨t, G, v, h, rfl⟩ := h
    exact (cpurse_any h).mono fun e w' k => ⟨k.1, 0, k.2.symm⟩
end Go.Proofs.YtcebjpfmpagfjaaGreat.Escrow
