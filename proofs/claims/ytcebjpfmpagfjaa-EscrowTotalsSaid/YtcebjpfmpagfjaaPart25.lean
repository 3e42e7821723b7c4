/-
  Parts laid together: EscrowCClaim EscrowApi.
-/
import Derived.Test.YtcebjpfmpagfjaaPart14
import Derived.Test.YtcebjpfmpagfjaaPart5
import Derived.Test.YtcebjpfmpagfjaaPart9
import Derived.Test.YtcebjpfmpagfjaaPart21
import Derived.Test.YtcebjpfmpagfjaaPart24
import Derived.Test.YtcebjpfmpagfjaaPart23

namespace Go.Proofs.Ytcebjpfmpagfjaa.Escrow
open Go.RowKit Go.Proofs.Ytcebjpfmpagfjaa.Sha Go.Proofs.Ytcebjpfmpagfjaa.Purse Go.Proofs.Ytcebjpfmpagfjaa.Num

section
variable {w : World} {F : List Nat} {x q : Nat} {b : BS}
set_option maxRecDepth 100000 in
set_option maxHeartbeats 2000000 in
theorem cclaim_any (h : Ck w F x q b) (who id : Int) (s : List Int) (clock : Int) (hb : Bytes s) (hh : ∀ k, k < b.l.length → Bytes (atE b.l k).hash) : Calls Try.prog 14 #[.pointer (some ⟨x, 0, none⟩), .int .i64 who, .int .i64 id, .string (strOfNums s), .int .i64 clock] w (BookPost (fun w' F' b' => Ck w' F' x q b') w F (claimB b who id s clock)) := by
  obtain ⟨t, G, v, P, rfl⟩ := h
  have GT := Kept.mk (cget_any P id)
  have P0 := Kept.mk P
  have TI := Kept.mk (fun w => tick_any clock w)
  clear P
  have BS := Kept.mk hb
  have HH := Kept.mk hh
  clear hb hh
  cases hE : hasE b.l id with
  | false =>
    rw [show getB b id = (noE, false) from by unfold getB; rw [hE]; rfl] at GT
    have RF : Kept (claimB b who id s clock = (8, b)) := ⟨by unfold claimB; rw [if_pos hE]⟩
    go_enter Try.func14, Try.ntmps14
    go_wp2_with fail
    refine GT.out.mono ?_
    rintro e w1 ⟨hx, b1⟩
    replace hx : e = .returned (.tuple #[.agg #[.int .i64 0, .int .i64 0, .int .i64 0, .int .i64 0, .int .i64 0, .int .i64 0, .string ⟨#[]⟩, .string ⟨#[]⟩], .bool false]) := hx
    subst hx
    have B1 := Kept.mk b1
    clear b1 GT
    go_wp2_with (go_at_call 30; (with_reducible refine (TI.out _).mono ?_); rintro e w' ⟨rfl, rfl⟩)
    go_ret
    rw [RF.out]
    have b2 := B1.out.alloc B1.out.size (.cells #[.int .i64 0, .int .i64 0, .int .i64 0, .int .i64 0, .int .i64 0, .int .i64 0, .string ⟨#[]⟩, .string ⟨#[]⟩] 34)
    exact ⟨rfl, _, ⟨t, G, v, P0.out.below b2, rfl⟩, fp_below b2⟩
  | true =>
    rw [show getB b id = (atE b.l id.toNat, true) from by unfold getB; rw [if_pos hE]] at GT
    obtain ⟨k, rfl, hk⟩ := hasE_nat hE
    rw [Int.toNat_natCast] at GT
    have RS := Kept.mk (claim_some (who := who) (clock := clock) (s := s) hk)
    have BH := Kept.mk (HH.out k hk)
    obtain ⟨es, ed, ea, en, eu, et, eh, ec, hev⟩ : ∃ es ed ea en eu et eh ec, atE b.l k = ⟨es, ed, ea, en, eu, et, eh, ec⟩ := ⟨_, _, _, _, _, _, _, _, rfl⟩
    rw [hev] at GT RS BH
    dsimp only at RS BH
    have HK := Kept.mk hk
    obtain ⟨L, hL⟩ : ∃ L, s.length = L := ⟨_, rfl⟩
    have hsz : (strOfNums s).size = L := by rw [strOfNums_size, hL]
    rw [hL] at RS
    have LS := Kept.mk hL
    clear hE hev hk HH hL
    by_cases hw : ed = who
    · subst hw
      by_cases hs : et = 0
      · subst hs
        by_cases hd : eu ≤ clock
        · have RF : Kept (claimB b ed k s clock = (11, b)) := ⟨by rw [RS.out, if_neg (fun e => e rfl), if_neg (fun e => e rfl), if_pos (.inl hd)]⟩
          go_enter Try.func14, Try.ntmps14
          go_wp2_with fail
          refine GT.out.mono ?_
          rintro e w1 ⟨hx, b1⟩
          replace hx : e = .returned (.tuple #[.agg #[.int .i64 es, .int .i64 ed, .int .i64 ea, .int .i64 en, .int .i64 eu, .int .i64 0, .string (strOfNums eh), .string (strOfNums ec)], .bool true]) := hx
          subst hx
          have B1 := Kept.mk b1
          clear b1 GT
          go_wp2_with (go_at_call 30; (with_reducible refine (TI.out _).mono ?_); rintro e w' ⟨rfl, rfl⟩)
          go_ret
          rw [RF.out]
          have b2 := B1.out.alloc B1.out.size (.cells #[.int .i64 es, .int .i64 ed, .int .i64 ea, .int .i64 en, .int .i64 eu, .int .i64 0, .string (strOfNums eh), .string (strOfNums ec)] 34)
          exact ⟨rfl, _, ⟨t, G, v, P0.out.below b2, rfl⟩, fp_below b2⟩
        · cases ht : tickB clock with
          | false =>
            rw [ht] at TI
            have RF : Kept (claimB b ed k s clock = (11, b)) := ⟨by rw [RS.out, if_neg (fun e => e rfl), if_neg (fun e => e rfl), if_pos (.inr ht)]⟩
            go_enter Try.func14, Try.ntmps14
            go_wp2_with fail
            refine GT.out.mono ?_
            rintro e w1 ⟨hx, b1⟩
            replace hx : e = .returned (.tuple #[.agg #[.int .i64 es, .int .i64 ed, .int .i64 ea, .int .i64 en, .int .i64 eu, .int .i64 0, .string (strOfNums eh), .string (strOfNums ec)], .bool true]) := hx
            subst hx
            have B1 := Kept.mk b1
            clear b1 GT
            go_wp2_with (go_at_call 30; (with_reducible refine (TI.out _).mono ?_); rintro e w' ⟨rfl, rfl⟩)
            go_ret
            rw [RF.out]
            have b2 := B1.out.alloc B1.out.size (.cells #[.int .i64 es, .int .i64 ed, .int .i64 ea, .int .i64 en, .int .i64 eu, .int .i64 0, .string (strOfNums eh), .string (strOfNums ec)] 34)
            exact ⟨rfl, _, ⟨t, G, v, P0.out.below b2, rfl⟩, fp_below b2⟩
          | true =>
            rw [ht] at TI
            by_cases h32 : L ≠ 32
            · have h32' : ¬ (L : Int) = 32 := by omega
              have RF : Kept (claimB b ed k s clock = (2, b)) := ⟨by rw [RS.out, if_neg (fun e => e rfl), if_neg (fun e => e rfl), if_neg (fun e => e.elim hd (by rw [ht]; simp)), if_pos h32]⟩
              go_enter Try.func14, Try.ntmps14
              go_wp2_with fail
              refine GT.out.mono ?_
              rintro e w1 ⟨hx, b1⟩
              replace hx : e = .returned (.tuple #[.agg #[.int .i64 es, .int .i64 ed, .int .i64 ea, .int .i64 en, .int .i64 eu, .int .i64 0, .string (strOfNums eh), .string (strOfNums ec)], .bool true]) := hx
              subst hx
              have B1 := Kept.mk b1
              clear b1 GT
              go_wp2_with (go_at_call 30; (with_reducible refine (TI.out _).mono ?_); rintro e w' ⟨rfl, rfl⟩)
              go_ret
              rw [RF.out]
              have b2 := B1.out.alloc B1.out.size (.cells #[.int .i64 es, .int .i64 ed, .int .i64 ea, .int .i64 en, .int .i64 eu, .int .i64 0, .string (strOfNums eh), .string (strOfNums ec)] 34)
              exact ⟨rfl, _, ⟨t, G, v, P0.out.below b2, rfl⟩, fp_below b2⟩
            · obtain rfl : L = 32 := Decidable.not_not.1 h32
              by_cases hsh : sha s = eh
              · have heq : ((strOfNums (sha s)).toList == (strOfNums eh).toList) = true := by rw [hsh]; exact beq_self_eq_true _
                have RF : Kept (claimB b ed k s clock = payB b ed k ⟨es, ed, ea, en, eu, 1, eh, s⟩) := ⟨by rw [RS.out, if_neg (fun e => e rfl), if_neg (fun e => e rfl), if_neg (fun e => e.elim hd (by rw [ht]; simp)), if_neg h32, if_neg (fun e => e hsh)]; rfl⟩
                rw [RF.out]
                clear ht RS RF h32 hsh
                go_enter Try.func14, Try.ntmps14
                go_wp2_with fail
                refine GT.out.mono ?_
                rintro e w1 ⟨hx, b1⟩
                replace hx : e = .returned (.tuple #[.agg #[.int .i64 es, .int .i64 ed, .int .i64 ea, .int .i64 en, .int .i64 eu, .int .i64 0, .string (strOfNums eh), .string (strOfNums ec)], .bool true]) := hx
                subst hx
                have B1 := Kept.mk b1
                clear b1 GT
                go_upto_region 12 with (go_at_call 30; (with_reducible refine (TI.out _).mono ?_); rintro e w' ⟨rfl, rfl⟩)
                have nb : Blk (w1.alloc (.cells #[.int .i64 es, .int .i64 ed, .int .i64 ea, .int .i64 en, .int .i64 eu, .int .i64 0, .string (strOfNums eh), .string (strOfNums ec)] 34)) w1.heap.size 34 #[.int .i64 es, .int .i64 ed, .int .i64 ea, .int .i64 en, .int .i64 eu, .int .i64 0, .string (strOfNums eh), .string (strOfNums ec)] := Blk.new _ _ _
                have B2 := Kept.mk (B1.out.alloc B1.out.size (.cells #[.int .i64 es, .int .i64 ed, .int .i64 ea, .int .i64 en, .int .i64 eu, .int .i64 0, .string (strOfNums eh), .string (strOfNums ec)] 34))
                have B1s := B1.out.size
                obtain ⟨N, hN⟩ : ∃ N, w1.heap.size = N := ⟨_, rfl⟩
                rw [hN] at nb ⊢
                rw [hN] at B1s
                have NB := Kept.mk nb
                clear nb B1 hN
                generalize (w1.alloc (.cells #[.int .i64 es, .int .i64 ed, .int .i64 ea, .int .i64 en, .int .i64 eu, .int .i64 0, .string (strOfNums eh), .string (strOfNums ec)] 34)) = w2 at *
                have tl : t < w.heap.size := ctab_lt P0.out.tab
                have P2 := Kept.mk (P0.out.below B2.out.drew)
                have FB := Kept.mk (fp_below (F := fk t x G v) B2.out.drew)
                have ND := Kept.mk (NB.out.below (Below.refl _ _).drew NB.out.lt)
                obtain ⟨w3, c3, hcv, hc1, hc2, r3, b3⟩ : ∃ w3 c3, (convert 9 42 (.string (strOfNums s))).run Try.prog w2.drew = .ok (.slice (some ⟨w2.heap.size, 0, none⟩) s.length c3) w3 ∧ s.length ≤ c3 ∧ c3 ≤ 9223372036854775807 ∧ Rd w3 (some ⟨w2.heap.size, 0, none⟩) s.length s ∧ Below w2.heap.size w2.drew w3 := to_bytes2 w2.drew s BS.out (by rw [LS.out]; decide)
                rw [LS.out] at hcv r3 hc1
                have P3 := Kept.mk (P2.out.below b3)
                have F3 := Kept.mk (FB.out.trans (fp_below b3))
                have N3 := Kept.mk (ND.out.below b3 ND.out.lt)
                have OC := Kept.mk (one_any t _ 32 c3 s w3 P3.out.tab r3 hc1 hc2 (by decide))
                have HELD0 : (fun w' : World => w'.cell? ⟨x, 0, none⟩ = some (.pointer (some ⟨t, 0, none⟩)) ∧ w'.cell? ⟨N, 6, none⟩ = some (.string (strOfNums eh))) w2.drew := ⟨P2.out.c0, ND.out.cell 6⟩
                clear FB P2 ND r3 b3 NB B2
                refine wp_region_noPanic ?_
                refine wp_region_held_drew (S := fun w' : World => w'.cell? ⟨x, 0, none⟩ = some (.pointer (some ⟨t, 0, none⟩)) ∧ w'.cell? ⟨N, 6, none⟩ = some (.string (strOfNums eh))) (by kernel_rfl) HELD0 (fun hHeld => ?_)
                clear HELD0
                refine wpAnyH_take (i := 0) (oi := ?o136) (v := ?v136) ?hi136 (by kernel_rfl) (by kernel_rfl) (by kernel_rfl) ?hq136 (Or.inl ⟨?hw136, ?hy136⟩) (by assumption) ?r136
                case hi136 => (simp only [List.getElem?_toArray, List.getElem?_cons_zero]; exact rfl)
                case hq136 => exact fun _ _ _ h => h
                case hw136 => rfl
                case hy136 => (intro w hSw; (try dsimp only at hSw); go_simp; try exact rfl)
                simp only [Act.put, List.setIfInBounds_toArray, List.set_cons_zero, List.set_cons_succ]
                refine wpAnyH_take (i := 1) (oi := ?o137) (v := ?v137) ?hi137 (by kernel_rfl) (by kernel_rfl) (by kernel_rfl) ?hq137 (Or.inl ⟨?hw137, ?hy137⟩) (by assumption) ?r137
                case hi137 => (simp only [List.getElem?_toArray, List.getElem?_cons_succ, List.getElem?_cons_zero]; exact rfl)
                case hq137 => exact fun _ _ _ h => h
                case hw137 => rfl
                case hy137 => (intro w hSw; (try dsimp only at hSw); go_simp; try exact rfl)
                simp only [Act.put, List.setIfInBounds_toArray, List.set_cons_zero, List.set_cons_succ]
                refine wpAnyH_take (i := 2) (oi := ?o138) (v := ?v138) ?hi138 (by kernel_rfl) (by kernel_rfl) (by kernel_rfl) ?hq138 (Or.inl ⟨?hw138, ?hy138⟩) (by assumption) ?r138
                case hi138 => (simp only [List.getElem?_toArray, List.getElem?_cons_succ, List.getElem?_cons_zero]; exact rfl)
                case hq138 => exact fun _ _ _ h => h
                case hw138 => rfl
                case hy138 => (intro w hSw; (try dsimp only at hSw); go_simp; try exact rfl)
                simp only [Act.put, List.setIfInBounds_toArray, List.set_cons_zero, List.set_cons_succ]
                refine wpAnyH_take (i := 3) (oi := ?o139) (v := ?v139) ?hi139 (by kernel_rfl) (by kernel_rfl) (by kernel_rfl) ?hq139 (Or.inl ⟨?hw139, ?hy139⟩) (by assumption) ?r139
                case hi139 => (simp only [List.getElem?_toArray, List.getElem?_cons_succ, List.getElem?_cons_zero]; exact rfl)
                case hq139 => exact fun _ _ _ h => h
                case hw139 => rfl
                case hy139 => (intro w hSw; (try dsimp only at hSw); go_simp; try exact rfl)
                simp only [Act.put, List.setIfInBounds_toArray, List.set_cons_zero, List.set_cons_succ]
                refine wpAnyH_take (i := 4) (oi := ?o140) (v := ?v140) ?hi140 (by kernel_rfl) (by kernel_rfl) (by kernel_rfl) ?hq140 (Or.inl ⟨?hw140, ?hy140⟩) (by assumption) ?r140
                case hi140 => (simp only [List.getElem?_toArray, List.getElem?_cons_succ, List.getElem?_cons_zero]; exact rfl)
                case hq140 => exact fun _ _ _ h => h
                case hw140 => rfl
                case hy140 => (intro w hSw; (try dsimp only at hSw); go_simp; try exact rfl)
                simp only [Act.put, List.setIfInBounds_toArray, List.set_cons_zero, List.set_cons_succ]
                refine wpAnyH_take (i := 8) (oi := ?o141) (v := ?v141) ?hi141 (by kernel_rfl) (by kernel_rfl) (by kernel_rfl) ?hq141 (Or.inl ⟨?hw141, ?hy141⟩) (by assumption) ?r141
                case hi141 => (simp only [List.getElem?_toArray, List.getElem?_cons_succ, List.getElem?_cons_zero]; exact rfl)
                case hq141 => exact fun _ _ _ h => h
                case hw141 => rfl
                case hy141 => (intro w hSw; (try dsimp only at hSw); go_simp; try exact rfl)
                simp only [Act.put, List.setIfInBounds_toArray, List.set_cons_zero, List.set_cons_succ]
                refine wpAnyH_take (i := 9) (oi := ?o142) (v := ?v142) ?hi142 (by kernel_rfl) (by kernel_rfl) (by kernel_rfl) ?hq142 (Or.inl ⟨?hw142, ?hy142⟩) (by assumption) ?r142
                case hi142 => (simp only [List.getElem?_toArray, List.getElem?_cons_succ, List.getElem?_cons_zero]; exact rfl)
                case hq142 => exact fun _ _ _ h => h
                case hw142 => rfl
                case hy142 => (intro w hSw; (try dsimp only at hSw); go_simp; try exact rfl)
                simp only [Act.put, List.setIfInBounds_toArray, List.set_cons_zero, List.set_cons_succ]
                refine wpAnyH_ready (rs := [5]) (by kernel_rfl) (by simp) ?_
                refine AllReadyH.cons (o := ?o154) ?hi154 (fun K hK => ?_) AllReadyH.nil
                case hi154 => (simp only [List.getElem?_toArray, List.getElem?_cons_succ, List.getElem?_cons_zero]; exact rfl)
                go_simp
                refine hK.out _ _ ⟨P3.out.c0, N3.out.cell 6⟩ (fun hHeld2 => ?_)
                clear hK K hHeld
                try simp only [Act.put, List.setIfInBounds_toArray, List.set_cons_zero, List.set_cons_succ]
                refine wpAnyH_ready (rs := [6]) (by kernel_rfl) (by simp) ?_
                refine AllReadyH.cons (o := ?o155) ?hi155 (fun K hK => ?_) AllReadyH.nil
                case hi155 => (simp only [List.getElem?_toArray, List.getElem?_cons_succ, List.getElem?_cons_zero]; exact rfl)
                go_simp
                go_at_call 33
                refine OC.out.mono ?_
                rintro e w4 ⟨M, rfl, hM, kM, mt, bt⟩
                have hcv2 := conv_same (cap := 32) (Rd.blk kM (sha_bytes s) (sha_len s))
                have PT := P3.out.tabled (.inr mt) bt
                have P4 := Kept.mk PT.1
                have F4 := Kept.mk (F3.out.trans PT.2)
                have N4 := Kept.mk (N3.out.bar bt (by simp; omega))
                clear PT kM mt bt P3 F3 N3 OC
                refine hK.out _ _ ⟨P4.out.c0, N4.out.cell 6⟩ (fun hHeld3 => ?_)
                clear hK K hHeld2
                try simp only [Act.put, List.setIfInBounds_toArray, List.set_cons_zero, List.set_cons_succ]
                refine wpAnyH_ready (rs := [7]) (by kernel_rfl) (by simp) ?_
                refine AllReadyH.cons (o := ?o156) ?hi156 (fun K hK => ?_) AllReadyH.nil
                case hi156 => (simp only [List.getElem?_toArray, List.getElem?_cons_succ, List.getElem?_cons_zero]; exact rfl)
                go_simp
                refine hK.out _ _ hHeld3 (fun hHeld4 => ?_)
                clear hK K hHeld3
                try simp only [Act.put, List.setIfInBounds_toArray, List.set_cons_zero, List.set_cons_succ]
                refine wpAnyH_take (i := 10) (oi := ?o143) (v := ?v143) ?hi143 (by kernel_rfl) (by kernel_rfl) (by kernel_rfl) ?hq143 (Or.inl ⟨?hw143, ?hy143⟩) (by assumption) ?r143
                case hi143 => (simp only [List.getElem?_toArray, List.getElem?_cons_succ, List.getElem?_cons_zero]; exact rfl)
                case hq143 => exact fun _ _ _ h => h
                case hw143 => rfl
                case hy143 => (intro w hSw; (try dsimp only at hSw); go_simp; try exact rfl)
                simp only [Act.put, List.setIfInBounds_toArray, List.set_cons_zero, List.set_cons_succ]
                refine wpAnyH_take (i := 11) (oi := ?o144) (v := ?v144) ?hi144 (by kernel_rfl) (by kernel_rfl) (by kernel_rfl) ?hq144 (Or.inl ⟨?hw144, ?hy144⟩) (by assumption) ?r144
                case hi144 => (simp only [List.getElem?_toArray, List.getElem?_cons_succ, List.getElem?_cons_zero]; exact rfl)
                case hq144 => exact fun _ _ _ h => h
                case hw144 => rfl
                case hy144 => (intro w hSw; (try dsimp only at hSw); go_simp; try exact rfl)
                simp only [Act.put, List.setIfInBounds_toArray, List.set_cons_zero, List.set_cons_succ]
                refine wpAnyH_done (by kernel_rfl) ?_ _
                refine NoPanic.normal ?_
                have n5 : w4.cell? ⟨N, 5, none⟩ = some (.int .i64 0) := N4.out.cell 5
                have f5 := N4.out.frozen 5
                have jN : Kept (Disj (fk t x G v) [N]) := ⟨fun z hz hm => by have h1 := P0.out.lts z hz; rw [List.mem_singleton] at hm; omega⟩
                clear hcv hcv2 hHeld4 hM P0
                go_upto_region 15 with fail
                have bs : Bar [N] w4 (w4.setCell ⟨N, 5, none⟩ (.int .i64 1)) := (Bar.refl [N] w4).setCell (by simp) _
                have P5 := Kept.mk (P4.out.keep bs jN.out)
                have F5 : Kept (Fp (fk t x G v) (fk t x G v) w (w4.setCell ⟨N, 5, none⟩ (.int .i64 1))) := ⟨F4.out.1.trans bs (fun z hz => .inr (by rw [List.mem_singleton] at hz; omega)), F4.out.2⟩
                have N5 := Kept.mk (N4.out.set_ 5 (.int .i64 1))
                clear bs P4 F4 N4 n5 f5
                generalize (w4.setCell ⟨N, 5, none⟩ (.int .i64 1)) = w5 at *
                go_wp2_with fail
                refine (clone32_any s LS.out w5).mono ?_
                rintro e w6 ⟨rfl, b6⟩
                have P6 := Kept.mk (P5.out.below b6)
                have F6 := Kept.mk (F5.out.trans (fp_below b6))
                have N6 := Kept.mk (N5.out.below b6 N5.out.lt)
                have n7 : w6.cell? ⟨N, 7, none⟩ = some (.string (strOfNums ec)) := N6.out.cell 7
                have f7 := N6.out.frozen 7
                clear P5 F5 N5 b6
                go_upto_region 16 with fail
                have bs : Bar [N] w6 (w6.setCell ⟨N, 7, none⟩ (.string (strOfNums s))) := (Bar.refl [N] w6).setCell (by simp) _
                have P7 := Kept.mk (P6.out.keep bs jN.out)
                have F7 : Kept (Fp (fk t x G v) (fk t x G v) w (w6.setCell ⟨N, 7, none⟩ (.string (strOfNums s)))) := ⟨F6.out.1.trans bs (fun z hz => .inr (by rw [List.mem_singleton] at hz; omega)), F6.out.2⟩
                have N7 := N6.out.set_ 7 (.string (strOfNums s))
                clear bs P6 F6 N6 n7 f7
                generalize (w6.setCell ⟨N, 7, none⟩ (.string (strOfNums s))) = w7 at *
                have n0 : w7.cell? ⟨N, 0, none⟩ = some (.int .i64 es) := N7.cell 0
                have n1 : w7.cell? ⟨N, 1, none⟩ = some (.int .i64 ed) := N7.cell 1
                have n2 : w7.cell? ⟨N, 2, none⟩ = some (.int .i64 ea) := N7.cell 2
                have n3 : w7.cell? ⟨N, 3, none⟩ = some (.int .i64 en) := N7.cell 3
                have n4 : w7.cell? ⟨N, 4, none⟩ = some (.int .i64 eu) := N7.cell 4
                have n5 : w7.cell? ⟨N, 5, none⟩ = some (.int .i64 1) := N7.cell 5
                have n6 : w7.cell? ⟨N, 6, none⟩ = some (.string (strOfNums eh)) := N7.cell 6
                have n7 : w7.cell? ⟨N, 7, none⟩ = some (.string (strOfNums s)) := N7.cell 7
                have PY := Kept.mk (pay_any P7.out ed k HK.out ⟨es, ed, ea, en, eu, 1, eh, s⟩)
                unfold evV at PY
                dsimp only at PY
                clear N7
                go_wp2_with fail
                refine PY.out.mono ?_
                rintro e w8 ⟨rfl, F', hc, fp⟩
                have HC := Kept.mk hc
                have FF := Kept.mk (F7.out.trans fp)
                clear hc fp PY
                go_wp2
                go_ret
                exact ⟨rfl, F', HC.out, FF.out⟩
              · have heq : ((strOfNums (sha s)).toList == (strOfNums eh).toList) = false := beq_eq_false_iff_ne.2 (fun e => hsh (strOfNums_inj (sha_bytes s) BH.out e))
                have RF : Kept (claimB b ed k s clock = (10, b)) := ⟨by rw [RS.out, if_neg (fun e => e rfl), if_neg (fun e => e rfl), if_neg (fun e => e.elim hd (by rw [ht]; simp)), if_neg h32, if_pos hsh]⟩
                clear ht RS h32 hsh
                go_enter Try.func14, Try.ntmps14
                go_wp2_with fail
                refine GT.out.mono ?_
                rintro e w1 ⟨hx, b1⟩
                replace hx : e = .returned (.tuple #[.agg #[.int .i64 es, .int .i64 ed, .int .i64 ea, .int .i64 en, .int .i64 eu, .int .i64 0, .string (strOfNums eh), .string (strOfNums ec)], .bool true]) := hx
                subst hx
                have B1 := Kept.mk b1
                clear b1 GT
                go_upto_region 12 with (go_at_call 30; (with_reducible refine (TI.out _).mono ?_); rintro e w' ⟨rfl, rfl⟩)
                have nb : Blk (w1.alloc (.cells #[.int .i64 es, .int .i64 ed, .int .i64 ea, .int .i64 en, .int .i64 eu, .int .i64 0, .string (strOfNums eh), .string (strOfNums ec)] 34)) w1.heap.size 34 #[.int .i64 es, .int .i64 ed, .int .i64 ea, .int .i64 en, .int .i64 eu, .int .i64 0, .string (strOfNums eh), .string (strOfNums ec)] := Blk.new _ _ _
                have B2 := Kept.mk (B1.out.alloc B1.out.size (.cells #[.int .i64 es, .int .i64 ed, .int .i64 ea, .int .i64 en, .int .i64 eu, .int .i64 0, .string (strOfNums eh), .string (strOfNums ec)] 34))
                have B1s := B1.out.size
                obtain ⟨N, hN⟩ : ∃ N, w1.heap.size = N := ⟨_, rfl⟩
                rw [hN] at nb ⊢
                rw [hN] at B1s
                have NB := Kept.mk nb
                clear nb B1 hN
                generalize (w1.alloc (.cells #[.int .i64 es, .int .i64 ed, .int .i64 ea, .int .i64 en, .int .i64 eu, .int .i64 0, .string (strOfNums eh), .string (strOfNums ec)] 34)) = w2 at *
                have tl : t < w.heap.size := ctab_lt P0.out.tab
                have P2 := Kept.mk (P0.out.below B2.out.drew)
                have FB := Kept.mk (fp_below (F := fk t x G v) B2.out.drew)
                have ND := Kept.mk (NB.out.below (Below.refl _ _).drew NB.out.lt)
                obtain ⟨w3, c3, hcv, hc1, hc2, r3, b3⟩ : ∃ w3 c3, (convert 9 42 (.string (strOfNums s))).run Try.prog w2.drew = .ok (.slice (some ⟨w2.heap.size, 0, none⟩) s.length c3) w3 ∧ s.length ≤ c3 ∧ c3 ≤ 9223372036854775807 ∧ Rd w3 (some ⟨w2.heap.size, 0, none⟩) s.length s ∧ Below w2.heap.size w2.drew w3 := to_bytes2 w2.drew s BS.out (by rw [LS.out]; decide)
                rw [LS.out] at hcv r3 hc1
                have P3 := Kept.mk (P2.out.below b3)
                have F3 := Kept.mk (FB.out.trans (fp_below b3))
                have N3 := Kept.mk (ND.out.below b3 ND.out.lt)
                have OC := Kept.mk (one_any t _ 32 c3 s w3 P3.out.tab r3 hc1 hc2 (by decide))
                have HELD0 : (fun w' : World => w'.cell? ⟨x, 0, none⟩ = some (.pointer (some ⟨t, 0, none⟩)) ∧ w'.cell? ⟨N, 6, none⟩ = some (.string (strOfNums eh))) w2.drew := ⟨P2.out.c0, ND.out.cell 6⟩
                clear FB P2 ND r3 b3 NB B2
                refine wp_region_noPanic ?_
                refine wp_region_held_drew (S := fun w' : World => w'.cell? ⟨x, 0, none⟩ = some (.pointer (some ⟨t, 0, none⟩)) ∧ w'.cell? ⟨N, 6, none⟩ = some (.string (strOfNums eh))) (by kernel_rfl) HELD0 (fun hHeld => ?_)
                clear HELD0
                refine wpAnyH_take (i := 0) (oi := ?o145) (v := ?v145) ?hi145 (by kernel_rfl) (by kernel_rfl) (by kernel_rfl) ?hq145 (Or.inl ⟨?hw145, ?hy145⟩) (by assumption) ?r145
                case hi145 => (simp only [List.getElem?_toArray, List.getElem?_cons_zero]; exact rfl)
                case hq145 => exact fun _ _ _ h => h
                case hw145 => rfl
                case hy145 => (intro w hSw; (try dsimp only at hSw); go_simp; try exact rfl)
                simp only [Act.put, List.setIfInBounds_toArray, List.set_cons_zero, List.set_cons_succ]
                refine wpAnyH_take (i := 1) (oi := ?o146) (v := ?v146) ?hi146 (by kernel_rfl) (by kernel_rfl) (by kernel_rfl) ?hq146 (Or.inl ⟨?hw146, ?hy146⟩) (by assumption) ?r146
                case hi146 => (simp only [List.getElem?_toArray, List.getElem?_cons_succ, List.getElem?_cons_zero]; exact rfl)
                case hq146 => exact fun _ _ _ h => h
                case hw146 => rfl
                case hy146 => (intro w hSw; (try dsimp only at hSw); go_simp; try exact rfl)
                simp only [Act.put, List.setIfInBounds_toArray, List.set_cons_zero, List.set_cons_succ]
                refine wpAnyH_take (i := 2) (oi := ?o147) (v := ?v147) ?hi147 (by kernel_rfl) (by kernel_rfl) (by kernel_rfl) ?hq147 (Or.inl ⟨?hw147, ?hy147⟩) (by assumption) ?r147
                case hi147 => (simp only [List.getElem?_toArray, List.getElem?_cons_succ, List.getElem?_cons_zero]; exact rfl)
                case hq147 => exact fun _ _ _ h => h
                case hw147 => rfl
                case hy147 => (intro w hSw; (try dsimp only at hSw); go_simp; try exact rfl)
                simp only [Act.put, List.setIfInBounds_toArray, List.set_cons_zero, List.set_cons_succ]
                refine wpAnyH_take (i := 3) (oi := ?o148) (v := ?v148) ?hi148 (by kernel_rfl) (by kernel_rfl) (by kernel_rfl) ?hq148 (Or.inl ⟨?hw148, ?hy148⟩) (by assumption) ?r148
                case hi148 => (simp only [List.getElem?_toArray, List.getElem?_cons_succ, List.getElem?_cons_zero]; exact rfl)
                case hq148 => exact fun _ _ _ h => h
                case hw148 => rfl
                case hy148 => (intro w hSw; (try dsimp only at hSw); go_simp; try exact rfl)
                simp only [Act.put, List.setIfInBounds_toArray, List.set_cons_zero, List.set_cons_succ]
                refine wpAnyH_take (i := 4) (oi := ?o149) (v := ?v149) ?hi149 (by kernel_rfl) (by kernel_rfl) (by kernel_rfl) ?hq149 (Or.inl ⟨?hw149, ?hy149⟩) (by assumption) ?r149
                case hi149 => (simp only [List.getElem?_toArray, List.getElem?_cons_succ, List.getElem?_cons_zero]; exact rfl)
                case hq149 => exact fun _ _ _ h => h
                case hw149 => rfl
                case hy149 => (intro w hSw; (try dsimp only at hSw); go_simp; try exact rfl)
                simp only [Act.put, List.setIfInBounds_toArray, List.set_cons_zero, List.set_cons_succ]
                refine wpAnyH_take (i := 8) (oi := ?o150) (v := ?v150) ?hi150 (by kernel_rfl) (by kernel_rfl) (by kernel_rfl) ?hq150 (Or.inl ⟨?hw150, ?hy150⟩) (by assumption) ?r150
                case hi150 => (simp only [List.getElem?_toArray, List.getElem?_cons_succ, List.getElem?_cons_zero]; exact rfl)
                case hq150 => exact fun _ _ _ h => h
                case hw150 => rfl
                case hy150 => (intro w hSw; (try dsimp only at hSw); go_simp; try exact rfl)
                simp only [Act.put, List.setIfInBounds_toArray, List.set_cons_zero, List.set_cons_succ]
                refine wpAnyH_take (i := 9) (oi := ?o151) (v := ?v151) ?hi151 (by kernel_rfl) (by kernel_rfl) (by kernel_rfl) ?hq151 (Or.inl ⟨?hw151, ?hy151⟩) (by assumption) ?r151
                case hi151 => (simp only [List.getElem?_toArray, List.getElem?_cons_succ, List.getElem?_cons_zero]; exact rfl)
                case hq151 => exact fun _ _ _ h => h
                case hw151 => rfl
                case hy151 => (intro w hSw; (try dsimp only at hSw); go_simp; try exact rfl)
                simp only [Act.put, List.setIfInBounds_toArray, List.set_cons_zero, List.set_cons_succ]
                refine wpAnyH_ready (rs := [5]) (by kernel_rfl) (by simp) ?_
                refine AllReadyH.cons (o := ?o157) ?hi157 (fun K hK => ?_) AllReadyH.nil
                case hi157 => (simp only [List.getElem?_toArray, List.getElem?_cons_succ, List.getElem?_cons_zero]; exact rfl)
                go_simp
                refine hK.out _ _ ⟨P3.out.c0, N3.out.cell 6⟩ (fun hHeld2 => ?_)
                clear hK K hHeld
                try simp only [Act.put, List.setIfInBounds_toArray, List.set_cons_zero, List.set_cons_succ]
                refine wpAnyH_ready (rs := [6]) (by kernel_rfl) (by simp) ?_
                refine AllReadyH.cons (o := ?o158) ?hi158 (fun K hK => ?_) AllReadyH.nil
                case hi158 => (simp only [List.getElem?_toArray, List.getElem?_cons_succ, List.getElem?_cons_zero]; exact rfl)
                go_simp
                go_at_call 33
                refine OC.out.mono ?_
                rintro e w4 ⟨M, rfl, hM, kM, mt, bt⟩
                have hcv2 := conv_same (cap := 32) (Rd.blk kM (sha_bytes s) (sha_len s))
                have PT := P3.out.tabled (.inr mt) bt
                have P4 := Kept.mk PT.1
                have F4 := Kept.mk (F3.out.trans PT.2)
                have N4 := Kept.mk (N3.out.bar bt (by simp; omega))
                clear PT kM mt bt P3 F3 N3 OC
                refine hK.out _ _ ⟨P4.out.c0, N4.out.cell 6⟩ (fun hHeld3 => ?_)
                clear hK K hHeld2
                try simp only [Act.put, List.setIfInBounds_toArray, List.set_cons_zero, List.set_cons_succ]
                refine wpAnyH_ready (rs := [7]) (by kernel_rfl) (by simp) ?_
                refine AllReadyH.cons (o := ?o159) ?hi159 (fun K hK => ?_) AllReadyH.nil
                case hi159 => (simp only [List.getElem?_toArray, List.getElem?_cons_succ, List.getElem?_cons_zero]; exact rfl)
                go_simp
                refine hK.out _ _ hHeld3 (fun hHeld4 => ?_)
                clear hK K hHeld3
                try simp only [Act.put, List.setIfInBounds_toArray, List.set_cons_zero, List.set_cons_succ]
                refine wpAnyH_take (i := 10) (oi := ?o152) (v := ?v152) ?hi152 (by kernel_rfl) (by kernel_rfl) (by kernel_rfl) ?hq152 (Or.inl ⟨?hw152, ?hy152⟩) (by assumption) ?r152
                case hi152 => (simp only [List.getElem?_toArray, List.getElem?_cons_succ, List.getElem?_cons_zero]; exact rfl)
                case hq152 => exact fun _ _ _ h => h
                case hw152 => rfl
                case hy152 => (intro w hSw; (try dsimp only at hSw); go_simp; try exact rfl)
                simp only [Act.put, List.setIfInBounds_toArray, List.set_cons_zero, List.set_cons_succ]
                refine wpAnyH_take (i := 11) (oi := ?o153) (v := ?v153) ?hi153 (by kernel_rfl) (by kernel_rfl) (by kernel_rfl) ?hq153 (Or.inl ⟨?hw153, ?hy153⟩) (by assumption) ?r153
                case hi153 => (simp only [List.getElem?_toArray, List.getElem?_cons_succ, List.getElem?_cons_zero]; exact rfl)
                case hq153 => exact fun _ _ _ h => h
                case hw153 => rfl
                case hy153 => (intro w hSw; (try dsimp only at hSw); go_simp; try exact rfl)
                simp only [Act.put, List.setIfInBounds_toArray, List.set_cons_zero, List.set_cons_succ]
                refine wpAnyH_done (by kernel_rfl) ?_ _
                refine NoPanic.normal ?_
                clear hcv hcv2 hHeld4
                go_wp2
                go_ret
                rw [RF.out]
                exact ⟨rfl, _, ⟨t, G, v, P4.out, rfl⟩, F4.out⟩
      · have hs' : (et == 0) = false := beq_eq_false_iff_ne.2 hs
        have RF : Kept (claimB b ed k s clock = (9, b)) := ⟨by rw [RS.out, if_neg (fun e => e rfl), if_pos hs]⟩
        go_enter Try.func14, Try.ntmps14
        go_wp2_with fail
        refine GT.out.mono ?_
        rintro e w1 ⟨hx, b1⟩
        replace hx : e = .returned (.tuple #[.agg #[.int .i64 es, .int .i64 ed, .int .i64 ea, .int .i64 en, .int .i64 eu, .int .i64 et, .string (strOfNums eh), .string (strOfNums ec)], .bool true]) := hx
        subst hx
        have B1 := Kept.mk b1
        clear b1 GT
        go_wp2_with (go_at_call 30; (with_reducible refine (TI.out _).mono ?_); rintro e w' ⟨rfl, rfl⟩)
        go_ret
        rw [RF.out]
        have b2 := B1.out.alloc B1.out.size (.cells #[.int .i64 es, .int .i64 ed, .int .i64 ea, .int .i64 en, .int .i64 eu, .int .i64 et, .string (strOfNums eh), .string (strOfNums ec)] 34)
        exact ⟨rfl, _, ⟨t, G, v, P0.out.below b2, rfl⟩, fp_below b2⟩
    · have hw' : (who == ed) = false := beq_eq_false_iff_ne.2 (fun e => hw e.symm)
      have RF : Kept (claimB b who k s clock = (14, b)) := ⟨by rw [RS.out, if_pos hw]⟩
      go_enter Try.func14, Try.ntmps14
      go_wp2_with fail
      refine GT.out.mono ?_
      rintro e w1 ⟨hx, b1⟩
      replace hx : e = .returned (.tuple #[.agg #[.int .i64 es, .int .i64 ed, .int .i64 ea, .int .i64 en, .int .i64 eu, .int .i64 et, .string (strOfNums eh), .string (strOfNums ec)], .bool true]) := hx
      subst hx
      have B1 := Kept.mk b1
      clear b1 GT
      go_wp2_with (go_at_call 30; (with_reducible refine (TI.out _).mono ?_); rintro e w' ⟨rfl, rfl⟩)
      go_ret
      rw [RF.out]
      have b2 := B1.out.alloc B1.out.size (.cells #[.int .i64 es, .int .i64 ed, .int .i64 ea, .int .i64 en, .int .i64 eu, .int .i64 et, .string (strOfNums eh), .string (strOfNums ec)] 34)
      exact ⟨rfl, _, ⟨t, G, v, P0.out.below b2, rfl⟩, fp_below b2⟩
end
end Go.Proofs.Ytcebjpfmpagfjaa.Escrow

namespace Go.Proofs.Ytcebjpfmpagfjaa.Escrow
open Go.RowKit Go.Proofs.Ytcebjpfmpagfjaa.Sha Go.Proofs.Ytcebjpfmpagfjaa.Purse Go.Proofs.Ytcebjpfmpagfjaa.Num

theorem eapi : EscrowApi Ck where
  lts h := h.lts
  keep h b j := h.keep b j
  purse h := by
    obtain ⟨t, G, v, h, rfl⟩ := h
    exact ⟨G, fun g hg => fk_mem.2 (.inr (.inr (.inr hg))), h.pc⟩
  new hf hp ht := cnew_any hf hp ht
  lock i j a n hs due clock h _ hl := clock_any h i j a n hs due clock hl
  claim who id s clock h hb hh := cclaim_any h who id s clock hb hh
  refund who id clock h := crefund_any h who id clock
  get id h := by
    obtain ⟨t, G, v, h, rfl⟩ := h
    exact cget_any h id
  len h := by
    obtain ⟨t, G, v, h, rfl⟩ := h
    exact (clen_any h).mono fun e w' k => ⟨k.1, 0, k.2.symm⟩
  open_ h := by
    obtain ⟨t, G, v, h, rfl⟩ := h
    exact copen_any h
  total a h wb := by
    obtain ⟨t, G, v, h, rfl⟩ := h
    exact ctot_any h wb a
  purseOf h := by
    obtain ⟨t, G, v, h, rfl⟩ := h
    exact (cpurse_any h).mono fun e w' k => ⟨k.1, 0, k.2.symm⟩
end Go.Proofs.Ytcebjpfmpagfjaa.Escrow
