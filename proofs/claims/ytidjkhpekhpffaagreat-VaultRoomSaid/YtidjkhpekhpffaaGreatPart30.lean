/-
  Parts laid together: EscrowCClaim.
-/
import Derived.Test.YtidjkhpekhpffaaGreatPart1
import Derived.Test.YtidjkhpekhpffaaGreatPart15
import Derived.Test.YtidjkhpekhpffaaGreatPart7
import Derived.Test.YtidjkhpekhpffaaGreatPart10
import Derived.Test.YtidjkhpekhpffaaGreatPart27
import Derived.Test.YtidjkhpekhpffaaGreatPart29
import Derived.Deep.RegionHeld3
namespace Go.Proofs.YtidjkhpekhpffaaGreat.Escrow
open Go.RowKit Go.Proofs.YtidjkhpekhpffaaGreat.Sha Go.Proofs.YtidjkhpekhpffaaGreat.Purse Go.Proofs.YtidjkhpekhpffaaGreat.Num
section
variable {w : World} {F : List Nat} {t x q : Nat} {b : BS}
set_option maxRecDepth 100000 in
set_option maxHeartbeats 2000000 in
theorem cclaim_any (h:Ct t w F x q b) (who id:Int) (s:List Int) (clock:Int) (hb:Bytes s) (hh:∀ k,k < b.l.length→Bytes (atE b.l k).hash):Calls Tryz.prog 238 #[.pointer (some ⟨x,0,none⟩),.int .i64 who,.int .i64 id,.string (strOfNums s),.int .i64 clock] w (BookPost (fun w' F' b'=>Ct t w' F' x q b') w F (claimB b who id s clock)):=by
 obtain⟨G,v,P,rfl⟩:=h
 have GT:=Kept.mk (cget_any P id)
 have P0:=Kept.mk P
 have TI:=Kept.mk (fun w=>tick_any clock w)
 clear P
 have BS:=Kept.mk hb
 have HH:=Kept.mk hh
 clear hb hh
 cases hE:hasE b.l id with
 | false =>
  rw[show getB b id=(noE,false) from by unfold getB;rw[hE];rfl] at GT
  have RF:Kept (claimB b who id s clock=(8,b)):=⟨by unfold claimB;rw[if_pos hE]⟩
  go_enter Tryz.func238,Tryz.ntmps238
  go_wp2_with fail
  refine GT.out.mono ?_
  rintro e w1 ⟨hx,b1⟩
  replace hx:e=.returned (.tuple #[.agg #[.int .i64 0,.int .i64 0,.int .i64 0,.int .i64 0,.int .i64 0,.int .i64 0,.string ⟨#[]⟩,.string ⟨#[]⟩],.bool false]):=hx
  subst hx
  have B1:=Kept.mk b1
  clear b1 GT
  go_wp2_with (go_at_call 114;(with_reducible refine(TI.out _).mono ?_);rintro e w' ⟨rfl,rfl⟩)
  go_ret
  rw[RF.out]
  have b2:=B1.out.alloc B1.out.size (.cells #[.int .i64 0,.int .i64 0,.int .i64 0,.int .i64 0,.int .i64 0,.int .i64 0,.string ⟨#[]⟩,.string ⟨#[]⟩] 261)
  exact⟨rfl,_,⟨G,v,P0.out.below b2,rfl⟩,fp_below b2⟩
 | true =>
  rw[show getB b id=(atE b.l id.toNat,true) from by unfold getB;rw[if_pos hE]] at GT
  obtain⟨k,rfl,hk⟩:=hasE_nat hE
  rw[Int.toNat_natCast] at GT
  have RS:=Kept.mk (claim_some (who:=who) (clock:=clock) (s:=s) hk)
  have BH:=Kept.mk (HH.out k hk)
  obtain⟨es,ed,ea,en,eu,et,eh,ec,hev⟩:∃ es ed ea en eu et eh ec,atE b.l k=⟨es,ed,ea,en,eu,et,eh,ec⟩:=⟨_,_,_,_,_,_,_,_,rfl⟩
  rw[hev] at GT RS BH
  dsimp only at RS BH
  have HK:=Kept.mk hk
  obtain⟨L,hL⟩:∃ L,s.length=L:=⟨_,rfl⟩
  have hsz:(strOfNums s).size=L:=by rw[strOfNums_size,hL]
  rw[hL] at RS
  have LS:=Kept.mk hL
  clear hE hev hk HH hL
  by_cases hw:ed=who
  ·subst hw
   by_cases hs:et=0
   ·subst hs
    by_cases hd:eu≤clock
    ·have RF:Kept (claimB b ed k s clock=(11,b)):=⟨by rw[RS.out,if_neg (fun e=>e rfl),if_neg (fun e=>e rfl),if_pos (.inl hd)]⟩
     go_enter Tryz.func238,Tryz.ntmps238
     go_wp2_with fail
     refine GT.out.mono ?_
     rintro e w1 ⟨hx,b1⟩
     replace hx:e=.returned (.tuple #[.agg #[.int .i64 es,.int .i64 ed,.int .i64 ea,.int .i64 en,.int .i64 eu,.int .i64 0,.string (strOfNums eh),.string (strOfNums ec)],.bool true]):=hx
     subst hx
     have B1:=Kept.mk b1
     clear b1 GT
     go_wp2_with (go_at_call 114;(with_reducible refine(TI.out _).mono ?_);rintro e w' ⟨rfl,rfl⟩)
     go_ret
     rw[RF.out]
     have b2:=B1.out.alloc B1.out.size (.cells #[.int .i64 es,.int .i64 ed,.int .i64 ea,.int .i64 en,.int .i64 eu,.int .i64 0,.string (strOfNums eh),.string (strOfNums ec)] 261)
     exact⟨rfl,_,⟨G,v,P0.out.below b2,rfl⟩,fp_below b2⟩
    ·cases ht:tickB clock with
     | false =>
      rw[ht] at TI
      have RF:Kept (claimB b ed k s clock=(11,b)):=⟨by rw[RS.out,if_neg (fun e=>e rfl),if_neg (fun e=>e rfl),if_pos (.inr ht)]⟩
      go_enter Tryz.func238,Tryz.ntmps238
      go_wp2_with fail
      refine GT.out.mono ?_
      rintro e w1 ⟨hx,b1⟩
      replace hx:e=.returned (.tuple #[.agg #[.int .i64 es,.int .i64 ed,.int .i64 ea,.int .i64 en,.int .i64 eu,.int .i64 0,.string (strOfNums eh),.string (strOfNums ec)],.bool true]):=hx
      subst hx
      have B1:=Kept.mk b1
      clear b1 GT
      go_wp2_with (go_at_call 114;(with_reducible refine(TI.out _).mono ?_);rintro e w' ⟨rfl,rfl⟩)
      go_ret
      rw[RF.out]
      have b2:=B1.out.alloc B1.out.size (.cells #[.int .i64 es,.int .i64 ed,.int .i64 ea,.int .i64 en,.int .i64 eu,.int .i64 0,.string (strOfNums eh),.string (strOfNums ec)] 261)
      exact⟨rfl,_,⟨G,v,P0.out.below b2,rfl⟩,fp_below b2⟩
     | true =>
      rw[ht] at TI
      by_cases h32:L≠32
      ·have h32':¬ (L:Int)=32:=by omega
       have RF:Kept (claimB b ed k s clock=(2,b)):=⟨by rw[RS.out,if_neg (fun e=>e rfl),if_neg (fun e=>e rfl),if_neg (fun e=>e.elim hd (by rw[ht];simp)),if_pos h32]⟩
       go_enter Tryz.func238,Tryz.ntmps238
       go_wp2_with fail
       refine GT.out.mono ?_
       rintro e w1 ⟨hx,b1⟩
       replace hx:e=.returned (.tuple #[.agg #[.int .i64 es,.int .i64 ed,.int .i64 ea,.int .i64 en,.int .i64 eu,.int .i64 0,.string (strOfNums eh),.string (strOfNums ec)],.bool true]):=hx
       subst hx
       have B1:=Kept.mk b1
       clear b1 GT
       go_wp2_with (go_at_call 114;(with_reducible refine(TI.out _).mono ?_);rintro e w' ⟨rfl,rfl⟩)
       go_ret
       rw[RF.out]
       have b2:=B1.out.alloc B1.out.size (.cells #[.int .i64 es,.int .i64 ed,.int .i64 ea,.int .i64 en,.int .i64 eu,.int .i64 0,.string (strOfNums eh),.string (strOfNums ec)] 261)
       exact⟨rfl,_,⟨G,v,P0.out.below b2,rfl⟩,fp_below b2⟩
      ·obtain rfl:L=32:=Decidable.not_not.1 h32
       by_cases hsh:sha s=eh
       ·have heq:((strOfNums (sha s)).toList == (strOfNums eh).toList)=true:=by rw[hsh];exact beq_self_eq_true _
        have RF:Kept (claimB b ed k s clock=payB b ed k ⟨es,ed,ea,en,eu,1,eh,s⟩):=⟨by rw[RS.out,if_neg (fun e=>e rfl),if_neg (fun e=>e rfl),if_neg (fun e=>e.elim hd (by rw[ht];simp)),if_neg h32,if_neg (fun e=>e hsh)];rfl⟩
        rw[RF.out]
        clear ht RS RF h32 hsh
        go_enter Tryz.func238,Tryz.ntmps238
        go_wp2_with fail
        refine GT.out.mono ?_
        rintro e w1 ⟨hx,b1⟩
        replace hx:e=.returned (.tuple #[.agg #[.int .i64 es,.int .i64 ed,.int .i64 ea,.int .i64 en,.int .i64 eu,.int .i64 0,.string (strOfNums eh),.string (strOfNums ec)],.bool true]):=hx
        subst hx
        have B1:=Kept.mk b1
        clear b1 GT
        go_upto_region 12 with(go_at_call 114;(with_reducible refine(TI.out _).mono ?_);rintro e w' ⟨rfl,rfl⟩)
        have nb:Blk (w1.alloc (.cells #[.int .i64 es,.int .i64 ed,.int .i64 ea,.int .i64 en,.int .i64 eu,.int .i64 0,.string (strOfNums eh),.string (strOfNums ec)] 261)) w1.heap.size 261 #[.int .i64 es,.int .i64 ed,.int .i64 ea,.int .i64 en,.int .i64 eu,.int .i64 0,.string (strOfNums eh),.string (strOfNums ec)]:=Blk.new _ _ _
        have B2:=Kept.mk (B1.out.alloc B1.out.size (.cells #[.int .i64 es,.int .i64 ed,.int .i64 ea,.int .i64 en,.int .i64 eu,.int .i64 0,.string (strOfNums eh),.string (strOfNums ec)] 261))
        have B1s:=B1.out.size
        obtain⟨N,hN⟩:∃ N,w1.heap.size=N:=⟨_,rfl⟩
        rw[hN] at nb ⊢
        rw[hN] at B1s
        have NB:=Kept.mk nb
        clear nb B1 hN
        generalize (w1.alloc (.cells #[.int .i64 es,.int .i64 ed,.int .i64 ea,.int .i64 en,.int .i64 eu,.int .i64 0,.string (strOfNums eh),.string (strOfNums ec)] 261))=w2 at *
        have tl:t < w.heap.size:=ctab_lt P0.out.tab
        have P2:=Kept.mk (P0.out.below B2.out.drew)
        have FB:=Kept.mk (fp_below (F:=fk t x G v) B2.out.drew)
        have ND:=Kept.mk (NB.out.below (Below.refl _ _).drew NB.out.lt)
        obtain⟨w3,c3,hcv,hc1,hc2,r3,b3⟩:∃ w3 c3,(convert 9 44 (.string (strOfNums s))).run Tryz.prog w2.drew=.ok (.slice (some ⟨w2.heap.size,0,none⟩) s.length c3) w3∧s.length≤c3∧c3≤9223372036854775807∧Rd w3 (some ⟨w2.heap.size,0,none⟩) s.length s∧Below w2.heap.size w2.drew w3:=to_bytes2 w2.drew s BS.out (by rw[LS.out];decide)
        rw[LS.out] at hcv r3 hc1
        have P3:=Kept.mk (P2.out.below b3)
        have F3:=Kept.mk (FB.out.trans (fp_below b3))
        have N3:=Kept.mk (ND.out.below b3 ND.out.lt)
        have OC:=Kept.mk (one_any t _ 32 c3 s w3 P3.out.tab r3 hc1 hc2 (by decide))
        have HELD0:(fun w':World=>w'.cell? ⟨x,0,none⟩=some (.pointer (some ⟨t,0,none⟩))∧w'.cell? ⟨N,6,none⟩=some (.string (strOfNums eh))) w2.drew:=⟨P2.out.c0,ND.out.cell 6⟩
        clear FB P2 ND r3 b3 NB B2
        refine wp_region_noPanic ?_
        refine wp_region_held_drew (S:=fun w':World=>w'.cell? ⟨x,0,none⟩=some (.pointer (some ⟨t,0,none⟩))∧w'.cell? ⟨N,6,none⟩=some (.string (strOfNums eh))) (by kernel_rfl) HELD0 (fun hHeld=>?_)
        clear HELD0
        refine tk 0 (by assumption) ?_
        simp only[Act.put,zA,zB,zC]
        refine tk 1 (by assumption) ?_
        simp only[Act.put,zA,zB,zC]
        refine tk 2 (by assumption) ?_
        simp only[Act.put,zA,zB,zC]
        refine tk 3 (by assumption) ?_
        simp only[Act.put,zA,zB,zC]
        refine tk 4 (by assumption) ?_
        simp only[Act.put,zA,zB,zC]
        refine tk 8 (by assumption) ?_
        simp only[Act.put,zA,zB,zC]
        refine tk 9 (by assumption) ?_
        simp only[Act.put,zA,zB,zC]
        refine ld 5 (fun K hK=>?_)
        go_simp
        refine hK.out _ _ ⟨P3.out.c0,N3.out.cell 6⟩ (fun hHeld2=>?_)
        clear hK K hHeld
        try simp only[Act.put,zA,zB,zC]
        refine ld 6 (fun K hK=>?_)
        go_simp
        go_at_call 265
        refine OC.out.mono ?_
        rintro e w4 ⟨M,rfl,hM,kM,mt,bt⟩
        have hcv2:=conv_same (cap:=32) (Rd.blk kM (sha_bytes s) (sha_len s))
        have PT:=P3.out.tabled (.inr mt) bt
        have P4:=Kept.mk PT.1
        have F4:=Kept.mk (F3.out.trans PT.2)
        have N4:=Kept.mk (N3.out.bar bt (by simp;omega))
        clear PT kM mt bt P3 F3 N3 OC
        refine hK.out _ _ ⟨P4.out.c0,N4.out.cell 6⟩ (fun hHeld3=>?_)
        clear hK K hHeld2
        try simp only[Act.put,zA,zB,zC]
        refine ld 7 (fun K hK=>?_)
        go_simp
        refine hK.out _ _ hHeld3 (fun hHeld4=>?_)
        clear hK K hHeld3
        try simp only[Act.put,zA,zB,zC]
        refine tk 10 (by assumption) ?_
        simp only[Act.put,zA,zB,zC]
        refine tk 11 (by assumption) ?_
        simp only[Act.put,zA,zB,zC]
        refine wpAnyH_done (by kernel_rfl) ?_ _
        refine NoPanic.normal ?_
        have n5:w4.cell? ⟨N,5,none⟩=some (.int .i64 0):=N4.out.cell 5
        have f5:=N4.out.frozen 5
        have jN:Kept (Disj (fk t x G v) [N]):=⟨fun z hz hm=>by have h1:=P0.out.lts z hz;rw[List.mem_singleton] at hm;omega⟩
        clear hcv hcv2 hHeld4 hM P0
        go_upto_region 15 with fail
        have bs:Bar [N] w4 (w4.setCell ⟨N,5,none⟩ (.int .i64 1)):=(Bar.refl [N] w4).setCell (by simp) _
        have P5:=Kept.mk (P4.out.keep bs jN.out)
        have F5:Kept (Fp (fk t x G v) (fk t x G v) w (w4.setCell ⟨N,5,none⟩ (.int .i64 1))):=⟨F4.out.1.trans bs (fun z hz=>.inr (by rw[List.mem_singleton] at hz;omega)),F4.out.2⟩
        have N5:=Kept.mk (N4.out.set_ 5 (.int .i64 1))
        clear bs P4 F4 N4 n5 f5
        generalize (w4.setCell ⟨N,5,none⟩ (.int .i64 1))=w5 at *
        go_wp2_with fail
        refine(clone32_any s LS.out w5).mono ?_
        rintro e w6 ⟨rfl,b6⟩
        have P6:=Kept.mk (P5.out.below b6)
        have F6:=Kept.mk (F5.out.trans (fp_below b6))
        have N6:=Kept.mk (N5.out.below b6 N5.out.lt)
        have n7:w6.cell? ⟨N,7,none⟩=some (.string (strOfNums ec)):=N6.out.cell 7
        have f7:=N6.out.frozen 7
        clear P5 F5 N5 b6
        go_upto_region 16 with fail
        have bs:Bar [N] w6 (w6.setCell ⟨N,7,none⟩ (.string (strOfNums s))):=(Bar.refl [N] w6).setCell (by simp) _
        have P7:=Kept.mk (P6.out.keep bs jN.out)
        have F7:Kept (Fp (fk t x G v) (fk t x G v) w (w6.setCell ⟨N,7,none⟩ (.string (strOfNums s)))):=⟨F6.out.1.trans bs (fun z hz=>.inr (by rw[List.mem_singleton] at hz;omega)),F6.out.2⟩
        have N7:=N6.out.set_ 7 (.string (strOfNums s))
        clear bs P6 F6 N6 n7 f7
        generalize (w6.setCell ⟨N,7,none⟩ (.string (strOfNums s)))=w7 at *
        have n0:w7.cell? ⟨N,0,none⟩=some (.int .i64 es):=N7.cell 0
        have n1:w7.cell? ⟨N,1,none⟩=some (.int .i64 ed):=N7.cell 1
        have n2:w7.cell? ⟨N,2,none⟩=some (.int .i64 ea):=N7.cell 2
        have n3:w7.cell? ⟨N,3,none⟩=some (.int .i64 en):=N7.cell 3
        have n4:w7.cell? ⟨N,4,none⟩=some (.int .i64 eu):=N7.cell 4
        have n5:w7.cell? ⟨N,5,none⟩=some (.int .i64 1):=N7.cell 5
        have n6:w7.cell? ⟨N,6,none⟩=some (.string (strOfNums eh)):=N7.cell 6
        have n7:w7.cell? ⟨N,7,none⟩=some (.string (strOfNums s)):=N7.cell 7
        have PY:=Kept.mk (pay_any P7.out ed k HK.out ⟨es,ed,ea,en,eu,1,eh,s⟩)
        unfold evV at PY
        dsimp only at PY
        clear N7
        go_wp2_with fail
        refine PY.out.mono ?_
        rintro e w8 ⟨rfl,F',hc,fp⟩
        have HC:=Kept.mk hc
        have FF:=Kept.mk (F7.out.trans fp)
        clear hc fp PY
        go_wp2
        go_ret
        exact⟨rfl,F',HC.out,FF.out⟩
       ·have heq:((strOfNums (sha s)).toList == (strOfNums eh).toList)=false:=beq_eq_false_iff_ne.2 (fun e=>hsh (strOfNums_inj (sha_bytes s) BH.out e))
        have RF:Kept (claimB b ed k s clock=(10,b)):=⟨by rw[RS.out,if_neg (fun e=>e rfl),if_neg (fun e=>e rfl),if_neg (fun e=>e.elim hd (by rw[ht];simp)),if_neg h32,if_pos hsh]⟩
        clear ht RS h32 hsh
        go_enter Tryz.func238,Tryz.ntmps238
        go_wp2_with fail
        refine GT.out.mono ?_
        rintro e w1 ⟨hx,b1⟩
        replace hx:e=.returned (.tuple #[.agg #[.int .i64 es,.int .i64 ed,.int .i64 ea,.int .i64 en,.int .i64 eu,.int .i64 0,.string (strOfNums eh),.string (strOfNums ec)],.bool true]):=hx
        subst hx
        have B1:=Kept.mk b1
        clear b1 GT
        go_upto_region 12 with(go_at_call 114;(with_reducible refine(TI.out _).mono ?_);rintro e w' ⟨rfl,rfl⟩)
        have nb:Blk (w1.alloc (.cells #[.int .i64 es,.int .i64 ed,.int .i64 ea,.int .i64 en,.int .i64 eu,.int .i64 0,.string (strOfNums eh),.string (strOfNums ec)] 261)) w1.heap.size 261 #[.int .i64 es,.int .i64 ed,.int .i64 ea,.int .i64 en,.int .i64 eu,.int .i64 0,.string (strOfNums eh),.string (strOfNums ec)]:=Blk.new _ _ _
        have B2:=Kept.mk (B1.out.alloc B1.out.size (.cells #[.int .i64 es,.int .i64 ed,.int .i64 ea,.int .i64 en,.int .i64 eu,.int .i64 0,.string (strOfNums eh),.string (strOfNums ec)] 261))
        have B1s:=B1.out.size
        obtain⟨N,hN⟩:∃ N,w1.heap.size=N:=⟨_,rfl⟩
        rw[hN] at nb ⊢
        rw[hN] at B1s
        have NB:=Kept.mk nb
        clear nb B1 hN
        generalize (w1.alloc (.cells #[.int .i64 es,.int .i64 ed,.int .i64 ea,.int .i64 en,.int .i64 eu,.int .i64 0,.string (strOfNums eh),.string (strOfNums ec)] 261))=w2 at *
        have tl:t < w.heap.size:=ctab_lt P0.out.tab
        have P2:=Kept.mk (P0.out.below B2.out.drew)
        have FB:=Kept.mk (fp_below (F:=fk t x G v) B2.out.drew)
        have ND:=Kept.mk (NB.out.below (Below.refl _ _).drew NB.out.lt)
        obtain⟨w3,c3,hcv,hc1,hc2,r3,b3⟩:∃ w3 c3,(convert 9 44 (.string (strOfNums s))).run Tryz.prog w2.drew=.ok (.slice (some ⟨w2.heap.size,0,none⟩) s.length c3) w3∧s.length≤c3∧c3≤9223372036854775807∧Rd w3 (some ⟨w2.heap.size,0,none⟩) s.length s∧Below w2.heap.size w2.drew w3:=to_bytes2 w2.drew s BS.out (by rw[LS.out];decide)
        rw[LS.out] at hcv r3 hc1
        have P3:=Kept.mk (P2.out.below b3)
        have F3:=Kept.mk (FB.out.trans (fp_below b3))
        have N3:=Kept.mk (ND.out.below b3 ND.out.lt)
        have OC:=Kept.mk (one_any t _ 32 c3 s w3 P3.out.tab r3 hc1 hc2 (by decide))
        have HELD0:(fun w':World=>w'.cell? ⟨x,0,none⟩=some (.pointer (some ⟨t,0,none⟩))∧w'.cell? ⟨N,6,none⟩=some (.string (strOfNums eh))) w2.drew:=⟨P2.out.c0,ND.out.cell 6⟩
        clear FB P2 ND r3 b3 NB B2
        refine wp_region_noPanic ?_
        refine wp_region_held_drew (S:=fun w':World=>w'.cell? ⟨x,0,none⟩=some (.pointer (some ⟨t,0,none⟩))∧w'.cell? ⟨N,6,none⟩=some (.string (strOfNums eh))) (by kernel_rfl) HELD0 (fun hHeld=>?_)
        clear HELD0
        refine tk 0 (by assumption) ?_
        simp only[Act.put,zA,zB,zC]
        refine tk 1 (by assumption) ?_
        simp only[Act.put,zA,zB,zC]
        refine tk 2 (by assumption) ?_
        simp only[Act.put,zA,zB,zC]
        refine tk 3 (by assumption) ?_
        simp only[Act.put,zA,zB,zC]
        refine tk 4 (by assumption) ?_
        simp only[Act.put,zA,zB,zC]
        refine tk 8 (by assumption) ?_
        simp only[Act.put,zA,zB,zC]
        refine tk 9 (by assumption) ?_
        simp only[Act.put,zA,zB,zC]
        refine ld 5 (fun K hK=>?_)
        go_simp
        refine hK.out _ _ ⟨P3.out.c0,N3.out.cell 6⟩ (fun hHeld2=>?_)
        clear hK K hHeld
        try simp only[Act.put,zA,zB,zC]
        refine ld 6 (fun K hK=>?_)
        go_simp
        go_at_call 265
        refine OC.out.mono ?_
        rintro e w4 ⟨M,rfl,hM,kM,mt,bt⟩
        have hcv2:=conv_same (cap:=32) (Rd.blk kM (sha_bytes s) (sha_len s))
        have PT:=P3.out.tabled (.inr mt) bt
        have P4:=Kept.mk PT.1
        have F4:=Kept.mk (F3.out.trans PT.2)
        have N4:=Kept.mk (N3.out.bar bt (by simp;omega))
        clear PT kM mt bt P3 F3 N3 OC
        refine hK.out _ _ ⟨P4.out.c0,N4.out.cell 6⟩ (fun hHeld3=>?_)
        clear hK K hHeld2
        try simp only[Act.put,zA,zB,zC]
        refine ld 7 (fun K hK=>?_)
        go_simp
        refine hK.out _ _ hHeld3 (fun hHeld4=>?_)
        clear hK K hHeld3
        try simp only[Act.put,zA,zB,zC]
        refine tk 10 (by assumption) ?_
        simp only[Act.put,zA,zB,zC]
        refine tk 11 (by assumption) ?_
        simp only[Act.put,zA,zB,zC]
        refine wpAnyH_done (by kernel_rfl) ?_ _
        refine NoPanic.normal ?_
        clear hcv hcv2 hHeld4
        go_wp2
        go_ret
        rw[RF.out]
        exact⟨rfl,_,⟨G,v,P4.out,rfl⟩,F4.out⟩
   ·have hs':(et == 0)=false:=beq_eq_false_iff_ne.2 hs
    have RF:Kept (claimB b ed k s clock=(9,b)):=⟨by rw[RS.out,if_neg (fun e=>e rfl),if_pos hs]⟩
    go_enter Tryz.func238,Tryz.ntmps238
    go_wp2_with fail
    refine GT.out.mono ?_
    rintro e w1 ⟨hx,b1⟩
    replace hx:e=.returned (.tuple #[.agg #[.int .i64 es,.int .i64 ed,.int .i64 ea,.int .i64 en,.int .i64 eu,.int .i64 et,.string (strOfNums eh),.string (strOfNums ec)],.bool true]):=hx
    subst hx
    have B1:=Kept.mk b1
    clear b1 GT
    go_wp2_with (go_at_call 114;(with_reducible refine(TI.out _).mono ?_);rintro e w' ⟨rfl,rfl⟩)
    go_ret
    rw[RF.out]
    have b2:=B1.out.alloc B1.out.size (.cells #[.int .i64 es,.int .i64 ed,.int .i64 ea,.int .i64 en,.int .i64 eu,.int .i64 et,.string (strOfNums eh),.string (strOfNums ec)] 261)
    exact⟨rfl,_,⟨G,v,P0.out.below b2,rfl⟩,fp_below b2⟩
  ·have hw':(who == ed)=false:=beq_eq_false_iff_ne.2 (fun e=>hw e.symm)
   have RF:Kept (claimB b who k s clock=(14,b)):=⟨by rw[RS.out,if_pos hw]⟩
   go_enter Tryz.func238,Tryz.ntmps238
   go_wp2_with fail
   refine GT.out.mono ?_
   rintro e w1 ⟨hx,b1⟩
   replace hx:e=.returned (.tuple #[.agg #[.int .i64 es,.int .i64 ed,.int .i64 ea,.int .i64 en,.int .i64 eu,.int .i64 et,.string (strOfNums eh),.string (strOfNums ec)],.bool true]):=hx
   subst hx
   have B1:=Kept.mk b1
   clear b1 GT
   go_wp2_with (go_at_call 114;(with_reducible refine(TI.out _).mono ?_);rintro e w' ⟨rfl,rfl⟩)
   go_ret
   rw[RF.out]
   have b2:=B1.out.alloc B1.out.size (.cells #[.int .i64 es,.int .i64 ed,.int .i64 ea,.int .i64 en,.int .i64 eu,.int .i64 et,.string (strOfNums eh),.string (strOfNums ec)] 261)
   exact⟨rfl,_,⟨G,v,P0.out.below b2,rfl⟩,fp_below b2⟩
end
end Go.Proofs.YtidjkhpekhpffaaGreat.Escrow
