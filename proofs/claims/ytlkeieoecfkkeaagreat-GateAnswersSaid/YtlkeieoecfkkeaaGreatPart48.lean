/-
  Parts laid together: LedgerRNil.
-/
import Derived.Test.YtlkeieoecfkkeaaGreatPart10
import Derived.Test.YtlkeieoecfkkeaaGreatPart1
import Derived.Test.YtlkeieoecfkkeaaGreatPart8
import Derived.Test.YtlkeieoecfkkeaaGreatPart6
import Derived.Test.YtlkeieoecfkkeaaGreatPart5
import Derived.Test.YtlkeieoecfkkeaaGreatPart16
import Derived.LoopN
import Derived.Deep.CutBlock
import Derived.Deep.CutRange
import Derived.Deep.DeepCutAuto
import Derived.Deep.RegionHeld3
set_option maxRecDepth 100000
set_option maxHeartbeats 1000000
namespace Go.Proofs.YtlkeieoecfkkeaaGreat
namespace Ledger
open Go.RowKit Num Sha Purse Escrow Wire Req
theorem zT:(Tryz.prog.info? 68).map (·.size)=some 4:=by kernel_rfl
theorem Di:(Tryz.prog.info? 156).map (fun i=>(i.zero,i.size,i.bytes))=some (some (.agg #[.int .i64 0,.int .i64 0,.int .i64 0,.int .i64 0,.int .i64 0,.int .i64 0,.int .i64 0,.string ⟨#[]⟩,.string ⟨#[]⟩]),9,88):=by kernel_rfl
def bkC (st cap b d1 d2:Value) (A:Option Addr) (c:Nat) (clk:Int):Array Value:=#[st,cap,b,.int .i64 clk,.slice A 0 c,d1,d2]
def Bk (w:World) (x:Nat) (clk:Int):Prop:=∃ st cap b d1 d2 A c,Blk w x 151 (bkC st cap b d1 d2 A c clk)∧c≤9223372036854775807
def tickTo (clk clock:Int):Int:=if Tck clock∧clk < clock then clock else clk
def Fb (w:World) (x:Nat) (clk:Int) (e:Ending) (w':World):Prop:=∃ D d,e=.returned (.agg #[.int .i64 clk,.int .i64 0,.slice none 0 0,.slice D 0 d])∧Bk w' x clk∧Bar [x] w w'
section
variable {w : World} {x : Nat} {clk : Int}
theorem wV (party clock:Int) (h:Bk w x clk) :
  Calls Tryz.prog 30 #[.pointer (some ⟨x,0,none⟩),.int .i64 party,.int .i64 clock,.agg #[.int .i64 0,.slice none 0 0]] w (Fb w x (tickTo clk clock)):=by
 obtain⟨st,cap,b,d1,d2,A,c,hb,hc⟩:=h
 unfold bkC at hb
 obtain⟨N,hN⟩:∃ N,w.heap.size=N:=⟨_,rfl⟩
 obtain⟨R,hR⟩:∃ R,(w.alloc (.cells #[.int .i64 0,.slice none 0 0] 72)).heap.size=R:=⟨_,rfl⟩
 have b0:Below w.heap.size w (w.alloc (.cells #[.int .i64 0,.slice none 0 0] 72)):=(Below.refl _ _).alloc (Nat.le_refl _) _
 have x0:Blk (w.alloc (.cells #[.int .i64 0,.slice none 0 0] 72)) N 72 #[.int .i64 0,.slice none 0 0]:=Blk.new_at w _ _ N hN.symm
 have b1:Below (w.alloc (.cells #[.int .i64 0,.slice none 0 0] 72)).heap.size (w.alloc (.cells #[.int .i64 0,.slice none 0 0] 72)) ((w.alloc (.cells #[.int .i64 0,.slice none 0 0] 72)).alloc (.cells #[.int .i64 0,.int .i64 0,.slice none 0 0,.slice none 0 0] 68)):=(Below.refl _ _).alloc (Nat.le_refl _) _
 have NR:ae (x < N∧N < R∧w.heap.size≤N):=⟨by have:=hb.lt;omega,by have:=x0.lt;omega,by omega⟩
 have bb:=b0.trans (b1.mono b0.size)
 have FB:ae (Bar [x] w ((w.alloc (.cells #[.int .i64 0,.slice none 0 0] 72)).alloc (.cells #[.int .i64 0,.int .i64 0,.slice none 0 0,.slice none 0 0] 68))):=⟨barOf bb _⟩
 have X:ae (Blk ((w.alloc (.cells #[.int .i64 0,.slice none 0 0] 72)).alloc (.cells #[.int .i64 0,.int .i64 0,.slice none 0 0,.slice none 0 0] 68)) N 72 #[.int .i64 0,.slice none 0 0]):=⟨x0.below b1 x0.lt⟩
 have Y:ae (Blk ((w.alloc (.cells #[.int .i64 0,.slice none 0 0] 72)).alloc (.cells #[.int .i64 0,.int .i64 0,.slice none 0 0,.slice none 0 0] 68)) R 68 #[.int .i64 0,.int .i64 0,.slice none 0 0,.slice none 0 0]):=⟨Blk.new_at _ _ _ R hR.symm⟩
 have L:=ae.mk (hb.below bb hb.lt)
 have HC:=ae.mk hc
 clear b0 b1 x0 bb hb hc
 go_enter Tryz.func30,Tryz.ntmps30
 go_upto_region 1 with(fail)
 generalize ((w.alloc (.cells #[.int .i64 0,.slice none 0 0] 72)).alloc (.cells #[.int .i64 0,.int .i64 0,.slice none 0 0,.slice none 0 0] 68))=w1 at *
 clear hN hR
 have KT:=ae.mk (zX clock w1)
 obtain⟨tb,htb⟩:∃ tb,tickB clock=tb:=⟨_,rfl⟩
 rw[htb] at KT
 have HTB:=ae.mk htb
 clear htb
 obtain⟨k1,hk1⟩:∃ k1,tickTo clk clock=k1:=⟨_,rfl⟩
 rw[hk1]
 have HK1:=ae.mk hk1
 clear hk1
 have x3:=L.out.cell 3
 go_cut [20] (fun tz wx=>∃ q:Bool,tz=.bool q∧wx=w1∧ae (k1=if q=true then clock else clk))
 case first =>
  go_wp2_with fail
  refine KT.out.mono ?_
  rintro e w2 ⟨rfl,rfl⟩
  clear KT
  cases tb with
  | false =>
   have hs:ae (k1=if false=true then clock else clk):=⟨by
    rw[← HK1.out];unfold tickTo
    rw[if_neg (fun k=>by have:=HTB.out;rw[Dv.2 k.1] at this;cases this)];rfl⟩
   go_wp2
   go_meet
   case rel=>exact⟨_,rfl,rfl,hs⟩
  | true =>
   by_cases hlt:clk < clock
   ·have hs:ae (k1=if true=true then clock else clk):=⟨by
     rw[← HK1.out];unfold tickTo
     rw[if_pos ⟨Dv.1 HTB.out,hlt⟩];rfl⟩
    go_wp2
    go_meet
    case rel=>exact⟨_,rfl,rfl,hs⟩
   ·have hs:ae (k1=if false=true then clock else clk):=⟨by
     rw[← HK1.out];unfold tickTo
     rw[if_neg (fun k=>hlt k.2)];rfl⟩
    have hlt':(clk < clock)=False:=eq_false hlt
    go_wp2
    go_meet
    case rel=>exact⟨_,rfl,rfl,hs⟩
 case rest =>
 clear x3 KT
 obtain⟨q,rfl,rfl,HSQ⟩:=hcut
 go_upto_if 20 with(fail)
 go_cut [20] from 21 to 24 (fun _ wx=>ae (Blk wx x 151 #[st,cap,b,.int .i64 k1,.slice A 0 c,d1,d2])∧ae (Bar [x] w wx)∧ae (Blk wx N 72 #[.int .i64 0,.slice none 0 0])∧ae (Blk wx R 68 #[.int .i64 0,.int .i64 0,.slice none 0 0,.slice none 0 0]))
 case first =>
  cases q with
  | false =>
   have hs:=HSQ.out
   rw[if_neg (by decide)] at hs
   subst hs
   go_wp2
   go_meet
   case rel=>exact⟨L,FB,X,Y⟩
  | true =>
   have hs:=HSQ.out
   rw[if_pos rfl] at hs
   subst hs
   have x3:=L.out.cell 3;have f3:=L.out.frozen 3
   have bs:Bar [x] wc (wc.setCell ⟨x,3,none⟩ (.int .i64 k1)):=(Bar.refl _ _).setCell (by simp) _
   have hL:Blk (wc.setCell ⟨x,3,none⟩ (.int .i64 k1)) x 151 #[st,cap,b,.int .i64 k1,.slice A 0 c,d1,d2]:=by
    have:=L.out.set_ 3 (.int .i64 k1)
    simpa using this
   have E:=ae.mk (And.intro hL (And.intro (FB.out.trans bs (by simp)) (And.intro (X.out.bar bs (by have:=NR.out;simp;omega)) (Y.out.bar bs (by have:=NR.out;simp;omega)))))
   clear bs hL
   go_wp2
   go_meet
   case rel=>exact⟨⟨E.out.1⟩,⟨E.out.2.1⟩,⟨E.out.2.2.1⟩,⟨E.out.2.2.2⟩⟩
 case rest =>
 clear L X Y HTB FB HSQ
 obtain⟨L,FB,X,Y⟩:=hcut
 generalize wc=w2 at *
 obtain⟨M,hM⟩:∃ M,w2.heap.size=M:=⟨_,rfl⟩
 have b1:Below w2.heap.size w2 (w2.alloc (.cells #[.int .i64 0,.int .i64 0,.slice none 0 0,.slice none 0 0] 68)):=(Below.refl _ _).alloc (Nat.le_refl _) _
 have MN:ae (R < M):=⟨by have:=Y.out.lt;omega⟩
 have V:=ae.mk (Blk.new_at w2 68 #[.int .i64 0,.int .i64 0,.slice none 0 0,.slice none 0 0] M hM.symm)
 replace L:=ae.mk (L.out.below b1 L.out.lt);replace X:=ae.mk (X.out.below b1 X.out.lt);replace Y:=ae.mk (Y.out.below b1 Y.out.lt)
 replace FB:=ae.mk (FB.out.trans (barOf b1 []) (by simp))
 clear b1
 go_wp2
 refine wp_loop_rounds 1 ?_
 rw[rounds_succ]
 have x1:=X.out.cell 1
 go_upto_region 8 with(fail)
 clear hM x1
 generalize w2.alloc (.cells #[.int .i64 0,.int .i64 0,.slice none 0 0,.slice none 0 0] 68)=w3 at *
 have XM:ae (x∉[M]∧N∉[M]∧R∉[M]):=⟨by have:=NR.out;have:=MN.out;simp only[List.mem_singleton];omega⟩
 go_cut [10] (fun _ wx=>ae (Blk wx x 151 #[st,cap,b,.int .i64 k1,.slice A 0 c,d1,d2])∧ae (Bar [x] w wx)∧ae (Blk wx N 72 #[.int .i64 0,.slice none 0 0])∧ae (Blk wx R 68 #[.int .i64 0,.int .i64 0,.slice none 0 0,.slice none 0 0])∧ae (Blk wx M 68 #[.int .i64 k1,.int .i64 0,.slice none 0 0,.slice none 0 0]))
 case first =>
  have bb:Below w3.heap.size w3 w3.drew:=(Below.refl _ _).drew
  replace L:=ae.mk L.out.drew;replace X:=ae.mk X.out.drew;replace Y:=ae.mk Y.out.drew;replace V:=ae.mk V.out.drew;replace FB:=ae.mk FB.out.drew
  clear bb
  refine wp_region_noPanic ?_
  refine wp_region_held_drew (S:=fun u:World=>u.cell? ⟨x,3,none⟩=some (.int .i64 k1)∧u.cell? ⟨x,4,none⟩=some (.slice A 0 c)) (by kernel_rfl) ⟨L.out.cell 3,L.out.cell 4⟩ (fun hS0=>?_)
  generalize w3.drew=w4 at *
  refine tk 0 ?_
  simp only[Act.put,zA,zB,zC]
  refine tk 1 ?_
  simp only[Act.put,zA,zB,zC]
  refine tk 2 ?_
  simp only[Act.put,zA,zB,zC]
  refine tk 3 ?_
  simp only[Act.put,zA,zB,zC]
  refine tk 4 ?_
  simp only[Act.put,zA,zB,zC]
  refine tk 5 ?_
  simp only[Act.put,zA,zB,zC]
  refine tk 6 ?_
  simp only[Act.put,zA,zB,zC]
  refine tk 7 ?_
  simp only[Act.put,zA,zB,zC]
  refine tk 8 ?_
  simp only[Act.put,zA,zB,zC]
  refine tk 9 ?_
  simp only[Act.put,zA,zB,zC]
  clear hS0
  have m0:w4.cell? ⟨M,0,none⟩=some (.int .i64 0):=V.out.cell 0;have g0:=V.out.frozen 0;have m1:w4.cell? ⟨M,1,none⟩=some (.int .i64 0):=V.out.cell 1;have g1:=V.out.frozen 1
  have V2:Blk ((w4.setCell ⟨M,0,none⟩ (.int .i64 k1)).setCell ⟨M,1,none⟩ (.int .i64 0)) M 68 #[.int .i64 k1,.int .i64 0,.slice none 0 0,.slice none 0 0]:=by
   have:=(V.out.set_ 0 (.int .i64 k1)).set_ 1 (.int .i64 0)
   simpa using this
  have bM0:Bar [M] w4 (w4.setCell ⟨M,0,none⟩ (.int .i64 k1)):=Bar.setCell (Bar.refl [M] w4) (p:=⟨M,0,none⟩) (.inl (by simp)) _
  have bM:Bar [M] w4 ((w4.setCell ⟨M,0,none⟩ (.int .i64 k1)).setCell ⟨M,1,none⟩ (.int .i64 0)):=Bar.setCell bM0 (p:=⟨M,1,none⟩) (.inl (by simp)) _
  have E:=ae.mk (And.intro (L.out.bar bM XM.out.1) (And.intro (FB.out.trans bM (fun z hz=>.inr (by rw[List.mem_singleton] at hz;have:=NR.out;have:=MN.out;omega))) (And.intro (X.out.bar bM XM.out.2.1) (And.intro (Y.out.bar bM XM.out.2.2) V2))))
  have hL0:=L.out.bar bM0 XM.out.1
  clear V2 bM bM0
  refine ld 10 (fun K hK=>?_)
  go_simp
  refine hK.out _ _ ⟨hL0.cell 3,hL0.cell 4⟩ (fun _=>?_)
  clear hK K
  refine tk 11 ?_
  simp only[Act.put,zA,zB,zC]
  refine ld 12 (fun K hK=>?_)
  go_simp
  refine hK.out _ _ ⟨E.out.1.cell 3,E.out.1.cell 4⟩ (fun _=>?_)
  clear hK K m0 g0 m1 g1 hL0
  refine wpAnyH_done (by kernel_rfl) ?_ _
  refine NoPanic.normal ?_
  generalize ((w4.setCell ⟨M,0,none⟩ (.int .i64 k1)).setCell ⟨M,1,none⟩ (.int .i64 0))=w5 at *
  go_wp2
  go_meet
  case rel=>exact⟨⟨E.out.1⟩,⟨E.out.2.1⟩,⟨E.out.2.2.1⟩,⟨E.out.2.2.2.1⟩,⟨E.out.2.2.2.2⟩⟩
 case rest =>
 clear L X Y V FB
 obtain⟨L,FB,X,Y,V⟩:=hcut
 generalize wc=w5 at *
 have x0:=X.out.cell 0;have x4:=L.out.cell 4
 go_upto_region 9 with(fail)
 go_quiet (fail)
 replace L:=ae.mk (L.out.drewN nq);replace X:=ae.mk (X.out.drewN nq);replace Y:=ae.mk (Y.out.drewN nq);replace V:=ae.mk (V.out.drewN nq);replace FB:=ae.mk (FB.out.drewN nq)
 generalize w5.drewN nq=w6 at *
 clear x0 x4
 obtain⟨A',hsl,hdr⟩:=Yb A 0 c 0 (by omega) (by omega) (0:Int) rfl
 have HDR:=ae.mk hdr
 clear hdr
 go_upto_region 10 with(fail)
 refine wp_region_noPanic ?_
 have hS0:w6.drew.cell? ⟨x,4,none⟩=some (.slice A 0 c)∧w6.drew.cell? ⟨N,0,none⟩=some (.int .i64 0):=⟨L.out.drew.cell 4,X.out.drew.cell 0⟩
 replace L:=ae.mk L.out.drew;replace X:=ae.mk X.out.drew;replace Y:=ae.mk Y.out.drew;replace V:=ae.mk V.out.drew;replace FB:=ae.mk FB.out.drew
 refine AX [10] (S:=fun u:World=>u.cell? ⟨x,4,none⟩=some (.slice A 0 c)∧u.cell? ⟨N,0,none⟩=some (.int .i64 0)) (by kernel_rfl) hS0 (fun hS9=>?_)
 clear hS0
 generalize w6.drew=w7 at *
 refine frW 1 (fun _=>by assumption) ?_
 simp only[Act.put,zA,zB,zC]
 refine frW 2 (fun _=>by assumption) ?_
 simp only[Act.put,zA,zB,zC]
 refine frW 3 (fun _=>by assumption) ?_
 simp only[Act.put,zA,zB,zC]
 refine tkW 4 (by assumption) ?_
 simp only[Act.put,zA,zB,zC]
 refine frW 5 (fun _=>by assumption) ?_
 simp only[Act.put,zA,zB,zC]
 refine tkW 6 (by assumption) ?_
 simp only[Act.put,zA,zB,zC]
 refine frW 7 (fun _=>by assumption) ?_
 simp only[Act.put,zA,zB,zC]
 clear hsl
 refine ldW 0 (fun K hK=>?_)
 go_simp
 have b2:Below w7.heap.size w7 (w7.alloc (.cells #[] 156)):=(Below.refl _ _).alloc (Nat.le_refl _) _
 have hown:=World.ownsRow_made (base:=w7.heap.size) (e:=156) (size:=9) w7 #[] 0 (Nat.le_refl _) (by unfold maxLen;omega) rfl
 have HB:ae (M < w7.heap.size∧w.heap.size≤w7.heap.size):=⟨V.out.lt,FB.out.size⟩
 replace L:=ae.mk (L.out.below b2 L.out.lt);replace X:=ae.mk (X.out.below b2 X.out.lt);replace Y:=ae.mk (Y.out.below b2 Y.out.lt);replace V:=ae.mk (V.out.below b2 V.out.lt)
 replace FB:=ae.mk (FB.out.trans (barOf b2 []) (by simp))
 have OE:=ae.mk hown
 refine hK.out _ _ (fun _=>⟨L.out.cell 4,X.out.cell 0⟩) (fun _=>?_)
 clear hK K hS9 b2 hown
 try simp only[Act.put,zA,zB,zC]
 generalize (w7.alloc (.cells #[] 156))=w8 at *
 generalize w7.heap.size=gB at *
 obtain⟨iu,hi,hz0,hz1,hz2⟩:=info_parts Di
 refine ldW 8 (fun K hK=>?_)
 refine sF (by rfl) _ _ _ (by rfl) gB 156 iu (.agg #[.int .i64 0,.int .i64 0,.int .i64 0,.int .i64 0,.int .i64 0,.int .i64 0,.int .i64 0,.string ⟨#[]⟩,.string ⟨#[]⟩]) 88 Tryz.underlying66 hi hz0 hz1 hz2 rfl (by omega) (.slice (some ⟨gB,0,none⟩) 0 0) 0 [] (by rfl) OE.out
  A' (0 - 0) (c - 0) ([]:List VV) (by rfl) ⟨rfl,.inl rfl⟩ (fun _=>rfl) Ol (by unfold maxLen;omega) (by omega) (by have:=OE.out.lt gB rfl;omega) ?_
 intro v' w9 hown hgrow hat
 obtain⟨D,cc,hv'⟩:=aY hown
 subst hv'
 have hbar:Bar [gB] w8 w9:=(Bar.grownRow hgrow).mono (fun z hz=>.inl (by simpa [Value.ownBlock,eq_comm] using hz))
 have hgx:x∉[gB]∧N∉[gB]∧R∉[gB]∧M∉[gB]:=by have:=NR.out;have:=MN.out;have:=HB.out;simp only[List.mem_singleton];omega
 replace L:=ae.mk (L.out.bar hbar hgx.1);replace X:=ae.mk (X.out.bar hbar hgx.2.1);replace Y:=ae.mk (Y.out.bar hbar hgx.2.2.1);replace V:=ae.mk (V.out.bar hbar hgx.2.2.2)
 replace FB:=ae.mk (FB.out.trans hbar (fun z hz=>.inr (by rw[List.mem_singleton] at hz;have:=HB.out;omega)))
 refine hK.out _ _ (fun _=>⟨L.out.cell 4,X.out.cell 0⟩) (fun _=>?_)
 clear hK K hown hgrow hat hi hz0 hz1 hz2 iu OE hbar hgx HDR
 try simp only[Act.put,zA,zB,zC]
 have hS15:w9.cell? ⟨x,4,none⟩=some (.slice A 0 c)∧w9.cell? ⟨N,0,none⟩=some (.int .i64 0):=⟨L.out.cell 4,X.out.cell 0⟩
 refine frW 9 (fun _=>by assumption) ?_
 simp only[Act.put,zA,zB,zC]
 clear hS15
 have m3:w9.cell? ⟨M,3,none⟩=some (.slice none 0 0):=V.out.cell 3
 have f3:=V.out.frozen 3
 have V2:Blk (w9.setCell ⟨M,3,none⟩ (.slice D 0 cc)) M 68 #[.int .i64 k1,.int .i64 0,.slice none 0 0,.slice D 0 cc]:=by
  have:=V.out.set_ 3 (.slice D 0 cc)
  simpa using this
 have bM:Bar [M] w9 (w9.setCell ⟨M,3,none⟩ (.slice D 0 cc)):=(Bar.refl _ w9).setCell (.inl (by simp)) _
 have E:=ae.mk (And.intro (L.out.bar bM XM.out.1) (And.intro (FB.out.trans bM (fun z hz=>.inr (by rw[List.mem_singleton] at hz;have:=NR.out;have:=MN.out;omega))) (And.intro (Y.out.bar bM XM.out.2.2) V2)))
 clear V2 bM L X Y V FB
 refine ldW 10 (fun K hK=>?_)
 go_simp
 refine hK.out _ _ (IC (by kernel_rfl)) (fun _=>?_)
 clear hK K m3 f3
 try simp only[Act.put,zA,zB,zC]
 refine AU (by kernel_rfl) ?_ _
 refine NoPanic.normal ?_
 generalize (w9.setCell ⟨M,3,none⟩ (.slice D 0 cc))=w10 at *
 have V3:=ae.mk E.out.2.2.2;have Y3:=ae.mk E.out.2.2.1
 have m0:=V3.out.cell 0;have m1:=V3.out.cell 1;have m2:=V3.out.cell 2;have m3:=V3.out.cell 3
 have y0:=Y3.out.cell 0;have z0:=Y3.out.frozen 0;have y1:=Y3.out.cell 1;have z1:=Y3.out.frozen 1;have y2:=Y3.out.cell 2;have z2:=Y3.out.frozen 2;have y3:=Y3.out.cell 3;have z3:=Y3.out.frozen 3
 have PP:=ae.mk (put4 Y3.out (.int .i64 k1) (.int .i64 0) (.slice none 0 0) (.slice D 0 cc))
 go_wp2
 (try simp only[Exit.inBlock,Exit.then])
 refine bodyPost_ret (results_cell_row rfl _ _ R 68 #[.int .i64 k1,.int .i64 0,.slice none 0 0,.slice D 0 cc] (0,0) _ rfl PP.out.1 Tryz.underlying68 rfl zT) rfl ?_
 rw[HK1.out]
 have hxR:x∉[R]:=by have:=NR.out;simp only[List.mem_singleton];omega
 exact⟨D,cc,rfl,⟨st,cap,b,d1,d2,A,c,E.out.1.bar PP.out.2 hxR,HC.out⟩,E.out.2.1.trans PP.out.2 (fun z hz=>.inr (by rw[List.mem_singleton] at hz;have:=NR.out;omega))⟩
end
end Ledger
end Go.Proofs.YtlkeieoecfkkeaaGreat
