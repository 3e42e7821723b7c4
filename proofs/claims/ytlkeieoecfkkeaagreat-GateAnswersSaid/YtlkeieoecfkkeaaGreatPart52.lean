/-
  Parts laid together: SealROpen.
-/
import Derived.Test.YtlkeieoecfkkeaaGreatPart1
import Derived.Test.YtlkeieoecfkkeaaGreatPart45
import Derived.Test.YtlkeieoecfkkeaaGreatPart46
import Derived.Test.YtlkeieoecfkkeaaGreatPart44
import Derived.Test.YtlkeieoecfkkeaaGreatPart6
import Derived.Deep.OwnRows
import Derived.Deep.DeepCutAuto
set_option maxRecDepth 100000
set_option maxHeartbeats 2000000
namespace Go.Proofs.YtlkeieoecfkkeaaGreat
namespace Seal
open Go.RowKit Sha Wire Mac
def lN (r:NV × Int) (w:World) (e:Ending) (w':World):Prop :=
 ∃ A l c,e=.returned (.tuple #[.agg #[.int .i64 r.1.party,.int .i64 r.1.which,.int .i64 r.1.way,.int .i64 r.1.seq,.slice A l c],.int .i64 r.2])∧l≤c∧c≤9223372036854775807∧Rd w' A l r.1.body∧Below w.heap.size w w'
theorem zZ (Ak:Option Addr) (nk ck:Nat) (key:List Int) (A:Option Addr) (n c:Nat) (b:List Int) (w:World) (hk:Rd w Ak nk key) (hnk:nk≤1000000) (hr:Rd w A n b) (hc:n≤c) (hcm:c≤9223372036854775807) (hn:n≤1000000) :
  Calls Tryz.prog 24 #[.slice Ak nk ck,.slice A n c] w (lN (openN key b) w):=by
 obtain⟨N,hN⟩:∃ N,w.heap.size=N:=⟨_,rfl⟩
 have b0:Below N w (w.alloc (.cells #[.int .i64 0,.int .i64 0,.int .i64 0,.int .i64 0,.slice none 0 0] 54)):=(Below.refl _ _).alloc (by omega) _
 have Z0:=ae.mk (Blk.new_at w 54 #[.int .i64 0,.int .i64 0,.int .i64 0,.int .i64 0,.slice none 0 0] N hN.symm)
 have W0:=ae.mk b0
 have RDA:ae (∀ w',Below N w w'→Rd w' A n b):=⟨fun w' hb=>hr.below (hN.symm▸hb)⟩
 have RDK:ae (∀ w',Below N w w'→Rd w' Ak nk key):=⟨fun w' hb=>hk.below (hN.symm▸hb)⟩
 have CP:=Nz A n c b _ (RDA.out _ W0.out) hc hcm hn
 have HLB:=ae.mk hr.1
 have HBY:=ae.mk hr.2.1
 have HOC:=ae.mk (rD key b)
 obtain⟨G,hG,hGo⟩:=Ah hr
 have HG:=ae.mk hG;have HGo:=ae.mk hGo
 have PE0:ae (∀ (u:Int),gJ key b=u→u≠0→∀ w',Below N w w'→lN (openN key b) w (.returned (.tuple #[.agg #[.int .i64 0,.int .i64 0,.int .i64 0,.int .i64 0,.slice none 0 0],.int .i64 u])) w'):=⟨fun u hu h0 w' h1=>by
  unfold openN;rw[if_neg (by rw[hu];exact h0),hu]
  exact⟨none,0,0,rfl,Nat.le_refl _,by omega,Rd.nil_,hN.symm▸h1⟩⟩
 have PE1:ae (gJ key b=0→∀ (A':Option Addr) (l c':Nat) w',l≤c'→c'≤9223372036854775807→Rd w' A' l ((b.take (n - 32)).drop 12)→Below N w w'→lN (openN key b) w (.returned (.tuple #[.agg #[.int .i64 (at_ b 1),.int .i64 (at_ b 2),.int .i64 (at_ b 3),.int .i64 (nS b:Nat),.slice A' l c'],.int .i64 0])) w'):=⟨fun h0 A' l c' w' h1 h2 h3 h4=>by
  unfold openN;rw[if_pos h0]
  have:=HLB.out
  exact⟨A',l,c',rfl,h1,h2,by unfold MX;rw[this];exact h3,hN.symm▸h4⟩⟩
 unfold dW at CP
 obtain⟨Q,hQ⟩:∃ Q,peekN b=Q:=⟨_,rfl⟩
 rw[hQ] at CP
 obtain⟨p,h,y,qe⟩:=Q
 dsimp only at CP
 have HQ:=ae.mk hQ
 replace CP:=ae.mk CP
 clear hk hr b0 hG hGo hQ
 go_enter Tryz.func24,Tryz.ntmps24
 go_upto_region 1 with(fail)
 generalize w.alloc (.cells #[.int .i64 0,.int .i64 0,.int .i64 0,.int .i64 0,.slice none 0 0] 54)=w1 at *
 go_wp2_with fail
 refine CP.out.mono ?_
 rintro x w2 ⟨rfl,b2⟩
 replace Z0:=ae.mk (Z0.out.below b2 Z0.out.lt)
 have W2:=ae.mk (W0.out.trans (b2.mono (by have:=W0.out.size;omega)))
 clear CP W0 b2
 go_upto_region 2 with(fail)
 by_cases hpk:peekOk b
 rotate_left
 ·have hq:=HQ.out
  unfold peekN at hq
  rw[if_neg hpk] at hq
  injection hq with e1 e2;injection e2 with e2 e3;injection e3 with e3 e4
  subst e1 e2 e3 e4
  have hE:gJ key b=2:=HOC.out.elim (fun k=>absurd k.2.1 hpk) (fun k=>k.elim (fun k=>k.1) (fun k=>absurd k.2.1 hpk))
  have c0:=Z0.out.cell 0;have c1:=Z0.out.cell 1;have c2:=Z0.out.cell 2;have c3:=Z0.out.cell 3;have c4:=Z0.out.cell 4;have z0:=Z0.out.frozen 0;have z1:=Z0.out.frozen 1;have z2:=Z0.out.frozen 2;have z3:=Z0.out.frozen 3;have z4:=Z0.out.frozen 4
  have P5:=ae.mk (put5 Z0.out (.int .i64 0) (.int .i64 0) (.int .i64 0) (.int .i64 0) (.slice none 0 0))
  have PF:=ae.mk (PE0.out 2 hE (by decide) _ (W2.out.trans (P5.out.2.below (by have:=W2.out.size;omega) (fun k hk=>by rw[List.mem_singleton] at hk;omega))))
  go_wp2
  (try simp only[Exit.inBlock,Exit.then])
  refine bodyPost_ret (results_cell_tmp rfl _ _ N 54 #[.int .i64 0,.int .i64 0,.int .i64 0,.int .i64 0,.slice none 0 0] (0,0) _ rfl P5.out.1 Tryz.underlying54 rfl aG) rfl ?_
  exact PF.out
 have h44:44≤n:=by have:=hpk.1;have:=HLB.out;omega
 have hq:=HQ.out
 unfold peekN at hq
 rw[if_pos hpk] at hq
 injection hq with e1 e2;injection e2 with e2 e3;injection e3 with e3 e4
 subst e4
 rw[e1,e2,e3] at PE1
 have HPK:=ae.mk hpk
 clear hpk e1 e2 e3 HQ
 obtain⟨A2,hs2,r2,o2⟩:=piece4 (RDA.out _ W2.out) hc 4 (by omega) 4 8 rfl rfl
 obtain⟨A3,hs3,r3,-⟩:=pU (RDA.out _ (Below.refl _ _)) hc 12 (n - 32) (by omega) (by omega) 12 ((n:Int) - 32) rfl (by omega)
 have RD3:ae (∀ w',Below N w w'→Rd w' A3 (n - 32 - 12) ((b.take (n - 32)).drop 12)):=⟨fun w' hb=>r3.below (hN.symm▸hb)⟩
 have hGs:∀ k∈G,k < w2.heap.size:=fun k hk=>by have:=HG.out k hk;have:=W2.out.size;omega
 have D0:=de4 (c:=c - 4) hGs r2 (by omega) (by omega) (fun F hF=>o2 F (HGo.out F hF))
 obtain⟨d,hd⟩:∃ d,w2.heap.size=d:=⟨_,rfl⟩
 rw[hd] at D0
 have hNd:N < d:=by have:=Z0.out.lt;omega
 have HDG:ae (d∉G):=⟨fun hk=>by have:=HG.out _ hk;omega⟩
 have b3:Below w2.heap.size w2 (w2.alloc (.cells #[.slice A2 4 (c - 4),.int .i64 0] 135)):=(Below.refl _ _).alloc (Nat.le_refl _) _
 have D3:=ae.mk D0
 have HP4:ae (Bytes ((b.drop 4).take 4)∧((b.drop 4).take 4).length=4):=⟨(HBY.out.drop 4).take 4,by rw[List.length_take,List.length_drop];have:=HLB.out;omega⟩
 have CD:ae (∀ w',De 135 w' d G (0,(b.drop 4).take 4)→Calls Tryz.prog 54 #[.pointer (some ⟨d,0,none⟩),.int .i64 4] w' fun x w''=>x=.returned (.int .i64 (nS b:Nat))∧Bar [d] w' w''):=⟨fun w' D=>by
  have:=Aj w' d G 4 _ D HDG.out
  rw[dec4 HP4.out.1 HP4.out.2] at this
  exact this.mono (fun x w'' k=>⟨k.1,k.2.2⟩)⟩
 have Z3:=ae.mk (Z0.out.below b3 Z0.out.lt)
 have W3:=ae.mk (W2.out.trans (b3.mono (by omega)))
 clear D0 r2 o2 hGs r3 Z0 W2 b3
 go_upto_region 5 with(fail)
 generalize w2.alloc (.cells #[.slice A2 4 (c - 4),.int .i64 0] 135)=w3 at *
 clear hs2 hd
 obtain⟨s,hs⟩:∃ s:Int,((nS b:Nat):Int)=s:=⟨_,rfl⟩
 rw[hs] at PE1 CD
 have HS:=ae.mk hs
 clear hs
 have HLL:ae (n - 32 - 12 < 2147483648):=⟨by omega⟩
 have HL7:ae (n - 32 - 12=n - 44):=⟨by omega⟩
 have HB7:ae (Bytes ((b.take (n - 32)).drop 12)):=⟨(HBY.out.take _).drop _⟩
 go_cut [11] (fun q wx=>∃ (M:Nat) (A7:Option Addr) (l7 c7:Nat),q=.pointer (some ⟨M,0,none⟩)∧N < M∧l7≤c7∧c7≤9223372036854775807∧ae (Blk wx M 54 #[.int .i64 p,.int .i64 h,.int .i64 y,.int .i64 s,.slice A7 l7 c7])∧ae (Blk wx N 54 #[.int .i64 0,.int .i64 0,.int .i64 0,.int .i64 0,.slice none 0 0])∧ae (Below N w wx)∧ae (Rd wx A7 l7 ((b.take (n - 32)).drop 12))∧ae (Off A7 l7 [N]))
 case first =>
  refine wp_region_noPanic ?_
  refine wp_region_held_drew (S:=fun w':World=>True) (by kernel_rfl) trivial (fun _=>?_)
  have Z4:=ae.mk Z3.out.drew
  have W4:=ae.mk W3.out.drew
  have D4:=ae.mk (D3.out.below (Below.refl _ _).drew)
  clear Z3 W3 D3
  generalize w3.drew=w4 at *
  have WR:IntKind.i64.wrap ((n:Int) - 32)=(n:Int) - 32:=by simp only[IntKind.wrap_i64];omega
  refine tk 0 ?_
  simp only[Act.put,zA,zB,zC]
  refine tk 1 ?_
  simp only[Act.put,zA,zB,zC]
  refine tk 2 ?_
  simp only[Act.put,zA,zB,zC]
  refine tk 3 ?_
  simp only[Act.put,zA,zB,zC]
  refine tk 5 ?_
  simp only[Act.put,zA,zB,zC]
  refine tk 6 ?_
  simp only[Act.put,zA,zB,zC]
  refine tk 7 ?_
  simp only[Act.put,zA,zB,zC]
  refine tk 8 ?_
  simp only[Act.put,zA,zB,zC]
  refine tk 9 ?_
  simp only[Act.put,zA,zB,zC]
  clear WR
  refine ld2 4 12 (fun K hK=>?_) (fun K hK=>?_)
  ·go_simp
   go_at_call 54
   refine(CD.out w4 D4.out).mono ?_
   rintro x w5 ⟨rfl,bb⟩
   have Z5:=ae.mk (Z4.out.bar bb (by rw[List.mem_singleton];omega))
   have W5:=ae.mk (W4.out.trans (bb.below (by have:=W4.out.size;omega) (fun k hk=>by rw[List.mem_singleton] at hk;omega)))
   refine hK.out _ _ trivial (fun _=>?_)
   clear hK K bb D4 Z4 W4
   try simp only[Act.put,zA,zB,zC]
   refine ld2 10 12 (fun K hK=>?_) (fun K hK=>?_)
   ·go_simp
    go_at_call 33
    refine(pV A3 (n - 32 - 12) (c - 12) ((b.take (n - 32)).drop 12) w5 (RD3.out _ W5.out) HLL.out).mono ?_
    rintro x w6 ⟨v7,rfl,o7,bb⟩
    obtain⟨A7,c7,rfl,hc7,hm7,r7⟩:=aO o7 HB7.out
    have hZ5:=Z5.out.lt
    have OF7:ae (Off A7 (n - 32 - 12) [N]):=⟨eH o7 (fun k hk hm=>by
     have:=(o7.lt k (by simpa using hk)).1
     simp only[List.mem_cons,List.not_mem_nil,or_false] at hm
     omega)⟩
    have R6:=ae.mk r7
    have Z6:=ae.mk (Z5.out.below bb Z5.out.lt)
    have W6:=ae.mk (W5.out.trans (bb.mono (by have:=W5.out.size;omega)))
    refine hK.out _ _ trivial (fun _=>?_)
    clear hK K bb o7 r7 Z5 W5 hZ5
    try simp only[Act.put,zA,zB,zC]
    refine tk 11 ?_
    simp only[Act.put,zA,zB,zC]
    refine ld 12 (fun K hK=>?_)
    go_simp
    obtain⟨M,hM⟩:∃ M,w6.heap.size=M:=⟨_,rfl⟩
    have ba:Below w6.heap.size w6 (w6.alloc (.cells #[.int .i64 0,.int .i64 0,.int .i64 0,.int .i64 0,.slice none 0 0] 54)):=(Below.refl _ _).alloc (Nat.le_refl _) _
    have X7:=ae.mk (Blk.new_at w6 54 #[.int .i64 0,.int .i64 0,.int .i64 0,.int .i64 0,.slice none 0 0] M hM.symm)
    have hNM:N < M:=by have:=Z6.out.lt;omega
    have Z7:=ae.mk (Z6.out.below ba Z6.out.lt)
    have W7:=ae.mk (W6.out.trans (ba.mono (by omega)))
    have OFM:ae (Off A7 (n - 32 - 12) [M]):=⟨R6.out.off (by intro k hk;rw[List.mem_singleton] at hk;omega)⟩
    have R7:=ae.mk (R6.out.below ba)
    rw[hM]
    refine hK.out _ _ trivial (fun _=>?_)
    clear hK K ba hM Z6 W6 R6
    try simp only[Act.put,zA,zB,zC]
    generalize (w6.alloc (.cells #[.int .i64 0,.int .i64 0,.int .i64 0,.int .i64 0,.slice none 0 0] 54))=w7 at *
    have c0:=X7.out.cell 0;have c1:=X7.out.cell 1;have c2:=X7.out.cell 2;have c3:=X7.out.cell 3;have c4:=X7.out.cell 4;have z0:=X7.out.frozen 0;have z1:=X7.out.frozen 1;have z2:=X7.out.frozen 2;have z3:=X7.out.frozen 3;have z4:=X7.out.frozen 4
    refine ld 13 (fun K hK=>?_)
    go_simp
    have P5:=ae.mk (put5 X7.out (.int .i64 p) (.int .i64 h) (.int .i64 y) (.int .i64 s) (.slice A7 (n - 32 - 12) c7))
    have RF:=ae.mk (R7.out.far P5.out.2 OFM.out)
    have ZF:=ae.mk (Z7.out.bar P5.out.2 (by rw[List.mem_singleton];omega))
    have WF:=ae.mk (W7.out.trans (P5.out.2.below (by have:=W7.out.size;omega) (fun k hk=>by rw[List.mem_singleton] at hk;omega)))
    have XF:=ae.mk P5.out.1
    have OFN:ae (Off A7 (n - 32 - 12) [N]):=⟨OF7.out⟩
    clear c0 c1 c2 c3 c4 z0 z1 z2 z3 z4 P5
    generalize (((((w7.setCell ⟨M,0,none⟩ (.int .i64 p)).setCell ⟨M,1,none⟩ (.int .i64 h)).setCell ⟨M,2,none⟩ (.int .i64 y)).setCell ⟨M,3,none⟩ (.int .i64 s)).setCell ⟨M,4,none⟩ (.slice A7 (n - 32 - 12) c7))=wz at *
    refine hK.out _ _ trivial (fun _=>?_)
    clear hK K
    try simp only[Act.put,zA,zB,zC]
    refine wpAnyH_done (by kernel_rfl) ?_ _
    refine NoPanic.normal ?_
    go_wp2
    go_meet
    case rel=>exact⟨M,A7,n - 32 - 12,c7,rfl,hNM,hc7,hm7,XF,ZF,WF,RF,OFN⟩
   ·go_simp
    obtain⟨M,hM⟩:∃ M,w5.heap.size=M:=⟨_,rfl⟩
    have ba:Below w5.heap.size w5 (w5.alloc (.cells #[.int .i64 0,.int .i64 0,.int .i64 0,.int .i64 0,.slice none 0 0] 54)):=(Below.refl _ _).alloc (Nat.le_refl _) _
    have X6:=ae.mk (Blk.new_at w5 54 #[.int .i64 0,.int .i64 0,.int .i64 0,.int .i64 0,.slice none 0 0] M hM.symm)
    have hNM:N < M:=by have:=Z5.out.lt;omega
    have Z6:=ae.mk (Z5.out.below ba Z5.out.lt)
    have W6:=ae.mk (W5.out.trans (ba.mono (by omega)))
    rw[hM]
    refine hK.out _ _ trivial (fun _=>?_)
    clear hK K ba hM Z5 W5
    try simp only[Act.put,zA,zB,zC]
    generalize (w5.alloc (.cells #[.int .i64 0,.int .i64 0,.int .i64 0,.int .i64 0,.slice none 0 0] 54))=w6 at *
    refine ld 10 (fun K hK=>?_)
    go_simp
    go_at_call 33
    refine(pV A3 (n - 32 - 12) (c - 12) ((b.take (n - 32)).drop 12) w6 (RD3.out _ W6.out) HLL.out).mono ?_
    rintro x w7 ⟨v7,rfl,o7,bb⟩
    obtain⟨A7,c7,rfl,hc7,hm7,r7⟩:=aO o7 HB7.out
    have hZ6:=Z6.out.lt
    have hX6:=X6.out.lt
    have OF7:ae (Off A7 (n - 32 - 12) [M,N]):=⟨eH o7 (fun k hk hm=>by
     have:=(o7.lt k (by simpa using hk)).1
     simp only[List.mem_cons,List.not_mem_nil,or_false] at hm
     omega)⟩
    have R7:=ae.mk r7
    have Z7:=ae.mk (Z6.out.below bb Z6.out.lt)
    have W7:=ae.mk (W6.out.trans (bb.mono (by have:=W6.out.size;omega)))
    have X7:=ae.mk (X6.out.below bb X6.out.lt)
    refine hK.out _ _ trivial (fun _=>?_)
    clear hK K bb o7 r7 Z6 W6 hZ6 X6 hX6
    try simp only[Act.put,zA,zB,zC]
    refine tk 11 ?_
    simp only[Act.put,zA,zB,zC]
    have c0:=X7.out.cell 0;have c1:=X7.out.cell 1;have c2:=X7.out.cell 2;have c3:=X7.out.cell 3;have c4:=X7.out.cell 4;have z0:=X7.out.frozen 0;have z1:=X7.out.frozen 1;have z2:=X7.out.frozen 2;have z3:=X7.out.frozen 3;have z4:=X7.out.frozen 4
    refine ld 13 (fun K hK=>?_)
    go_simp
    have P5:=ae.mk (put5 X7.out (.int .i64 p) (.int .i64 h) (.int .i64 y) (.int .i64 s) (.slice A7 (n - 32 - 12) c7))
    have RF:=ae.mk (R7.out.far P5.out.2 (nJ OF7.out (by simp)))
    have ZF:=ae.mk (Z7.out.bar P5.out.2 (by rw[List.mem_singleton];omega))
    have WF:=ae.mk (W7.out.trans (P5.out.2.below (by have:=W7.out.size;omega) (fun k hk=>by rw[List.mem_singleton] at hk;omega)))
    have XF:=ae.mk P5.out.1
    have OFN:ae (Off A7 (n - 32 - 12) [N]):=⟨nJ OF7.out (by simp)⟩
    clear c0 c1 c2 c3 c4 z0 z1 z2 z3 z4 P5
    generalize (((((w7.setCell ⟨M,0,none⟩ (.int .i64 p)).setCell ⟨M,1,none⟩ (.int .i64 h)).setCell ⟨M,2,none⟩ (.int .i64 y)).setCell ⟨M,3,none⟩ (.int .i64 s)).setCell ⟨M,4,none⟩ (.slice A7 (n - 32 - 12) c7))=wz at *
    refine hK.out _ _ trivial (fun _=>?_)
    clear hK K
    try simp only[Act.put,zA,zB,zC]
    refine wpAnyH_done (by kernel_rfl) ?_ _
    refine NoPanic.normal ?_
    go_wp2
    go_meet
    case rel=>exact⟨M,A7,n - 32 - 12,c7,rfl,hNM,hc7,hm7,XF,ZF,WF,RF,OFN⟩
  ·go_simp
   obtain⟨M,hM⟩:∃ M,w4.heap.size=M:=⟨_,rfl⟩
   have ba:Below w4.heap.size w4 (w4.alloc (.cells #[.int .i64 0,.int .i64 0,.int .i64 0,.int .i64 0,.slice none 0 0] 54)):=(Below.refl _ _).alloc (Nat.le_refl _) _
   have X5:=ae.mk (Blk.new_at w4 54 #[.int .i64 0,.int .i64 0,.int .i64 0,.int .i64 0,.slice none 0 0] M hM.symm)
   have hNM:N < M:=by have:=Z4.out.lt;omega
   have Z5:=ae.mk (Z4.out.below ba Z4.out.lt)
   have W5:=ae.mk (W4.out.trans (ba.mono (by omega)))
   have D5:=ae.mk (D4.out.below ba)
   have hdM:d < M:=by have:=D4.out.lt;omega
   rw[hM]
   refine hK.out _ _ trivial (fun _=>?_)
   clear hK K ba hM Z4 W4 D4
   try simp only[Act.put,zA,zB,zC]
   generalize (w4.alloc (.cells #[.int .i64 0,.int .i64 0,.int .i64 0,.int .i64 0,.slice none 0 0] 54))=w5 at *
   refine ld 4 (fun K hK=>?_)
   go_simp
   go_at_call 54
   refine(CD.out w5 D5.out).mono ?_
   rintro x w6 ⟨rfl,bb⟩
   have Z6:=ae.mk (Z5.out.bar bb (by rw[List.mem_singleton];omega))
   have W6:=ae.mk (W5.out.trans (bb.below (by have:=W5.out.size;omega) (fun k hk=>by rw[List.mem_singleton] at hk;omega)))
   have X6:=ae.mk (X5.out.bar bb (by rw[List.mem_singleton];omega))
   refine hK.out _ _ trivial (fun _=>?_)
   clear hK K bb D5 Z5 W5 X5
   try simp only[Act.put,zA,zB,zC]
   refine ld 10 (fun K hK=>?_)
   go_simp
   go_at_call 33
   refine(pV A3 (n - 32 - 12) (c - 12) ((b.take (n - 32)).drop 12) w6 (RD3.out _ W6.out) HLL.out).mono ?_
   rintro x w7 ⟨v7,rfl,o7,bb⟩
   obtain⟨A7,c7,rfl,hc7,hm7,r7⟩:=aO o7 HB7.out
   have hZ6:=Z6.out.lt
   have hX6:=X6.out.lt
   have OF7:ae (Off A7 (n - 32 - 12) [M,N]):=⟨eH o7 (fun k hk hm=>by
    have:=(o7.lt k (by simpa using hk)).1
    simp only[List.mem_cons,List.not_mem_nil,or_false] at hm
    omega)⟩
   have R7:=ae.mk r7
   have Z7:=ae.mk (Z6.out.below bb Z6.out.lt)
   have W7:=ae.mk (W6.out.trans (bb.mono (by have:=W6.out.size;omega)))
   have X7:=ae.mk (X6.out.below bb X6.out.lt)
   refine hK.out _ _ trivial (fun _=>?_)
   clear hK K bb o7 r7 Z6 W6 hZ6 X6 hX6
   try simp only[Act.put,zA,zB,zC]
   refine tk 11 ?_
   simp only[Act.put,zA,zB,zC]
   have c0:=X7.out.cell 0;have c1:=X7.out.cell 1;have c2:=X7.out.cell 2;have c3:=X7.out.cell 3;have c4:=X7.out.cell 4;have z0:=X7.out.frozen 0;have z1:=X7.out.frozen 1;have z2:=X7.out.frozen 2;have z3:=X7.out.frozen 3;have z4:=X7.out.frozen 4
   refine ld 13 (fun K hK=>?_)
   go_simp
   have P5:=ae.mk (put5 X7.out (.int .i64 p) (.int .i64 h) (.int .i64 y) (.int .i64 s) (.slice A7 (n - 32 - 12) c7))
   have RF:=ae.mk (R7.out.far P5.out.2 (nJ OF7.out (by simp)))
   have ZF:=ae.mk (Z7.out.bar P5.out.2 (by rw[List.mem_singleton];omega))
   have WF:=ae.mk (W7.out.trans (P5.out.2.below (by have:=W7.out.size;omega) (fun k hk=>by rw[List.mem_singleton] at hk;omega)))
   have XF:=ae.mk P5.out.1
   have OFN:ae (Off A7 (n - 32 - 12) [N]):=⟨nJ OF7.out (by simp)⟩
   clear c0 c1 c2 c3 c4 z0 z1 z2 z3 z4 P5
   generalize (((((w7.setCell ⟨M,0,none⟩ (.int .i64 p)).setCell ⟨M,1,none⟩ (.int .i64 h)).setCell ⟨M,2,none⟩ (.int .i64 y)).setCell ⟨M,3,none⟩ (.int .i64 s)).setCell ⟨M,4,none⟩ (.slice A7 (n - 32 - 12) c7))=wz at *
   refine hK.out _ _ trivial (fun _=>?_)
   clear hK K
   try simp only[Act.put,zA,zB,zC]
   refine wpAnyH_done (by kernel_rfl) ?_ _
   refine NoPanic.normal ?_
   go_wp2
   go_meet
   case rel=>exact⟨M,A7,n - 32 - 12,c7,rfl,hNM,hc7,hm7,XF,ZF,WF,RF,OFN⟩
 case rest =>
  obtain⟨M,A7,l7,c7,rfl,hNM,hc7,hm7,X,Z0,W,R7,OF7⟩:=hcut
  clear Z3 W3 D3 CD RD3 HLL HB7
  generalize wc=w3 at *
  have f3:=X.out.cell 3
  by_cases hs0:s=0
  ·subst hs0
   have hE:gJ key b=2:=HOC.out.elim (fun k=>absurd (by have:=HS.out;omega) k.2.2.1) (fun k=>k.elim (fun k=>k.1) (fun k=>absurd (by have:=HS.out;omega) k.2.2.1))
   have c0:=Z0.out.cell 0;have c1:=Z0.out.cell 1;have c2:=Z0.out.cell 2;have c3:=Z0.out.cell 3;have c4:=Z0.out.cell 4;have z0:=Z0.out.frozen 0;have z1:=Z0.out.frozen 1;have z2:=Z0.out.frozen 2;have z3:=Z0.out.frozen 3;have z4:=Z0.out.frozen 4
   have P5:=ae.mk (put5 Z0.out (.int .i64 0) (.int .i64 0) (.int .i64 0) (.int .i64 0) (.slice none 0 0))
   have PF:=ae.mk (PE0.out 2 hE (by decide) _ (W.out.trans (P5.out.2.below (by have:=W.out.size;omega) (fun k hk=>by rw[List.mem_singleton] at hk;omega))))
   go_wp2
   (try simp only[Exit.inBlock,Exit.then])
   refine bodyPost_ret (results_cell_tmp rfl _ _ N 54 #[.int .i64 0,.int .i64 0,.int .i64 0,.int .i64 0,.slice none 0 0] (0,0) _ rfl P5.out.1 Tryz.underlying54 rfl aG) rfl ?_
   exact PF.out
  have hsn:(s == 0)=false:=by simpa using hs0
  have HE:ae (gJ key b=if hmac key (b.take (n - 32))=b.drop (n - 32) then 0 else 4):=⟨by
   have hl:=HLB.out
   rcases HOC.out with k|k|k
   ·rw[k.1,if_pos (by rw[← hl];exact k.2.2.2)]
   ·exact absurd ⟨HPK.out,by have:=HS.out;omega⟩ k.2
   ·rw[k.1,if_neg (by rw[← hl];exact k.2.2.2)]⟩
  clear hs0
  obtain⟨A1,hs1,r1,-⟩:=rQ (RDA.out _ (Below.refl _ _)) hc (n - 32) (by omega) ((n:Int) - 32) (by omega)
  obtain⟨A4,hs4,r4,-⟩:=jh (RDA.out _ (Below.refl _ _)) hc (n - 32) (by omega) ((n:Int) - 32) (by omega)
  have RD1:ae (∀ w',Below N w w'→Rd w' A1 (n - 32) (b.take (n - 32))):=⟨fun w' hb=>r1.below (hN.symm▸hb)⟩
  have RD4:ae (∀ w',Below N w w'→Rd w' A4 (n - (n - 32)) (b.drop (n - 32))):=⟨fun w' hb=>r4.below (hN.symm▸hb)⟩
  clear r1 r4
  go_upto_region 8 with(fail)
  clear f3
  refine wp_region_noPanic ?_
  refine wp_region_held_drew (S:=fun w':World=>True) (by kernel_rfl) trivial (fun _=>?_)
  replace X:=ae.mk X.out.drew;replace Z0:=ae.mk Z0.out.drew;replace W:=ae.mk W.out.drew;replace R7:=ae.mk R7.out.drew
  generalize w3.drew=w4 at *
  have WR:IntKind.i64.wrap ((n:Int) - 32)=(n:Int) - 32:=by simp only[IntKind.wrap_i64];omega
  refine tk 0 ?_
  simp only[Act.put,zA,zB,zC]
  refine tk 1 ?_
  simp only[Act.put,zA,zB,zC]
  refine tk 2 ?_
  simp only[Act.put,zA,zB,zC]
  refine tk 3 ?_
  simp only[Act.put,zA,zB,zC]
  refine tk 4 ?_
  simp only[Act.put,zA,zB,zC]
  refine tk 5 ?_
  simp only[Act.put,zA,zB,zC]
  refine tk 7 ?_
  simp only[Act.put,zA,zB,zC]
  refine tk 8 ?_
  simp only[Act.put,zA,zB,zC]
  refine tk 9 ?_
  simp only[Act.put,zA,zB,zC]
  refine tk 10 ?_
  simp only[Act.put,zA,zB,zC]
  refine tk 11 ?_
  simp only[Act.put,zA,zB,zC]
  clear WR
  refine ld 6 (fun K hK=>?_)
  go_simp
  go_at_call 40
  refine(wU Ak A1 nk ck (n - 32) c key (b.take (n - 32)) w4 (RDK.out _ W.out) (RD1.out _ W.out) (by omega) (by omega)).mono ?_
  rintro x w5 ⟨M1,c5,rfl,-,hc5,hm5,r5,b5⟩
  replace X:=ae.mk (X.out.below b5 X.out.lt);replace Z0:=ae.mk (Z0.out.below b5 Z0.out.lt);replace R7:=ae.mk (R7.out.below b5)
  replace W:=ae.mk (W.out.trans (b5.mono (by have:=W.out.size;omega)))
  have R5:=ae.mk r5
  refine hK.out _ _ trivial (fun _=>?_)
  clear hK K b5 r5 hs1 hs4
  try simp only[Act.put,zA,zB,zC]
  have CB:=Oi (some ⟨M1,0,none⟩) A4 32 (n - (n - 32)) c5 (c - (n - 32)) (hmac key (b.take (n - 32))) (b.drop (n - 32)) w5 R5.out (RD4.out _ W.out)
  obtain⟨e,he⟩:∃ e,sameB (hmac key (b.take (n - 32))) (b.drop (n - 32))=e:=⟨_,rfl⟩
  rw[he] at CB
  have HSE:=ae.mk he
  replace CB:=ae.mk CB
  clear he R5
  refine ld 12 (fun K hK=>?_)
  go_simp
  go_at_call 10
  refine CB.out.mono ?_
  rintro x w6 ⟨rfl,rfl⟩
  refine hK.out _ _ trivial (fun _=>?_)
  clear hK K CB
  try simp only[Act.put,zA,zB,zC]
  refine tk 13 ?_
  simp only[Act.put,zA,zB,zC]
  refine wpAnyH_done (by kernel_rfl) ?_ _
  refine NoPanic.normal ?_
  cases e with
  | false =>
   have hE:gJ key b=4:=by rw[HE.out,if_neg (fun k=>by have:=HSE.out;rw[k] at this;rw[mF] at this;exact Bool.noConfusion this)]
   have c0:=Z0.out.cell 0;have c1:=Z0.out.cell 1;have c2:=Z0.out.cell 2;have c3:=Z0.out.cell 3;have c4:=Z0.out.cell 4;have z0:=Z0.out.frozen 0;have z1:=Z0.out.frozen 1;have z2:=Z0.out.frozen 2;have z3:=Z0.out.frozen 3;have z4:=Z0.out.frozen 4
   have P5:=ae.mk (put5 Z0.out (.int .i64 0) (.int .i64 0) (.int .i64 0) (.int .i64 0) (.slice none 0 0))
   have PF:=ae.mk (PE0.out 4 hE (by decide) _ (W.out.trans (P5.out.2.below (by have:=W.out.size;omega) (fun k hk=>by rw[List.mem_singleton] at hk;omega))))
   go_wp2
   (try simp only[Exit.inBlock,Exit.then])
   refine bodyPost_ret (results_cell_tmp rfl _ _ N 54 #[.int .i64 0,.int .i64 0,.int .i64 0,.int .i64 0,.slice none 0 0] (0,0) _ rfl P5.out.1 Tryz.underlying54 rfl aG) rfl ?_
   exact PF.out
  | true =>
   have hE:gJ key b=0:=by rw[HE.out,if_pos (of_decide_eq_true HSE.out)]
   replace PE1:=PE1.out hE
   have c0:=Z0.out.cell 0;have c1:=Z0.out.cell 1;have c2:=Z0.out.cell 2;have c3:=Z0.out.cell 3;have c4:=Z0.out.cell 4;have z0:=Z0.out.frozen 0;have z1:=Z0.out.frozen 1;have z2:=Z0.out.frozen 2;have z3:=Z0.out.frozen 3;have z4:=Z0.out.frozen 4
   have f0:=X.out.cell 0;have f1:=X.out.cell 1;have f2:=X.out.cell 2;have f3:=X.out.cell 3;have f4:=X.out.cell 4
   have P5:=ae.mk (put5 Z0.out (.int .i64 p) (.int .i64 h) (.int .i64 y) (.int .i64 s) (.slice A7 l7 c7))
   have PF:=ae.mk (PE1 A7 l7 c7 _ hc7 hm7 (R7.out.far P5.out.2 OF7.out) (W.out.trans (P5.out.2.below (by have:=W.out.size;omega) (fun k hk=>by rw[List.mem_singleton] at hk;omega))))
   clear PE1 hE
   go_wp2
   (try simp only[Exit.inBlock,Exit.then])
   refine bodyPost_ret (results_cell_tmp rfl _ _ N 54 #[.int .i64 p,.int .i64 h,.int .i64 y,.int .i64 s,.slice A7 l7 c7] (0,0) _ rfl P5.out.1 Tryz.underlying54 rfl aG) rfl ?_
   exact PF.out
end Seal
end Go.Proofs.YtlkeieoecfkkeaaGreat
