/-
  Parts laid together: JAppend.
-/
import Derived.Test.YtlkeieoecfkkeaaGreatPart10
import Derived.Test.YtlkeieoecfkkeaaGreatPart1
import Derived.Test.YtlkeieoecfkkeaaGreatPart27
import Derived.Test.YtlkeieoecfkkeaaGreatPart26
import Derived.Test.YtlkeieoecfkkeaaGreatPart9
import Derived.Deep.AppendLies
set_option maxRecDepth 100000
set_option maxHeartbeats 4000000
namespace Go.Proofs.YtlkeieoecfkkeaaGreat
namespace Journal
open Go.RowKit Sha Disk Go.Proofs.YtlkeieoecfkkeaaGreat.Frame
theorem Eh {w:World}{H:List Nat}{t d j n:Nat}{s:DS}{v:JV}(h:Sy Cj w H t d j n s v):∃ Ar cr rm,w.cell? ⟨j,2,none⟩=some (.int .i64 ((v.half * (n / 2):Nat):Int))∧w.cell? ⟨j,3,none⟩=some (.int .i64 v.gen)∧w.cell? ⟨j,6,none⟩=some (.slice Ar v.recs.length cr)∧w.cell? ⟨j,7,none⟩=some (.int .i64 ((rm:Nat):Int)) ∧
  COk n v∧rm≤n / 2∧(v.dead=false→rm+v.pos=n / 2)∧j∈H∧WF n s∧w.cell? ⟨j,1,none⟩=some (.pointer (some ⟨d,0,none⟩)):=by
 obtain⟨F,G,h1,h2,⟨A0,m,c0,vr,rm,K,k1,-,-,-,-,k6,-,-,rfl,k9,k10,k11⟩,-,-,-,rfl⟩:=h
 obtain⟨Ar,cr,rfl⟩:=k6.shape
 exact⟨Ar,cr,rm,k1.cell 2,k1.cell 3,k1.cell 6,k1.cell 7,k9,k10,k11,by simp,h2.1,k1.cell 1⟩
theorem BJ {w:World}{H:List Nat}{t d j n:Nat}{s:DS}{v:JV}(h:Sy Cj w H t d j n s v):Calls Tryz.prog 80 #[.pointer (some ⟨j,0,none⟩)] w fun e w'=>e=.returned (.int .i64 ((n / 2:Nat):Int))∧w=w':=by
 obtain⟨F,G,h1,h2,⟨A0,m,c0,vr,rm,K,k1,-⟩,-⟩:=h
 exact tZ h2 (k1.cell 1)
theorem Qh {w:World}{H:List Nat}{t d j n:Nat}{s:DS}{v:JV}(h:Sy Cj w H t d j n s v):∃ F K A m c vr rm,Tab w t∧Dk w F d n s∧Blk w j 187 (jc t d ((v.half * (n / 2):Nat):Int) v.gen v.has A m c vr ((rm:Nat):Int) v.dead)∧m≤c∧c≤9223372036854775807∧Rd w A m v.pict∧In A m K∧Off A m vr.ownBlock.toList∧Og w 22 vr v.recs K ∧
  (∀ k∈K,k < w.heap.size)∧j∉K∧t∉F∧t∉j :: K∧Disj F (j :: K)∧H=t :: (F++j :: K)∧COk n v∧rm≤n / 2∧(v.dead=false→rm+v.pos=n / 2):=by
 obtain⟨F,G,h1,h2,⟨A,m,c,vr,rm,K,k1,k2,k3,k4,k5,k6,k7,k8,rfl,k9,k10,k11⟩,h4,h5,h6,rfl⟩:=h
 exact⟨F,K,A,m,c,vr,rm,h1,h2,k1,k2,k3,k4,k5.1,k5.2,k6,k7,k8,h4,h5,h6,rfl,k9,k10,k11⟩
theorem XL {w0 w:World}{H F K:List Nat}{t d j n rm:Nat}{s:DS}{v:JV}{A:Option Addr}{m c:Nat}{vr:Value}(h1:Tab w t) (h2:Dk w F d n s) (k1:Blk w j 187 (jc t d ((v.half * (n / 2):Nat):Int) v.gen v.has A m c vr ((rm:Nat):Int) v.dead)) (k2:m≤c) (k3:c≤9223372036854775807) (k4:Rd w A m v.pict) (k5:In A m K) (k5':Off A m vr.ownBlock.toList) (k6:Og w 22 vr v.recs K)
  (k7:∀ k∈K,k < w.heap.size) (k8:j∉K) (h4:t∉F) (h5:t∉j :: K) (h6:Disj F (j :: K)) (k9:COk n v) (k10:rm≤n / 2) (k11:v.dead=false→rm+v.pos=n / 2) (fp:Fp H (t :: (F++j :: K)) w0 w) {e:Int}:qm Cj w0 H t d j n (e,s,v) (.returned (.int .i64 e)) w :=
 ⟨rfl,t :: (F++j :: K),⟨F,j :: K,h1,h2,⟨A,m,c,vr,rm,K,k1,k2,k3,k4,⟨k5,k5'⟩,k6,k7,k8,rfl,k9,k10,k11⟩,h4,h5,h6,rfl⟩,fp⟩
theorem set1_far {F:List Nat}{x:Nat}(h:x∉F):Disj F [x]:=fun k hk hm=>by rw[List.mem_singleton] at hm;subst hm;exact h hk
theorem vU {k j:Nat}{K:List Nat}(h:k∈K):k∈j :: K:=List.mem_cons_of_mem _ h
theorem UG {w0 w:World}{H F K:List Nat}{t d j n:Nat}{s:DS}{v:JV}{A:Option Addr}{m c:Nat}{vr:Value}{L:List (List Int)}{rm0:Int}(h1:Tab w t) (h2:Dk w F d n s) (k1:Blk w j 187 (jc t d ((v.half * (n / 2):Nat):Int) v.gen v.has A m c vr rm0 v.dead)) (k2:m≤c) (k3:c≤9223372036854775807) (k4:Rd w A m v.pict) (k5:In A m K) (k5':Off A m vr.ownBlock.toList) (k6:Og w 22 vr L K)
  (k7:∀ k∈K,k < w.heap.size) (k8:j∉K) (h4:t∉F) (h5:t∉j :: K) (h6:Disj F (j :: K)) (fp:Fp H (t :: (F++j :: K)) w0 w) (hjH:j∈H) (pos' rm':Nat) (seq':Int) (k9:COk n { v with recs:=L,pos:=pos',seq:=seq' }) (k10:rm'≤n / 2) (k11:v.dead=false→rm'+pos'=n / 2) :
  qm Cj w0 H t d j n (0,s,{ v with recs:=L,pos:=pos',seq:=seq' }) (.returned (.int .i64 0)) (w.setCell ⟨j,7,none⟩ (.int .i64 (rm':Nat))):=by
 have hb:Bar [j] w (w.setCell ⟨j,7,none⟩ (.int .i64 (rm':Nat))):=(Bar.refl [j] w).setCell (by simp) _
 have htj:t≠j:=fun e=>h5 (by simp[e])
 exact XL (v:={ v with recs:=L,pos:=pos',seq:=seq' }) (ftab_bar h1 hb (by simpa using htj)) (h2.keep hb (set1_far (fun hm=>h6 j hm (by simp)))) (k1.set_ 7 _) k2 k3 (k4.far hb (k5.off (set1_far k8))) k5 k5' (k6.keep hb (set1_far k8)) (fun k hk=>Nat.lt_of_lt_of_le (k7 k hk) hb.size) k8 h4 h5 h6 k9 k10 k11
  ⟨fp.1.trans hb (fun k hk=>by rw[List.mem_singleton] at hk;subst hk;exact .inl hjH),fp.2⟩
theorem J4 (api:dS) {w:World}{H:List Nat}{t d j n:Nat}{s:DS}{v:JV}{A:Option Addr}{l c:Nat}{b:List Int}(sy:Sy Cj w H t d j n s v) (hr:Rd w A l b) (hO:Off A l H) (hc:l≤c) (hcm:c≤maxLen) (hl9:l≤100000) :
  Calls Tryz.prog 178 #[.pointer (some ⟨j,0,none⟩),.slice A l c] w (qm Cj w H t d j n (appendJ s v b)):=by
 obtain⟨N,hN⟩:∃ N,w.heap.size=N:=⟨_,rfl⟩
 obtain⟨Ar,cr,rm,x2,x3,x6,x7,ok,hrm,hrp,hjH,hwf,-⟩:=Eh sy
 have hjN:j < N:=by rw[← hN];exact sy.lts mM j hjH
 have HLT:ae (∀ k∈H,k < N):=⟨fun k hk=>by rw[← hN];exact sy.lts mM k hk⟩
 have hn8:=hwf.n2
 obtain⟨M,hM⟩:∃ M,n / 2=M:=⟨_,rfl⟩
 have hM9:M≤4096:=by omega
 have hrl:v.recs.length≤4096:=by have:=ok.recs;have:=ok.pos;omega
 have hseq:=ok.seq
 have hW1:IntKind.i64.wrap ((v.recs.length:Int)+1)=v.seq:=by simp only[IntKind.wrap_i64];omega
 have AC:=ae.mk (Bh (b:=b) hwf ok hrp)
 have OK:=ae.mk ok
 have HRP:=ae.mk hrp
 have hhb:v.half * M≤4096:=by rcases ok.half with e|e<;>rw[e]<;>omega
 rw[hM] at x2 AC HRP hrm
 obtain⟨hb,hhbe⟩:∃ hb,v.half * M=hb:=⟨_,rfl⟩
 rw[hhbe] at x2 AC hhb
 have SY:=ae.mk sy
 have HR:=ae.mk hr
 have HO:=ae.mk hO
 have HBE:ae (v.half * M=hb∧n / 2=M):=⟨hhbe,hM⟩
 clear sy hr hO hwf ok hseq hrp hhbe hM
 go_enter Tryz.func178,Tryz.ntmps178
 go_upto_region 1 with(fail)
 have SY1:=ae.mk (SY.out.keep mM (barOf (Below.refl w.heap.size w).drew []) (fun _ _=>by simp))
 have HR1:=ae.mk HR.out.drew
 have hN1:w.drew.heap.size=N:=hN
 have B1:ae (Below w.heap.size w w.drew):=⟨(Below.refl _ _).drew⟩
 have y3:w.drew.cell? ⟨j,3,none⟩=some (.int .i64 v.gen):=x3
 have y6:w.drew.cell? ⟨j,6,none⟩=some (.slice Ar v.recs.length cr):=x6
 have X27:=ae.mk (And.intro x2 x7)
 clear x2 x3 x6 x7
 refine wp_region_noPanic ?_
 refine wp_region_held_drew (S:=fun w':World=>w'.cell? ⟨j,3,none⟩=some (.int .i64 v.gen)∧w'.cell? ⟨j,6,none⟩=some (.slice Ar v.recs.length cr)) (by kernel_rfl) ⟨y3,y6⟩ (fun hHeld=>?_)
 generalize w.drew=w1 at *
 refine tk 0 ?_
 simp only[Act.put,zA,zB,zC]
 refine tk 1 ?_
 simp only[Act.put,zA,zB,zC]
 refine tk 2 ?_
 simp only[Act.put,zA,zB,zC]
 refine tk 3 ?_
 simp only[Act.put,zA,zB,zC]
 refine tk 4 ?_
 simp only[Act.put,zA,zB,zC]
 refine tk 5 ?_
 simp only[Act.put,zA,zB,zC]
 refine tk 6 ?_
 simp only[Act.put,zA,zB,zC]
 refine tk 7 ?_
 simp only[Act.put,zA,zB,zC]
 refine tk 8 ?_
 simp only[Act.put,zA,zB,zC]
 refine tk 9 ?_
 simp only[Act.put,zA,zB,zC]
 refine tk 10 ?_
 simp only[Act.put,zA,zB,zC]
 refine tk 11 ?_
 simp only[Act.put,zA,zB,zC]
 refine tk 12 ?_
 simp only[Act.put,zA,zB,zC]
 refine tk 13 ?_
 simp only[Act.put,zA,zB,zC]
 refine ld 14 (fun K hK=>?_)
 go_simp
 have ba:Below w1.heap.size w1 (w1.alloc (.cells #[.int .i64 0,.int .i64 0,.int .i64 0,.slice none 0 0] 231)):=(Below.refl _ _).alloc (Nat.le_refl _) _
 have FB:=Blk.new_at w1 231 #[.int .i64 0,.int .i64 0,.int .i64 0,.slice none 0 0] N hN1.symm
 have SY2:=ae.mk (SY1.out.keep mM (barOf ba []) (fun _ _=>by simp))
 have HR2:=ae.mk (HR1.out.below ba)
 have B2:=ae.mk (B1.out.trans (ba.mono (by rw[hN1,← hN];exact Nat.le_refl _)))
 have z3:(w1.alloc (.cells #[.int .i64 0,.int .i64 0,.int .i64 0,.slice none 0 0] 231)).cell? ⟨j,3,none⟩=some (.int .i64 v.gen):=(ba.cell (p:=⟨j,3,none⟩) (by rw[hN1];exact hjN)).trans y3
 have z6:(w1.alloc (.cells #[.int .i64 0,.int .i64 0,.int .i64 0,.slice none 0 0] 231)).cell? ⟨j,6,none⟩=some (.slice Ar v.recs.length cr):=(ba.cell (p:=⟨j,6,none⟩) (by rw[hN1];exact hjN)).trans y6
 refine hK.out _ _ ⟨z3,z6⟩ (fun _=>?_)
 clear hK K SY1 HR1 B1 ba hHeld y3 y6
 try simp only[Act.put,zA,zB,zC]
 generalize (w1.alloc (.cells #[.int .i64 0,.int .i64 0,.int .i64 0,.slice none 0 0] 231))=w2 at *
 have P4:=sG FB (.int .i64 2) (.int .i64 v.gen) (.int .i64 v.seq) (.slice A l c)
 have f0:=FB.cell 0;have f1:=FB.cell 1;have f2:=FB.cell 2;have f3:=FB.cell 3
 have g0:=FB.frozen 0;have g1:=FB.frozen 1;have g2:=FB.frozen 2;have g3:=FB.frozen 3
 refine ld 15 (fun K hK=>?_)
 go_simp
 have dN:Disj H [N]:=fun k hk hm=>by rw[List.mem_singleton] at hm;have:=HLT.out k hk;omega
 have SY3:=ae.mk (SY2.out.keep mM P4.2 dN)
 have oN:Off A l [N]:=HR.out.off (fun k hk=>by rw[List.mem_singleton] at hk;omega)
 have HR3:=ae.mk (HR2.out.far P4.2 oN)
 have B3:=ae.mk (B2.out.trans (P4.2.below (by have:=B2.out.size;omega) (fun k hk=>by rw[List.mem_singleton] at hk;omega)))
 have FB3:=ae.mk P4.1
 have z3':=(World.cell?_of_block (a:=⟨j,3,none⟩) (P4.2.block j (by have:=B2.out.size;omega) (by simp;omega))).trans z3
 have z6':=(World.cell?_of_block (a:=⟨j,6,none⟩) (P4.2.block j (by have:=B2.out.size;omega) (by simp;omega))).trans z6
 refine hK.out _ _ ⟨z3',z6'⟩ (fun _=>?_)
 clear hK K SY2 HR2 B2 FB P4 dN oN z3 z6 z3' z6' f0 f1 f2 f3 g0 g1 g2 g3
 try simp only[Act.put]
 refine wpAnyH_done (by kernel_rfl) ?_ _
 refine NoPanic.normal ?_
 generalize ((((w2.setCell ⟨N,0,none⟩ (.int .i64 2)).setCell ⟨N,1,none⟩ (.int .i64 v.gen)).setCell ⟨N,2,none⟩ (.int .i64 v.seq)).setCell ⟨N,3,none⟩ (.slice A l c))=w3 at *
 have x7:w3.cell? ⟨j,7,none⟩=some (.int .i64 (rm:Nat)):=(B3.out.cell (p:=⟨j,7,none⟩) (by rw[hN];exact hjN)).trans X27.out.2
 go_upto_region 3 with(fail)
 clear x7
 have SY4:=ae.mk (SY3.out.keep mM (barOf (Below.refl w3.heap.size w3).drew []) (fun _ _=>by simp))
 have HR4:=ae.mk HR3.out.drew
 have B4:=ae.mk B3.out.drew
 have FB4:=ae.mk FB3.out.drew
 have x2:w3.drew.cell? ⟨j,2,none⟩=some (.int .i64 (hb:Nat)):=(B4.out.cell (p:=⟨j,2,none⟩) (by rw[hN];exact hjN)).trans X27.out.1
 have W1:IntKind.i64.wrap ((hb:Int)+(M:Int))=((hb+M:Nat):Int):=by simp only[IntKind.wrap_i64];omega
 have W2:IntKind.i64.wrap ((hb:Int)+(M:Int) - (rm:Int))=((hb+M - rm:Nat):Int):=by simp only[IntKind.wrap_i64];omega
 clear SY3 HR3 B3 FB3 X27
 refine wp_region_noPanic ?_
 refine wp_region_held_drew (S:=fun w':World=>w'.cell? ⟨N,0,none⟩=some (.int .i64 2)∧w'.cell? ⟨N,1,none⟩=some (.int .i64 v.gen)∧w'.cell? ⟨N,2,none⟩=some (.int .i64 v.seq)∧w'.cell? ⟨N,3,none⟩=some (.slice A l c)∧w'.cell? ⟨j,2,none⟩=some (.int .i64 (hb:Nat))) (by kernel_rfl) ⟨FB4.out.cell 0,FB4.out.cell 1,FB4.out.cell 2,FB4.out.cell 3,x2⟩ (fun hHeld=>?_)
 generalize w3.drew=w4 at *
 have CS:=ae.mk (BJ SY4.out)
 rw[HBE.out.2] at CS
 refine tk 0 ?_
 simp only[Act.put,zA,zB,zC]
 refine tk 1 ?_
 simp only[Act.put,zA,zB,zC]
 refine tk 2 ?_
 simp only[Act.put,zA,zB,zC]
 refine tk 3 ?_
 simp only[Act.put,zA,zB,zC]
 refine tk 4 ?_
 simp only[Act.put,zA,zB,zC]
 refine tk 5 ?_
 simp only[Act.put,zA,zB,zC]
 refine tk 6 ?_
 simp only[Act.put,zA,zB,zC]
 refine tk 7 ?_
 simp only[Act.put,zA,zB,zC]
 refine tk 10 ?_
 simp only[Act.put,zA,zB,zC]
 refine tk 12 ?_
 simp only[Act.put,zA,zB,zC]
 refine ld 8 (fun K hK=>?_)
 go_simp
 go_at_call 80
 refine CS.out.mono ?_
 rintro e w' ⟨rfl,rfl⟩
 refine hK.out _ _ hHeld (fun _=>?_)
 clear hK K CS
 try simp only[Act.put,zA,zB,zC]
 refine tk 9 ?_
 simp only[Act.put,zA,zB,zC]
 refine tk 11 ?_
 simp only[Act.put,zA,zB,zC]
 refine ld 13 (fun K hK=>?_)
 go_simp
 go_at_call 211
 refine(Wu api (f:=recF v b) (hb+M - rm) rm SY4.out HR4.out HO.out hc hcm hl9 (by omega) (by omega)).mono ?_
 rintro e w5 ⟨rfl,H',sy5,fp5⟩
 have hN5:N∉H:=fun hm=>by have:=HLT.out N hm;omega
 have FB5:=FB4.out.bar fp5.1 hN5
 have y2:w5.cell? ⟨j,2,none⟩=some (.int .i64 ((v.half * (n / 2):Nat):Int)):=(Eh sy5).choose_spec.choose_spec.choose_spec.1
 rw[HBE.out.2,HBE.out.1] at y2
 refine hK.out _ _ ⟨FB5.cell 0,FB5.cell 1,FB5.cell 2,FB5.cell 3,y2⟩ (fun _=>?_)
 have FP5:ae (Fp H H' w w5):=⟨Fp.trans (⟨barOf B4.out _,fun _ h=>.inl h⟩:Fp H H w w4) fp5⟩
 have SY5:=ae.mk sy5
 clear hK K hHeld SY4 HR4 B4 FB4 FB5 y2 sy5 fp5 x2 W1 W2
 try simp only[Act.put,zA,zB,zC]
 refine tk 14 ?_
 simp only[Act.put,zA,zB,zC]
 refine tk 15 ?_
 simp only[Act.put,zA,zB,zC]
 refine tk 16 ?_
 simp only[Act.put,zA,zB,zC]
 refine tk 17 ?_
 simp only[Act.put,zA,zB,zC]
 refine tk 18 ?_
 simp only[Act.put,zA,zB,zC]
 refine wpAnyH_done (by kernel_rfl) ?_ _
 refine NoPanic.normal ?_
 generalize layC s v.dead (recF v b) (hb+M - rm) rm=R at *
 obtain⟨⟨lf,er⟩,s5,df⟩:=R
 simp only at AC SY5 ⊢
 by_cases h0:er=0
 ·subst h0
  obtain⟨hdv,hdf,hb6,hkr,hlf⟩:=AC.out.2 rfl
  subst hdf hlf
  have AC1:ae (appendJ s v b=(0,s5,{ v with recs:=v.recs++[b],pos:=v.pos+kF b,seq:=v.seq+1 })):=⟨by rw[AC.out.1];unfold actA;rw[if_pos rfl]⟩
  have hv:{ v with dead:=false }=v:=by rw[← hdv]
  rw[hv] at SY5
  have hpos:=HRP.out hdv
  clear AC hv SY
  obtain⟨F,KJ,A0,m0,c0,vr,rm0,t5,d5,j5,k2,k3,p5,k5,k5',o5,kl5,k8,ntF,ntK,dFK,rfl,k9,-,-⟩:=Qh SY5.out
  go_upto_region 6 with(fail)
  have fd:Below w5.heap.size w5 w5.drew:=(Below.refl _ _).drew
  have T6:=ftab_bar t5 (barOf fd []) (by simp)
  have D6:=d5.keep (barOf fd []) (fun _ _=>by simp)
  have J6:=j5.below fd j5.lt
  have P6:=p5.below fd
  have O6:=o5.keep (barOf fd []) (fun _ _=>by simp)
  have KL6:∀ k∈KJ,k < w5.drew.heap.size:=kl5
  have FP6:Fp H (t :: (F++j :: KJ)) w w5.drew:=⟨FP5.out.1.trans (barOf fd []) (by simp),FP5.out.2⟩
  have RB6:Rd w5.drew A l b:=HR.out.far FP6.1 HO.out
  obtain⟨Av,cv,hvr⟩:=O6.shape
  subst hvr
  have hvo:∀ g∈(Value.slice Av v.recs.length cv).ownBlock.toList,g∈KJ:=O6.choose_spec.2.1
  have FL6:∀ k∈t :: F,k < w5.drew.heap.size:=fun k hk=>by
   rcases List.mem_cons.1 hk with rfl|hk
   ·exact dQ T6
   ·exact D6.lts k hk
  have szw6:w.heap.size≤w5.drew.heap.size:=FP6.1.size
  have hjl6:j < w5.drew.heap.size:=J6.lt
  clear t5 d5 j5 p5 o5 kl5 FP5 SY5 fd
  refine wp_region_noPanic ?_
  refine jO 13 (S:=fun w':World=>w'.cell? ⟨j,6,none⟩=some (.slice Av v.recs.length cv)) (by kernel_rfl) (J6.cell 6) (fun hS0=>?_)
  generalize w5.drew=w6 at *
  refine tkU 0 (by assumption) ?_
  simp only[Act.put,zA,zB,zC]
  refine tkU 1 (by assumption) ?_
  simp only[Act.put,zA,zB,zC]
  refine tkU 2 (by assumption) ?_
  simp only[Act.put,zA,zB,zC]
  refine tkU 3 (by assumption) ?_
  simp only[Act.put,zA,zB,zC]
  refine tkU 4 (by assumption) ?_
  simp only[Act.put,zA,zB,zC]
  refine tkU 5 (by assumption) ?_
  simp only[Act.put,zA,zB,zC]
  refine tkU 6 (by assumption) ?_
  simp only[Act.put,zA,zB,zC]
  refine ldU 7 (fun K hK=>?_)
  go_simp
  go_at_call 32
  refine(clone_any A l c b w6 RB6 (by omega)).mono ?_
  rintro e w7 ⟨v2,rfl,own,bel⟩
  obtain⟨A2,c2,rfl,q1,q2,q3⟩:=aO own RB6.2.1
  have K3L:∀ k∈(Value.slice A2 l c2).ownBlock.toList,w6.heap.size≤k∧k < w7.heap.size:=fun k hk=>own.lt k (by simpa using hk)
  have IN3:In A2 l (Value.slice A2 l c2).ownBlock.toList:=VR own
  generalize (Value.slice A2 l c2).ownBlock.toList=K3 at *
  have T7:=ftab_bar T6 (barOf bel []) (by simp)
  have D7:=D6.keep (barOf bel []) (fun _ _=>by simp);have J7:=J6.below bel J6.lt;have P7:=P6.below bel;have O7:=O6.keep (barOf bel []) (fun _ _=>by simp)
  have sz7:=bel.size
  have FP7:Fp H (t :: (F++j :: KJ)) w w7:=⟨FP6.1.trans (barOf bel []) (by simp),FP6.2⟩
  refine hK.out _ _ (fun _=>J7.cell 6) (fun _=>?_)
  clear hK K T6 D6 J6 P6 O6 FP6 RB6 own bel hS0
  try simp only[Act.put,zA,zB,zC]
  refine ldU 8 (fun K hK=>?_)
  go_simp
  have ba:Below w7.heap.size w7 (w7.alloc (.cells #[.slice A2 l c2] 22)):=(Below.refl _ _).alloc (Nat.le_refl _) _
  have cB:(w7.alloc (.cells #[.slice A2 l c2] 22)).cell? ⟨w7.heap.size,0,none⟩=some (.slice A2 l c2):=(Blk.new w7 22 #[.slice A2 l c2]).cell 0
  have T8:=ftab_bar T7 (barOf ba []) (by simp)
  have D8:=D7.keep (barOf ba []) (fun _ _=>by simp);have J8:=J7.below ba J7.lt;have P8:=P7.below ba;have O8:=O7.keep (barOf ba []) (fun _ _=>by simp);have R8:=q3.below ba
  have sz8:=ba.size
  have FP8:Fp H (t :: (F++j :: KJ)) w (w7.alloc (.cells #[.slice A2 l c2] 22)):=⟨FP7.1.trans (barOf ba []) (by simp),FP7.2⟩
  refine hK.out _ _ (fun _=>J8.cell 6) (fun _=>?_)
  clear hK K T7 D7 J7 P7 O7 FP7 q3 ba
  try simp only[Act.put,zA,zB,zC]
  generalize w7.alloc (.cells #[.slice A2 l c2] 22)=w8 at *
  generalize w7.heap.size=gB at *
  refine ldU 9 (fun K hK=>?_)
  have hog:=O8.mono (G':=KJ++K3) (fun k hk=>by simp[hk])
  have hvF:∀ k∈F,k∉(Value.slice Av v.recs.length cv).ownBlock.toList:=fun k hk hk2=>dFK k hk (vU (hvo k hk2))
  have hvT:t∉(Value.slice Av v.recs.length cv).ownBlock.toList:=fun hk=>ntK (vU (hvo t hk))
  have hvN:j∉(Value.slice Av v.recs.length cv).ownBlock.toList:=fun hk=>k8 (hvo j hk)
  have hin3:Off A2 l (Value.slice Av v.recs.length cv).ownBlock.toList:=IN3.off (fun k hk hk2=>by have:=KL6 k (hvo k hk2);have:=K3L k hk;omega)
  obtain⟨v8,w9,hrun,og9,fp9⟩:=kQ (P:=Tryz.prog) 124 124 22 Tryz.underlying124 kY hog gB 1 A2 l c2 b cB R8 q1 (by omega) (IN3.mono (fun k hk=>by simp[hk])) hin3 (by omega)
  refine iR rfl (.tmp 53) (.tmp 56) 124 124 (by rfl) _ _ (by rfl) (by rfl) v8 w9 hrun ?_
  have T9:=ftab_bar T8 fp9.1 hvT
  have J9:=J8.bar fp9.1 hvN
  have D9:=D8.keep fp9.1 (fun k hk hk2=>hvF k hk hk2)
  have P9:=P8.far fp9.1 k5'
  have OF9:=k5'.step P8 fp9
  have V9:∀ k∈v8.ownBlock.toList,k∈(Value.slice Av v.recs.length cv).ownBlock.toList∨w8.heap.size≤k:=fp9.2
  have V9L:∀ k∈v8.ownBlock.toList,k < w9.heap.size:=fun k hk=>(og9.choose_spec.1.lt k (by simpa using hk)).2
  have sz9:=fp9.1.size
  have B89:=fp9.1
  obtain⟨Av8,cv8,hv8⟩:=og9.shape
  rw[List.length_append,List.length_singleton] at hv8
  subst hv8
  refine hK.out _ _ (fun _=>J9.cell 6) (fun _=>?_)
  clear hK K
  try simp only[Act.put,zA,zB,zC]
  refine ldU 10 (fun K hK=>?_)
  go_simp
  refine hK.out _ _ (fun _=>J9.cell 6) (fun _=>?_)
  clear hK K
  try simp only[Act.put,zA,zB,zC]
  refine ldU 11 (fun K hK=>?_)
  go_simp
  refine hK.out _ _ (fun _=>J9.cell 6) (fun _=>?_)
  clear hK K
  try simp only[Act.put,zA,zB,zC]
  refine ldU 12 (fun K hK=>?_)
  go_simp
  refine hK.out _ _ (fun _=>J9.cell 6) (fun _=>?_)
  clear hK K
  try simp only[Act.put,zA,zB,zC]
  have y6:=J9.frozen 6
  have x6:=J9.cell 6
  refine ldU 13 (fun K hK=>?_)
  go_simp
  refine hK.out _ _ (fun h=>absurd rfl h) (fun _=>?_)
  clear hK K
  try simp only[Act.put]
  refine jM (by kernel_rfl) ?_ _
  refine NoPanic.normal ?_
  obtain⟨K',hK'⟩:∃ K',(Value.slice Av8 (v.recs.length+1) cv8).ownBlock.toList++(KJ++K3)=K':=⟨_,rfl⟩
  have hKm:∀ k∈K',k∈KJ∨(w6.heap.size≤k∧k < w9.heap.size∧∀ q∈t :: F,q≠k):=fun k hk=>by
   rw[← hK'] at hk
   rcases List.mem_append.1 hk with hk|hk
   ·rcases V9 k hk with e|e
    ·exact .inl (hvo k e)
    ·exact .inr ⟨by omega,V9L k hk,fun q hq e2=>by have:=FL6 q hq;omega⟩
   ·rcases List.mem_append.1 hk with hk|hk
    ·exact .inl hk
    ·have:=K3L k hk
     exact .inr ⟨this.1,by omega,fun q hq e2=>by have:=FL6 q hq;omega⟩
  have nxK:j∉K':=fun hk=>by
   rcases hKm j hk with e|e
   ·exact k8 e
   ·omega
  have dF2:Disj F (j :: K'):=fun k hk hk2=>by
   rcases List.mem_cons.1 hk2 with rfl|hk2
   ·exact dFK k hk (by simp)
   ·rcases hKm k hk2 with e|e
    ·exact dFK k hk (vU e)
    ·exact e.2.2 k (by simp[hk]) rfl
  have ntK2:t∉j :: K':=fun hk2=>by
   rcases List.mem_cons.1 hk2 with e|hk2
   ·exact ntK (by simp[e])
   ·rcases hKm t hk2 with e|e
    ·exact ntK (vU e)
    ·exact e.2.2 t (by simp) rfl
  have KL9:∀ k∈K',k < w9.heap.size:=fun k hk=>by
   rcases hKm k hk with e|e
   ·have:=KL6 k e;omega
   ·exact e.2.1
  have FP9:Fp H (t :: (F++j :: K')) w w9:=⟨FP8.1.trans B89 (fun k hk=>by
    have h1:=FP8.2 k (by simp[hvo k hk])
    rcases h1 with h1|h1
    ·exact .inl h1
    ·exact .inr h1),fun k hk=>by
   simp only[List.mem_append,List.mem_cons] at hk
   rcases hk with hk|hk|hk|hk
   ·exact FP8.2 k (by simp[hk])
   ·exact FP8.2 k (by simp[hk])
   ·exact FP8.2 k (by simp[hk])
   ·rcases hKm k hk with e|e
    ·exact FP8.2 k (by simp[e])
    ·exact .inr (by omega)⟩
  have IN9:In A0 m0 K':=k5.mono (fun k hk=>by rw[← hK'];simp[hk])
  rw[hK'] at og9
  have hbr:Bar [j] w9 (w9.setCell ⟨j,6,none⟩ (Value.slice Av8 (v.recs.length+1) cv8)):=(Bar.refl _ _).setCell (by simp) _
  have T10:=ftab_bar T9 hbr (by intro hm;rw[List.mem_singleton] at hm;exact ntK (by simp[hm]))
  have D10:=D9.keep hbr (set1_far (fun hm=>dFK j hm (by simp)))
  have J10:Blk (w9.setCell ⟨j,6,none⟩ (Value.slice Av8 (v.recs.length+1) cv8)) j 187 (jc t d ((v.half * (n / 2):Nat):Int) v.gen v.has A0 m0 c0 (Value.slice Av8 (v.recs.length+1) cv8) ((rm0:Nat):Int) v.dead):=J9.set_ 6 _
  have P10:=P9.far hbr (k5.off (set1_far k8))
  have O10:=og9.keep hbr (set1_far nxK)
  have KL10:∀ k∈K',k < (w9.setCell ⟨j,6,none⟩ (Value.slice Av8 (v.recs.length+1) cv8)).heap.size:=fun k hk=>Nat.lt_of_lt_of_le (KL9 k hk) hbr.size
  have FP10:Fp H (t :: (F++j :: K')) w (w9.setCell ⟨j,6,none⟩ (Value.slice Av8 (v.recs.length+1) cv8)):=⟨FP9.1.trans hbr (fun k hk=>by rw[List.mem_singleton] at hk;subst hk;exact .inl hjH),FP9.2⟩
  have hv9:COk n { v with recs:=v.recs++[b],pos:=v.pos+kF b,seq:=v.seq+1 }:=by
   have h1:=OK.out
   have h2:=HBE.out.2
   have h3:=qL b
   refine⟨h1.half,h1.gen,?_,?_,?_,h1.pict,?_⟩
   ·show v.seq+1=((v.recs++[b]).length:Int)+1
    rw[List.length_append,List.length_singleton,h1.seq];omega
   ·show v.pos+kF b≤n / 2;omega
   ·show (v.recs++[b]).length≤v.pos+kF b
    rw[List.length_append,List.length_singleton];have:=h1.recs;omega
   ·intro q hq
    rcases List.mem_append.1 hq with hq|hq
    ·exact h1.bods q hq
    ·rw[List.mem_singleton] at hq;subst hq;exact hb6
  obtain⟨kb,hkb⟩:∃ q,kF b=q:=⟨_,rfl⟩
  rw[hkb] at AC1 hv9 hkr ⊢
  have he7:(rm:Int) - (kb:Int)=((rm - kb:Nat):Int):=by omega
  have PG:=ae.mk (show qm Cj w H t d j n (appendJ s v b) (.returned (.int .i64 0)) ((w9.setCell ⟨j,6,none⟩ (Value.slice Av8 (v.recs.length+1) cv8)).setCell ⟨j,7,none⟩ (.int .i64 ((rm:Int) - (kb:Int)))) from by
   rw[AC1.out,he7]
   exact UG (v:=v) T10 D10 J10 k2 k3 P10 IN9 OF9 O10 KL10 nxK ntF ntK2 dF2 FP10 hjH _ (rm - kb) _ hv9 (by have:=HBE.out.2;omega) (fun _=>by have:=HBE.out.2;omega))
  have x7:=J10.cell 7
  have y7:=J10.frozen 7
  clear hKm hK' T8 D8 J8 P8 O8 R8 FP8 B89 hrun og9 V9 V9L J9 D9 P9 T9 FP9 KL9 hbr y6 x6 hog hin3 hvF hvN hvT hvo k5 k5' cB IN3 K3L KL6 FL6 T10 D10 J10 P10 O10 KL10 FP10 hv9 nxK ntK2 dF2 IN9 OF9 dFK ntK AC1 OK HRP HBE HR HO he7
  generalize w9.setCell ⟨j,6,none⟩ (Value.slice Av8 (v.recs.length+1) cv8)=w10 at *
  go_wp2
  go_ret
  exact PG.out
 ·have PG:=ae.mk (show qm Cj w H t d j n (appendJ s v b) (.returned (.int .i64 er)) w5 from by
   rw[AC.out.1];unfold actA;rw[if_neg h0];exact⟨rfl,H',SY5.out,FP5.out⟩)
  clear AC SY5 FP5 SY OK HRP HO HR HLT HBE
  go_wp2
  go_ret
  exact PG.out
end Journal
end Go.Proofs.YtlkeieoecfkkeaaGreat
