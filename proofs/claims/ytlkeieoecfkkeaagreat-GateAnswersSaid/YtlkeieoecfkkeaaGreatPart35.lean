/-
  Parts laid together: FrameCPut FrameCode.
-/
import Derived.Test.YtlkeieoecfkkeaaGreatPart1
import Derived.Test.YtlkeieoecfkkeaaGreatPart14
import Derived.Test.YtlkeieoecfkkeaaGreatPart33
import Derived.Test.YtlkeieoecfkkeaaGreatPart34
import Derived.Test.YtlkeieoecfkkeaaGreatPart31
import Derived.Test.YtlkeieoecfkkeaaGreatPart18
set_option maxRecDepth 100000
set_option maxHeartbeats 1000000
namespace Go.Proofs.YtlkeieoecfkkeaaGreat
namespace Frame
open Go.RowKit Sha Wire
def QE (f:FV) (i:Nat):List Int:=if i=0 then dR f else if i=1 then (sha (dR f++f.body)).take 8 else f.body
theorem EK (f:FV):cat (QE f) 3=textF f:=by unfold textF;simp[cat,QE]
theorem rws3 {w:World}{g:Nat}{T:TypeId}{f:FV}{A0 A1 A2:Option Addr}{n0 n1 n2 c0 c1 c2:Nat}(h:Blk w g T #[.slice A0 n0 c0,.slice A1 n1 c1,.slice A2 n2 c2])
  (h0:n0≤c0) (h1:n1≤c1) (h2:n2≤c2) (k0:c0≤9223372036854775807) (k1:c1≤9223372036854775807) (k2:c2≤9223372036854775807)
  (r0:Rd w A0 n0 (dR f)) (r1:Rd w A1 n1 ((sha (dR f++f.body)).take 8)) (r2:Rd w A2 n2 f.body):Rws w (some ⟨g,0,none⟩) 3 (QE f):=by
 refine .inr ⟨g,0,rfl,fun r hr=>?_⟩
 rw[Nat.zero_add,h.cell]
 match r,hr with
 | 0,_=>exact⟨A0,n0,c0,rfl,h0,k0,r0⟩
 | 1,_=>exact⟨A1,n1,c1,rfl,h1,k1,r1⟩
 | 2,_=>exact⟨A2,n2,c2,rfl,h2,k2,r2⟩
theorem QF (w:World) (t:Nat) (f:FV) (A:Option Addr) (n c:Nat) (ht:Tab w t) (hr:Rd w A n f.body) (hc:n≤c) (hcm:c≤maxLen) :
  Calls Tryz.prog 235 #[.pointer (some ⟨t,0,none⟩),frv f A n c] w (jP t f w):=by
 obtain⟨N,hN⟩:∃ N,w.heap.size=N:=⟨_,rfl⟩
 have htN:t < N:=by rw[← hN];exact ht.lt
 have hlen:=hr.1
 have HBY:=ae.mk hr.2.1
 have hc63:c≤9223372036854775807:=by unfold maxLen at hcm;omega
 have F1:=Blk.new_at w 231 #[.int .i64 f.kind,.int .i64 f.gen,.int .i64 f.seq,.slice A n c] N hN.symm
 have b1:Below N w (w.alloc (.cells #[.int .i64 f.kind,.int .i64 f.gen,.int .i64 f.seq,.slice A n c] 231)):=(Below.refl _ _).alloc (by omega) _
 have hs1:(w.alloc (.cells #[.int .i64 f.kind,.int .i64 f.gen,.int .i64 f.seq,.slice A n c] 231)).heap.size=N+1:=by simp[hN]
 have HR1:ae (Rd (w.alloc (.cells #[.int .i64 f.kind,.int .i64 f.gen,.int .i64 f.seq,.slice A n c] 231)) A n f.body):=⟨hr.below (by rw[hN];exact b1)⟩
 have HT1:ae (Tab (w.alloc (.cells #[.int .i64 f.kind,.int .i64 f.gen,.int .i64 f.seq,.slice A n c] 231)) t):=⟨ht.below b1 (by omega)⟩
 have HF1:=ae.mk F1;have B1:=ae.mk b1
 have f13:=F1.cell 3
 have f10:=F1.cell 0;have f11:=F1.cell 1;have f12:=F1.cell 2
 unfold frv
 by_cases hbig:60000 < n
 ·have he:errF f=3:=by unfold errF;rw[if_pos (by omega)]
  have hbig':60000 < (n:Int):=by omega
  have PF:ae (∀ w',Tab w' t→Below N w w'→jP t f w (.returned (.tuple #[.slice none 0 0,.int .i64 3])) w'):=⟨fun w' h1 h2=>⟨none,0,0,by simp only[putF,he],Nat.le_refl _,by unfold maxLen;omega,by simp only[putF,he];exact Rd.nil_,fun F _=>.inl rfl,h1,barOf (hN.symm▸h2) _⟩⟩
  have PG:=ae.mk (PF.out _ HT1.out B1.out)
  clear F1 b1 hs1 ht hr hcm PF
  go_enter Tryz.func235,Tryz.ntmps235
  go_wp2
  go_ret2
  exact PG.out
 ·have hbig':¬ 60000 < (n:Int):=by omega
  have he2:=QB f (by omega)
  have c1:=ae.mk (qV f A n c (w.alloc (.cells #[.int .i64 f.kind,.int .i64 f.gen,.int .i64 f.seq,.slice A n c] 231)) hlen (by omega))
  rw[SK f (by omega)] at c1
  clear F1 b1 ht hr hcm
  go_enter Tryz.func235,Tryz.ntmps235
  go_wp2_with fail
  refine c1.out.mono ?_
  clear c1
  generalize w.alloc (.cells #[.int .i64 f.kind,.int .i64 f.gen,.int .i64 f.seq,.slice A n c] 231)=w1 at *
  rintro x w2 ⟨v,rfl,o2,b2⟩
  rw[hs1] at o2 b2
  have F2:=HF1.out.below b2 (by omega)
  have HT2:=ae.mk (HT1.out.below b2 (by omega))
  have HR2:=ae.mk (HR1.out.below (by rw[hs1];exact b2))
  have B2:=ae.mk (B1.out.trans (b2.mono (by omega)))
  clear f10 f11 f12 f13 HF1 HR1 HT1 B1
  have f23:w2.cell? ⟨N,3,none⟩=some (.slice A n c):=F2.cell 3
  rcases he2 with he|he
  ·rw[if_pos he] at o2 ⊢
   obtain⟨Av,cv,rfl,k1,k2,k3⟩:=aO o2 (jW f)
   have HH2:=ae.mk k3
   rw[aV] at k1 HH2 ⊢
   have hN2:N+1≤w2.heap.size:=by rw[← hs1];exact b2.size
   have HF2:=ae.mk F2
   clear o2 b2 F2 k3
   go_upto_region 6 with(fail)
   refine wp_region_noPanic ?_
   refine wp_region_held_drew (S:=fun w':World=>w'.cell? ⟨N,3,none⟩=some (.slice A n c)) (by kernel_rfl) f23 (fun _=>?_)
   have F3:ae (Blk w2.drew N 231 #[.int .i64 f.kind,.int .i64 f.gen,.int .i64 f.seq,.slice A n c]):=⟨HF2.out.drew⟩
   have HT3:ae (Tab w2.drew t):=⟨HT2.out.below (Below.refl _ _).drew (by have:=HT2.out.lt;omega)⟩
   have HR3:ae (Rd w2.drew A n f.body):=⟨HR2.out.drew⟩
   have HH3:ae (Rd w2.drew Av 16 (dR f)):=⟨HH2.out.drew⟩
   have B3:ae (Below N w w2.drew):=⟨B2.out.drew⟩
   have hN3:N+1≤w2.drew.heap.size:=hN2
   clear HF2 HT2 HR2 HH2 B2 f23 hN2
   generalize w2.drew=w3 at *
   refine tk 0 ?_
   simp only[Act.put,zA,zB,zC]
   refine tk 1 ?_
   simp only[Act.put,zA,zB,zC]
   refine tk 2 ?_
   simp only[Act.put,zA,zB,zC]
   refine tk 3 ?_
   simp only[Act.put,zA,zB,zC]
   refine tk 4 ?_
   simp only[Act.put,zA,zB,zC]
   refine tk 6 ?_
   simp only[Act.put,zA,zB,zC]
   refine tk 7 ?_
   simp only[Act.put,zA,zB,zC]
   refine ld 5 (fun K hK=>?_)
   go_simp
   go_at_call 157
   refine(EI t Av A 16 cv n c (dR f) f.body w3 HT3.out HH3.out HR3.out k1 k2 hc hc63 (by omega) (by omega)).mono ?_
   rintro x w4 ⟨M,rfl,hM,r4,t4,b4⟩
   have HR4:=ae.mk (HR3.out.tab HT3.out b4)
   have HH4:=ae.mk (HH3.out.tab HT3.out b4)
   have F4:=ae.mk (F3.out.bar b4 (by rw[List.mem_singleton];omega))
   have B4:ae (Bar [t] w w4):=⟨(barOf (hN.symm▸B3.out) [t]).trans b4 (by simp)⟩
   have hN4:N+1≤w4.heap.size:=by have:=b4.size;omega
   have R4:=ae.mk r4;have T4:=ae.mk t4
   refine hK.out _ _ (F4.out.cell 3) (fun _=>?_)
   clear hK K HR3 HH3 F3 B3 HT3 r4 t4 b4
   try simp only[Act.put,zA,zB,zC]
   refine ld 8 (fun K hK=>?_)
   go_simp
   have q5:Bar [] w4 (w4.alloc (.cells #[.slice Av 16 cv,.slice (some ⟨M,0,none⟩) 8 32,.slice A n c] 22)):=(Bar.refl _ _).alloc _
   have W5:=ae.mk (rws3 (f:=f) (Blk.new w4 22 #[.slice Av 16 cv,.slice (some ⟨M,0,none⟩) 8 32,.slice A n c]) k1 (by omega) hc k2 (by omega) hc63 (HH4.out.keep q5 (by simp)) (R4.out.keep q5 (by simp)) (HR4.out.keep q5 (by simp)))
   have F5:=ae.mk (F4.out.bar q5 (by simp))
   have T5:=ae.mk (T4.out.bar q5 (by simp))
   have B5:=ae.mk (B4.out.trans q5 (by simp))
   have hN5:N+1≤(w4.alloc (.cells #[.slice Av 16 cv,.slice (some ⟨M,0,none⟩) 8 32,.slice A n c] 22)).heap.size:=by have:=q5.size;omega
   refine hK.out _ _ (F5.out.cell 3) (fun _=>?_)
   clear hK K HH4 HR4 R4 F4 T4 B4 q5
   try simp only[Act.put,zA,zB,zC]
   generalize w4.alloc (.cells #[.slice Av 16 cv,.slice (some ⟨M,0,none⟩) 8 32,.slice A n c] 22)=w5 at *
   generalize w4.heap.size=gB at *
   refine ld 9 (fun K hK=>?_)
   go_simp
   go_at_call 139
   have hL:(textF f).length=24+n:=by rw[iZ,hlen]
   refine(mD (some ⟨gB,0,none⟩) 3 3 (QE f) w5 W5.out (by omega) (by rw[EK,hL];omega)).mono ?_
   rw[EK]
   rintro x w6 ⟨v6,rfl,o6,b6⟩
   obtain⟨A6,c6,rfl,h61,h62,r6⟩:=aO o6 (qH f HBY.out)
   rw[hL] at r6 h61 ⊢
   have R6:=ae.mk r6
   have F6:=ae.mk (F5.out.below b6 (by omega))
   have T6:=ae.mk (T5.out.below b6 (by omega))
   have B6:=ae.mk (B5.out.trans (barOf b6 []) (by simp))
   have hN6:N+1≤w6.heap.size:=by have:=b6.size;omega
   refine hK.out _ _ (F6.out.cell 3) (fun _=>?_)
   clear hK K W5 F5 T5 B5 o6 b6 r6
   try simp only[Act.put,zA,zB,zC]
   refine tk 10 ?_
   simp only[Act.put,zA,zB,zC]
   refine wpAnyH_done (by kernel_rfl) ?_ _
   refine NoPanic.normal ?_
   have f63:w6.cell? ⟨N,3,none⟩=some (.slice A n c):=F6.out.cell 3
   have hsec:sectorsF (n:Int)=((secs (textF f).length:Nat):Int):=by
    unfold sectorsF secs
    rw[if_neg (by omega),hL]
    omega
   have cs:=ae.mk (dP n w6)
   rw[hsec] at cs
   have cl:=ae.mk (U3 A6 (24+n) c6 _ (textF f) w6 R6.out h61 (by omega) rfl)
   have HSZ:=ae.mk (lu (textF f))
   have hS9:secs (textF f).length≤2000:=by unfold secs;omega
   generalize secs (textF f).length=S at *
   clear F6 R6 hsec
   go_wp2_with fail
   refine cs.out.mono ?_
   rintro x w7 ⟨rfl,rfl⟩
   clear cs
   go_wp2_with fail
   refine cl.out.mono ?_
   clear cl
   rintro x w7 ⟨M7,n7,rfl,hn7,hM7,r7,b7⟩
   have T7:=ae.mk (T6.out.below b7 (by omega))
   have B7:=ae.mk (B6.out.trans (barOf b7 []) (by simp))
   have PG:ae (jP t f w (.returned (.tuple #[.slice (some ⟨M7,0,none⟩) n7 n7,.int .i64 0])) w7):=⟨by
    refine⟨some ⟨M7,0,none⟩,n7,n7,by simp only[putF,he],Nat.le_refl _,?_,by simp only[putF];rw[if_pos he];exact r7,fun F hF=>.inr ⟨M7,0,rfl,fun hk=>by have:=hF _ hk;omega⟩,T7.out,B7.out⟩
    have:=r7.1
    rw[HSZ.out] at this
    unfold maxLen;omega⟩
   clear r7 b7 T6 B6 T7 B7 hn7 HSZ
   go_wp2
   go_ret2
   exact PG.out
  ·have he0:errF f≠0:=by omega
   rw[if_neg he0] at o2 ⊢
   obtain⟨Av,cv,rfl⟩:=aY o2
   have PG:ae (jP t f w (.returned (.tuple #[.slice none 0 0,.int .i64 1])) w2):=⟨none,0,0,by simp only[putF,he],Nat.le_refl _,by unfold maxLen;omega,by simp only[putF];rw[if_neg he0];exact Rd.nil_,fun F _=>.inl rfl,HT2.out,barOf (hN.symm▸B2.out) _⟩
   clear o2 b2 F2 HT2 HR2 B2 f23
   go_wp2
   go_ret2
   exact PG.out
theorem api:dS where
 sectors:=dP
 put:=fun ht hr hc hcm _ _=>QF _ _ _ _ _ _ ht hr hc hcm
 get:=fun ht hr hc _ hn _=>uM _ _ _ _ _ _ ht hr hc hn
end Frame
end Go.Proofs.YtlkeieoecfkkeaaGreat
