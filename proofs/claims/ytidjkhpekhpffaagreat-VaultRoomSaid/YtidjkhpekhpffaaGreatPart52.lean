/-
  Parts laid together: VaultC9 VaultQ VaultFirst VaultRoomV.
-/
import Derived.Test.YtidjkhpekhpffaaGreatPart50
import Derived.Test.YtidjkhpekhpffaaGreatPart25
import Derived.Test.YtidjkhpekhpffaaGreatPart51
import Derived.Test.YtidjkhpekhpffaaGreatPart12
import Derived.Test.YtidjkhpekhpffaaGreatPart1
import Derived.Test.YtidjkhpekhpffaaGreatPart6
import Derived.Test.YtidjkhpekhpffaaGreatPart8
import Derived.Test.YtidjkhpekhpffaaGreatPart17
import Derived.Test.YtidjkhpekhpffaaGreatPart21
import Derived.Test.YtidjkhpekhpffaaGreatPart9
import Derived.Deep.RegionHeld3
namespace Go.Proofs.YtidjkhpekhpffaaGreat.Vault
open Go.RowKit Go.Proofs.YtidjkhpekhpffaaGreat.Num Go.Proofs.YtidjkhpekhpffaaGreat.Sha Go.Proofs.YtidjkhpekhpffaaGreat.Purse Go.Proofs.YtidjkhpekhpffaaGreat.Escrow Go.Proofs.YtidjkhpekhpffaaGreat.Wire Go.Proofs.YtidjkhpekhpffaaGreat.Req Go.Proofs.YtidjkhpekhpffaaGreat.Disk Go.Proofs.YtidjkhpekhpffaaGreat.Frame
section
variable {w : World} {HJ FL I : List Nat} {x t d j y n : Nat} {lv : Value} {l : List (TV × LM)} {m : MV} {s0 : Ledger.LS} {party seq clock de : Int} {b : List Int} {X : BV}
def VHPost (w:World) (x t d j y n:Nat) (HJ FL I:List Nat) (lv:Value) (r:(Int × List Int) × MV) (e:Ending) (w':World):Prop :=
 ∃ A k c,e=.returned (.tuple #[.slice A k c,.int .i64 r.1.1])∧k≤c∧c≤9223372036854775807∧Rd w' A k r.1.2∧∃ HJ' FL' I',(∃ l',Vp w' x t d j y n HJ' FL' I' lv l' r.2)∧Fp (vf x HJ FL I lv) (vf x HJ' FL' I' lv) w w'∧(∀ g o,A=some ⟨g,o,none⟩→w.heap.size≤g∧g∉vf x HJ' FL' I' lv)
theorem handle_1 (h:m.down=true):handleM m party seq clock b de X=((13,[]),m):=by unfold handleM;rw[if_pos h]
theorem handle_2 (h:¬ m.down=true) (h2:¬ (0≤party∧party < (m.v.t.length:Int))):handleM m party seq clock b de X=((14,[]),m):=by unfold handleM;rw[if_neg h,if_pos h2]
theorem handle_3 {p:Nat}(h:¬ m.down=true) (h2:p < m.v.t.length) (h3:0 < seq∧seq=(tAt m.v p).seq):handleM m p seq clock b de X=((0,bytesA (tAt m.v p).a),m):=by
 unfold handleM;rw[if_neg h,if_neg (fun q=>q ⟨by omega,by omega⟩),if_pos (by rw[Int.toNat_natCast];exact h3),Int.toNat_natCast]
theorem handle_4 {p:Nat}(h:¬ m.down=true) (h2:p < m.v.t.length) (h3:¬ (0 < seq∧seq=(tAt m.v p).seq)) (h4:seq≠(tAt m.v p).seq+1∨4294967295 < seq):handleM m p seq clock b de X=((5,[]),m):=by
 unfold handleM;rw[if_neg h,if_neg (fun q=>q ⟨by omega,by omega⟩),if_neg (by rw[Int.toNat_natCast];exact h3),if_pos (by rw[Int.toNat_natCast];exact h4)]
theorem handle_5 {p:Nat}(h:¬ m.down=true) (h2:p < m.v.t.length) (h3:¬ (0 < seq∧seq=(tAt m.v p).seq)) (h4:¬ (seq≠(tAt m.v p).seq+1∨4294967295 < seq)) (h5:de≠0):handleM m p seq clock b de X=((de,[]),m):=by
 unfold handleM;rw[if_neg h,if_neg (fun q=>q ⟨by omega,by omega⟩),if_neg (by rw[Int.toNat_natCast];exact h3),if_neg (by rw[Int.toNat_natCast];exact h4),if_pos h5]
theorem handle_6 {p:Nat}(h:¬ m.down=true) (h2:p < m.v.t.length) (h3:¬ (0 < seq∧seq=(tAt m.v p).seq)) (h4:¬ (seq≠(tAt m.v p).seq+1∨4294967295 < seq)) (h5:¬ de≠0) {r:Int × DS × Journal.JV}(hr:storeJ m.s m.j (pictV m.v) (recV p seq (atV m.v.l clock) b)=r) :
  handleM m p seq clock b de X=if r.1=0 then ((0,bytesA (Ledger.applyL m.v.l p (atV m.v.l clock) X).1),⟨r.2.1,r.2.2,doV m.v p seq (atV m.v.l clock) X,false,m.served+1⟩) else ((r.1,[]),⟨r.2.1,r.2.2,m.v,decide (r.1=13),m.served⟩):=by
 unfold handleM;rw[if_neg h,if_neg (fun q=>q ⟨by omega,by omega⟩),if_neg (by rw[Int.toNat_natCast];exact h3),if_neg (by rw[Int.toNat_natCast];exact h4),if_neg h5,Int.toNat_natCast,hr]
theorem vh_none {w':World}{k:Int}(h:Vp w' x t d j y n HJ FL I lv l m) (fp:Fp (vf x HJ FL I lv) (vf x HJ FL I lv) w w'):VHPost w x t d j y n HJ FL I lv ((k,[]),m) (.returned (.tuple #[.slice none 0 0,.int .i64 k])) w' :=
 ⟨none,0,0,rfl,Nat.le_refl _,by omega,⟨rfl,(by intro q hq;cases hq),.inl rfl⟩,HJ,FL,I,⟨l,h⟩,fp,fun g o e=>by cases e⟩
theorem rc_new_off {α:Type}{C:α→List Value}{z k B:Nat}{w1:World}{A:Option Addr}{q:List α}{F:List Nat}(r:Rc C z w1 A k q) (hn:∀ b o,A=some ⟨b,o,none⟩→B≤b) (hF:∀ z∈F,z < B):Off A k F:=by
 by_cases h0:k=0
 ·exact .inl h0
 ·obtain⟨b,o,u,e,-,-⟩:=r.at_ (k:=0) (by omega)
  exact .inr ⟨b,o,e,fun hm=>by have h1:=hn b o e;have h2:=hF b hm;omega⟩
theorem rvC_ne (u:RV):rvC u≠[]:=by simp[rvC]
theorem vh_bytes {w':World}{A:Option Addr}{k c:Nat}{HJ' FL' I':List Nat}{r:(Int × List Int) × MV}{l':List (TV × LM)}(hc:k≤c) (hcm:c≤9223372036854775807) (rd:Rd w' A k r.1.2) (h:Vp w' x t d j y n HJ' FL' I' lv l' r.2) (fp:Fp (vf x HJ FL I lv) (vf x HJ' FL' I' lv) w w') (hnew:∀ g o,A=some ⟨g,o,none⟩→w.heap.size≤g∧g∉vf x HJ' FL' I' lv):VHPost w x t d j y n HJ FL I lv r (.returned (.tuple #[.slice A k c,.int .i64 r.1.1])) w' :=
 ⟨A,k,c,rfl,hc,hcm,rd,HJ',FL',I',⟨l',h⟩,fp,hnew⟩
theorem tAt_do {v:VS}{p:Nat}{at_:Int}(hp:p < v.t.length):tAt (doV v p seq at_ X) p=⟨seq,X.seen,(Ledger.applyL v.l p at_ X).1⟩:=by
 unfold tAt doV
 dsimp only
 rw[List.getD_eq_getElem?_getD,List.getElem?_set_self hp]
 rfl
set_option maxRecDepth 100000 in
set_option maxHeartbeats 4000000 in
theorem vhandle_any {A:Option Addr}{bn c:Nat}(W:WV s0 m.v) (h:Vp w x t d j y n HJ FL I lv l m) (r:Rd w A bn b) (off:Off A bn (vf x HJ FL I lv)) (hn:bn≤50000) (hsv:m.served≤1000000) (hsv0:0≤m.served) (hd:DecB b de X) :
  Calls Tryz.prog 21 #[.pointer (some ⟨x,0,none⟩),.int .i64 party,.int .i64 seq,.int .i64 clock,.slice A bn c] w (VHPost w x t d j y n HJ FL I lv (handleM m party seq clock b de X)):=by
 have H:=Kept.mk h
 have x3:=h.c3
 obtain⟨dn,hdn⟩:∃ dn,m.down=dn:=⟨_,rfl⟩
 have HDN:=Kept.mk hdn
 rw[hdn] at x3
 have KP:=Kept.mk (vparty_any party h)
 have HW:=Kept.mk W
 have RD:=Kept.mk r
 have OFF:=Kept.mk off
 have HD:=Kept.mk hd
 have HSV:=Kept.mk (And.intro hsv0 hsv)
 obtain⟨RR,hRR⟩:∃ RR,handleM m party seq clock b de X=RR:=⟨_,rfl⟩
 have HRR:=Kept.mk hRR
 rw[hRR]
 clear h W r off hd hsv hsv0 hdn hRR
 cases dn with
 | true =>
  have e:=(handle_1 (party:=party) (seq:=seq) (clock:=clock) (b:=b) (de:=de) (X:=X) HDN.out).symm.trans HRR.out
  subst e
  have HV:=vh_none (k:=13) H.out (Fp.refl _ _)
  clear KP HRR
  go_enter Tryz.func21,Tryz.ntmps21
  go_wp2
  go_ret2
  exact HV
 | false =>
  have HD0:Kept (¬ m.down=true):=⟨by rw[HDN.out];decide⟩
  by_cases h0:0≤party∧party < (m.v.t.length:Int)
  ·obtain⟨p,rfl⟩:∃ p:Nat,party=p:=⟨party.toNat,by omega⟩
   have hp:p < m.v.t.length:=by omega
   unfold isV at KP
   rw[decide_eq_true h0] at KP
   obtain⟨la,lc,hlv,x2,hlc,hlm,hrc⟩:=H.out.list
   obtain⟨g,go,q,hA,el,-,hcell⟩:=H.out.cells (Below.refl _ _) hp hlv
   subst hA
   have HWT:=Kept.mk (HW.out.each _ (tAt_mem hp))
   obtain⟨O,hO⟩:∃ O,tAt m.v p=O:=⟨_,rfl⟩
   have HO:=Kept.mk hO
   rw[hO] at el hcell HWT
   have y0:w.cell? ⟨g,go+p * 6,none⟩=some (.int .i64 O.seq):=hcell 0 _ rfl;have y1:w.cell? ⟨g,go+p * 6+1,none⟩=some (.int .i64 O.seen):=hcell 1 _ rfl;have y2:w.cell? ⟨g,go+p * 6+2,none⟩=some (.int .i64 O.a.clock):=hcell 2 _ rfl;have y3:w.cell? ⟨g,go+p * 6+3,none⟩=some (.int .i64 O.a.seen):=hcell 3 _ rfl;have y4:w.cell? ⟨g,go+p * 6+4,none⟩=some (.slice q.A q.n q.c):=hcell 4 _ rfl;have y5:w.cell? ⟨g,go+p * 6+5,none⟩=some (.slice q.D q.m q.d):=hcell 5 _ rfl
   have EL:=Kept.mk el
   have HLV:=Kept.mk hlv
   obtain⟨np,hnp⟩:∃ np,m.v.t.length=np:=⟨_,rfl⟩
   have HNP:=Kept.mk hnp
   rw[hnp] at x2 hlc
   have hpn:(p:Int) < np:=by omega
   have HP:=Kept.mk hp
   have HQ:=Kept.mk HWT.out.seq
   have b1:Below w.heap.size w (w.alloc (.cells #[.int .i64 O.seq,.int .i64 O.seen,.int .i64 O.a.clock,.int .i64 O.a.seen,.slice q.A q.n q.c,.slice q.D q.m q.d] 141)):=(Below.refl _ _).alloc (Nat.le_refl _) _
   obtain⟨M,hM⟩:∃ M,w.heap.size=M:=⟨_,rfl⟩
   have XB:Kept (Blk (w.alloc (.cells #[.int .i64 O.seq,.int .i64 O.seen,.int .i64 O.a.clock,.int .i64 O.a.seen,.slice q.A q.n q.c,.slice q.D q.m q.d] 141)) M 141 #[.int .i64 O.seq,.int .i64 O.seen,.int .i64 O.a.clock,.int .i64 O.a.seen,.slice q.A q.n q.c,.slice q.D q.m q.d]):=⟨Blk.new_at w _ _ M hM.symm⟩
   have B1:=Kept.mk b1
   clear hrc el hcell hO hlv hnp h0 hp b1
   go_enter Tryz.func21,Tryz.ntmps21
   go_wp2_with fail
   refine KP.out.mono ?_
   rintro e w1 ⟨rfl,rfl⟩
   clear KP x3
   go_upto_region 6 with(fail)
   clear x2 y0 y1 y2 y3 y4 y5
   generalize w.alloc (.cells #[.int .i64 O.seq,.int .i64 O.seen,.int .i64 O.a.clock,.int .i64 O.a.seen,.slice q.A q.n q.c,.slice q.D q.m q.d] 141)=w1 at *
   have H1:=Kept.mk (H.out.below B1.out)
   have FP1:=Kept.mk (fp_below (F:=vf x HJ FL I lv) B1.out)
   have y0:=XB.out.cell 0
   obtain⟨os,hos⟩:∃ os,O.seq=os:=⟨_,rfl⟩
   have HOS:=Kept.mk hos
   have HQ0:0≤os:=by rw[← hos];exact HQ.out.1
   have HQ1:os≤4294967295:=by rw[← hos];exact HQ.out.2
   rw[hos] at y0 XB
   clear hos HQ
   by_cases c1:seq=os
   ·by_cases c2:0 < seq
    ·have e:=(handle_3 (clock:=clock) (b:=b) (de:=de) (X:=X) HD0.out HP.out ⟨c2,by rw[HO.out,HOS.out];exact c1⟩).symm.trans HRR.out
     subst e
     have hb:=barOf B1.out []
     have KE:=cencan_any (c:=q.c) (d:=q.d) O.a.clock O.a.seen (EL.out.rp.below B1.out) (EL.out.rv.below B1.out) (HWT.out.vok HW.out.wl)
     have hAA:encA ⟨O.a.clock,O.a.seen,O.a.p,O.a.v⟩=(0,bytesA O.a):=encA_yes (HWT.out.okA HW.out.wl)
     rw[hAA] at KE
     unfold EncNPost at KE
     have KE2:=Kept.mk KE
     have y2:=XB.out.cell 2;have y3:=XB.out.cell 3;have y4:=XB.out.cell 4;have y5:=XB.out.cell 5
     subst c1
     clear KE hb hAA HRR EL
     go_wp2_with fail
     refine KE2.out.mono ?_
     rintro e w2 ⟨A2,k2,c2,rfl,h1,h2,h3,bb,hnw⟩
     have HV:Kept (VHPost w x t d j y n HJ FL I lv ((0,bytesA (tAt m.v p).a),m) (.returned (.tuple #[.slice A2 k2 c2,.int .i64 0])) w2):=⟨vh_bytes h1 h2 (by rw[HO.out];exact h3) (H1.out.below bb) (FP1.out.trans (fp_below bb)) (fun g o e=>⟨by have:=hnw g o e;have:=FP1.out.1.size;omega,fun hm=>by have:=hnw g o e;have:=H1.out.all g hm;omega⟩)⟩
     clear KE2 h1 h2 h3 bb hnw y0 y2 y3 y4 y5
     go_wp2
     go_ret2
     exact HV.out
    ·have e:=(handle_4 (clock:=clock) (b:=b) (de:=de) (X:=X) HD0.out HP.out (fun k=>c2 k.1) (.inl (by rw[HO.out,HOS.out];omega))).symm.trans HRR.out
     subst e
     have HV:=Kept.mk (vh_none (k:=5) H1.out FP1.out)
     subst c1
     clear HRR
     go_wp2
     go_ret2
     exact HV.out
   ·have N3:Kept (¬ (0 < seq∧seq=(tAt m.v p).seq)):=⟨fun k=>c1 (by rw[k.2,HO.out,HOS.out])⟩
    by_cases c2:seq=os+1
    ·subst c2
     by_cases c3:4294967295 < os+1
     ·have e:=(handle_4 (clock:=clock) (b:=b) (de:=de) (X:=X) HD0.out HP.out N3.out (.inr c3)).symm.trans HRR.out
      subst e
      have HV:=Kept.mk (vh_none (k:=5) H1.out FP1.out)
      clear HRR
      go_wp2
      go_ret2
      exact HV.out
     ·have N4:Kept (¬ (os+1≠(tAt m.v p).seq+1∨4294967295 < os+1)):=⟨fun k=>by
       rw[HO.out,HOS.out] at k
       rcases k with k|k
       ·exact k rfl
       ·exact c3 k⟩
      have HSQ:Kept (1≤os+1∧os+1≤4294967295):=⟨by omega,by omega⟩
      have KD:=Kept.mk (cdecbn_any (c:=c) (RD.out.below B1.out) (by omega))
      unfold DecBNPost at KD
      clear XB EL
      go_wp2_with fail
      refine KD.out.mono ?_
      rintro e w2 ⟨e2,seen,PA,k2,c2',rs,rfl,h1,h2,h3,h4,h5,bb,hnew⟩
      obtain⟨rfl,hX⟩:=HD.out.one h5
      have HX:=Kept.mk hX
      have H2:=Kept.mk (H1.out.below bb)
      have FP2:=Kept.mk (FP1.out.trans (fp_below bb))
      have RD2:=Kept.mk ((RD.out.below B1.out).below bb)
      have B2:=Kept.mk (B1.out.trans (bb.mono B1.out.size))
      have RR2:=Kept.mk h3
      have HOK:=Kept.mk h4
      have HC:=Kept.mk (And.intro h1 h2)
      have OF2:=Kept.mk (rc_new_off (B:=w.heap.size) h3 (fun k o e=>Nat.le_trans B1.out.size (hnew k o e)) H.out.all)
      clear KD h1 h2 h3 h4 h5 bb hnew y0 H1 FP1 B1 hX RD
      have b3:Below w2.heap.size w2 (w2.alloc (.cells #[.int .i64 seen,.slice PA k2 c2'] 75)):=(Below.refl _ _).alloc (Nat.le_refl _) _
      obtain⟨NB,hNB⟩:∃ NB,w2.heap.size=NB:=⟨_,rfl⟩
      have YB:Kept (Blk (w2.alloc (.cells #[.int .i64 seen,.slice PA k2 c2'] 75)) NB 75 #[.int .i64 seen,.slice PA k2 c2']):=⟨Blk.new_at w2 _ _ NB hNB.symm⟩
      have NBX:Kept (NB∉vf x HJ FL I lv):=⟨fun hm=>by have h1:=H.out.all NB hm;have h2:=B2.out.size;omega⟩
      go_upto_region 11 with(fail)
      replace H2:=Kept.mk (H2.out.below b3)
      replace FP2:=Kept.mk (FP2.out.trans (fp_below b3))
      replace RD2:=Kept.mk (RD2.out.below b3)
      replace RR2:=Kept.mk (RR2.out.below b3)
      clear b3 hNB B2
      generalize w2.alloc (.cells #[.int .i64 seen,.slice PA k2 c2'] 75)=w3 at *
      by_cases c4:de=0
      ·have KT:=Kept.mk (vat_any clock H2.out)
       have HATV:=Kept.mk (atV_tick HW.out.wl clock).1
       unfold TellB at KT
       subst c4
       obtain rfl:=HX.out
       have OKX:Kept (OkX ⟨seen,rs⟩):=⟨by
        rcases HD.out with⟨-,h⟩|⟨h,-,-⟩
        ·exact encB_okx h HOK.out
        ·exact absurd h (by decide)⟩
       go_wp2_with fail
       refine KT.out.mono ?_
       rintro e w4 ⟨rfl,bb⟩
       have H4:=Kept.mk (H2.out.below bb)
       have FP4:=Kept.mk (FP2.out.trans (fp_below bb))
       have RD4:=Kept.mk (RD2.out.below bb)
       have RR4:=Kept.mk (RR2.out.below bb)
       have YB4:=Kept.mk (YB.out.below bb YB.out.lt)
       obtain⟨r,hr⟩:∃ r,storeJ m.s m.j (pictV m.v) (recV p (os+1) (atV m.v.l clock) b)=r:=⟨_,rfl⟩
       have KS:=vstore_any (c:=c) HW.out H4.out RD4.out (p:=p) (by have:=HW.out.np16;have:=HP.out;omega) ⟨by have:=HSQ.out;omega,HSQ.out.2⟩ HATV.out hn
       rw[hr] at KS
       have KS2:=Kept.mk KS
       have E6:=Kept.mk ((handle_6 (X:=⟨seen,rs⟩) HD0.out HP.out N3.out N4.out (by simp) hr).symm.trans HRR.out)
       unfold VActPost at KS2
       obtain⟨cl,hcl⟩:∃ cl,atV m.v.l clock=cl:=⟨_,rfl⟩
       rw[hcl] at KS2 E6 HATV ⊢
       clear KT bb H2 FP2 RD2 RR2 YB KS hr hcl HRR N3 N4 HD0
       go_wp2_with fail
       refine KS2.out.mono ?_
       rintro e w5 ⟨rfl,HJ5,hv,fp⟩
       have OF5:=Kept.mk (rc_off_step RR4.out rvC_ne OF2.out fp)
       have RR5:=Kept.mk (rc_far3 RR4.out OF2.out fp.1)
       have YB5:=Kept.mk (YB4.out.bar fp.1 NBX.out)
       have NB5:=Kept.mk (Ledger.off_step NBX.out YB4.out.lt fp)
       have FP5:=Kept.mk (FP4.out.trans fp)
       obtain⟨e5,s5,j5⟩:=r
       dsimp only at hv E6 ⊢
       have V5:=Kept.mk hv
       clear KS2 hv fp H4 FP4 RD4 RR4 YB4 OF2 NBX
       by_cases c5:e5=0
       ·subst c5
        have E7:=E6.out
        rw[if_pos rfl] at E7
        subst E7
        have KD:=Kept.mk (vdo_any (m:=⟨s5,j5,m.v,decide ((0:Int)=13),m.served⟩) (p:=p) (seq:=os+1) (clock:=cl) (seen:=seen) HW.out V5.out HP.out RR5.out OF5.out HOK.out (by have h1:rs.length≤64:=OKX.out.len;have h2:rs.length=k2:=RR5.out.1;omega) HC.out.1 HC.out.2)
        unfold VDoPost at KD
        have z0:=YB5.out.cell 0;have z1:=YB5.out.cell 1
        clear E6
        go_wp2_with fail
        refine KD.out.mono ?_
        rintro e w6 ⟨rfl,FL6,I6,⟨l6,hv⟩,fp⟩
        have FP6:=Kept.mk (FP5.out.trans fp)
        have WV6:=Kept.mk (doV_wv (p:=p) (seq:=os+1) (at_:=cl) HW.out OKX.out HSQ.out)
        obtain⟨v7,fp7⟩:=hv.put_served (m.served+1)
        have V7:=Kept.mk v7
        have FP7:=Kept.mk (FP6.out.trans fp7)
        have x4:=hv.c4
        have f4:=hv.blk.frozen 4
        have hs0:=HSV.out.1;have hs1:=HSV.out.2
        clear KD z0 z1 fp fp7 v7 hv V5 FP5 FP6 YB5 NB5 RR5 OF5
        go_upto_region 19 with(fail)
        clear x4 f4 hs0 hs1
        generalize w6.setCell ⟨x,4,none⟩ (.int .i64 (m.served+1))=w7 at *
        have hl7:(doV m.v p (os+1) cl ⟨seen,rs⟩).t.length=m.v.t.length:=by simp[doV]
        obtain⟨g2,go2,q2,hA2,-,el,hcell⟩:=V7.out.cells (Below.refl _ _) (k:=p) (A:=some ⟨g,go,none⟩) (c:=lc) (by show p < (doV m.v p (os+1) cl ⟨seen,rs⟩).t.length;rw[hl7];exact HP.out) (by show lv=.slice _ (doV m.v p (os+1) cl ⟨seen,rs⟩).t.length _;rw[hl7];exact HLV.out)
        injection hA2 with hA2
        injection hA2 with e1 e2 _
        subst e1 e2
        dsimp only at el hcell
        rw[tAt_do HP.out] at el hcell
        have wt:=WV6.out.each _ (tAt_mem (p:=p) (by rw[hl7];exact HP.out))
        rw[tAt_do HP.out] at wt
        dsimp only at el hcell wt
        obtain⟨AA,hAA⟩:∃ AA,(Ledger.applyL m.v.l p cl ⟨seen,rs⟩).1=AA:=⟨_,rfl⟩
        rw[hAA] at el hcell wt
        have HAA:=Kept.mk hAA
        have x2:w7.cell? ⟨x,2,none⟩=some (.slice (some ⟨g,go,none⟩) np lc):=by
         have:=V7.out.blk.cell 2
         rw[HLV.out,HNP.out] at this
         exact this
        have y2:w7.cell? ⟨g,go+p * 6+2,none⟩=some (.int .i64 AA.clock):=hcell 2 _ rfl;have y3:w7.cell? ⟨g,go+p * 6+3,none⟩=some (.int .i64 AA.seen):=hcell 3 _ rfl;have y4:w7.cell? ⟨g,go+p * 6+4,none⟩=some (.slice q2.A q2.n q2.c):=hcell 4 _ rfl;have y5:w7.cell? ⟨g,go+p * 6+5,none⟩=some (.slice q2.D q2.m q2.d):=hcell 5 _ rfl
        have KE:=cencan_any (c:=q2.c) (d:=q2.d) AA.clock AA.seen el.rp el.rv (wt.vok WV6.out.wl)
        have hEA:encA ⟨AA.clock,AA.seen,AA.p,AA.v⟩=(0,bytesA AA):=encA_yes (wt.okA WV6.out.wl)
        rw[hEA] at KE
        unfold EncNPost at KE
        have KE2:=Kept.mk KE
        clear KE hEA wt el hcell hl7 hAA WV6 HX
        go_wp2_with fail
        refine KE2.out.mono ?_
        rintro e w8 ⟨A8,k8,c8,rfl,h1,h2,h3,bb,hnw⟩
        have HV:Kept (VHPost w x t d j y n HJ FL I lv ((0,bytesA (Ledger.applyL m.v.l p cl ⟨seen,rs⟩).1),⟨s5,j5,doV m.v p (os+1) cl ⟨seen,rs⟩,false,m.served+1⟩) (.returned (.tuple #[.slice A8 k8 c8,.int .i64 0])) w8):=⟨vh_bytes h1 h2 (by rw[HAA.out];exact h3) (V7.out.below bb) (FP7.out.trans (fp_below bb)) (fun g o e=>⟨by have:=hnw g o e;have:=FP7.out.1.size;omega,fun hm=>by have:=hnw g o e;have:=V7.out.all g hm;omega⟩)⟩
        clear KE2 h1 h2 h3 bb hnw y2 y3 y4 y5 x2
        go_wp2
        go_ret2
        exact HV.out
       ·have E7:=E6.out
        rw[if_neg c5] at E7
        subst E7
        have HV:Kept (VHPost w x t d j y n HJ FL I lv ((e5,[]),⟨s5,j5,m.v,decide (e5=13),m.served⟩) (.returned (.tuple #[.slice none 0 0,.int .i64 e5])) w5):=⟨none,0,0,rfl,Nat.le_refl _,by omega,⟨rfl,(by intro q hq;cases hq),.inl rfl⟩,HJ5,FL,I,⟨l,V5.out⟩,FP5.out,fun g o e=>by cases e⟩
        clear E6
        go_wp2
        go_ret2
        exact HV.out
      ·have e:=(handle_5 (clock:=clock) (b:=b) (de:=de) (X:=X) HD0.out HP.out N3.out N4.out c4).symm.trans HRR.out
       subst e
       have HV:=Kept.mk (vh_none (k:=de) H2.out FP2.out)
       clear HRR
       go_wp2
       go_ret2
       exact HV.out
    ·have e:=(handle_4 (clock:=clock) (b:=b) (de:=de) (X:=X) HD0.out HP.out N3.out (.inl (by rw[HO.out,HOS.out];exact c2))).symm.trans HRR.out
     subst e
     have HV:=Kept.mk (vh_none (k:=5) H1.out FP1.out)
     clear HRR
     go_wp2
     go_ret2
     exact HV.out
  ·have e:=(handle_2 (seq:=seq) (clock:=clock) (b:=b) (de:=de) (X:=X) HD0.out h0).symm.trans HRR.out
   subst e
   have HV:=Kept.mk (vh_none (k:=14) H.out (Fp.refl _ _))
   unfold isV at KP
   rw[decide_eq_false h0] at KP
   clear HRR h0
   go_enter Tryz.func21,Tryz.ntmps21
   go_wp2_with fail
   refine KP.out.mono ?_
   rintro e w1 ⟨rfl,rfl⟩
   clear KP
   go_wp2
   go_ret2
   exact HV.out
end
def VQ (b:Nat) (K:List Nat) (w:World) (x t d n:Nat) (m:MV):Prop:=∃ j y HJ FL I lv,(∃ l,Vp w x t d j y n HJ FL I lv l m)∧∀ z∈vf x HJ FL I lv,b≤z∧z∉K
def Far (b:Nat) (K:List Nat) (w w':World):Prop:=∃ F,Bar F w w'∧∀ z∈F,b≤z∧z∉K
section
variable {b : Nat} {K K' H : List Nat} {w w' w2 : World} {x t d n k : Nat} {m : MV} {s0 : Ledger.LS} {party seq clock de : Int} {bs : List Int} {X : BV} {s : DS}
theorem VQ.below (h:VQ b K w x t d n m) (bb:Below w.heap.size w w'):VQ b K w' x t d n m:=by
 obtain⟨j,y,HJ,FL,I,lv,⟨l,h1⟩,h2⟩:=h
 exact⟨j,y,HJ,FL,I,lv,⟨l,h1.below bb⟩,h2⟩
theorem VQ.more (h:VQ b K w x t d n m) (hk:∀ z∈K',w.heap.size≤z∨z∈K):VQ b K' w x t d n m:=by
 obtain⟨j,y,HJ,FL,I,lv,⟨l,h1⟩,h2⟩:=h
 refine⟨j,y,HJ,FL,I,lv,⟨l,h1⟩,fun z hz=>⟨(h2 z hz).1,fun hm=>?_⟩⟩
 rcases hk z hm with e|e
 ·have:=h1.all z hz;omega
 ·exact(h2 z hz).2 e
theorem VQ.size (h:VQ b K w x t d n m):b≤w.heap.size:=by
 obtain⟨j,y,HJ,FL,I,lv,⟨l,h1⟩,h2⟩:=h
 have e:x∈vf x HJ FL I lv:=vf_mem.2 (.inl rfl)
 have:=h1.all x e;have:=(h2 x e).1;omega
theorem Far.of (bb:Below w.heap.size w w'):Far b K w w':=⟨[],barOf bb [],by simp⟩
theorem Far.trans (h:Far b K w w') (h2:Far b K w' w2):Far b K w w2:=by
 obtain⟨F,h1,h3⟩:=h
 obtain⟨G,k1,k3⟩:=h2
 exact⟨F++G,(h1.mono (fun z hz=>.inl (List.mem_append_left _ hz))).trans (k1.mono (fun z hz=>.inl (List.mem_append_right _ hz))) (fun z hz=>.inl hz),fun z hz=>by
  rcases List.mem_append.1 hz with e|e
  ·exact h3 z e
  ·exact k3 z e⟩
theorem Far.below (h:Far b K w w') (hb:b≤w.heap.size):Below b w w':=by
 obtain⟨F,h1,h3⟩:=h
 exact h1.below hb (fun z hz=>(h3 z hz).1)
theorem Far.blk (h:Far b K w w') {z:Nat}{T:TypeId}{cs:Array Value}(hb:Blk w z T cs) (hz:z∈K∨z < b):Blk w' z T cs:=by
 obtain⟨F,h1,h3⟩:=h
 exact hb.bar h1 (fun hm=>by
  rcases hz with e|e
  ·exact(h3 z hm).2 e
  ·have:=(h3 z hm).1;omega)
theorem Far.rd (h:Far b K w w') {A:Option Addr}{l:Nat}{xs:List Int}(r:Rd w A l xs) (hA:In A l K):Rd w' A l xs:=by
 obtain⟨F,h1,h3⟩:=h
 exact r.far h1 (by
  rcases hA with e|⟨g,o,e,hg⟩
  ·exact .inl e
  ·exact .inr ⟨g,o,e,fun hm=>(h3 g hm).2 hg⟩)
theorem VQ.off (h:VQ b K w x t d n m) {A:Option Addr}{l:Nat}(hA:In A l K):∃ j y HJ FL I lv,(∃ l,Vp w x t d j y n HJ FL I lv l m)∧(∀ z∈vf x HJ FL I lv,b≤z∧z∉K)∧Off A l (vf x HJ FL I lv):=by
 obtain⟨j,y,HJ,FL,I,lv,h1,h2⟩:=h
 refine⟨j,y,HJ,FL,I,lv,h1,h2,?_⟩
 rcases hA with e|⟨g,o,e,hg⟩
 ·exact .inl e
 ·exact .inr ⟨g,o,e,fun hm=>(h2 g hm).2 hg⟩
def VQHPost (b:Nat) (K:List Nat) (w:World) (x t d n:Nat) (r:(Int × List Int) × MV) (e:Ending) (w':World):Prop :=
 ∃ A l c,e=.returned (.tuple #[.slice A l c,.int .i64 r.1.1])∧l≤c∧c≤9223372036854775807∧Rd w' A l r.1.2∧Far b K w w'∧∃ g,VQ b (g :: K) w' x t d n r.2∧In A l [g]∧(w.heap.size≤g∨g∈K∨l=0)
theorem vq_handle {A:Option Addr}{bn c:Nat}(W:WV s0 m.v) (h:VQ b K w x t d n m) (hK:∀ z∈K,z < w.heap.size) (r:Rd w A bn bs) (hA:In A bn K) (hn:bn≤50000) (hsv:m.served≤1000000) (hsv0:0≤m.served) (hd:DecB bs de X) :
  Calls Tryz.prog 21 #[.pointer (some ⟨x,0,none⟩),.int .i64 party,.int .i64 seq,.int .i64 clock,.slice A bn c] w (VQHPost b K w x t d n (handleM m party seq clock bs de X)):=by
 have hb:=h.size
 obtain⟨j,y,HJ,FL,I,lv,⟨l,h1⟩,h2,off⟩:=h.off hA
 refine(vhandle_any (party:=party) (seq:=seq) (clock:=clock) (c:=c) W h1 r off hn hsv hsv0 hd).mono ?_
 rintro e w' ⟨A',k',c',rfl,hc,hm,rd,HJ',FL',I',⟨l',v'⟩,fp,hnew⟩
 have hv':∀ z∈vf x HJ' FL' I' lv,b≤z∧z∉K:=fun z hz=>by
  rcases fp.2 z hz with e|e
  ·exact h2 z e
  ·exact⟨by omega,fun hm=>by have:=hK z hm;omega⟩
 have far:Far b K w w':=⟨_,fp.1,h2⟩
 rcases rd.2.2 with h0|⟨g,o,rfl,-⟩
 ·refine⟨A',k',c',rfl,hc,hm,rd,far,w'.heap.size,⟨j,y,HJ',FL',I',lv,⟨l',v'⟩,fun z hz=>⟨(hv' z hz).1,fun hm=>?_⟩⟩,.inl h0,.inr (.inr h0)⟩
  rcases List.mem_cons.1 hm with e|e
  ·have:=v'.all z hz;omega
  ·exact(hv' z hz).2 e
 ·have hn:=hnew g o rfl
  refine⟨_,k',c',rfl,hc,hm,rd,far,g,⟨j,y,HJ',FL',I',lv,⟨l',v'⟩,fun z hz=>⟨(hv' z hz).1,fun hm=>?_⟩⟩,.inr ⟨g,o,rfl,by simp⟩,.inl hn.1⟩
  rcases List.mem_cons.1 hm with e|e
  ·exact hn.2 (e▸hz)
  ·exact(hv' z hz).2 e
def VQRow (b:Nat) (K:List Nat) (w:World) (x t d n:Nat) (r:(Int × List Int) × MV) (e:Ending) (w':World):Prop :=
 ∃ A l c,e=.returned (.tuple #[.slice A l c,.int .i64 r.1.1])∧Rd w' A l r.1.2∧Far b K w w'∧∃ g,VQ b (g :: K) w' x t d n r.2∧In A l (g :: K)∧∀ z∈g :: K,z < w'.heap.size
def VQNo (b:Nat) (K:List Nat) (w:World) (x t d n:Nat) (r:(Int × List Int) × MV) (e:Ending) (w':World):Prop :=
 ∃ A l c,e=.returned (.tuple #[.slice A l c,.int .i64 r.1.1])∧Far b K w w'∧VQ b K w' x t d n r.2∧∀ z∈K,z < w'.heap.size
theorem far_size (h:Far b K w w'):w.heap.size≤w'.heap.size:=by
 obtain⟨F,h1,-⟩:=h
 exact h1.size
theorem vq_row {A:Option Addr}{bn c:Nat}{r:(Int × List Int) × MV}(hr:handleM m party seq clock bs de X=r) (hl:0 < r.1.2.length) (W:WV s0 m.v) (h:VQ b K w x t d n m) (hK:∀ z∈K,z < w.heap.size) (rd:Rd w A bn bs) (hA:In A bn K) (hn:bn≤50000) (hsv:m.served≤1000000) (hsv0:0≤m.served) (hd:DecB bs de X) :
  Calls Tryz.prog 21 #[.pointer (some ⟨x,0,none⟩),.int .i64 party,.int .i64 seq,.int .i64 clock,.slice A bn c] w (VQRow b K w x t d n r):=by
 subst hr
 refine(vq_handle (party:=party) (seq:=seq) (clock:=clock) (c:=c) W h hK rd hA hn hsv hsv0 hd).mono ?_
 rintro e w' ⟨A',l,c',rfl,-,-,r2,far,g,v,hin,-⟩
 have hl0:l≠0:=by have:=r2.1;omega
 have hs:=far_size far
 refine⟨A',l,c',rfl,r2,far,g,v,hin.mono (fun z hz=>by simp at hz;simp[hz]),fun z hz=>?_⟩
 rcases List.mem_cons.1 hz with e|e
 ·rcases hin with e3|⟨g2,o,e4,hg⟩
  ·exact absurd e3 hl0
  ·obtain⟨b2,o2,e2,hc⟩:=r2.2.2.resolve_left hl0
   have hlt:=World.block_lt_of_cell? _ _ (hc 0 (by omega))
   rw[List.mem_singleton] at hg
   rw[e4] at e2
   have e5:g2=b2:=by
    injection e2 with e2
    injection e2
   rw[e,← hg,e5]
   exact hlt
 ·have:=hK z e;omega
theorem vq_no {A:Option Addr}{bn c:Nat}{r:(Int × List Int) × MV}(hr:handleM m party seq clock bs de X=r) (W:WV s0 m.v) (h:VQ b K w x t d n m) (hK:∀ z∈K,z < w.heap.size) (rd:Rd w A bn bs) (hA:In A bn K) (hn:bn≤50000) (hsv:m.served≤1000000) (hsv0:0≤m.served) (hd:DecB bs de X) :
  Calls Tryz.prog 21 #[.pointer (some ⟨x,0,none⟩),.int .i64 party,.int .i64 seq,.int .i64 clock,.slice A bn c] w (VQNo b K w x t d n r):=by
 subst hr
 refine(vq_handle (party:=party) (seq:=seq) (clock:=clock) (c:=c) W h hK rd hA hn hsv hsv0 hd).mono ?_
 rintro e w' ⟨A',l,c',rfl,-,-,r2,far,g,v,hin,-⟩
 have hs:=far_size far
 exact⟨A',l,c',rfl,far,v.more (fun z hz=>.inr (List.mem_cons_of_mem _ hz)),fun z hz=>by have:=hK z hz;omega⟩
theorem vq_new (V:VQ b K w x t d n m) (hK:∀ z∈K,z < w.heap.size) {g:Nat}(hg:w.heap.size=g) (o:Obj):VQ b (g :: K) (w.alloc o) x t d n m∧∀ z∈g :: K,z < (w.alloc o).heap.size:=by
 refine⟨(V.more (K':=g :: K) (fun z hz=>?_)).below ((Below.refl _ _).alloc (Nat.le_refl _) _),fun z hz=>?_⟩
 ·rcases List.mem_cons.1 hz with e|e
  ·left;omega
  ·exact .inr e
 ·simp only[World.size_alloc]
  rcases List.mem_cons.1 hz with e|e
  ·omega
  ·have:=hK z e;omega
def VQOPost (b:Nat) (K:List Nat) (w:World) (t d n:Nat) (m:MV) (e:Ending) (w':World):Prop :=
 ∃ x,e=.returned (.tuple #[.pointer (some ⟨x,0,none⟩),.int .i64 0])∧VQ b K w' x t d n m∧Far b K w w'
theorem vq_open {A:Option Addr}{c:Nat}{Y:Nat→List Int}{cap:Int}(sd:Journal.Sd w H t d n s) (hH:∀ z∈H,b≤z∧z∉K) (hK:∀ z∈K,z < w.heap.size) (hb:b≤w.heap.size) (hr:Rwi w A k Y) (hok:Ledger.confOk k Y cap) (hneed:needV k Y cap≤(n:Int)) (hh:(Journal.openJ s).has=false) (hrec:(Journal.openJ s).recs=[]) :
  Calls Tryz.prog 14 #[.pointer (some ⟨t,0,none⟩),.agg #[.slice A k c,.int .i64 cap],.pointer (some ⟨d,0,none⟩)] w (VQOPost b K w t d n ⟨s,Journal.openJ s,newV (Ledger.newL k Y cap) k,false,0⟩):=by
 refine(vopen_new (c:=c) sd hr hok hneed hh hrec).mono ?_
 rintro e w' ⟨x,rfl,j,y,HJ,FL,I,lv,v,fp⟩
 refine⟨x,rfl,⟨j,y,HJ,FL,I,lv,v,fun z hz=>?_⟩,_,fp.1,hH⟩
 rcases fp.2 z hz with e|e
 ·exact hH z e
 ·exact⟨by omega,fun hm=>by have:=hK z hm;omega⟩
end
theorem newt_any (w:World):Calls Tryz.prog 11 #[] w fun e w'=>∃ t,e=.returned (.pointer (some ⟨t,0,none⟩))∧Tab w' t∧Below w.heap.size w w'∧w.heap.size≤t:=by
 refine(newtable_any w).mono ?_
 rintro e w' ⟨rfl,rfl⟩
 exact⟨_,rfl,.inl (Blk.new _ _ _),(Below.refl _ _).alloc (Nat.le_refl _) _,Nat.le_refl _⟩
def S2 (a b cap:Int):Ledger.LS:=Ledger.newL 2 (twoX a b) cap
theorem need_two {a b cap:Int}(h:twoOk a b=true) (h1:1≤cap) (h2:cap≤400):Ledger.confOk 2 (twoX a b) cap∧needV 2 (twoX a b) cap=2 * (sectorsF (14+63 * cap+440)+53):=by
 have hc:Ledger.confOk 2 (twoX a b) cap:=⟨two_ok h,h1,h2⟩
 refine⟨hc,?_⟩
 unfold needV
 rw[if_pos hc]
 rfl
theorem ok_first {k:Nat}{X:Nat→List Int}{cap:Int}{n:Nat}(hc:Ledger.confOk k X cap) (hn:needV k X cap≤(n:Int)) (h2:n≤8192):Ok (Ledger.newL k X cap) n ⟨newD n,Journal.noJ,newV (Ledger.newL k X cap) k,false,0⟩:=by
 have hk:2≤k∧k≤16:=by have:=hc.1;unfold newOk at this;omega
 obtain⟨c1,c2⟩:=hc.2
 have hl:Large (Ledger.newL k X cap) n:=by
  unfold needV at hn
  rw[if_pos hc] at hn
  unfold sectorsF at hn
  rw[if_neg (by omega),if_neg (by omega)] at hn
  unfold Large
  show (24+(14+63 * cap.toNat+220 * k)+62) / 63+(24+3300+62) / 63≤n / 2
  omega
 have h1:1≤n:=by unfold Large at hl;omega
 exact ok_new (Ledger.newL_wl hc) (Ledger.newL_wi k X cap) rfl hl h1 h2
theorem open_newd {n:Nat}(h1:1≤n) (h2:n≤8192):Journal.openJ (newD n)=Journal.noJ :=
 (Journal.keeps_new (wf_new n h1 h2) (fun j hj=>rowOf_replicate n j hj)).open_is rfl
theorem vq_size1 {b x t d n:Nat}{K:List Nat}{w:World}{m:MV}(h:VQ b K w x t d n m):x < w.heap.size:=by
 obtain⟨j,y,HJ,FL,I,lv,⟨l,h1⟩,h2⟩:=h
 exact h1.all x (vf_mem.2 (.inl rfl))
theorem first_clk:(Ledger.applyL (Ledger.newL 2 (twoX 5 0) 4) 0 3 ⟨0,[]⟩).2.clock=3:=by
 have hc:Ledger.clockL (Ledger.newL 2 (twoX 5 0) 4) 3=⟨4,⟨newP 2 (twoX 5 0),[]⟩,3,[]⟩:=by
  unfold Ledger.clockL
  rw[if_pos ⟨(by decide:Tck 3),(by show (0:Int) < 3;omega)⟩]
  rfl
 unfold Ledger.applyL
 simp only[List.take_nil,Ledger.manyL,hc]
theorem enc_none:encB (⟨0,[]⟩:BV)=(0,[0,0,0]):=by decide
set_option maxRecDepth 100000 in
set_option maxHeartbeats 2000000 in
theorem vfirst_any (w:World):Calls Tryz.prog 7 #[] w fun e w'=>e=.returned (.bool true)∧Below w.heap.size w w':=by
 obtain⟨N,hN⟩:∃ N,w.heap.size=N:=⟨_,rfl⟩
 have hcn:=need_two (a:=5) (b:=0) (cap:=4) (by decide) (by omega) (by omega)
 have HC:=Kept.mk hcn.1
 have hne:needV 2 (twoX 5 0) 4=130:=hcn.2.trans (by decide)
 have HNE:=Kept.mk hne
 have e1:twoW w 5 0=(((w.alloc (.cells #[.int .i64 5] 3)).alloc (.cells #[.int .i64 0] 3)).alloc (.cells #[.slice (some ⟨N,0,none⟩) 1 1,.slice (some ⟨N+1,0,none⟩) 1 1] 58)):=by unfold twoW;rw[hN]
 have hr:Rwi (((w.alloc (.cells #[.int .i64 5] 3)).alloc (.cells #[.int .i64 0] 3)).alloc (.cells #[.slice (some ⟨N,0,none⟩) 1 1,.slice (some ⟨N+1,0,none⟩) 1 1] 58)) (some ⟨N+1+1,0,none⟩) 2 (twoX 5 0):=by have:=two_rows w 5 0;rw[e1,hN] at this;exact this
 have b1:Below w.heap.size w (((w.alloc (.cells #[.int .i64 5] 3)).alloc (.cells #[.int .i64 0] 3)).alloc (.cells #[.slice (some ⟨N,0,none⟩) 1 1,.slice (some ⟨N+1,0,none⟩) 1 1] 58)):=by have:=twoW_below w 5 0;rw[e1] at this;exact this
 have hs1:(((w.alloc (.cells #[.int .i64 5] 3)).alloc (.cells #[.int .i64 0] 3)).alloc (.cells #[.slice (some ⟨N,0,none⟩) 1 1,.slice (some ⟨N+1,0,none⟩) 1 1] 58)).heap.size=N+1+1+1:=by simp[hN]
 have R:=Kept.mk hr;have B:=Kept.mk b1
 clear hcn hne e1 hr b1
 go_enter Tryz.func7,Tryz.ntmps7
 go_upto_region 2 with(fail)
 generalize (((w.alloc (.cells #[.int .i64 5] 3)).alloc (.cells #[.int .i64 0] 3)).alloc (.cells #[.slice (some ⟨N,0,none⟩) 1 1,.slice (some ⟨N+1,0,none⟩) 1 1] 58))=w1 at *
 have bb:Below w1.heap.size w1 (w1.alloc (.cells #[.slice (some ⟨N+1+1,0,none⟩) 2 2,.int .i64 4] 24)):=(Below.refl _ _).alloc (Nat.le_refl _) _
 have X:=Kept.mk (Blk.new_at w1 24 #[.slice (some ⟨N+1+1,0,none⟩) 2 2,.int .i64 4] (N+1+1+1) hs1.symm)
 replace R:=Kept.mk (R.out.below bb);replace B:=Kept.mk (B.out.trans (bb.mono B.out.size))
 clear bb hs1
 generalize w1.alloc (.cells #[.slice (some ⟨N+1+1,0,none⟩) 2 2,.int .i64 4] 24)=w2 at *
 have x0:=X.out.cell 0;have x1:=X.out.cell 1
 have KN:=vneed_any (c:=2) (cap:=4) R.out
 rw[HNE.out] at KN
 replace KN:=Kept.mk KN
 go_wp2_with fail
 refine KN.out.mono ?_
 rintro e w3 ⟨rfl,bb⟩
 replace R:=Kept.mk (R.out.below bb);replace X:=Kept.mk (X.out.below bb X.out.lt);replace B:=Kept.mk (B.out.trans (bb.mono B.out.size))
 clear KN bb x0 x1
 have KD:=cnew_ok w3 130 (by omega) (by omega)
 unfold CNewPost at KD
 replace KD:=Kept.mk KD
 go_wp2_with fail
 refine KD.out.mono ?_
 rintro e w4 ⟨d,F,rfl,dk,fp⟩
 have bb:Below w3.heap.size w3 w4:=fp.below (by simp) (Nat.le_refl _)
 have HF:Kept (∀ z∈F,N+1+1+1 < z∧z < w4.heap.size):=⟨fun z hz=>by
  rcases fp.2 z hz with e|e
  ·simp at e
  ·have:=X.out.lt;have:=dk.lts z hz;omega⟩
 have DK:=Kept.mk dk
 replace R:=Kept.mk (R.out.below bb);replace X:=Kept.mk (X.out.below bb X.out.lt);replace B:=Kept.mk (B.out.trans (bb.mono B.out.size))
 clear KD dk fp bb
 go_upto_region 5 with(fail)
 refine wp_region_noPanic ?_
 refine wp_region_held_drew (S:=fun u:World=>u.cell? ⟨N+1+1+1,0,none⟩=some (.slice (some ⟨N+1+1,0,none⟩) 2 2)∧u.cell? ⟨N+1+1+1,1,none⟩=some (.int .i64 4)) (by kernel_rfl) ⟨X.out.cell 0,X.out.cell 1⟩ (fun _=>?_)
 replace R:=Kept.mk (R.out.below (Below.refl _ w4).drew);replace X:=Kept.mk X.out.drew;replace B:=Kept.mk B.out.drew
 replace DK:=Kept.mk DK.out.drew
 replace HF:Kept (∀ z∈F,N+1+1+1 < z∧z < w4.drew.heap.size):=HF
 generalize w4.drew=w5 at *
 refine tk 1 (by assumption) ?_
 simp only[Act.put,zA,zB,zC]
 refine tk 2 (by assumption) ?_
 simp only[Act.put,zA,zB,zC]
 refine ld 0 (fun K hK=>?_)
 go_simp
 go_at_call 11
 refine(newt_any w5).mono ?_
 rintro e w6 ⟨t,rfl,ht,bb,htw⟩
 have hw5:=X.out.lt
 have SD:Kept (Journal.Sd w6 (t :: F) t d 130 (newD 130)):=⟨F,ht,DK.out.keep (barOf bb []) (fun _ _=>by simp),fun hm=>by have:=(HF.out t hm).2;omega,rfl⟩
 have HH:Kept (∀ z∈t :: F,N≤z∧z∉[N+1+1+1]):=⟨fun z hz=>by
  have h3:N+1+1+1 < z:=by
   rcases List.mem_cons.1 hz with e|e
   ·omega
   ·exact(HF.out z e).1
  exact⟨by omega,by rw[List.mem_singleton];omega⟩⟩
 replace R:=Kept.mk (R.out.below bb);replace X:=Kept.mk (X.out.below bb X.out.lt);replace B:=Kept.mk (B.out.trans (bb.mono B.out.size))
 refine hK.out _ _ ⟨X.out.cell 0,X.out.cell 1⟩ (fun _=>?_)
 clear hK K ht bb htw DK HF
 try simp only[Act.put,zA,zB,zC]
 have hj:=open_newd (n:=130) (by omega) (by omega)
 have KO:=vq_open (c:=2) (K:=[N+1+1+1]) SD.out HH.out (fun z hz=>by rw[List.mem_singleton] at hz;have:=X.out.lt;omega) (by have:=B.out.size;omega) R.out HC.out (by rw[HNE.out];omega) (by rw[hj];rfl) (by rw[hj];rfl)
 rw[hj] at KO
 unfold VQOPost at KO
 have OK0:=Kept.mk (ok_first (n:=130) HC.out (by rw[HNE.out];omega) (by omega))
 obtain⟨m0,hm0⟩:∃ m0,(⟨newD 130,Journal.noJ,newV (Ledger.newL 2 (twoX 5 0) 4) 2,false,0⟩:MV)=m0:=⟨_,rfl⟩
 have E0:Kept (m0.v=newV (Ledger.newL 2 (twoX 5 0) 4) 2∧m0.served=0∧m0.j.gen=0):=⟨by rw[← hm0];exact⟨rfl,rfl,rfl⟩⟩
 rw[hm0] at KO OK0
 replace KO:=Kept.mk KO
 clear hm0 hj SD HH
 refine ld 3 (fun K hK=>?_)
 go_simp
 go_at_call 14
 refine KO.out.mono ?_
 rintro e w7 ⟨x,rfl,V,far⟩
 replace V:=Kept.mk V
 have hS:w7.cell? ⟨N+1+1+1,0,none⟩=some (.slice (some ⟨N+1+1,0,none⟩) 2 2)∧w7.cell? ⟨N+1+1+1,1,none⟩=some (.int .i64 4):=by
  have h:=far.blk X.out (.inl (by simp))
  exact⟨h.cell 0,h.cell 1⟩
 have hw6:=B.out.size
 have hb6:=far.below (by omega)
 replace B:=Kept.mk (B.out.trans (by rw[hN];exact hb6))
 refine hK.out _ _ hS (fun _=>?_)
 clear hK K hS far KO R X hb6 hw6 hw5
 try simp only[Act.put,zA,zB,zC]
 refine tk 4 (by assumption) ?_
 simp only[Act.put,zA,zB,zC]
 refine tk 5 (by assumption) ?_
 simp only[Act.put,zA,zB,zC]
 refine tk 6 (by assumption) ?_
 simp only[Act.put,zA,zB,zC]
 refine tk 7 (by assumption) ?_
 simp only[Act.put,zA,zB,zC]
 refine tk 8 (by assumption) ?_
 simp only[Act.put,zA,zB,zC]
 refine wpAnyH_done (by kernel_rfl) ?_ _
 refine NoPanic.normal ?_
 go_upto_region 8 with(fail)
 have HX:=Kept.mk (vq_size1 V.out)
 replace V:=Kept.mk (V.out.more (K':=[]) (by simp))
 have HK:Kept (∀ z∈([]:List Nat),z < w7.heap.size):=⟨by simp⟩
 have hl0:(0:Nat) < m0.v.t.length:=by rw[E0.out.1];simp[newV]
 have ht0:(tAt m0.v 0).seq=0:=by rw[E0.out.1,tAt_new];rfl
 obtain⟨m1,e1,OK1,hv1,hs1,hg1⟩:=handle_next (x:=⟨0,[]⟩) (b:=[0,0,0]) (p:=0) (seq:=1) (clock:=3) OK0.out hl0 (by rw[ht0];rfl) (by omega) enc_none (by simp) (by simp) (by rw[E0.out.2.2];omega)
 have hl1:(0:Nat) < m1.v.t.length:=by rw[hv1,doV_len];exact hl0
 have ht1:tAt m1.v 0=⟨1,0,(Ledger.applyL m0.v.l 0 3 ⟨0,[]⟩).1⟩:=by rw[hv1,tAt_set hl0,if_pos rfl,applyL_at];rfl
 have hck:m1.v.l.clock=3:=by
  rw[hv1,doV_l,E0.out.1]
  exact first_clk
 have hsv1:m1.served=1:=by rw[hs1,E0.out.2.1];rfl
 have e2:=handle_same (x:=⟨0,[]⟩) (b:=[0,0,0]) (de:=0) (p:=0) (seq:=1) (clock:=9) OK1 hl1 (by rw[ht1]) (by omega)
 have e3:=handle_stale (x:=⟨0,[]⟩) (b:=[0,0,0]) (de:=0) (p:=0) (seq:=3) (clock:=9) OK1 hl1 (by rw[ht1];show (3:Int)≠1+1;decide) (by rw[ht1];show ¬ (0 < (3:Int)∧(3:Int)=1);decide)
 rw[ht1] at e2
 have hpos:0 < (bytesA (Ledger.applyL m0.v.l 0 3 ⟨0,[]⟩).1).length:=by unfold bytesA;simp only[List.length_append,be_len];omega
 generalize bytesA (Ledger.applyL m0.v.l 0 3 ⟨0,[]⟩).1=AB at *
 have HE1:Kept (handleM m0 0 1 3 [0,0,0] 0 ⟨0,[]⟩=((0,AB),m1)):=⟨e1⟩
 have HE2:Kept (handleM m1 0 1 9 [0,0,0] 0 ⟨0,[]⟩=((0,AB),m1)):=⟨e2⟩
 have HE3:Kept (handleM m1 0 3 9 [0,0,0] 0 ⟨0,[]⟩=((5,[]),m1)):=⟨e3⟩
 have HPOS:=Kept.mk hpos;have HT1:=Kept.mk ht1;have HL1:=Kept.mk hl1;have HCK:=Kept.mk hck;have HSV:=Kept.mk hsv1;have OKK:=Kept.mk OK1
 have HS0:=Kept.mk E0.out.2.1
 clear hl0 ht0 e1 e2 e3 hv1 hs1 hg1 hl1 ht1 hck hsv1 hpos OK1
 obtain⟨g1,hg1⟩:∃ g,w7.heap.size=g:=⟨_,rfl⟩
 have VN:=vq_new V.out HK.out hg1 (.cells #[.int .u8 0,.int .u8 0,.int .u8 0] 5)
 replace V:=Kept.mk VN.1;replace HK:=Kept.mk VN.2
 have Rg1:Kept (Rd (w7.alloc (.cells #[.int .u8 0,.int .u8 0,.int .u8 0] 5)) (some ⟨g1,0,none⟩) 3 [0,0,0]):=⟨Rd.blk (T:=5) (xs:=[0,0,0]) (Blk.new_at _ _ _ g1 hg1.symm) (by intro z hz;simp at hz;omega) rfl⟩
 have bb:Below w7.heap.size w7 (w7.alloc (.cells #[.int .u8 0,.int .u8 0,.int .u8 0] 5)):=(Below.refl _ _).alloc (Nat.le_refl _) _
 replace B:=Kept.mk (B.out.trans (bb.mono B.out.size))
 clear VN bb
 go_wp2_with fail
 generalize (w7.alloc (.cells #[.int .u8 0,.int .u8 0,.int .u8 0] 5))=w8 at *
 clear hg1
 have KH:=vq_row (c:=3) HE1.out HPOS.out OK0.out.wv V.out HK.out Rg1.out (.inr ⟨g1,0,rfl,by simp⟩) (by omega) (by rw[HS0.out];omega) (by rw[HS0.out];omega) (.inl ⟨rfl,enc_none⟩)
 unfold VQRow at KH
 replace KH:=Kept.mk KH
 refine KH.out.mono ?_
 rintro e w9 ⟨Ag1,lg1,cg1,rfl,rr,far,zg1,v',ing1,hk'⟩
 clear KH
 clear Rg1
 have hb9:=B.out.size
 have fb9:=far.below (by omega)
 replace B:=Kept.mk (B.out.trans (by rw[hN];exact fb9))
 clear hb9 fb9 far
 replace V:=Kept.mk v';replace HK:=Kept.mk hk'
 clear v' hk'
 have Qg1:=Kept.mk rr
 clear rr
 have Jg1:=Kept.mk ing1
 clear ing1
 obtain⟨g2,hg2⟩:∃ g,w9.heap.size=g:=⟨_,rfl⟩
 have VN:=vq_new V.out HK.out hg2 (.cells #[.int .u8 0,.int .u8 0,.int .u8 0] 5)
 replace V:=Kept.mk VN.1;replace HK:=Kept.mk VN.2
 have Rg2:Kept (Rd (w9.alloc (.cells #[.int .u8 0,.int .u8 0,.int .u8 0] 5)) (some ⟨g2,0,none⟩) 3 [0,0,0]):=⟨Rd.blk (T:=5) (xs:=[0,0,0]) (Blk.new_at _ _ _ g2 hg2.symm) (by intro z hz;simp at hz;omega) rfl⟩
 have bb:Below w9.heap.size w9 (w9.alloc (.cells #[.int .u8 0,.int .u8 0,.int .u8 0] 5)):=(Below.refl _ _).alloc (Nat.le_refl _) _
 replace Qg1:=Kept.mk (Qg1.out.below bb)
 replace B:=Kept.mk (B.out.trans (bb.mono B.out.size))
 clear VN bb
 go_wp2_with fail
 generalize (w9.alloc (.cells #[.int .u8 0,.int .u8 0,.int .u8 0] 5))=w10 at *
 clear hg2
 have KH:=vq_row (c:=3) HE2.out HPOS.out OKK.out.wv V.out HK.out Rg2.out (.inr ⟨g2,0,rfl,by simp⟩) (by omega) (by rw[HSV.out];omega) (by rw[HSV.out];omega) (.inl ⟨rfl,enc_none⟩)
 unfold VQRow at KH
 replace KH:=Kept.mk KH
 refine KH.out.mono ?_
 rintro e w11 ⟨Ag2,lg2,cg2,rfl,rr,far,zg2,v',ing2,hk'⟩
 clear KH
 clear Rg2
 replace Qg1:=Kept.mk (far.rd Qg1.out (Jg1.out.mono (fun z hz=>by simp only[List.mem_cons,List.not_mem_nil,or_false] at hz ⊢;omega)))
 have hb9:=B.out.size
 have fb9:=far.below (by omega)
 replace B:=Kept.mk (B.out.trans (by rw[hN];exact fb9))
 clear hb9 fb9 far
 replace V:=Kept.mk v';replace HK:=Kept.mk hk'
 clear v' hk'
 have Qg2:=Kept.mk rr
 clear rr
 have Jg2:=Kept.mk ing2
 clear ing2
 obtain⟨g3,hg3⟩:∃ g,w11.heap.size=g:=⟨_,rfl⟩
 have VN:=vq_new V.out HK.out hg3 (.cells #[.int .u8 0,.int .u8 0,.int .u8 0] 5)
 replace V:=Kept.mk VN.1;replace HK:=Kept.mk VN.2
 have Rg3:Kept (Rd (w11.alloc (.cells #[.int .u8 0,.int .u8 0,.int .u8 0] 5)) (some ⟨g3,0,none⟩) 3 [0,0,0]):=⟨Rd.blk (T:=5) (xs:=[0,0,0]) (Blk.new_at _ _ _ g3 hg3.symm) (by intro z hz;simp at hz;omega) rfl⟩
 have bb:Below w11.heap.size w11 (w11.alloc (.cells #[.int .u8 0,.int .u8 0,.int .u8 0] 5)):=(Below.refl _ _).alloc (Nat.le_refl _) _
 replace Qg1:=Kept.mk (Qg1.out.below bb)
 replace Qg2:=Kept.mk (Qg2.out.below bb)
 replace B:=Kept.mk (B.out.trans (bb.mono B.out.size))
 clear VN bb
 go_wp2_with fail
 generalize (w11.alloc (.cells #[.int .u8 0,.int .u8 0,.int .u8 0] 5))=w12 at *
 clear hg3
 have KH:=vq_no (c:=3) HE3.out OKK.out.wv V.out HK.out Rg3.out (.inr ⟨g3,0,rfl,by simp⟩) (by omega) (by rw[HSV.out];omega) (by rw[HSV.out];omega) (.inl ⟨rfl,enc_none⟩)
 unfold VQNo at KH
 replace KH:=Kept.mk KH
 refine KH.out.mono ?_
 rintro e w13 ⟨Ag3,lg3,cg3,rfl,far,v',hk'⟩
 clear KH
 clear Rg3
 replace Qg1:=Kept.mk (far.rd Qg1.out (Jg1.out.mono (fun z hz=>by simp only[List.mem_cons,List.not_mem_nil,or_false] at hz ⊢;omega)))
 replace Qg2:=Kept.mk (far.rd Qg2.out (Jg2.out.mono (fun z hz=>by simp only[List.mem_cons,List.not_mem_nil,or_false] at hz ⊢;omega)))
 have hb9:=B.out.size
 have fb9:=far.below (by omega)
 replace B:=Kept.mk (B.out.trans (by rw[hN];exact fb9))
 clear hb9 fb9 far
 replace V:=Kept.mk v';replace HK:=Kept.mk hk'
 clear v' hk'
 dsimp only
 have CB:=Kept.mk (bytes_same Ag1 Ag2 lg1 lg2 cg1 cg2 AB w13 Qg1.out Qg2.out)
 obtain⟨j,y,HJ,FL,I,lv,⟨l,vp⟩,-⟩:=V.out
 have KL:=vlast_any 0 vp
 rw[show (if 0≤(0:Int)∧(0:Int) < (m1.v.t.length:Int) then (tAt m1.v (Int.toNat 0)).seq else 0)=1 by
  have h:=HL1.out
  rw[if_pos (by omega),show Int.toNat 0=0 from rfl,HT1.out]] at KL
 have KS:=vserved_any vp
 rw[HSV.out] at KS
 have KY:=Kept.mk (vledger_any vp)
 obtain⟨b9,q9,G9,v9,d9,lp,-⟩:=vp.lk
 have KC:=Ledger.lclk_any lp
 unfold TellB at KC
 rw[HCK.out] at KC
 replace KL:=Kept.mk KL;replace KS:=Kept.mk KS;replace KC:=Kept.mk KC
 clear vp lp V HK
 go_wp2_with fail
 refine CB.out.mono ?_
 rintro e wq ⟨rfl,rfl⟩
 go_wp2_with fail
 refine KL.out.mono ?_
 rintro e wq ⟨rfl,rfl⟩
 go_wp2_with fail
 refine KS.out.mono ?_
 rintro e wq ⟨rfl,rfl⟩
 go_wp2_with fail
 refine KY.out.mono ?_
 rintro e wq ⟨rfl,rfl⟩
 go_wp2_with fail
 refine KY.out.mono ?_
 rintro e wq ⟨rfl,rfl⟩
 go_wp2_with fail
 refine KC.out.mono ?_
 rintro e wq ⟨rfl,bb⟩
 have B9:=Kept.mk (B.out.trans (bb.mono B.out.size))
 clear bb
 go_wp2
 go_ret
 exact⟨rfl,B9.out⟩
def nines:Nat→List Int:=fun _=>[9]
theorem nines_all:∀ k:Nat,k < 15→(∀ i,i < k+2→(nines i).length=(nines 0).length)∧∀ a,a < (nines 0).length→sumE (col nines (k+2) a)=0:=by decide +kernel
theorem nines_ok {k:Nat}{cap:Int}(h1:2≤k) (h2:k≤16) (h3:1≤cap) (h4:cap≤40):Ledger.confOk k nines cap:=by
 obtain⟨j,rfl⟩:∃ j,k=j+2:=⟨k - 2,by omega⟩
 have h:=nines_all j (by omega)
 exact⟨⟨⟨h1,h2⟩,by decide,h.1,h.2⟩,h3,by omega⟩
theorem need_is {k:Nat}{cap:Int}(h1:2≤k) (h2:k≤16) (h3:1≤cap) (h4:cap≤40):∃ n:Nat,needV k nines cap=(n:Int)∧2≤n∧n≤400:=by
 have hc:=nines_ok h1 h2 h3 h4
 unfold needV
 rw[if_pos hc]
 unfold sectorsF
 rw[if_neg (by omega),if_neg (by omega)]
 exact⟨(2 * ((24+(14+63 * cap+220 * (k:Int))+62) / 63+(24+3300+62) / 63)).toNat,by omega,by omega,by omega⟩
def rowC (g:Nat):List Value:=[.slice (some ⟨g,0,none⟩) 1 1]
def RG (b:Nat) (w:World) (v:Value) (l:List Nat):Prop:=w.ownsRow b 58 1 v l.length (l.flatMap rowC)∧∀ g∈l,b≤g∧Blk w g 3 #[.int .i64 9]
theorem RG.below {b:Nat}{w w':World}{v:Value}{l:List Nat}(h:RG b w v l) (bb:Below w.heap.size w w'):RG b w' v l :=
 ⟨own_keep h.1 (barOf bb []) (fun _ _=>by simp),fun g hg=>⟨(h.2 g hg).1,(h.2 g hg).2.below bb (h.2 g hg).2.lt⟩⟩
theorem RG.shape {b:Nat}{w:World}{v:Value}{l:List Nat}(h:RG b w v l):∃ A c,v=.slice A l.length c:=own_shape h.1
theorem RG.rwi {b:Nat}{w:World}{A:Option Addr}{c:Nat}{l:List Nat}(h:RG b w (.slice A l.length c) l):Rwi w A l.length nines:=by
 obtain⟨A',c',e,-,-,rc⟩:=Rc.own (C:=rowC) (s:=1) (l:=l) (fun _=>rfl) h.1 rfl
 injection e with e _ _
 subst e
 rcases rc.2 with h0|⟨g,o,rfl,hc⟩
 ·exact .inl h0
 ·refine .inr ⟨g,o,rfl,fun r hr=>?_⟩
  have hx:l[r]?=some (l[r]'hr):=List.getElem?_eq_getElem hr
  have h1:=hc r _ hx 0 _ rfl
  rw[Nat.mul_one,Nat.add_zero] at h1
  have hb:=(h.2 _ (List.getElem_mem hr)).2
  exact⟨_,1,1,h1,Nat.le_refl _,by omega,Ri.blk (xs:=[9]) hb rfl⟩
theorem blk_one {w:World}{M:Nat}{T U:TypeId}{cs ds:Array Value}(h:Blk w M T cs) (k:Blk w M U ds):T=U:=by
 have e:=Eq.trans (Eq.symm (show w.heap[M]?=some (.cells cs T (0,0)) from h)) (show w.heap[M]?=some (.cells ds U (0,0)) from k)
 injection e with e
 injection e
theorem RG.put {b C:Nat}{w:World}{v u:Value}{l:List Nat}{cs:Array Value}(h:RG b w v l) (x:Blk w C 24 cs):RG b (w.setCell ⟨C,0,none⟩ u) v l:=by
 have bar:Bar [C] w (w.setCell ⟨C,0,none⟩ u):=(Bar.refl _ _).setCell (by simp) _
 refine⟨own_keep h.1 bar (fun z hz hm=>?_),fun g hg=>⟨(h.2 g hg).1,(h.2 g hg).2.bar bar (fun hm=>?_)⟩⟩
 ·rw[List.mem_singleton] at hm
  subst hm
  exact own_far h.1 x (by decide) (by simpa using hz)
 ·rw[List.mem_singleton] at hm
  subst hm
  exact absurd (blk_one (h.2 g hg).2 x) (by decide)
theorem RG.snoc {b g:Nat}{w w':World}{v v':Value}{l:List Nat}(h:RG b w v l) (hg:b≤g) (hb:Blk w g 3 #[.int .i64 9]) (o:w'.ownsRow b 58 1 v' (l.length+1) (l.flatMap rowC++[g].flatMap rowC)) (gr:w.grownBy w' v.ownBlock):RG b w' v' (l++[g]):=by
 have keep:∀ z,Blk w z 3 #[.int .i64 9]→Blk w' z 3 #[.int .i64 9]:=fun z hz=>hz.bar (Bar.grownRow gr) (fun hm=>own_far h.1 hz (by decide) (by simpa using hm))
 refine⟨?_,fun z hz=>?_⟩
 ·rw[List.length_append,List.length_singleton,List.flatMap_append];exact o
 ·rcases List.mem_append.1 hz with e|e
  ·exact⟨(h.2 z e).1,keep z (h.2 z e).2⟩
  ·rw[List.mem_singleton] at e;subst e;exact⟨hg,keep _ hb⟩
section
variable {w : World} {t d n k : Nat} {s : DS} {F : List Nat}
set_option maxRecDepth 100000 in
set_option maxHeartbeats 2000000 in
theorem vopen_full {A:Option Addr}{c:Nat}{X:Nat→List Int}{cap:Int}(ht:Tab w t) (dk:Dk w F d n s) (hr:Rwi w A k X) (hok:Ledger.confOk k X cap) (hneed:(n:Int) < needV k X cap) :
  Calls Tryz.prog 14 #[.pointer (some ⟨t,0,none⟩),.agg #[.slice A k c,.int .i64 cap],.pointer (some ⟨d,0,none⟩)] w fun e w'=>e=.returned (.tuple #[.pointer none,.int .i64 12])∧Below w.heap.size w w':=by
 obtain⟨N,hN⟩:∃ N,w.heap.size=N:=⟨_,rfl⟩
 have b0:Below w.heap.size w (w.alloc (.cells #[.slice A k c,.int .i64 cap] 24)):=(Below.refl _ _).alloc (Nat.le_refl _) _
 have X1:Kept (Blk (w.alloc (.cells #[.slice A k c,.int .i64 cap] 24)) N 24 #[.slice A k c,.int .i64 cap]):=⟨Blk.new_at w _ _ N hN.symm⟩
 have B:=Kept.mk b0
 have DK:=Kept.mk (dk.keep (barOf b0 []) (fun _ _=>by simp))
 have RW:=Kept.mk (hr.below b0)
 have HOK:=Kept.mk hok
 have KN:=Ledger.lnew_any (c:=c) cap (ftab_below ht b0 (ftab_lt ht)) RW.out
 unfold Ledger.NewLPost at KN
 replace KN:=Kept.mk KN
 clear ht dk hr hok b0
 go_enter Tryz.func14,Tryz.ntmps14
 go_upto_region 1 with(fail)
 generalize w.alloc (.cells #[.slice A k c,.int .i64 cap] 24)=w1 at *
 have x0:=X1.out.cell 0;have x1:=X1.out.cell 1
 go_wp2_with fail
 refine KN.out.mono ?_
 rintro e w2 (⟨hno,-⟩|⟨-,y,FL,rfl,-,bb,-⟩)
 ·exact absurd HOK.out hno
 replace X1:=Kept.mk (X1.out.below bb X1.out.lt)
 replace DK:=Kept.mk (DK.out.keep (barOf bb []) (fun _ _=>by simp))
 replace RW:=Kept.mk (RW.out.below bb)
 replace B:=Kept.mk (B.out.trans (bb.mono B.out.size))
 clear KN bb x0 x1
 go_upto_region 4 with(fail)
 refine wp_region_noPanic ?_
 refine wp_region_held_drew (S:=fun u:World=>u.cell? ⟨N,0,none⟩=some (.slice A k c)∧u.cell? ⟨N,1,none⟩=some (.int .i64 cap)) (by kernel_rfl) ⟨X1.out.cell 0,X1.out.cell 1⟩ (fun _=>?_)
 replace X1:=Kept.mk X1.out.drew
 replace DK:=Kept.mk DK.out.drew
 replace RW:=Kept.mk (RW.out.below (Below.refl _ w2).drew)
 replace B:=Kept.mk (B.out.drew)
 generalize w2.drew=w3 at *
 refine tk 0 (by assumption) ?_
 simp only[Act.put,zA,zB,zC]
 refine tk 2 (by assumption) ?_
 simp only[Act.put,zA,zB,zC]
 refine ld 1 (fun K hK=>?_)
 go_simp
 go_at_call 46
 refine(clen_any DK.out).mono ?_
 rintro e w4 ⟨rfl,rfl⟩
 refine hK.out _ _ ⟨X1.out.cell 0,X1.out.cell 1⟩ (fun _=>?_)
 clear hK K
 try simp only[Act.put,zA,zB,zC]
 have KN:=Kept.mk (vneed_any (c:=c) (cap:=cap) RW.out)
 refine ld 3 (fun K hK=>?_)
 go_simp
 go_at_call 9
 refine KN.out.mono ?_
 rintro e w4 ⟨rfl,bb⟩
 replace X1:=Kept.mk (X1.out.below bb X1.out.lt)
 replace B:=Kept.mk (B.out.trans (bb.mono B.out.size))
 refine hK.out _ _ ⟨X1.out.cell 0,X1.out.cell 1⟩ (fun _=>?_)
 clear hK K KN RW bb DK
 try simp only[Act.put,zA,zB,zC]
 refine tk 4 (by assumption) ?_
 simp only[Act.put,zA,zB,zC]
 refine wpAnyH_done (by kernel_rfl) ?_ _
 refine NoPanic.normal ?_
 generalize needV k X cap=nd at *
 go_wp2
 go_ret2
 exact⟨rfl,B.out⟩
end
end Go.Proofs.YtidjkhpekhpffaaGreat.Vault
