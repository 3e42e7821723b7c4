/-
  Parts laid together: VaultC9 VaultQ VaultTab GateMem GateParty VaultNew VaultPoll GateVals.
-/
import Derived.Test.YtlkeieoecfkkeaaGreatPart38
import Derived.Test.YtlkeieoecfkkeaaGreatPart20
import Derived.Test.YtlkeieoecfkkeaaGreatPart39
import Derived.Test.YtlkeieoecfkkeaaGreatPart12
import Derived.Test.YtlkeieoecfkkeaaGreatPart6
import Derived.Test.YtlkeieoecfkkeaaGreatPart4
import Derived.Test.YtlkeieoecfkkeaaGreatPart1
import Derived.Test.YtlkeieoecfkkeaaGreatPart22
import Derived.Deep.RegionHeld3
import Derived.Deep.DeepCutAuto
import Derived.Test.YtlkeieoecfkkeaaGreatPart16
import Derived.Test.YtlkeieoecfkkeaaGreatPart17
import Derived.Test.YtlkeieoecfkkeaaGreatPart7
set_option maxRecDepth 100000
set_option maxHeartbeats 4000000
namespace Go.Proofs.YtlkeieoecfkkeaaGreat
namespace Vault
open Go.RowKit Num Sha Purse Escrow Wire Req Disk Go.Proofs.YtlkeieoecfkkeaaGreat.Frame
section
variable {w : World} {HJ FL I : List Nat} {x t d j y n : Nat} {lv : Value} {l : List (TV × LM)} {m : MV} {s0 : Ledger.LS} {party seq clock de : Int} {b : List Int} {X : BV}
def rE (w:World) (x t d j y n:Nat) (HJ FL I:List Nat) (lv:Value) (r:(Int × List Int) × MV) (e:Ending) (w':World):Prop :=
 ∃ A k c,e=.returned (.tuple #[.slice A k c,.int .i64 r.1.1])∧k≤c∧c≤9223372036854775807∧Rd w' A k r.1.2∧∃ HJ' FL' I',(∃ l',Vp w' x t d j y n HJ' FL' I' lv l' r.2)∧Fp (vf x HJ FL I lv) (vf x HJ' FL' I' lv) w w'∧(∀ g o,A=some ⟨g,o,none⟩→w.heap.size≤g∧g∉vf x HJ' FL' I' lv)
theorem QP (h:m.down=true):handleM m party seq clock b de X=((13,[]),m):=by unfold handleM;rw[if_pos h]
theorem QQ (h:¬ m.down=true) (h2:¬ (0≤party∧party < (m.v.t.length:Int))):handleM m party seq clock b de X=((14,[]),m):=by unfold handleM;rw[if_neg h,if_pos h2]
theorem QR {p:Nat}(h:¬ m.down=true) (h2:p < m.v.t.length) (h3:0 < seq∧seq=(tAt m.v p).seq):handleM m p seq clock b de X=((0,bytesA (tAt m.v p).a),m):=by
 unfold handleM;rw[if_neg h,if_neg (fun q=>q ⟨by omega,by omega⟩),if_pos (by rw[Int.toNat_natCast];exact h3),Int.toNat_natCast]
theorem wM {p:Nat}(h:¬ m.down=true) (h2:p < m.v.t.length) (h3:¬ (0 < seq∧seq=(tAt m.v p).seq)) (h4:seq≠(tAt m.v p).seq+1∨4294967295 < seq):handleM m p seq clock b de X=((5,[]),m):=by
 unfold handleM;rw[if_neg h,if_neg (fun q=>q ⟨by omega,by omega⟩),if_neg (by rw[Int.toNat_natCast];exact h3),if_pos (by rw[Int.toNat_natCast];exact h4)]
theorem QS {p:Nat}(h:¬ m.down=true) (h2:p < m.v.t.length) (h3:¬ (0 < seq∧seq=(tAt m.v p).seq)) (h4:¬ (seq≠(tAt m.v p).seq+1∨4294967295 < seq)) (h5:de≠0):handleM m p seq clock b de X=((de,[]),m):=by
 unfold handleM;rw[if_neg h,if_neg (fun q=>q ⟨by omega,by omega⟩),if_neg (by rw[Int.toNat_natCast];exact h3),if_neg (by rw[Int.toNat_natCast];exact h4),if_pos h5]
theorem QT {p:Nat}(h:¬ m.down=true) (h2:p < m.v.t.length) (h3:¬ (0 < seq∧seq=(tAt m.v p).seq)) (h4:¬ (seq≠(tAt m.v p).seq+1∨4294967295 < seq)) (h5:¬ de≠0) {r:Int × DS × Journal.JV}(hr:storeJ m.s m.j (pictV m.v) (recV p seq (atV m.v.l clock) b)=r) :
  handleM m p seq clock b de X=if r.1=0 then ((0,bytesA (Ledger.applyL m.v.l p (atV m.v.l clock) X).1),⟨r.2.1,r.2.2,doV m.v p seq (atV m.v.l clock) X,false,m.served+1⟩) else ((r.1,[]),⟨r.2.1,r.2.2,m.v,decide (r.1=13),m.served⟩):=by
 unfold handleM;rw[if_neg h,if_neg (fun q=>q ⟨by omega,by omega⟩),if_neg (by rw[Int.toNat_natCast];exact h3),if_neg (by rw[Int.toNat_natCast];exact h4),if_neg h5,Int.toNat_natCast,hr]
theorem nG {w':World}{k:Int}(h:Vp w' x t d j y n HJ FL I lv l m) (fp:Fp (vf x HJ FL I lv) (vf x HJ FL I lv) w w'):rE w x t d j y n HJ FL I lv ((k,[]),m) (.returned (.tuple #[.slice none 0 0,.int .i64 k])) w' :=
 ⟨none,0,0,rfl,Nat.le_refl _,by omega,⟨rfl,(by intro q hq;cases hq),.inl rfl⟩,HJ,FL,I,⟨l,h⟩,fp,fun g o e=>by cases e⟩
theorem Ie {α:Type}{C:α→List Value}{z k B:Nat}{w1:World}{A:Option Addr}{q:List α}{F:List Nat}(r:Rc C z w1 A k q) (hn:∀ b o,A=some ⟨b,o,none⟩→B≤b) (hF:∀ z∈F,z < B):Off A k F:=by
 by_cases h0:k=0
 ·exact .inl h0
 ·obtain⟨b,o,u,e,-,-⟩:=r.at_ (k:=0) (by omega)
  exact .inr ⟨b,o,e,fun hm=>by have h1:=hn b o e;have h2:=hF b hm;omega⟩
theorem Sj (u:RV):rvC u≠[]:=by simp[rvC]
theorem EP {w':World}{A:Option Addr}{k c:Nat}{HJ' FL' I':List Nat}{r:(Int × List Int) × MV}{l':List (TV × LM)}(hc:k≤c) (hcm:c≤9223372036854775807) (rd:Rd w' A k r.1.2) (h:Vp w' x t d j y n HJ' FL' I' lv l' r.2) (fp:Fp (vf x HJ FL I lv) (vf x HJ' FL' I' lv) w w') (hnew:∀ g o,A=some ⟨g,o,none⟩→w.heap.size≤g∧g∉vf x HJ' FL' I' lv):rE w x t d j y n HJ FL I lv r (.returned (.tuple #[.slice A k c,.int .i64 r.1.1])) w' :=
 ⟨A,k,c,rfl,hc,hcm,rd,HJ',FL',I',⟨l',h⟩,fp,hnew⟩
theorem S9 {v:VS}{p:Nat}{at_:Int}(hp:p < v.t.length):tAt (doV v p seq at_ X) p=⟨seq,X.seen,(Ledger.applyL v.l p at_ X).1⟩:=by
 unfold tAt doV
 dsimp only
 rw[List.getD_eq_getElem?_getD,List.getElem?_set_self hp]
 rfl
def DecC (b:List Int):Prop:=∀ (w':World) (A:Option Addr) (n c:Nat),Rd w' A n b→n≤100000→Calls Tryz.prog 91 #[.slice A n c] w' (qY b w')
def EncC (a:AV):Prop:=∀ (w':World) (A:Option Addr) (n c:Nat) (D:Option Addr) (m d:Nat),Rp w' A n a.p→Rv w' D m a.v→(∀ r∈a.v,r.ok)→Calls Tryz.prog 137 #[.agg #[.int .i64 a.clock,.int .i64 a.seen,.slice A n c,.slice D m d]] w' (oK (encA ⟨a.clock,a.seen,a.p,a.v⟩) w')
def Xk (x t d j y n:Nat) (HJ FL I:List Nat) (lv:Value) (l:List (TV × LM)) (m:MV) (seq clock:Int) (b:List Int):Prop:=∀ (p:Nat) (w':World) (A:Option Addr) (bn c:Nat),Vp w' x t d j y n HJ FL I lv l m→Rd w' A bn b→p < 256→(0≤seq∧seq≤4294967295)→Tck (atV m.v.l clock)→bn≤50000 →
 Calls Tryz.prog 138 #[.pointer (some ⟨x,0,none⟩),.int .i64 p,.int .i64 seq,.int .i64 (atV m.v.l clock),.slice A bn c] w' (dV w' x t d j y n HJ FL I lv l m (decide ((storeJ m.s m.j (pictV m.v) (recV p seq (atV m.v.l clock) b)).1=13)) (storeJ m.s m.j (pictV m.v) (recV p seq (atV m.v.l clock) b)))
def DoC (x t d j y n:Nat) (FL I:List Nat) (lv:Value) (l:List (TV × LM)) (m:MV) (seq clock:Int) (X:BV):Prop:=∀ (p:Nat) (w':World) (HJ:List Nat) (s5:DS) (j5:Journal.JV) (dn:Bool) (A:Option Addr) (bn c:Nat),Vp w' x t d j y n HJ FL I lv l ⟨s5,j5,m.v,dn,m.served⟩→p < m.v.t.length→Rr w' A bn X.l→Off A bn (vf x HJ FL I lv)→(∀ r∈X.l,r.ok)→bn≤100000→bn≤c→c≤9223372036854775807 →
 Calls Tryz.prog 92 #[.pointer (some ⟨x,0,none⟩),.int .i64 p,.int .i64 seq,.int .i64 (atV m.v.l clock),.agg #[.int .i64 X.seen,.slice A bn c]] w' (wK w' x t d j y n HJ FL I lv ⟨s5,j5,doV m.v p seq (atV m.v.l clock) X,dn,m.served⟩)
theorem Ig {A:Option Addr}{bn c:Nat}(W:WV s0 m.v) (h:Vp w x t d j y n HJ FL I lv l m) (r:Rd w A bn b) (off:Off A bn (vf x HJ FL I lv)) (hn:bn≤50000) (hsv:m.served≤1000000) (hsv0:0≤m.served) (hd:DecB b de X) (hdec:DecC b) (henc:∀ p:Nat,EncC (tAt m.v p).a∧EncC (Ledger.applyL m.v.l p (atV m.v.l clock) X).1) (hst:Xk x t d j y n HJ FL I lv l m seq clock b) (hdo:DoC x t d j y n FL I lv l m seq clock X) :
  Calls Tryz.prog 96 #[.pointer (some ⟨x,0,none⟩),.int .i64 party,.int .i64 seq,.int .i64 clock,.slice A bn c] w (rE w x t d j y n HJ FL I lv (handleM m party seq clock b de X)):=by
 have H:=ae.mk h
 have x3:=h.c3
 obtain⟨dn,hdn⟩:∃ dn,m.down=dn:=⟨_,rfl⟩
 have HDN:=ae.mk hdn
 rw[hdn] at x3
 have KP:=ae.mk (Gv party h)
 have HW:=ae.mk W
 have RD:=ae.mk r
 have OFF:=ae.mk off
 have HD:=ae.mk hd
 have HSV:=ae.mk (And.intro hsv0 hsv)
 have HST:=ae.mk hst
 have HDEC:=ae.mk hdec
 have HENC:=ae.mk henc
 have HDO:=ae.mk hdo
 obtain⟨RR,hRR⟩:∃ RR,handleM m party seq clock b de X=RR:=⟨_,rfl⟩
 have HRR:=ae.mk hRR
 rw[hRR]
 clear h W r off hd hsv hsv0 hdn hRR hst hdo hdec henc
 cases dn with
 | true =>
  have e:=(QP (party:=party) (seq:=seq) (clock:=clock) (b:=b) (de:=de) (X:=X) HDN.out).symm.trans HRR.out
  subst e
  have HV:=nG (k:=13) H.out (Fp.refl _ _)
  clear KP HRR
  go_enter Tryz.func96,Tryz.ntmps96
  go_wp2
  go_ret2
  exact HV
 | false =>
  have HD0:ae (¬ m.down=true):=⟨by rw[HDN.out];decide⟩
  by_cases h0:0≤party∧party < (m.v.t.length:Int)
  ·obtain⟨p,rfl⟩:∃ p:Nat,party=p:=⟨party.toNat,by omega⟩
   have hp:p < m.v.t.length:=by omega
   unfold isV at KP
   rw[decide_eq_true h0] at KP
   obtain⟨la,lc,hlv,x2,hlc,hlm,hrc⟩:=H.out.list
   obtain⟨g,go,q,hA,el,-,hcell⟩:=H.out.cells (Below.refl _ _) hp hlv
   subst hA
   have HWT:=ae.mk (HW.out.each _ (CU hp))
   obtain⟨O,hO⟩:∃ O,tAt m.v p=O:=⟨_,rfl⟩
   have HO:=ae.mk hO
   rw[hO] at el hcell HWT
   have y0:w.cell? ⟨g,go+p * 6,none⟩=some (.int .i64 O.seq):=hcell 0 _ rfl;have y1:w.cell? ⟨g,go+p * 6+1,none⟩=some (.int .i64 O.seen):=hcell 1 _ rfl;have y2:w.cell? ⟨g,go+p * 6+2,none⟩=some (.int .i64 O.a.clock):=hcell 2 _ rfl;have y3:w.cell? ⟨g,go+p * 6+3,none⟩=some (.int .i64 O.a.seen):=hcell 3 _ rfl;have y4:w.cell? ⟨g,go+p * 6+4,none⟩=some (.slice q.A q.n q.c):=hcell 4 _ rfl;have y5:w.cell? ⟨g,go+p * 6+5,none⟩=some (.slice q.D q.m q.d):=hcell 5 _ rfl
   have EL:=ae.mk el
   have HLV:=ae.mk hlv
   obtain⟨np,hnp⟩:∃ np,m.v.t.length=np:=⟨_,rfl⟩
   have HNP:=ae.mk hnp
   rw[hnp] at x2 hlc
   have hpn:(p:Int) < np:=by omega
   have HP:=ae.mk hp
   have HQ:=ae.mk HWT.out.seq
   have b1:Below w.heap.size w (w.alloc (.cells #[.int .i64 O.seq,.int .i64 O.seen,.int .i64 O.a.clock,.int .i64 O.a.seen,.slice q.A q.n q.c,.slice q.D q.m q.d] 141)):=(Below.refl _ _).alloc (Nat.le_refl _) _
   obtain⟨M,hM⟩:∃ M,w.heap.size=M:=⟨_,rfl⟩
   have XB:ae (Blk (w.alloc (.cells #[.int .i64 O.seq,.int .i64 O.seen,.int .i64 O.a.clock,.int .i64 O.a.seen,.slice q.A q.n q.c,.slice q.D q.m q.d] 141)) M 141 #[.int .i64 O.seq,.int .i64 O.seen,.int .i64 O.a.clock,.int .i64 O.a.seen,.slice q.A q.n q.c,.slice q.D q.m q.d]):=⟨Blk.new_at w _ _ M hM.symm⟩
   have B1:=ae.mk b1
   clear hrc el hcell hO hlv hnp h0 hp b1
   go_enter Tryz.func96,Tryz.ntmps96
   go_wp2_with fail
   refine KP.out.mono ?_
   rintro e w1 ⟨rfl,rfl⟩
   clear KP x3
   go_upto_region 6 with(fail)
   clear x2 y0 y1 y2 y3 y4 y5
   generalize w.alloc (.cells #[.int .i64 O.seq,.int .i64 O.seen,.int .i64 O.a.clock,.int .i64 O.a.seen,.slice q.A q.n q.c,.slice q.D q.m q.d] 141)=w1 at *
   have H1:=ae.mk (H.out.below B1.out)
   have FP1:=ae.mk (bf (F:=vf x HJ FL I lv) B1.out)
   have y0:=XB.out.cell 0
   obtain⟨os,hos⟩:∃ os,O.seq=os:=⟨_,rfl⟩
   have HOS:=ae.mk hos
   have HQ0:0≤os:=by rw[← hos];exact HQ.out.1
   have HQ1:os≤4294967295:=by rw[← hos];exact HQ.out.2
   rw[hos] at y0 XB
   clear hos HQ
   by_cases c1:seq=os
   ·by_cases c2:0 < seq
    ·have e:=(QR (clock:=clock) (b:=b) (de:=de) (X:=X) HD0.out HP.out ⟨c2,by rw[HO.out,HOS.out];exact c1⟩).symm.trans HRR.out
     subst e
     have hb:=barOf B1.out []
     have KE:=(HO.out▸(HENC.out p).1:EncC O.a) _ _ _ q.c _ _ q.d (EL.out.rp.below B1.out) (EL.out.rv.below B1.out) (HWT.out.vok HW.out.wl)
     have hAA:encA ⟨O.a.clock,O.a.seen,O.a.p,O.a.v⟩=(0,bytesA O.a):=oO (HWT.out.okA HW.out.wl)
     rw[hAA] at KE
     unfold oK at KE
     have KE2:=ae.mk KE
     have y2:=XB.out.cell 2;have y3:=XB.out.cell 3;have y4:=XB.out.cell 4;have y5:=XB.out.cell 5
     subst c1
     clear KE hb hAA HRR EL
     go_wp2_with fail
     refine KE2.out.mono ?_
     rintro e w2 ⟨A2,k2,c2,rfl,h1,h2,h3,bb,hnw⟩
     have HV:ae (rE w x t d j y n HJ FL I lv ((0,bytesA (tAt m.v p).a),m) (.returned (.tuple #[.slice A2 k2 c2,.int .i64 0])) w2):=⟨EP h1 h2 (by rw[HO.out];exact h3) (H1.out.below bb) (FP1.out.trans (bf bb)) (fun g o e=>⟨by have:=hnw g o e;have:=FP1.out.1.size;omega,fun hm=>by have:=hnw g o e;have:=H1.out.all g hm;omega⟩)⟩
     clear KE2 h1 h2 h3 bb hnw y0 y2 y3 y4 y5
     go_wp2
     go_ret2
     exact HV.out
    ·have e:=(wM (clock:=clock) (b:=b) (de:=de) (X:=X) HD0.out HP.out (fun k=>c2 k.1) (.inl (by rw[HO.out,HOS.out];omega))).symm.trans HRR.out
     subst e
     have HV:=ae.mk (nG (k:=5) H1.out FP1.out)
     subst c1
     clear HRR
     go_wp2
     go_ret2
     exact HV.out
   ·have N3:ae (¬ (0 < seq∧seq=(tAt m.v p).seq)):=⟨fun k=>c1 (by rw[k.2,HO.out,HOS.out])⟩
    by_cases c2:seq=os+1
    ·subst c2
     by_cases c3:4294967295 < os+1
     ·have e:=(wM (clock:=clock) (b:=b) (de:=de) (X:=X) HD0.out HP.out N3.out (.inr c3)).symm.trans HRR.out
      subst e
      have HV:=ae.mk (nG (k:=5) H1.out FP1.out)
      clear HRR
      go_wp2
      go_ret2
      exact HV.out
     ·have N4:ae (¬ (os+1≠(tAt m.v p).seq+1∨4294967295 < os+1)):=⟨fun k=>by
       rw[HO.out,HOS.out] at k
       rcases k with k|k
       ·exact k rfl
       ·exact c3 k⟩
      have HSQ:ae (1≤os+1∧os+1≤4294967295):=⟨by omega,by omega⟩
      have KD:=ae.mk (HDEC.out _ _ _ c (RD.out.below B1.out) (by omega))
      unfold qY at KD
      clear XB EL
      go_wp2_with fail
      refine KD.out.mono ?_
      rintro e w2 ⟨e2,seen,PA,k2,c2',rs,rfl,h1,h2,h3,h4,h5,bb,hnew⟩
      obtain⟨rfl,hX⟩:=HD.out.one h5
      have HX:=ae.mk hX
      have H2:=ae.mk (H1.out.below bb)
      have FP2:=ae.mk (FP1.out.trans (bf bb))
      have RD2:=ae.mk ((RD.out.below B1.out).below bb)
      have B2:=ae.mk (B1.out.trans (bb.mono B1.out.size))
      have RR2:=ae.mk h3
      have HOK:=ae.mk h4
      have HC:=ae.mk (And.intro h1 h2)
      have OF2:=ae.mk (Ie (B:=w.heap.size) h3 (fun k o e=>Nat.le_trans B1.out.size (hnew k o e)) H.out.all)
      clear KD h1 h2 h3 h4 h5 bb hnew y0 H1 FP1 B1 hX RD
      have b3:Below w2.heap.size w2 (w2.alloc (.cells #[.int .i64 seen,.slice PA k2 c2'] 72)):=(Below.refl _ _).alloc (Nat.le_refl _) _
      obtain⟨NB,hNB⟩:∃ NB,w2.heap.size=NB:=⟨_,rfl⟩
      have YB:ae (Blk (w2.alloc (.cells #[.int .i64 seen,.slice PA k2 c2'] 72)) NB 72 #[.int .i64 seen,.slice PA k2 c2']):=⟨Blk.new_at w2 _ _ NB hNB.symm⟩
      have NBX:ae (NB∉vf x HJ FL I lv):=⟨fun hm=>by have h1:=H.out.all NB hm;have h2:=B2.out.size;omega⟩
      go_upto_region 11 with(fail)
      replace H2:=ae.mk (H2.out.below b3)
      replace FP2:=ae.mk (FP2.out.trans (bf b3))
      replace RD2:=ae.mk (RD2.out.below b3)
      replace RR2:=ae.mk (RR2.out.below b3)
      clear b3 hNB B2
      generalize w2.alloc (.cells #[.int .i64 seen,.slice PA k2 c2'] 72)=w3 at *
      by_cases c4:de=0
      ·have KT:=ae.mk (Um clock H2.out)
       have HATV:=ae.mk (Ez HW.out.wl clock).1
       unfold nP at KT
       subst c4
       obtain rfl:=HX.out
       have OKX:ae (OkX ⟨seen,rs⟩):=⟨by
        rcases HD.out with⟨-,h⟩|⟨h,-,-⟩
        ·exact ED h HOK.out
        ·exact absurd h (by decide)⟩
       go_wp2_with fail
       refine KT.out.mono ?_
       rintro e w4 ⟨rfl,bb⟩
       have H4:=ae.mk (H2.out.below bb)
       have FP4:=ae.mk (FP2.out.trans (bf bb))
       have RD4:=ae.mk (RD2.out.below bb)
       have RR4:=ae.mk (RR2.out.below bb)
       have YB4:=ae.mk (YB.out.below bb YB.out.lt)
       obtain⟨r,hr⟩:∃ r,storeJ m.s m.j (pictV m.v) (recV p (os+1) (atV m.v.l clock) b)=r:=⟨_,rfl⟩
       have KS:=HST.out p _ _ _ c H4.out RD4.out (by have:=HW.out.np16;have:=HP.out;omega) ⟨by have:=HSQ.out;omega,HSQ.out.2⟩ HATV.out hn
       have KDO:=ae.mk (HDO.out p)
       rw[hr] at KS
       have KS2:=ae.mk KS
       have E6:=ae.mk ((QT (X:=⟨seen,rs⟩) HD0.out HP.out N3.out N4.out (by simp) hr).symm.trans HRR.out)
       unfold dV at KS2
       obtain⟨cl,hcl⟩:∃ cl,atV m.v.l clock=cl:=⟨_,rfl⟩
       have HEP:=ae.mk (HENC.out p).2
       rw[hcl] at KS2 E6 HATV KDO HEP ⊢
       clear KT bb H2 FP2 RD2 RR2 YB KS hr hcl HRR N3 N4 HD0
       go_wp2_with fail
       refine KS2.out.mono ?_
       rintro e w5 ⟨rfl,HJ5,hv,fp⟩
       have OF5:=ae.mk (BG RR4.out Sj OF2.out fp)
       have RR5:=ae.mk (Bq RR4.out OF2.out fp.1)
       have YB5:=ae.mk (YB4.out.bar fp.1 NBX.out)
       have NB5:=ae.mk (Ledger.oZ NBX.out YB4.out.lt fp)
       have FP5:=ae.mk (FP4.out.trans fp)
       obtain⟨e5,s5,j5⟩:=r
       dsimp only at hv E6 ⊢
       have V5:=ae.mk hv
       clear KS2 hv fp H4 FP4 RD4 RR4 YB4 OF2 NBX
       by_cases c5:e5=0
       ·subst c5
        have E7:=E6.out
        rw[if_pos rfl] at E7
        subst E7
        have KD:=ae.mk (KDO.out _ _ _ _ _ _ _ _ V5.out HP.out RR5.out OF5.out HOK.out (by have h1:rs.length≤64:=OKX.out.len;have h2:rs.length=k2:=RR5.out.1;omega) HC.out.1 HC.out.2)
        unfold wK at KD
        have z0:=YB5.out.cell 0;have z1:=YB5.out.cell 1
        clear E6
        go_wp2_with fail
        refine KD.out.mono ?_
        rintro e w6 ⟨rfl,FL6,I6,⟨l6,hv⟩,fp⟩
        have FP6:=ae.mk (FP5.out.trans fp)
        have WV6:=ae.mk (SH (p:=p) (seq:=os+1) (at_:=cl) HW.out OKX.out HSQ.out)
        obtain⟨v7,fp7⟩:=hv.put_served (m.served+1)
        have V7:=ae.mk v7
        have FP7:=ae.mk (FP6.out.trans fp7)
        have x4:=hv.c4
        have f4:=hv.blk.frozen 4
        have hs0:=HSV.out.1;have hs1:=HSV.out.2
        clear KD z0 z1 fp fp7 v7 hv V5 FP5 FP6 YB5 NB5 RR5 OF5
        go_upto_region 19 with(fail)
        clear x4 f4 hs0 hs1
        generalize w6.setCell ⟨x,4,none⟩ (.int .i64 (m.served+1))=w7 at *
        have hl7:(doV m.v p (os+1) cl ⟨seen,rs⟩).t.length=m.v.t.length:=by simp[doV]
        obtain⟨g2,go2,q2,hA2,-,el,hcell⟩:=V7.out.cells (Below.refl _ _) (k:=p) (A:=some ⟨g,go,none⟩) (c:=lc) (by show p < (doV m.v p (os+1) cl ⟨seen,rs⟩).t.length;rw[hl7];exact HP.out) (by show lv=.slice _ (doV m.v p (os+1) cl ⟨seen,rs⟩).t.length _;rw[hl7];exact HLV.out)
        injection hA2 with hA2
        injection hA2 with e1 e2 _
        subst e1 e2
        dsimp only at el hcell
        rw[S9 HP.out] at el hcell
        have wt:=WV6.out.each _ (CU (p:=p) (by rw[hl7];exact HP.out))
        rw[S9 HP.out] at wt
        dsimp only at el hcell wt
        obtain⟨AA,hAA⟩:∃ AA,(Ledger.applyL m.v.l p cl ⟨seen,rs⟩).1=AA:=⟨_,rfl⟩
        rw[hAA] at el hcell wt
        have HAA:=ae.mk hAA
        have x2:w7.cell? ⟨x,2,none⟩=some (.slice (some ⟨g,go,none⟩) np lc):=by
         have:=V7.out.blk.cell 2
         rw[HLV.out,HNP.out] at this
         exact this
        have y2:w7.cell? ⟨g,go+p * 6+2,none⟩=some (.int .i64 AA.clock):=hcell 2 _ rfl;have y3:w7.cell? ⟨g,go+p * 6+3,none⟩=some (.int .i64 AA.seen):=hcell 3 _ rfl;have y4:w7.cell? ⟨g,go+p * 6+4,none⟩=some (.slice q2.A q2.n q2.c):=hcell 4 _ rfl;have y5:w7.cell? ⟨g,go+p * 6+5,none⟩=some (.slice q2.D q2.m q2.d):=hcell 5 _ rfl
        have KE:=(HAA.out▸HEP.out:EncC AA) _ _ _ q2.c _ _ q2.d el.rp el.rv (wt.vok WV6.out.wl)
        have hEA:encA ⟨AA.clock,AA.seen,AA.p,AA.v⟩=(0,bytesA AA):=oO (wt.okA WV6.out.wl)
        rw[hEA] at KE
        unfold oK at KE
        have KE2:=ae.mk KE
        clear KE hEA wt el hcell hl7 hAA WV6 HX
        go_wp2_with fail
        refine KE2.out.mono ?_
        rintro e w8 ⟨A8,k8,c8,rfl,h1,h2,h3,bb,hnw⟩
        have HV:ae (rE w x t d j y n HJ FL I lv ((0,bytesA (Ledger.applyL m.v.l p cl ⟨seen,rs⟩).1),⟨s5,j5,doV m.v p (os+1) cl ⟨seen,rs⟩,false,m.served+1⟩) (.returned (.tuple #[.slice A8 k8 c8,.int .i64 0])) w8):=⟨EP h1 h2 (by rw[HAA.out];exact h3) (V7.out.below bb) (FP7.out.trans (bf bb)) (fun g o e=>⟨by have:=hnw g o e;have:=FP7.out.1.size;omega,fun hm=>by have:=hnw g o e;have:=V7.out.all g hm;omega⟩)⟩
        clear KE2 h1 h2 h3 bb hnw y2 y3 y4 y5 x2
        go_wp2
        go_ret2
        exact HV.out
       ·have E7:=E6.out
        rw[if_neg c5] at E7
        subst E7
        have HV:ae (rE w x t d j y n HJ FL I lv ((e5,[]),⟨s5,j5,m.v,decide (e5=13),m.served⟩) (.returned (.tuple #[.slice none 0 0,.int .i64 e5])) w5):=⟨none,0,0,rfl,Nat.le_refl _,by omega,⟨rfl,(by intro q hq;cases hq),.inl rfl⟩,HJ5,FL,I,⟨l,V5.out⟩,FP5.out,fun g o e=>by cases e⟩
        clear E6
        go_wp2
        go_ret2
        exact HV.out
      ·have e:=(QS (clock:=clock) (b:=b) (de:=de) (X:=X) HD0.out HP.out N3.out N4.out c4).symm.trans HRR.out
       subst e
       have HV:=ae.mk (nG (k:=de) H2.out FP2.out)
       clear HRR
       go_wp2
       go_ret2
       exact HV.out
    ·have e:=(wM (clock:=clock) (b:=b) (de:=de) (X:=X) HD0.out HP.out N3.out (.inl (by rw[HO.out,HOS.out];exact c2))).symm.trans HRR.out
     subst e
     have HV:=ae.mk (nG (k:=5) H1.out FP1.out)
     clear HRR
     go_wp2
     go_ret2
     exact HV.out
  ·have e:=(QQ (seq:=seq) (clock:=clock) (b:=b) (de:=de) (X:=X) HD0.out h0).symm.trans HRR.out
   subst e
   have HV:=ae.mk (nG (k:=14) H.out (Fp.refl _ _))
   unfold isV at KP
   rw[decide_eq_false h0] at KP
   clear HRR h0
   go_enter Tryz.func96,Tryz.ntmps96
   go_wp2_with fail
   refine KP.out.mono ?_
   rintro e w1 ⟨rfl,rfl⟩
   clear KP
   go_wp2
   go_ret2
   exact HV.out
end
def VQ (b:Nat) (K:List Nat) (w:World) (x t d n:Nat) (m:MV):Prop:=∃ j y HJ FL I lv,(∃ l,Vp w x t d j y n HJ FL I lv l m)∧∀ z∈vf x HJ FL I lv,b≤z∧z∉K
def Far (b:Nat) (K:List Nat) (w w':World):Prop:=∃ F,Bar F w w'∧∀ z∈F,b≤z∧z∉K
section
variable {b : Nat} {K K' H : List Nat} {w w' w2 : World} {x t d n k : Nat} {m : MV} {s0 : Ledger.LS} {party seq clock de : Int} {bs : List Int} {X : BV} {s : DS}
theorem VQ.below (h:VQ b K w x t d n m) (bb:Below w.heap.size w w'):VQ b K w' x t d n m:=by
 obtain⟨j,y,HJ,FL,I,lv,⟨l,h1⟩,h2⟩:=h
 exact⟨j,y,HJ,FL,I,lv,⟨l,h1.below bb⟩,h2⟩
theorem VQ.more (h:VQ b K w x t d n m) (hk:∀ z∈K',w.heap.size≤z∨z∈K):VQ b K' w x t d n m:=by
 obtain⟨j,y,HJ,FL,I,lv,⟨l,h1⟩,h2⟩:=h
 refine⟨j,y,HJ,FL,I,lv,⟨l,h1⟩,fun z hz=>⟨(h2 z hz).1,fun hm=>?_⟩⟩
 rcases hk z hm with e|e
 ·have:=h1.all z hz;omega
 ·exact(h2 z hz).2 e
theorem VQ.size (h:VQ b K w x t d n m):b≤w.heap.size:=by
 obtain⟨j,y,HJ,FL,I,lv,⟨l,h1⟩,h2⟩:=h
 have e:x∈vf x HJ FL I lv:=vf_mem.2 (.inl rfl)
 have:=h1.all x e;have:=(h2 x e).1;omega
theorem Far.of (bb:Below w.heap.size w w'):Far b K w w':=⟨[],barOf bb [],by simp⟩
theorem Far.trans (h:Far b K w w') (h2:Far b K w' w2):Far b K w w2:=by
 obtain⟨F,h1,h3⟩:=h
 obtain⟨G,k1,k3⟩:=h2
 exact⟨F++G,(h1.mono (fun z hz=>.inl (List.mem_append_left _ hz))).trans (k1.mono (fun z hz=>.inl (List.mem_append_right _ hz))) (fun z hz=>.inl hz),fun z hz=>by
  rcases List.mem_append.1 hz with e|e
  ·exact h3 z e
  ·exact k3 z e⟩
theorem Far.below (h:Far b K w w') (hb:b≤w.heap.size):Below b w w':=by
 obtain⟨F,h1,h3⟩:=h
 exact h1.below hb (fun z hz=>(h3 z hz).1)
theorem Far.blk (h:Far b K w w') {z:Nat}{T:TypeId}{cs:Array Value}(hb:Blk w z T cs) (hz:z∈K∨z < b):Blk w' z T cs:=by
 obtain⟨F,h1,h3⟩:=h
 exact hb.bar h1 (fun hm=>by
  rcases hz with e|e
  ·exact(h3 z hm).2 e
  ·have:=(h3 z hm).1;omega)
theorem Far.rd (h:Far b K w w') {A:Option Addr}{l:Nat}{xs:List Int}(r:Rd w A l xs) (hA:In A l K):Rd w' A l xs:=by
 obtain⟨F,h1,h3⟩:=h
 exact r.far h1 (by
  rcases hA with e|⟨g,o,e,hg⟩
  ·exact .inl e
  ·exact .inr ⟨g,o,e,fun hm=>(h3 g hm).2 hg⟩)
theorem VQ.off (h:VQ b K w x t d n m) {A:Option Addr}{l:Nat}(hA:In A l K):∃ j y HJ FL I lv,(∃ l,Vp w x t d j y n HJ FL I lv l m)∧(∀ z∈vf x HJ FL I lv,b≤z∧z∉K)∧Off A l (vf x HJ FL I lv):=by
 obtain⟨j,y,HJ,FL,I,lv,h1,h2⟩:=h
 refine⟨j,y,HJ,FL,I,lv,h1,h2,?_⟩
 rcases hA with e|⟨g,o,e,hg⟩
 ·exact .inl e
 ·exact .inr ⟨g,o,e,fun hm=>(h2 g hm).2 hg⟩
def wO (b:Nat) (K:List Nat) (w:World) (x t d n:Nat) (r:(Int × List Int) × MV) (e:Ending) (w':World):Prop :=
 ∃ A l c,e=.returned (.tuple #[.slice A l c,.int .i64 r.1.1])∧l≤c∧c≤9223372036854775807∧Rd w' A l r.1.2∧Far b K w w'∧∃ g,VQ b (g :: K) w' x t d n r.2∧In A l [g]∧(w.heap.size≤g∨g∈K∨l=0)
theorem XZ {A:Option Addr}{bn c:Nat}(hcall:∀ (j y:Nat) (HJ FL I:List Nat) (lv:Value) (l:List (TV × LM)),Vp w x t d j y n HJ FL I lv l m→Off A bn (vf x HJ FL I lv)→Calls Tryz.prog 96 #[.pointer (some ⟨x,0,none⟩),.int .i64 party,.int .i64 seq,.int .i64 clock,.slice A bn c] w (rE w x t d j y n HJ FL I lv (handleM m party seq clock bs de X))) (h:VQ b K w x t d n m) (hK:∀ z∈K,z < w.heap.size) (hA:In A bn K) :
  Calls Tryz.prog 96 #[.pointer (some ⟨x,0,none⟩),.int .i64 party,.int .i64 seq,.int .i64 clock,.slice A bn c] w (wO b K w x t d n (handleM m party seq clock bs de X)):=by
 have hb:=h.size
 obtain⟨j,y,HJ,FL,I,lv,⟨l,h1⟩,h2,off⟩:=h.off hA
 refine(hcall j y HJ FL I lv l h1 off).mono ?_
 rintro e w' ⟨A',k',c',rfl,hc,hm,rd,HJ',FL',I',⟨l',v'⟩,fp,hnew⟩
 have hv':∀ z∈vf x HJ' FL' I' lv,b≤z∧z∉K:=fun z hz=>by
  rcases fp.2 z hz with e|e
  ·exact h2 z e
  ·exact⟨by omega,fun hm=>by have:=hK z hm;omega⟩
 have far:Far b K w w':=⟨_,fp.1,h2⟩
 rcases rd.2.2 with h0|⟨g,o,rfl,-⟩
 ·refine⟨A',k',c',rfl,hc,hm,rd,far,w'.heap.size,⟨j,y,HJ',FL',I',lv,⟨l',v'⟩,fun z hz=>⟨(hv' z hz).1,fun hm=>?_⟩⟩,.inl h0,.inr (.inr h0)⟩
  rcases List.mem_cons.1 hm with e|e
  ·have:=v'.all z hz;omega
  ·exact(hv' z hz).2 e
 ·have hn:=hnew g o rfl
  refine⟨_,k',c',rfl,hc,hm,rd,far,g,⟨j,y,HJ',FL',I',lv,⟨l',v'⟩,fun z hz=>⟨(hv' z hz).1,fun hm=>?_⟩⟩,.inr ⟨g,o,rfl,by simp⟩,.inl hn.1⟩
  rcases List.mem_cons.1 hm with e|e
  ·exact hn.2 (e▸hz)
  ·exact(hv' z hz).2 e
theorem bH (h:Far b K w w'):w.heap.size≤w'.heap.size:=by
 obtain⟨F,h1,-⟩:=h
 exact h1.size
def Dc (b:Nat) (K:List Nat) (w:World) (t d n:Nat) (m:MV) (e:Ending) (w':World):Prop :=
 ∃ x,e=.returned (.tuple #[.pointer (some ⟨x,0,none⟩),.int .i64 0])∧VQ b K w' x t d n m∧Far b K w w'
theorem Nh {A:Option Addr}{c:Nat}{Y:Nat→List Int}{cap:Int}(sd:Journal.Sd w H t d n s) (hH:∀ z∈H,b≤z∧z∉K) (hK:∀ z∈K,z < w.heap.size) (hb:b≤w.heap.size) (hr:Rwi w A k Y) (hok:Ledger.bU k Y cap) (hneed:needV k Y cap≤(n:Int)) (hh:(Journal.openJ s).has=false) (hrec:(Journal.openJ s).recs=[]) :
  Calls Tryz.prog 21 #[.pointer (some ⟨t,0,none⟩),.agg #[.slice A k c,.int .i64 cap],.pointer (some ⟨d,0,none⟩)] w (Dc b K w t d n ⟨s,Journal.openJ s,newV (Ledger.newL k Y cap) k,false,0⟩):=by
 refine(MJ (c:=c) sd hr hok hneed hh hrec).mono ?_
 rintro e w' ⟨x,rfl,j,y,HJ,FL,I,lv,v,fp⟩
 refine⟨x,rfl,⟨j,y,HJ,FL,I,lv,v,fun z hz=>?_⟩,_,fp.1,hH⟩
 rcases fp.2 z hz with e|e
 ·exact hH z e
 ·exact⟨by omega,fun hm=>by have:=hK z hm;omega⟩
end
section
variable {b : Nat} {K : List Nat} {w w' : World} {HJ FL I : List Nat} {x t d j y n : Nat} {lv : Value} {l : List (TV × LM)} {m : MV}
theorem Vp.tab (h:Vp w x t d j y n HJ FL I lv l m) (bb:Bar [t] w w') (ht:Tab w' t):Vp w' x t d j y n HJ FL I lv l m:=by
 have tJ:=h.tJ
 have tF:∀ k∈FL,k∉[t]:=fun k hk hm=>by rw[List.mem_singleton] at hm;exact h.LJ k hk (hm▸tJ)
 have k:=(h.apply (h.lk.keep bb tF ht) (bb.mono (fun z hz=>.inl (by rw[List.mem_singleton] at hz;rw[hz];exact List.mem_cons_self ..))) (fun k hk=>.inl hk)).1
 exact k
theorem VQ.tab (h:VQ b K w x t d n m) (bb:Bar [t] w w') (ht:Tab w' t):VQ b K w' x t d n m:=by
 obtain⟨j,y,HJ,FL,I,lv,⟨l,h1⟩,h2⟩:=h
 exact⟨j,y,HJ,FL,I,lv,⟨l,h1.tab bb ht⟩,h2⟩
theorem VQ.has_tab (h:VQ b K w x t d n m):Tab w t∧b≤t∧t∉K∧b≤x∧x∉K:=by
 obtain⟨j,y,HJ,FL,I,lv,⟨l,h1⟩,h2⟩:=h
 have ht:=h2 t (vf_mem.2 (.inr (.inr (.inl h1.tJ))))
 have hx:=h2 x (vf_mem.2 (.inl rfl))
 exact⟨MI h1.sy,ht.1,ht.2,hx.1,hx.2⟩
theorem Far.tab (h:VQ b K w x t d n m) (bb:Bar [t] w w'):Far b K w w' :=
 ⟨[t],bb,fun z hz=>by rw[List.mem_singleton] at hz;rw[hz];exact⟨h.has_tab.2.1,h.has_tab.2.2.1⟩⟩
theorem VQ.own (h:VQ b K w x t d n m) {F:List Nat}(bb:Bar F w w') (hF:∀ z∈F,z∈K):VQ b K w' x t d n m:=by
 obtain⟨j,y,HJ,FL,I,lv,⟨l,h1⟩,h2⟩:=h
 have hd:∀ z∈vf x HJ FL I lv,z∉F:=fun z hz hm=>(h2 z hz).2 (hF z hm)
 exact⟨j,y,HJ,FL,I,lv,⟨l,h1.keep bb hd⟩,h2⟩
end
end Vault
namespace Gate
open Go.RowKit Sha Wire Mac Seal Vault Meter
structure GS where
 g:Nat
 t:Nat
 x:Nat
 d:Nat
 n:Nat
 mb:Nat
 k:Nat
 which:Int
 seed:List Int
structure Gp (b:Nat) (K:List Nat) (w:World) (S:GS) (A:Option Addr) (l c r:Nat) (m:MV) (cs:List Int):Prop where
 blk:Blk w S.g 129 #[.pointer (some ⟨S.t,0,none⟩),.int .i64 S.which,.slice A l c,.pointer (some ⟨S.x,0,none⟩),.pointer (some ⟨S.mb,0,none⟩),.int .i64 S.k]
 rd:Rd w A l S.seed
 lc:l≤c∧c≤9223372036854775807∧l≤1000000
 inA:In A l K
 off:Off A l [S.mb]
 c8:cs.length=8
 mblk:Blk w S.mb 109 #[.pointer (some ⟨r,0,none⟩)]
 rblk:Blk w r 112 (arr .i64 cs)
 gK:S.g∈K
 mK:S.mb∈K
 rK:r∈K
 bm:b≤S.mb
 vq:VQ b K w S.x S.t S.d S.n m
def GQ (b:Nat) (K:List Nat) (w:World) (S:GS) (m:MV) (cs:List Int):Prop:=∃ A l c r,Gp b K w S A l c r m cs
def Tar (b:Nat) (K:List Nat) (mb:Nat) (w w':World):Prop:=∃ F,Bar F w w'∧∀ z∈F,b≤z∧(z∈K→z=mb)
section
variable {b : Nat} {K K' K1 : List Nat} {w w' w2 : World} {S : GS} {A B : Option Addr} {l l2 c r mb : Nat} {m m' : MV} {cs cs' : List Int} {xs : List Int}
theorem Tar.refl (b:Nat) (K:List Nat) (mb:Nat) (w:World):Tar b K mb w w:=⟨[],Bar.refl _ _,by simp⟩
theorem Tar.of (h:Far b K w w'):Tar b K mb w w':=by
 obtain⟨F,h1,h2⟩:=h
 exact⟨F,h1,fun z hz=>⟨(h2 z hz).1,fun hk=>absurd hk (h2 z hz).2⟩⟩
theorem Tar.new (h:Below w.heap.size w w'):Tar b K mb w w':=⟨[],barOf h [],by simp⟩
theorem Tar.own (h:Bar [mb] w w') (hb:b≤mb):Tar b K mb w w':=⟨[mb],h,fun z hz=>by rw[List.mem_singleton] at hz;exact⟨by omega,fun _=>hz⟩⟩
theorem Tar.trans (h:Tar b K mb w w') (h2:Tar b K' mb w' w2) (hs:∀ z∈K,z∈K'):Tar b K mb w w2:=by
 obtain⟨F,h1,h3⟩:=h
 obtain⟨G,k1,k3⟩:=h2
 exact⟨F++G,(h1.mono (fun z hz=>.inl (List.mem_append_left _ hz))).trans (k1.mono (fun z hz=>.inl (List.mem_append_right _ hz))) (fun z hz=>.inl hz),fun z hz=>by
  rcases List.mem_append.1 hz with e|e
  ·exact h3 z e
  ·exact⟨(k3 z e).1,fun hk=>(k3 z e).2 (hs z hk)⟩⟩
theorem Tar.below (h:Tar b K mb w w') (hb:b≤w.heap.size):Below b w w':=by
 obtain⟨F,h1,h3⟩:=h
 exact h1.below hb (fun z hz=>(h3 z hz).1)
theorem Tar.size (h:Tar b K mb w w'):w.heap.size≤w'.heap.size:=by
 obtain⟨F,h1,h3⟩:=h
 exact h1.size
theorem Tar.rd (h:Tar b K mb w w') (hr:Rd w A l xs) (hA:In A l K1) (hs:∀ z∈K1,z∈K) (hm:mb∉K1):Rd w' A l xs:=by
 obtain⟨F,h1,h3⟩:=h
 refine hr.far h1 ?_
 rcases hA with e|⟨g,o,e,hg⟩
 ·exact .inl e
 ·exact .inr ⟨g,o,e,fun hf=>hm ((h3 g hf).2 (hs g hg)▸hg)⟩
theorem Gp.below (h:Gp b K w S A l c r m cs) (bb:Below w.heap.size w w'):Gp b K w' S A l c r m cs :=
 ⟨h.blk.below bb h.blk.lt,h.rd.below bb,h.lc,h.inA,h.off,h.c8,h.mblk.below bb h.mblk.lt,h.rblk.below bb h.rblk.lt,h.gK,h.mK,h.rK,h.bm,h.vq.below bb⟩
theorem Gp.far (h:Gp b K w S A l c r m cs) (f:Far b K w w') (v:VQ b K' w' S.x S.t S.d S.n m') (hs:∀ z∈K,z∈K'):Gp b K' w' S A l c r m' cs :=
 ⟨f.blk h.blk (.inl h.gK),f.rd h.rd h.inA,h.lc,h.inA.mono hs,h.off,h.c8,f.blk h.mblk (.inl h.mK),f.blk h.rblk (.inl h.rK),hs _ h.gK,hs _ h.mK,hs _ h.rK,h.bm,v⟩
theorem Gp.tab (h:Gp b K w S A l c r m cs) (bb:Bar [S.t] w w') (ht:Tab w' S.t):Gp b K w' S A l c r m cs:=h.far (Far.tab h.vq bb) (h.vq.tab bb ht) (fun _ hz=>hz)
theorem Gp.more (h:Gp b K w S A l c r m cs) (hs:∀ z∈K,z∈K') (hk:∀ z∈K',w.heap.size≤z∨z∈K):Gp b K' w S A l c r m cs :=
 ⟨h.blk,h.rd,h.lc,h.inA.mono hs,h.off,h.c8,h.mblk,h.rblk,hs _ h.gK,hs _ h.mK,hs _ h.rK,h.bm,h.vq.more hk⟩
theorem Gp.less (h:Gp b K' w S A l c r m cs) (h0:Gp b K w2 S A l c r m' cs') (hs:∀ z∈K,z∈K1) (h1:∀ z∈K1,z∈K'):Gp b K1 w S A l c r m cs :=
 ⟨h.blk,h.rd,h.lc,h0.inA.mono hs,h.off,h.c8,h.mblk,h.rblk,hs _ h0.gK,hs _ h0.mK,hs _ h0.rK,h.bm,h.vq.more (fun z hz=>.inr (h1 z hz))⟩
theorem Gp.count (h:Gp b K w S A l c r m cs) (bb:Bar [S.mb] w w') (hm:Mr w' S.mb cs' w.heap.size):∃ r',w.heap.size≤r'∧Gp b (r' :: K) w' S A l c r' m cs':=by
 obtain⟨h8,r',h1,h2,h3⟩:=hm
 have hs:∀ z∈K,z∈r' :: K:=fun z hz=>List.mem_cons_of_mem _ hz
 have hgm:S.g∉[S.mb]:=by
  rw[List.mem_singleton]
  exact iP h.blk h.mblk (by decide)
 refine⟨r',h1,h.blk.bar bb hgm,h.rd.far bb h.off,h.lc,h.inA.mono hs,h.off,h8,h2,h3,hs _ h.gK,hs _ h.mK,List.mem_cons_self ..,h.bm,?_⟩
 refine(h.vq.more (K':=r' :: K) (fun z hz=>?_)).own bb (fun z hz=>?_)
 ·rcases List.mem_cons.1 hz with e|e
  ·exact .inl (by omega)
  ·exact .inr e
 ·rw[List.mem_singleton] at hz
  rw[hz];exact hs _ h.mK
theorem Gp.me (h:Gp b K w S A l c r m cs):Me w S.mb cs:=⟨h.c8,r,h.mblk,h.rblk⟩
theorem Gp.tabs (h:Gp b K w S A l c r m cs):Tab w S.t:=h.vq.has_tab.1
theorem Gp.c0 (h:Gp b K w S A l c r m cs):w.cell? ⟨S.g,0,none⟩=some (.pointer (some ⟨S.t,0,none⟩)):=h.blk.cell 0
theorem Gp.c1 (h:Gp b K w S A l c r m cs):w.cell? ⟨S.g,1,none⟩=some (.int .i64 S.which):=h.blk.cell 1
theorem Gp.c2 (h:Gp b K w S A l c r m cs):w.cell? ⟨S.g,2,none⟩=some (.slice A l c):=h.blk.cell 2
theorem Gp.c3 (h:Gp b K w S A l c r m cs):w.cell? ⟨S.g,3,none⟩=some (.pointer (some ⟨S.x,0,none⟩)):=h.blk.cell 3
theorem Gp.c4 (h:Gp b K w S A l c r m cs):w.cell? ⟨S.g,4,none⟩=some (.pointer (some ⟨S.mb,0,none⟩)):=h.blk.cell 4
theorem Gp.c5 (h:Gp b K w S A l c r m cs):w.cell? ⟨S.g,5,none⟩=some (.int .i64 S.k):=h.blk.cell 5
end
theorem rF {w w0:World}{A:Option Addr}{n:Nat}{xs:List Int}(r:Rd w A n xs) (h:NewA w0 A):∃ F,In A n F∧∀ k∈F,w0.heap.size≤k∧k < w.heap.size:=DU r (fun F hF=>by
 by_cases h0:n=0
 ·exact .inl h0
 ·obtain⟨b,o,rfl,-⟩:=r.2.2.resolve_left h0
  exact .inr ⟨b,o,rfl,fun hm=>by have:=hF b hm;have:=h b o rfl;omega⟩)
/-! what the note b comes to -/
def Xl:NV:=⟨0,0,0,0,[]⟩
def rG (which:Int) (seed:List Int) (n:NV) (ans:List Int):NV:=⟨n.party,n.which,1,n.seq,ans++rcpV (stampV seed which) n.party which n.seq.toNat ans⟩
def gtellV (which:Int) (seed:List Int) (n:NV) (ans:List Int):Int × List Int:=sealN (keyV seed n.party which) (rG which seed n ans)
def zF (cs:List Int) (i:Int):List Int:=setC cs i (r64 (getC cs i+1))
end Gate
namespace Gate
open Go.RowKit Num Sha Purse Escrow Wire Req Disk Go.Proofs.YtlkeieoecfkkeaaGreat.Frame Vault Ledger
theorem Ih {s:LS}(W:WL s) (party:Int):applyL s party 0 ⟨0,[ik]⟩=(⟨s.clock,(s.e.length:Nat),[⟨if isP s.b.p party=true then 8 else 1,0⟩],oJ s 0⟩,s):=by
 have hc:clockL s 0=s:=by
  unfold clockL
  rw[if_neg]
  rintro ⟨-,h⟩
  have:=W.clock
  unfold Tck at this
  omega
 unfold applyL
 rw[hc]
 simp only[List.take_succ_cons,List.take_nil,manyL,Eg W]
def Ii:Array Value:=#[.int .i64 4,.int .i64 0,.int .i64 0,.int .i64 0,.int .i64 400,.int .i64 0,.string ⟨#[]⟩,.string ⟨#[]⟩]
section
variable {b : Nat} {Z : List Nat} {w : World} {x t d n : Nat} {m : MV}
def ApN (b:Nat) (Z:List Nat) (w0:World) (x t d n:Nat) (m:MV) (party:Int) (e:Ending) (w':World):Prop :=
 ∃ c1 c2 A c D m2 d2,e=.returned (.agg #[.int .i64 c1,.int .i64 c2,.slice A 1 c,.slice D m2 d2])∧Rp w' A 1 [⟨if isP m.v.l.b.p party=true then 8 else 1,0⟩]∧NewA w0 A∧VQ b Z w' x t d n m∧Far b Z w0 w'
theorem Vb {Z':List Nat}{w':World}{g y:Nat}{FL HJ I:List Nat}{j:Nat}{lv:Value}{l:List (TV × LM)}(vp:Vp w x t d j y n HJ FL I lv l m) (hv:∀ z∈vf x HJ FL I lv,b≤z∧z∉Z) (hb:b≤w.heap.size) (W:WL m.v.l) (WI_:WI m.v.l) (party:Int)
  (bb:Below w.heap.size w w') (hg:Blk w' g 164 Ii) (hgn:w.heap.size≤g) (hZ:∀ z∈Z',z < w'.heap.size∧(z∈Z∨w.heap.size≤z)):Calls Tryz.prog 132 #[.pointer (some ⟨y,0,none⟩),.int .i64 party,.int .i64 0,.agg #[.int .i64 0,.slice (some ⟨g,0,none⟩) 1 1]] w' (ApN b Z' w' x t d n m party):=by
 have vp':=vp.below bb
 have hall:=vp.all
 have hr:Rr w' (some ⟨g,0,none⟩) 1 [ik]:=⟨rfl,.inr ⟨g,0,rfl,fun k y hk i u hu=>by
  match k,hk with
  | 0,hk =>
   injection hk with hk
   subst hk
   rw[show 0+0 * 8+i=i by omega,hg.cell i]
   rw[show Ii=(rvC ik).toArray from rfl,List.getElem?_toArray]
   exact hu
  | k+1,hk=>simp at hk⟩⟩
 have hoff:Off (some ⟨g,0,none⟩) 1 (t :: FL):=.inr ⟨g,0,rfl,fun hm=>by
  rcases List.mem_cons.1 hm with e|e
  ·have:=hall t (vf_mem.2 (.inr (.inr (.inl vp.tJ))));omega
  ·have:=hall g (vf_mem.2 (.inr (.inr (.inr (.inl e)))));omega⟩
 have hv':∀ z∈vf x HJ FL I lv,b≤z∧z∉Z':=fun z hz=>⟨(hv z hz).1,fun hm=>by
  rcases(hZ z hm).2 with e|e
  ·exact(hv z hz).2 e
  ·have:=hall z hz;omega⟩
 refine(yA party 0 0 (JR party) vp'.lk W WI_ hr hoff (fun r hr=>by rw[List.mem_singleton] at hr;rw[hr];exact JQ) (by omega) (by omega) (by omega)).mono ?_
 rw[Ih W]
 rintro e w2 ⟨F',A,k,c,D,m2,d2,rfl,h1,h2,h3,h4,hp,hv2,hA,hD,lk,bar,hF⟩
 obtain rfl:1=k:=hp.1
 have hk:=vp'.apply lk bar hF
 refine⟨_,_,A,c,D,m2,d2,rfl,hp,fun g o h=>(hA g o h).1,⟨j,y,HJ,F',I,lv,⟨l,hk.1⟩,fun z hz=>?_⟩,vf x HJ FL I lv,hk.2.1,hv'⟩
 have hs:=bb.size
 rcases hk.2.2 z hz with e|e
 ·exact hv' z e
 ·exact⟨by omega,fun hm=>by have:=(hZ z hm).1;omega⟩
def Tc (b:Nat) (Z:List Nat) (w0:World) (x t d n:Nat) (m:MV) (party:Int) (R:Nat) (w':World):Prop :=
 ∃ c1 c2 A c D m2 d2,Blk w' R 68 #[.int .i64 c1,.int .i64 c2,.slice A 1 c,.slice D m2 d2]∧Rp w' A 1 [⟨if isP m.v.l.b.p party=true then 8 else 1,0⟩]∧VQ b Z w' x t d n m∧Far b Z w0 w'
theorem Xm {w:World}{A:Option Addr}{x:PV}(h:Rp w A 1 [x]) {R o:Nat}(e:A=some ⟨R,o,none⟩):R < w.heap.size:=by
 obtain⟨b,o2,e2,hc⟩:=h.2.resolve_left (by omega)
 have h0:=hc 0 x rfl 0 (.int .i64 x.code) rfl
 have:=World.block_lt_of_cell? _ _ h0
 rw[e2] at e
 injection e with e
 injection e with e
 rw[← e];exact this
theorem jd {w':World}{party:Int}{R:Nat}{A:Option Addr}(Y:Blk w' R 68 #[.int .i64 0,.int .i64 0,.slice none 0 0,.slice none 0 0]) (hp:Rp w' A 1 [⟨if isP m.v.l.b.p party=true then 8 else 1,0⟩]) (hA:∀ o,A≠some ⟨R,o,none⟩) (V:VQ b (R :: Z) w' x t d n m) (F:Far b Z w w') (hR:w.heap.size≤R) (hZ:b≤w.heap.size∧∀ z∈Z,z < w.heap.size) (c1 c2:Int) (c:Nat) (D:Option Addr) (m2 d2:Nat) :
  Tc b Z w x t d n m party R ((((w'.setCell ⟨R,0,none⟩ (.int .i64 c1)).setCell ⟨R,1,none⟩ (.int .i64 c2)).setCell ⟨R,2,none⟩ (.slice A 1 c)).setCell ⟨R,3,none⟩ (.slice D m2 d2)):=by
 have P:=put4 Y (.int .i64 c1) (.int .i64 c2) (.slice A 1 c) (.slice D m2 d2)
 refine⟨c1,c2,A,c,D,m2,d2,P.1,hp.bar P.2 (fun z hz=>.inr (by rw[List.mem_singleton] at hz;rw[hz];exact hA)),(V.own P.2 (fun z hz=>by rw[List.mem_singleton] at hz;rw[hz];exact List.mem_cons_self ..)).more (fun z hz=>.inr (List.mem_cons_of_mem _ hz)),F.trans ⟨[R],P.2,fun z hz=>?_⟩⟩
 rw[List.mem_singleton] at hz
 subst hz
 exact⟨by omega,fun hm=>by have:=hZ.2 z hm;omega⟩
theorem je {w2:World}(hZ:b≤w.heap.size∧∀ z∈Z,z < w.heap.size) (h2:Below w.heap.size w w2):∀ z∈Z,z < w2.heap.size∧(z∈Z∨w.heap.size≤z) :=
 fun z hz=>⟨by have:=hZ.2 z hz;have:=h2.size;omega,.inl hz⟩
theorem fC {Z':List Nat}{w2:World}{R:Nat}(h:∀ z∈Z',z < w2.heap.size∧(z∈Z∨w.heap.size≤z)) (hR:R < w2.heap.size) (hN:w.heap.size≤R):∀ z∈R :: Z',z < w2.heap.size∧(z∈Z∨w.heap.size≤z):=fun z hz=>by
 rcases List.mem_cons.1 hz with e|e
 ·subst e;exact⟨hR,.inr hN⟩
 ·exact h z e
theorem fD {Z':List Nat}{w2 w3:World}(h2:Below w.heap.size w w2) (F:Far b Z' w2 w3) (hs:∀ z∈Z,z∈Z'):Far b Z w w3:=by
 obtain⟨H,k1,k2⟩:=F
 exact(Far.of h2).trans ⟨H,k1,fun z hz=>⟨(k2 z hz).1,fun hm=>(k2 z hz).2 (hs z hm)⟩⟩
theorem zG (h:VQ b Z w x t d n m) (hZ:∀ z∈Z,z < w.heap.size) (W:WL m.v.l) (WI_:WI m.v.l) (party:Int):Calls Tryz.prog 93 #[.pointer (some ⟨x,0,none⟩),.int .i64 party] w fun e w'=>e=.returned (.bool (isP m.v.l.b.p party))∧VQ b Z w' x t d n m∧Far b Z w w':=by
 have HK:=ae.mk (And.intro h.size hZ)
 obtain⟨j,y,HJ,FL,I,lv,⟨l,vp⟩,hvf⟩:=h
 obtain⟨N,hN⟩:∃ N,w.heap.size=N:=⟨_,rfl⟩
 have b0:Below w.heap.size w (w.alloc (.cells Ii 164)):=(Below.refl _ _).alloc (Nat.le_refl _) _
 have X:=ae.mk (Blk.new_at w 164 Ii N hN.symm)
 have XN:ae (w.heap.size≤N):=⟨by omega⟩
 have CL:ae (∀ w',Below w.heap.size w w'→Calls Tryz.prog 133 #[.pointer (some ⟨x,0,none⟩)] w' fun e w''=>e=.returned (.pointer (some ⟨y,0,none⟩))∧w'=w''):=⟨fun w' bb=>Bz (vp.below bb)⟩
 have CA:ae (∀ w' g Z',Below w.heap.size w w'→Blk w' g 164 Ii→w.heap.size≤g→(∀ z∈Z',z < w'.heap.size∧(z∈Z∨w.heap.size≤z))→Calls Tryz.prog 132 #[.pointer (some ⟨y,0,none⟩),.int .i64 party,.int .i64 0,.agg #[.int .i64 0,.slice (some ⟨g,0,none⟩) 1 1]] w' (ApN b Z' w' x t d n m party)) :=
  ⟨fun w' g Z' bb hg hgn hz=>Vb vp hvf HK.out.1 W WI_ party bb hg hgn hz⟩
 have B:=ae.mk b0
 clear vp hvf b0 hZ W WI_
 unfold Ii at *
 go_enter Tryz.func93,Tryz.ntmps93
 go_upto_region 2 with(fail)
 clear hN
 generalize w.alloc _=w1 at *
 go_cut [6] (fun a wx=>∃ R:Nat,a=.pointer (some ⟨R,0,none⟩)∧Tc b Z w x t d n m party R wx)
 case first =>
  have CS:∀ {u:World},Blk u N 164 #[.int .i64 4,.int .i64 0,.int .i64 0,.int .i64 0,.int .i64 400,.int .i64 0,.string ⟨#[]⟩,.string ⟨#[]⟩]→u.cell? ⟨N,0,none⟩=some (.int .i64 4)∧u.cell? ⟨N,1,none⟩=some (.int .i64 0)∧u.cell? ⟨N,2,none⟩=some (.int .i64 0)∧u.cell? ⟨N,3,none⟩=some (.int .i64 0)∧u.cell? ⟨N,4,none⟩=some (.int .i64 400)∧u.cell? ⟨N,5,none⟩=some (.int .i64 0)∧u.cell? ⟨N,6,none⟩=some (.string ⟨#[]⟩)∧u.cell? ⟨N,7,none⟩=some (.string ⟨#[]⟩):=fun k=>⟨k.cell 0,k.cell 1,k.cell 2,k.cell 3,k.cell 4,k.cell 5,k.cell 6,k.cell 7⟩
  refine wp_region_noPanic ?_
  refine wp_region_held_drew (S:=fun u:World=>u.cell? ⟨N,0,none⟩=some (.int .i64 4)∧u.cell? ⟨N,1,none⟩=some (.int .i64 0)∧u.cell? ⟨N,2,none⟩=some (.int .i64 0)∧u.cell? ⟨N,3,none⟩=some (.int .i64 0)∧u.cell? ⟨N,4,none⟩=some (.int .i64 400)∧u.cell? ⟨N,5,none⟩=some (.int .i64 0)∧u.cell? ⟨N,6,none⟩=some (.string ⟨#[]⟩)∧u.cell? ⟨N,7,none⟩=some (.string ⟨#[]⟩)) (by kernel_rfl) (CS X.out.drew) (fun _=>?_)
  replace X:=ae.mk X.out.drew
  have BW:ae (Below w.heap.size w w1.drew):=⟨B.out.drew⟩
  clear B
  generalize w1.drew=w2 at *
  refine tk 0 ?_
  simp only[Act.put,zA,zB,zC]
  refine tk 2 ?_
  simp only[Act.put,zA,zB,zC]
  refine tk 3 ?_
  simp only[Act.put,zA,zB,zC]
  refine ld3 1 4 7 (fun K hK=>?_) (fun K hK=>?_) (fun K hK=>?_)
  ·go_simp
   go_at_call 133
   refine(CL.out _ BW.out).mono ?_
   rintro e w' ⟨rfl,rfl⟩
   refine hK.out _ _ (CS X.out) (fun _=>?_)
   clear hK K CL
   try simp only[Act.put,zA,zB,zC]
   refine ld2 4 7 (fun K hK=>?_) (fun K hK=>?_)
   ·go_simp
    obtain⟨g,hg⟩:∃ g,w2.heap.size=g:=⟨_,rfl⟩
    have bb:Below w2.heap.size w2 (w2.alloc (.cells #[.int .i64 4,.int .i64 0,.int .i64 0,.int .i64 0,.int .i64 400,.int .i64 0,.string ⟨#[]⟩,.string ⟨#[]⟩] 164)):=(Below.refl _ _).alloc (Nat.le_refl _) _
    have GB:=ae.mk (Blk.new_at w2 164 #[.int .i64 4,.int .i64 0,.int .i64 0,.int .i64 0,.int .i64 400,.int .i64 0,.string ⟨#[]⟩,.string ⟨#[]⟩] g hg.symm)
    have GBN:ae (w.heap.size≤g):=⟨by rw[← hg];exact BW.out.size⟩
    replace BW:=ae.mk (BW.out.trans (bb.mono BW.out.size));replace X:=ae.mk (X.out.below bb X.out.lt)
    rw[hg]
    clear bb hg
    generalize (w2.alloc (.cells #[.int .i64 4,.int .i64 0,.int .i64 0,.int .i64 0,.int .i64 400,.int .i64 0,.string ⟨#[]⟩,.string ⟨#[]⟩] 164))=w4 at *
    refine hK.out _ _ (CS X.out) (fun _=>?_)
    clear hK K
    try simp only[Act.put,zA,zB,zC]
    refine tk 5 ?_
    simp only[Act.put,zA,zB,zC]
    refine ld2 6 7 (fun K hK=>?_) (fun K hK=>?_)
    ·go_simp
     go_at_call 132
     refine(CA.out _ _ (N :: Z) BW.out GB.out GBN.out (fC (je HK.out BW.out) X.out.lt XN.out)).mono ?_
     rintro e w5 ⟨c1,c2,A,c,D,m2,d2,rfl,hp,hn,V,far⟩
     have HP:=ae.mk hp
     have HV0:=ae.mk (V.more (K':=Z) (fun z hz=>.inr (List.mem_cons_of_mem _ hz)))
     replace X:=ae.mk (far.blk X.out (.inl (by simp)))
     have FR:ae (Far b Z w w5):=⟨fD BW.out far (fun z hz=>by simp[hz])⟩
     replace BW:ae (w.heap.size≤w5.heap.size):=⟨Nat.le_trans BW.out.size (bH far)⟩
     refine hK.out _ _ (CS X.out) (fun _=>?_)
     clear hK K CA hp hn V far GB GBN
     try simp only[Act.put,zA,zB,zC]
     refine ld 7 (fun K hK=>?_)
     go_simp
     obtain⟨R,hR⟩:∃ R,w5.heap.size=R:=⟨_,rfl⟩
     have bb:Below w5.heap.size w5 (w5.alloc (.cells #[.int .i64 0,.int .i64 0,.slice none 0 0,.slice none 0 0] 68)):=(Below.refl _ _).alloc (Nat.le_refl _) _
     have YB:=ae.mk (Blk.new_at w5 68 #[.int .i64 0,.int .i64 0,.slice none 0 0,.slice none 0 0] R hR.symm)
     have YBN:ae (w.heap.size≤R):=⟨by rw[← hR];exact BW.out⟩
     have XR:ae (N < R):=⟨by have:=X.out.lt;omega⟩
     have AR:ae (∀ o,A≠some ⟨R,o,none⟩):=⟨fun o h=>by have:=Xm HP.out h;omega⟩
     replace HP:=ae.mk (HP.out.below bb);replace X:=ae.mk (X.out.below bb X.out.lt)
     have HV:=ae.mk ((HV0.out.more (K':=R :: Z) (fun z hz=>by rcases List.mem_cons.1 hz with e|e;exact .inl (by omega);exact .inr e)).below bb)
     replace FR:=ae.mk (FR.out.trans (Far.of bb))
     rw[hR]
     clear bb hR HV0 BW
     generalize (w5.alloc (.cells #[.int .i64 0,.int .i64 0,.slice none 0 0,.slice none 0 0] 68))=w6 at *
     refine hK.out _ _ (CS X.out) (fun _=>?_)
     clear hK K
     try simp only[Act.put,zA,zB,zC]
     have y0:=YB.out.cell 0;have y1:=YB.out.cell 1;have y2:=YB.out.cell 2;have y3:=YB.out.cell 3;have z0:=YB.out.frozen 0;have z1:=YB.out.frozen 1;have z2:=YB.out.frozen 2;have z3:=YB.out.frozen 3
     have PB:=ae.mk (put4 YB.out (.int .i64 c1) (.int .i64 c2) (.slice A 1 c) (.slice D m2 d2)).2
     have PP:=ae.mk (jd YB.out HP.out AR.out HV.out FR.out YBN.out HK.out c1 c2 c D m2 d2)
     refine ld 8 (fun K hK=>?_)
     go_simp
     replace X:=ae.mk (X.out.bar PB.out (by rw[List.mem_singleton];have:=XR.out;omega))
     clear y0 y1 y2 y3 z0 z1 z2 z3 PB
     generalize ((((w6.setCell ⟨R,0,none⟩ (.int .i64 c1)).setCell ⟨R,1,none⟩ (.int .i64 c2)).setCell ⟨R,2,none⟩ (.slice A 1 c)).setCell ⟨R,3,none⟩ (.slice D m2 d2))=w7 at *
     refine hK.out _ _ (CS X.out) (fun _=>?_)
     clear hK K
     try simp only[Act.put,zA,zB,zC]
     refine wpAnyH_done (by kernel_rfl) ?_ _
     refine NoPanic.normal ?_
     go_wp2_with fail
     go_meet
     case rel=>exact⟨R,rfl,PP.out⟩
    ·go_simp
     obtain⟨R,hR⟩:∃ R,w4.heap.size=R:=⟨_,rfl⟩
     have bb:Below w4.heap.size w4 (w4.alloc (.cells #[.int .i64 0,.int .i64 0,.slice none 0 0,.slice none 0 0] 68)):=(Below.refl _ _).alloc (Nat.le_refl _) _
     have YB:=ae.mk (Blk.new_at w4 68 #[.int .i64 0,.int .i64 0,.slice none 0 0,.slice none 0 0] R hR.symm)
     have YBN:ae (w.heap.size≤R):=⟨by rw[← hR];exact BW.out.size⟩
     have XR:ae (N < R):=⟨by have:=X.out.lt;omega⟩
     replace GB:=ae.mk (GB.out.below bb GB.out.lt)
     replace BW:=ae.mk (BW.out.trans (bb.mono BW.out.size));replace X:=ae.mk (X.out.below bb X.out.lt)
     rw[hR]
     clear bb hR
     generalize (w4.alloc (.cells #[.int .i64 0,.int .i64 0,.slice none 0 0,.slice none 0 0] 68))=w8 at *
     refine hK.out _ _ (CS X.out) (fun _=>?_)
     clear hK K
     try simp only[Act.put,zA,zB,zC]
     refine ld 6 (fun K hK=>?_)
     go_simp
     go_at_call 132
     refine(CA.out _ _ (N :: R :: Z) BW.out GB.out GBN.out (fC (fC (je HK.out BW.out) YB.out.lt YBN.out) X.out.lt XN.out)).mono ?_
     rintro e w9 ⟨c1,c2,A,c,D,m2,d2,rfl,hp,hn,V,far⟩
     have HP:=ae.mk hp
     have AR:ae (∀ o,A≠some ⟨R,o,none⟩):=⟨fun o h=>by have:=hn R o h;have:=YB.out.lt;omega⟩
     replace YB:=ae.mk (far.blk YB.out (.inl (by simp)))
     have HV:=ae.mk (V.more (K':=R :: Z) (fun z hz=>.inr (List.mem_cons_of_mem _ hz)))
     replace X:=ae.mk (far.blk X.out (.inl (by simp)))
     have FR:ae (Far b Z w w9):=⟨fD BW.out far (fun z hz=>by simp[hz])⟩
     replace BW:ae (w.heap.size≤w9.heap.size):=⟨Nat.le_trans BW.out.size (bH far)⟩
     refine hK.out _ _ (CS X.out) (fun _=>?_)
     clear hK K CA hp hn V far GB GBN
     try simp only[Act.put,zA,zB,zC]
     have y0:=YB.out.cell 0;have y1:=YB.out.cell 1;have y2:=YB.out.cell 2;have y3:=YB.out.cell 3;have z0:=YB.out.frozen 0;have z1:=YB.out.frozen 1;have z2:=YB.out.frozen 2;have z3:=YB.out.frozen 3
     have PB:=ae.mk (put4 YB.out (.int .i64 c1) (.int .i64 c2) (.slice A 1 c) (.slice D m2 d2)).2
     have PP:=ae.mk (jd YB.out HP.out AR.out HV.out FR.out YBN.out HK.out c1 c2 c D m2 d2)
     refine ld 8 (fun K hK=>?_)
     go_simp
     replace X:=ae.mk (X.out.bar PB.out (by rw[List.mem_singleton];have:=XR.out;omega))
     clear y0 y1 y2 y3 z0 z1 z2 z3 PB
     generalize ((((w9.setCell ⟨R,0,none⟩ (.int .i64 c1)).setCell ⟨R,1,none⟩ (.int .i64 c2)).setCell ⟨R,2,none⟩ (.slice A 1 c)).setCell ⟨R,3,none⟩ (.slice D m2 d2))=w10 at *
     refine hK.out _ _ (CS X.out) (fun _=>?_)
     clear hK K
     try simp only[Act.put,zA,zB,zC]
     refine wpAnyH_done (by kernel_rfl) ?_ _
     refine NoPanic.normal ?_
     go_wp2_with fail
     go_meet
     case rel=>exact⟨R,rfl,PP.out⟩
   ·go_simp
    obtain⟨R,hR⟩:∃ R,w2.heap.size=R:=⟨_,rfl⟩
    have bb:Below w2.heap.size w2 (w2.alloc (.cells #[.int .i64 0,.int .i64 0,.slice none 0 0,.slice none 0 0] 68)):=(Below.refl _ _).alloc (Nat.le_refl _) _
    have YB:=ae.mk (Blk.new_at w2 68 #[.int .i64 0,.int .i64 0,.slice none 0 0,.slice none 0 0] R hR.symm)
    have YBN:ae (w.heap.size≤R):=⟨by rw[← hR];exact BW.out.size⟩
    have XR:ae (N < R):=⟨by have:=X.out.lt;omega⟩
    replace BW:=ae.mk (BW.out.trans (bb.mono BW.out.size));replace X:=ae.mk (X.out.below bb X.out.lt)
    rw[hR]
    clear bb hR
    generalize (w2.alloc (.cells #[.int .i64 0,.int .i64 0,.slice none 0 0,.slice none 0 0] 68))=w11 at *
    refine hK.out _ _ (CS X.out) (fun _=>?_)
    clear hK K
    try simp only[Act.put,zA,zB,zC]
    refine ld 4 (fun K hK=>?_)
    go_simp
    obtain⟨g,hg⟩:∃ g,w11.heap.size=g:=⟨_,rfl⟩
    have bb:Below w11.heap.size w11 (w11.alloc (.cells #[.int .i64 4,.int .i64 0,.int .i64 0,.int .i64 0,.int .i64 400,.int .i64 0,.string ⟨#[]⟩,.string ⟨#[]⟩] 164)):=(Below.refl _ _).alloc (Nat.le_refl _) _
    have GB:=ae.mk (Blk.new_at w11 164 #[.int .i64 4,.int .i64 0,.int .i64 0,.int .i64 0,.int .i64 400,.int .i64 0,.string ⟨#[]⟩,.string ⟨#[]⟩] g hg.symm)
    have GBN:ae (w.heap.size≤g):=⟨by rw[← hg];exact BW.out.size⟩
    replace YB:=ae.mk (YB.out.below bb YB.out.lt)
    replace BW:=ae.mk (BW.out.trans (bb.mono BW.out.size));replace X:=ae.mk (X.out.below bb X.out.lt)
    rw[hg]
    clear bb hg
    generalize (w11.alloc (.cells #[.int .i64 4,.int .i64 0,.int .i64 0,.int .i64 0,.int .i64 400,.int .i64 0,.string ⟨#[]⟩,.string ⟨#[]⟩] 164))=w12 at *
    refine hK.out _ _ (CS X.out) (fun _=>?_)
    clear hK K
    try simp only[Act.put,zA,zB,zC]
    refine tk 5 ?_
    simp only[Act.put,zA,zB,zC]
    refine ld 6 (fun K hK=>?_)
    go_simp
    go_at_call 132
    refine(CA.out _ _ (N :: R :: Z) BW.out GB.out GBN.out (fC (fC (je HK.out BW.out) YB.out.lt YBN.out) X.out.lt XN.out)).mono ?_
    rintro e w13 ⟨c1,c2,A,c,D,m2,d2,rfl,hp,hn,V,far⟩
    have HP:=ae.mk hp
    have AR:ae (∀ o,A≠some ⟨R,o,none⟩):=⟨fun o h=>by have:=hn R o h;have:=YB.out.lt;omega⟩
    replace YB:=ae.mk (far.blk YB.out (.inl (by simp)))
    have HV:=ae.mk (V.more (K':=R :: Z) (fun z hz=>.inr (List.mem_cons_of_mem _ hz)))
    replace X:=ae.mk (far.blk X.out (.inl (by simp)))
    have FR:ae (Far b Z w w13):=⟨fD BW.out far (fun z hz=>by simp[hz])⟩
    replace BW:ae (w.heap.size≤w13.heap.size):=⟨Nat.le_trans BW.out.size (bH far)⟩
    refine hK.out _ _ (CS X.out) (fun _=>?_)
    clear hK K CA hp hn V far GB GBN
    try simp only[Act.put,zA,zB,zC]
    have y0:=YB.out.cell 0;have y1:=YB.out.cell 1;have y2:=YB.out.cell 2;have y3:=YB.out.cell 3;have z0:=YB.out.frozen 0;have z1:=YB.out.frozen 1;have z2:=YB.out.frozen 2;have z3:=YB.out.frozen 3
    have PB:=ae.mk (put4 YB.out (.int .i64 c1) (.int .i64 c2) (.slice A 1 c) (.slice D m2 d2)).2
    have PP:=ae.mk (jd YB.out HP.out AR.out HV.out FR.out YBN.out HK.out c1 c2 c D m2 d2)
    refine ld 8 (fun K hK=>?_)
    go_simp
    replace X:=ae.mk (X.out.bar PB.out (by rw[List.mem_singleton];have:=XR.out;omega))
    clear y0 y1 y2 y3 z0 z1 z2 z3 PB
    generalize ((((w13.setCell ⟨R,0,none⟩ (.int .i64 c1)).setCell ⟨R,1,none⟩ (.int .i64 c2)).setCell ⟨R,2,none⟩ (.slice A 1 c)).setCell ⟨R,3,none⟩ (.slice D m2 d2))=w14 at *
    refine hK.out _ _ (CS X.out) (fun _=>?_)
    clear hK K
    try simp only[Act.put,zA,zB,zC]
    refine wpAnyH_done (by kernel_rfl) ?_ _
    refine NoPanic.normal ?_
    go_wp2_with fail
    go_meet
    case rel=>exact⟨R,rfl,PP.out⟩
  ·go_simp
   obtain⟨g,hg⟩:∃ g,w2.heap.size=g:=⟨_,rfl⟩
   have bb:Below w2.heap.size w2 (w2.alloc (.cells #[.int .i64 4,.int .i64 0,.int .i64 0,.int .i64 0,.int .i64 400,.int .i64 0,.string ⟨#[]⟩,.string ⟨#[]⟩] 164)):=(Below.refl _ _).alloc (Nat.le_refl _) _
   have GB:=ae.mk (Blk.new_at w2 164 #[.int .i64 4,.int .i64 0,.int .i64 0,.int .i64 0,.int .i64 400,.int .i64 0,.string ⟨#[]⟩,.string ⟨#[]⟩] g hg.symm)
   have GBN:ae (w.heap.size≤g):=⟨by rw[← hg];exact BW.out.size⟩
   replace BW:=ae.mk (BW.out.trans (bb.mono BW.out.size));replace X:=ae.mk (X.out.below bb X.out.lt)
   rw[hg]
   clear bb hg
   generalize (w2.alloc (.cells #[.int .i64 4,.int .i64 0,.int .i64 0,.int .i64 0,.int .i64 400,.int .i64 0,.string ⟨#[]⟩,.string ⟨#[]⟩] 164))=w15 at *
   refine hK.out _ _ (CS X.out) (fun _=>?_)
   clear hK K
   try simp only[Act.put,zA,zB,zC]
   refine tk 5 ?_
   simp only[Act.put,zA,zB,zC]
   refine ld2 1 7 (fun K hK=>?_) (fun K hK=>?_)
   ·go_simp
    go_at_call 133
    refine(CL.out _ BW.out).mono ?_
    rintro e w' ⟨rfl,rfl⟩
    refine hK.out _ _ (CS X.out) (fun _=>?_)
    clear hK K CL
    try simp only[Act.put,zA,zB,zC]
    refine ld2 6 7 (fun K hK=>?_) (fun K hK=>?_)
    ·go_simp
     go_at_call 132
     refine(CA.out _ _ (N :: Z) BW.out GB.out GBN.out (fC (je HK.out BW.out) X.out.lt XN.out)).mono ?_
     rintro e w17 ⟨c1,c2,A,c,D,m2,d2,rfl,hp,hn,V,far⟩
     have HP:=ae.mk hp
     have HV0:=ae.mk (V.more (K':=Z) (fun z hz=>.inr (List.mem_cons_of_mem _ hz)))
     replace X:=ae.mk (far.blk X.out (.inl (by simp)))
     have FR:ae (Far b Z w w17):=⟨fD BW.out far (fun z hz=>by simp[hz])⟩
     replace BW:ae (w.heap.size≤w17.heap.size):=⟨Nat.le_trans BW.out.size (bH far)⟩
     refine hK.out _ _ (CS X.out) (fun _=>?_)
     clear hK K CA hp hn V far GB GBN
     try simp only[Act.put,zA,zB,zC]
     refine ld 7 (fun K hK=>?_)
     go_simp
     obtain⟨R,hR⟩:∃ R,w17.heap.size=R:=⟨_,rfl⟩
     have bb:Below w17.heap.size w17 (w17.alloc (.cells #[.int .i64 0,.int .i64 0,.slice none 0 0,.slice none 0 0] 68)):=(Below.refl _ _).alloc (Nat.le_refl _) _
     have YB:=ae.mk (Blk.new_at w17 68 #[.int .i64 0,.int .i64 0,.slice none 0 0,.slice none 0 0] R hR.symm)
     have YBN:ae (w.heap.size≤R):=⟨by rw[← hR];exact BW.out⟩
     have XR:ae (N < R):=⟨by have:=X.out.lt;omega⟩
     have AR:ae (∀ o,A≠some ⟨R,o,none⟩):=⟨fun o h=>by have:=Xm HP.out h;omega⟩
     replace HP:=ae.mk (HP.out.below bb);replace X:=ae.mk (X.out.below bb X.out.lt)
     have HV:=ae.mk ((HV0.out.more (K':=R :: Z) (fun z hz=>by rcases List.mem_cons.1 hz with e|e;exact .inl (by omega);exact .inr e)).below bb)
     replace FR:=ae.mk (FR.out.trans (Far.of bb))
     rw[hR]
     clear bb hR HV0 BW
     generalize (w17.alloc (.cells #[.int .i64 0,.int .i64 0,.slice none 0 0,.slice none 0 0] 68))=w18 at *
     refine hK.out _ _ (CS X.out) (fun _=>?_)
     clear hK K
     try simp only[Act.put,zA,zB,zC]
     have y0:=YB.out.cell 0;have y1:=YB.out.cell 1;have y2:=YB.out.cell 2;have y3:=YB.out.cell 3;have z0:=YB.out.frozen 0;have z1:=YB.out.frozen 1;have z2:=YB.out.frozen 2;have z3:=YB.out.frozen 3
     have PB:=ae.mk (put4 YB.out (.int .i64 c1) (.int .i64 c2) (.slice A 1 c) (.slice D m2 d2)).2
     have PP:=ae.mk (jd YB.out HP.out AR.out HV.out FR.out YBN.out HK.out c1 c2 c D m2 d2)
     refine ld 8 (fun K hK=>?_)
     go_simp
     replace X:=ae.mk (X.out.bar PB.out (by rw[List.mem_singleton];have:=XR.out;omega))
     clear y0 y1 y2 y3 z0 z1 z2 z3 PB
     generalize ((((w18.setCell ⟨R,0,none⟩ (.int .i64 c1)).setCell ⟨R,1,none⟩ (.int .i64 c2)).setCell ⟨R,2,none⟩ (.slice A 1 c)).setCell ⟨R,3,none⟩ (.slice D m2 d2))=w19 at *
     refine hK.out _ _ (CS X.out) (fun _=>?_)
     clear hK K
     try simp only[Act.put,zA,zB,zC]
     refine wpAnyH_done (by kernel_rfl) ?_ _
     refine NoPanic.normal ?_
     go_wp2_with fail
     go_meet
     case rel=>exact⟨R,rfl,PP.out⟩
    ·go_simp
     obtain⟨R,hR⟩:∃ R,w15.heap.size=R:=⟨_,rfl⟩
     have bb:Below w15.heap.size w15 (w15.alloc (.cells #[.int .i64 0,.int .i64 0,.slice none 0 0,.slice none 0 0] 68)):=(Below.refl _ _).alloc (Nat.le_refl _) _
     have YB:=ae.mk (Blk.new_at w15 68 #[.int .i64 0,.int .i64 0,.slice none 0 0,.slice none 0 0] R hR.symm)
     have YBN:ae (w.heap.size≤R):=⟨by rw[← hR];exact BW.out.size⟩
     have XR:ae (N < R):=⟨by have:=X.out.lt;omega⟩
     replace GB:=ae.mk (GB.out.below bb GB.out.lt)
     replace BW:=ae.mk (BW.out.trans (bb.mono BW.out.size));replace X:=ae.mk (X.out.below bb X.out.lt)
     rw[hR]
     clear bb hR
     generalize (w15.alloc (.cells #[.int .i64 0,.int .i64 0,.slice none 0 0,.slice none 0 0] 68))=w20 at *
     refine hK.out _ _ (CS X.out) (fun _=>?_)
     clear hK K
     try simp only[Act.put,zA,zB,zC]
     refine ld 6 (fun K hK=>?_)
     go_simp
     go_at_call 132
     refine(CA.out _ _ (N :: R :: Z) BW.out GB.out GBN.out (fC (fC (je HK.out BW.out) YB.out.lt YBN.out) X.out.lt XN.out)).mono ?_
     rintro e w21 ⟨c1,c2,A,c,D,m2,d2,rfl,hp,hn,V,far⟩
     have HP:=ae.mk hp
     have AR:ae (∀ o,A≠some ⟨R,o,none⟩):=⟨fun o h=>by have:=hn R o h;have:=YB.out.lt;omega⟩
     replace YB:=ae.mk (far.blk YB.out (.inl (by simp)))
     have HV:=ae.mk (V.more (K':=R :: Z) (fun z hz=>.inr (List.mem_cons_of_mem _ hz)))
     replace X:=ae.mk (far.blk X.out (.inl (by simp)))
     have FR:ae (Far b Z w w21):=⟨fD BW.out far (fun z hz=>by simp[hz])⟩
     replace BW:ae (w.heap.size≤w21.heap.size):=⟨Nat.le_trans BW.out.size (bH far)⟩
     refine hK.out _ _ (CS X.out) (fun _=>?_)
     clear hK K CA hp hn V far GB GBN
     try simp only[Act.put,zA,zB,zC]
     have y0:=YB.out.cell 0;have y1:=YB.out.cell 1;have y2:=YB.out.cell 2;have y3:=YB.out.cell 3;have z0:=YB.out.frozen 0;have z1:=YB.out.frozen 1;have z2:=YB.out.frozen 2;have z3:=YB.out.frozen 3
     have PB:=ae.mk (put4 YB.out (.int .i64 c1) (.int .i64 c2) (.slice A 1 c) (.slice D m2 d2)).2
     have PP:=ae.mk (jd YB.out HP.out AR.out HV.out FR.out YBN.out HK.out c1 c2 c D m2 d2)
     refine ld 8 (fun K hK=>?_)
     go_simp
     replace X:=ae.mk (X.out.bar PB.out (by rw[List.mem_singleton];have:=XR.out;omega))
     clear y0 y1 y2 y3 z0 z1 z2 z3 PB
     generalize ((((w21.setCell ⟨R,0,none⟩ (.int .i64 c1)).setCell ⟨R,1,none⟩ (.int .i64 c2)).setCell ⟨R,2,none⟩ (.slice A 1 c)).setCell ⟨R,3,none⟩ (.slice D m2 d2))=w22 at *
     refine hK.out _ _ (CS X.out) (fun _=>?_)
     clear hK K
     try simp only[Act.put,zA,zB,zC]
     refine wpAnyH_done (by kernel_rfl) ?_ _
     refine NoPanic.normal ?_
     go_wp2_with fail
     go_meet
     case rel=>exact⟨R,rfl,PP.out⟩
   ·go_simp
    obtain⟨R,hR⟩:∃ R,w15.heap.size=R:=⟨_,rfl⟩
    have bb:Below w15.heap.size w15 (w15.alloc (.cells #[.int .i64 0,.int .i64 0,.slice none 0 0,.slice none 0 0] 68)):=(Below.refl _ _).alloc (Nat.le_refl _) _
    have YB:=ae.mk (Blk.new_at w15 68 #[.int .i64 0,.int .i64 0,.slice none 0 0,.slice none 0 0] R hR.symm)
    have YBN:ae (w.heap.size≤R):=⟨by rw[← hR];exact BW.out.size⟩
    have XR:ae (N < R):=⟨by have:=X.out.lt;omega⟩
    replace GB:=ae.mk (GB.out.below bb GB.out.lt)
    replace BW:=ae.mk (BW.out.trans (bb.mono BW.out.size));replace X:=ae.mk (X.out.below bb X.out.lt)
    rw[hR]
    clear bb hR
    generalize (w15.alloc (.cells #[.int .i64 0,.int .i64 0,.slice none 0 0,.slice none 0 0] 68))=w23 at *
    refine hK.out _ _ (CS X.out) (fun _=>?_)
    clear hK K
    try simp only[Act.put,zA,zB,zC]
    refine ld 1 (fun K hK=>?_)
    go_simp
    go_at_call 133
    refine(CL.out _ BW.out).mono ?_
    rintro e w' ⟨rfl,rfl⟩
    refine hK.out _ _ (CS X.out) (fun _=>?_)
    clear hK K CL
    try simp only[Act.put,zA,zB,zC]
    refine ld 6 (fun K hK=>?_)
    go_simp
    go_at_call 132
    refine(CA.out _ _ (N :: R :: Z) BW.out GB.out GBN.out (fC (fC (je HK.out BW.out) YB.out.lt YBN.out) X.out.lt XN.out)).mono ?_
    rintro e w25 ⟨c1,c2,A,c,D,m2,d2,rfl,hp,hn,V,far⟩
    have HP:=ae.mk hp
    have AR:ae (∀ o,A≠some ⟨R,o,none⟩):=⟨fun o h=>by have:=hn R o h;have:=YB.out.lt;omega⟩
    replace YB:=ae.mk (far.blk YB.out (.inl (by simp)))
    have HV:=ae.mk (V.more (K':=R :: Z) (fun z hz=>.inr (List.mem_cons_of_mem _ hz)))
    replace X:=ae.mk (far.blk X.out (.inl (by simp)))
    have FR:ae (Far b Z w w25):=⟨fD BW.out far (fun z hz=>by simp[hz])⟩
    replace BW:ae (w.heap.size≤w25.heap.size):=⟨Nat.le_trans BW.out.size (bH far)⟩
    refine hK.out _ _ (CS X.out) (fun _=>?_)
    clear hK K CA hp hn V far GB GBN
    try simp only[Act.put,zA,zB,zC]
    have y0:=YB.out.cell 0;have y1:=YB.out.cell 1;have y2:=YB.out.cell 2;have y3:=YB.out.cell 3;have z0:=YB.out.frozen 0;have z1:=YB.out.frozen 1;have z2:=YB.out.frozen 2;have z3:=YB.out.frozen 3
    have PB:=ae.mk (put4 YB.out (.int .i64 c1) (.int .i64 c2) (.slice A 1 c) (.slice D m2 d2)).2
    have PP:=ae.mk (jd YB.out HP.out AR.out HV.out FR.out YBN.out HK.out c1 c2 c D m2 d2)
    refine ld 8 (fun K hK=>?_)
    go_simp
    replace X:=ae.mk (X.out.bar PB.out (by rw[List.mem_singleton];have:=XR.out;omega))
    clear y0 y1 y2 y3 z0 z1 z2 z3 PB
    generalize ((((w25.setCell ⟨R,0,none⟩ (.int .i64 c1)).setCell ⟨R,1,none⟩ (.int .i64 c2)).setCell ⟨R,2,none⟩ (.slice A 1 c)).setCell ⟨R,3,none⟩ (.slice D m2 d2))=w26 at *
    refine hK.out _ _ (CS X.out) (fun _=>?_)
    clear hK K
    try simp only[Act.put,zA,zB,zC]
    refine wpAnyH_done (by kernel_rfl) ?_ _
    refine NoPanic.normal ?_
    go_wp2_with fail
    go_meet
    case rel=>exact⟨R,rfl,PP.out⟩
  ·go_simp
   obtain⟨R,hR⟩:∃ R,w2.heap.size=R:=⟨_,rfl⟩
   have bb:Below w2.heap.size w2 (w2.alloc (.cells #[.int .i64 0,.int .i64 0,.slice none 0 0,.slice none 0 0] 68)):=(Below.refl _ _).alloc (Nat.le_refl _) _
   have YB:=ae.mk (Blk.new_at w2 68 #[.int .i64 0,.int .i64 0,.slice none 0 0,.slice none 0 0] R hR.symm)
   have YBN:ae (w.heap.size≤R):=⟨by rw[← hR];exact BW.out.size⟩
   have XR:ae (N < R):=⟨by have:=X.out.lt;omega⟩
   replace BW:=ae.mk (BW.out.trans (bb.mono BW.out.size));replace X:=ae.mk (X.out.below bb X.out.lt)
   rw[hR]
   clear bb hR
   generalize (w2.alloc (.cells #[.int .i64 0,.int .i64 0,.slice none 0 0,.slice none 0 0] 68))=w27 at *
   refine hK.out _ _ (CS X.out) (fun _=>?_)
   clear hK K
   try simp only[Act.put,zA,zB,zC]
   refine ld2 1 4 (fun K hK=>?_) (fun K hK=>?_)
   ·go_simp
    go_at_call 133
    refine(CL.out _ BW.out).mono ?_
    rintro e w' ⟨rfl,rfl⟩
    refine hK.out _ _ (CS X.out) (fun _=>?_)
    clear hK K CL
    try simp only[Act.put,zA,zB,zC]
    refine ld 4 (fun K hK=>?_)
    go_simp
    obtain⟨g,hg⟩:∃ g,w27.heap.size=g:=⟨_,rfl⟩
    have bb:Below w27.heap.size w27 (w27.alloc (.cells #[.int .i64 4,.int .i64 0,.int .i64 0,.int .i64 0,.int .i64 400,.int .i64 0,.string ⟨#[]⟩,.string ⟨#[]⟩] 164)):=(Below.refl _ _).alloc (Nat.le_refl _) _
    have GB:=ae.mk (Blk.new_at w27 164 #[.int .i64 4,.int .i64 0,.int .i64 0,.int .i64 0,.int .i64 400,.int .i64 0,.string ⟨#[]⟩,.string ⟨#[]⟩] g hg.symm)
    have GBN:ae (w.heap.size≤g):=⟨by rw[← hg];exact BW.out.size⟩
    replace YB:=ae.mk (YB.out.below bb YB.out.lt)
    replace BW:=ae.mk (BW.out.trans (bb.mono BW.out.size));replace X:=ae.mk (X.out.below bb X.out.lt)
    rw[hg]
    clear bb hg
    generalize (w27.alloc (.cells #[.int .i64 4,.int .i64 0,.int .i64 0,.int .i64 0,.int .i64 400,.int .i64 0,.string ⟨#[]⟩,.string ⟨#[]⟩] 164))=w29 at *
    refine hK.out _ _ (CS X.out) (fun _=>?_)
    clear hK K
    try simp only[Act.put,zA,zB,zC]
    refine tk 5 ?_
    simp only[Act.put,zA,zB,zC]
    refine ld 6 (fun K hK=>?_)
    go_simp
    go_at_call 132
    refine(CA.out _ _ (N :: R :: Z) BW.out GB.out GBN.out (fC (fC (je HK.out BW.out) YB.out.lt YBN.out) X.out.lt XN.out)).mono ?_
    rintro e w30 ⟨c1,c2,A,c,D,m2,d2,rfl,hp,hn,V,far⟩
    have HP:=ae.mk hp
    have AR:ae (∀ o,A≠some ⟨R,o,none⟩):=⟨fun o h=>by have:=hn R o h;have:=YB.out.lt;omega⟩
    replace YB:=ae.mk (far.blk YB.out (.inl (by simp)))
    have HV:=ae.mk (V.more (K':=R :: Z) (fun z hz=>.inr (List.mem_cons_of_mem _ hz)))
    replace X:=ae.mk (far.blk X.out (.inl (by simp)))
    have FR:ae (Far b Z w w30):=⟨fD BW.out far (fun z hz=>by simp[hz])⟩
    replace BW:ae (w.heap.size≤w30.heap.size):=⟨Nat.le_trans BW.out.size (bH far)⟩
    refine hK.out _ _ (CS X.out) (fun _=>?_)
    clear hK K CA hp hn V far GB GBN
    try simp only[Act.put,zA,zB,zC]
    have y0:=YB.out.cell 0;have y1:=YB.out.cell 1;have y2:=YB.out.cell 2;have y3:=YB.out.cell 3;have z0:=YB.out.frozen 0;have z1:=YB.out.frozen 1;have z2:=YB.out.frozen 2;have z3:=YB.out.frozen 3
    have PB:=ae.mk (put4 YB.out (.int .i64 c1) (.int .i64 c2) (.slice A 1 c) (.slice D m2 d2)).2
    have PP:=ae.mk (jd YB.out HP.out AR.out HV.out FR.out YBN.out HK.out c1 c2 c D m2 d2)
    refine ld 8 (fun K hK=>?_)
    go_simp
    replace X:=ae.mk (X.out.bar PB.out (by rw[List.mem_singleton];have:=XR.out;omega))
    clear y0 y1 y2 y3 z0 z1 z2 z3 PB
    generalize ((((w30.setCell ⟨R,0,none⟩ (.int .i64 c1)).setCell ⟨R,1,none⟩ (.int .i64 c2)).setCell ⟨R,2,none⟩ (.slice A 1 c)).setCell ⟨R,3,none⟩ (.slice D m2 d2))=w31 at *
    refine hK.out _ _ (CS X.out) (fun _=>?_)
    clear hK K
    try simp only[Act.put,zA,zB,zC]
    refine wpAnyH_done (by kernel_rfl) ?_ _
    refine NoPanic.normal ?_
    go_wp2_with fail
    go_meet
    case rel=>exact⟨R,rfl,PP.out⟩
   ·go_simp
    obtain⟨g,hg⟩:∃ g,w27.heap.size=g:=⟨_,rfl⟩
    have bb:Below w27.heap.size w27 (w27.alloc (.cells #[.int .i64 4,.int .i64 0,.int .i64 0,.int .i64 0,.int .i64 400,.int .i64 0,.string ⟨#[]⟩,.string ⟨#[]⟩] 164)):=(Below.refl _ _).alloc (Nat.le_refl _) _
    have GB:=ae.mk (Blk.new_at w27 164 #[.int .i64 4,.int .i64 0,.int .i64 0,.int .i64 0,.int .i64 400,.int .i64 0,.string ⟨#[]⟩,.string ⟨#[]⟩] g hg.symm)
    have GBN:ae (w.heap.size≤g):=⟨by rw[← hg];exact BW.out.size⟩
    replace YB:=ae.mk (YB.out.below bb YB.out.lt)
    replace BW:=ae.mk (BW.out.trans (bb.mono BW.out.size));replace X:=ae.mk (X.out.below bb X.out.lt)
    rw[hg]
    clear bb hg
    generalize (w27.alloc (.cells #[.int .i64 4,.int .i64 0,.int .i64 0,.int .i64 0,.int .i64 400,.int .i64 0,.string ⟨#[]⟩,.string ⟨#[]⟩] 164))=w32 at *
    refine hK.out _ _ (CS X.out) (fun _=>?_)
    clear hK K
    try simp only[Act.put,zA,zB,zC]
    refine tk 5 ?_
    simp only[Act.put,zA,zB,zC]
    refine ld 1 (fun K hK=>?_)
    go_simp
    go_at_call 133
    refine(CL.out _ BW.out).mono ?_
    rintro e w' ⟨rfl,rfl⟩
    refine hK.out _ _ (CS X.out) (fun _=>?_)
    clear hK K CL
    try simp only[Act.put,zA,zB,zC]
    refine ld 6 (fun K hK=>?_)
    go_simp
    go_at_call 132
    refine(CA.out _ _ (N :: R :: Z) BW.out GB.out GBN.out (fC (fC (je HK.out BW.out) YB.out.lt YBN.out) X.out.lt XN.out)).mono ?_
    rintro e w34 ⟨c1,c2,A,c,D,m2,d2,rfl,hp,hn,V,far⟩
    have HP:=ae.mk hp
    have AR:ae (∀ o,A≠some ⟨R,o,none⟩):=⟨fun o h=>by have:=hn R o h;have:=YB.out.lt;omega⟩
    replace YB:=ae.mk (far.blk YB.out (.inl (by simp)))
    have HV:=ae.mk (V.more (K':=R :: Z) (fun z hz=>.inr (List.mem_cons_of_mem _ hz)))
    replace X:=ae.mk (far.blk X.out (.inl (by simp)))
    have FR:ae (Far b Z w w34):=⟨fD BW.out far (fun z hz=>by simp[hz])⟩
    replace BW:ae (w.heap.size≤w34.heap.size):=⟨Nat.le_trans BW.out.size (bH far)⟩
    refine hK.out _ _ (CS X.out) (fun _=>?_)
    clear hK K CA hp hn V far GB GBN
    try simp only[Act.put,zA,zB,zC]
    have y0:=YB.out.cell 0;have y1:=YB.out.cell 1;have y2:=YB.out.cell 2;have y3:=YB.out.cell 3;have z0:=YB.out.frozen 0;have z1:=YB.out.frozen 1;have z2:=YB.out.frozen 2;have z3:=YB.out.frozen 3
    have PB:=ae.mk (put4 YB.out (.int .i64 c1) (.int .i64 c2) (.slice A 1 c) (.slice D m2 d2)).2
    have PP:=ae.mk (jd YB.out HP.out AR.out HV.out FR.out YBN.out HK.out c1 c2 c D m2 d2)
    refine ld 8 (fun K hK=>?_)
    go_simp
    replace X:=ae.mk (X.out.bar PB.out (by rw[List.mem_singleton];have:=XR.out;omega))
    clear y0 y1 y2 y3 z0 z1 z2 z3 PB
    generalize ((((w34.setCell ⟨R,0,none⟩ (.int .i64 c1)).setCell ⟨R,1,none⟩ (.int .i64 c2)).setCell ⟨R,2,none⟩ (.slice A 1 c)).setCell ⟨R,3,none⟩ (.slice D m2 d2))=w35 at *
    refine hK.out _ _ (CS X.out) (fun _=>?_)
    clear hK K
    try simp only[Act.put,zA,zB,zC]
    refine wpAnyH_done (by kernel_rfl) ?_ _
    refine NoPanic.normal ?_
    go_wp2_with fail
    go_meet
    case rel=>exact⟨R,rfl,PP.out⟩
 case rest =>
  clear CL CA B X
  obtain⟨R,rfl,c1,c2,A,c,D,m2,d2,Y,hp,V,F⟩:=hcut
  obtain⟨g,o,rfl,hc⟩:=hp.2.resolve_left (by omega)
  have p0:wc.cell? ⟨g,o,none⟩=some (.int .i64 (if isP m.v.l.b.p party=true then 8 else 1)):=by simpa using hc 0 _ rfl 0 _ rfl
  have VV:=ae.mk (And.intro V F)
  have y2:wc.cell? ⟨R,2,none⟩=some (.slice (some ⟨g,o,none⟩) 1 c):=Y.cell 2
  obtain⟨qp,hqp⟩:∃ q,isP m.v.l.b.p party=q:=⟨_,rfl⟩
  rw[hqp] at p0
  have HQ:=ae.mk hqp
  clear hqp hc hp Y V F
  cases qp with
  | false =>
   rw[if_neg (by decide)] at p0
   go_wp2
   go_ret
   exact⟨by rw[HQ.out];rfl,VV.out⟩
  | true =>
   rw[if_pos rfl] at p0
   go_wp2
   go_ret
   exact⟨by rw[HQ.out];rfl,VV.out⟩
theorem kG (h:VQ b Z w x t d n m) (hZ:∀ z∈Z,z < w.heap.size) (W:WL m.v.l) (WI_:WI m.v.l) (hk:m.v.l.b.p.np≤100):Calls Tryz.prog 51 #[.pointer (some ⟨x,0,none⟩)] w fun e w'=>e=.returned (.int .i64 m.v.l.b.p.np)∧VQ b Z w' x t d n m∧Far b Z w w':=by
 have CH:ae (∀ w' (i:Int),VQ b Z w' x t d n m→Far b Z w w'→Calls Tryz.prog 93 #[.pointer (some ⟨x,0,none⟩),.int .i64 i] w' fun e w''=>e=.returned (.bool (isP m.v.l.b.p i))∧VQ b Z w'' x t d n m∧Far b Z w' w'') :=
  ⟨fun w' i h1 f=>zG h1 (fun z hz=>Nat.lt_of_lt_of_le (hZ z hz) (bH f)) W WI_ i⟩
 have V0:=ae.mk h
 have F0:ae (Far b Z w w):=⟨Far.of (Below.refl _ _)⟩
 obtain⟨k,hkk⟩:∃ k,m.v.l.b.p.np=k:=⟨_,rfl⟩
 have IS:ae (∀ i:Nat,isP m.v.l.b.p i=decide (i < k)):=⟨fun i=>by
  unfold isP
  rw[hkk,decide_eq_decide]
  omega⟩
 rw[hkk] at hk ⊢
 clear h hZ W WI_ hkk
 go_enter Tryz.func51,Tryz.ntmps51
 go_wp2
 go_loopw [3] (fun i wr=>∃ j:Nat,j≤k∧i=.int .i64 j∧ae (VQ b Z wr x t d n m)∧ae (Far b Z w wr)) (fun i _=>k - (Go.RowKit.intOf i).toNat)
 case atStart=>exact⟨0,by omega,rfl,V0,F0⟩
 case round =>
  obtain⟨j,hj,rfl,V,F⟩:=hrel
  clear V0 F0
  have KH:=CH.out _ j V.out F.out
  rw[IS.out j] at KH
  by_cases hjk:j < k
  ·rw[decide_eq_true hjk] at KH
   replace KH:=ae.mk KH
   go_wp2_with fail
   refine KH.out.mono ?_
   rintro e w2 ⟨rfl,v,f⟩
   replace V:=ae.mk v;replace F:=ae.mk (F.out.trans f)
   clear v f KH
   go_wp2
   go_roundw
   case rel=>exact⟨j+1,by omega,by go_num,V,F⟩
   case measure=>simp[Go.RowKit.intOf];omega
  ·obtain rfl:j=k:=by omega
   rw[decide_eq_false hjk] at KH
   replace KH:=ae.mk KH
   go_wp2_with fail
   refine KH.out.mono ?_
   rintro e w2 ⟨rfl,v,f⟩
   replace V:=ae.mk v;replace F:=ae.mk (F.out.trans f)
   clear v f KH
   go_wp2
   go_ret
   exact⟨rfl,V.out,F.out⟩
end
end Gate
namespace Vault
open Go.RowKit Num Sha Purse Escrow Wire Req Disk Go.Proofs.YtlkeieoecfkkeaaGreat.Frame
theorem EQ (w:World):Calls Tryz.prog 7 #[] w fun e w'=>∃ t,e=.returned (.pointer (some ⟨t,0,none⟩))∧Tab w' t∧Below w.heap.size w w'∧w.heap.size≤t:=by
 refine(xX w).mono ?_
 rintro e w' ⟨rfl,rfl⟩
 exact⟨_,rfl,.inl (Blk.new _ _ _),(Below.refl _ _).alloc (Nat.le_refl _) _,Nat.le_refl _⟩
def S2 (a b cap:Int):Ledger.LS:=Ledger.newL 2 (twoX a b) cap
theorem QU {a b cap:Int}(h:Xu a b=true) (h1:1≤cap) (h2:cap≤400):Ledger.bU 2 (twoX a b) cap∧needV 2 (twoX a b) cap=2 * (sectorsF (14+63 * cap+440)+53):=by
 have hc:Ledger.bU 2 (twoX a b) cap:=⟨Xv h,h1,h2⟩
 refine⟨hc,?_⟩
 unfold needV
 rw[if_pos hc]
 rfl
theorem zH {n:Nat}(h1:1≤n) (h2:n≤8192):Journal.openJ (newD n)=Journal.noJ :=
 (Journal.yY (Jz n h1 h2) (fun j hj=>cZ n j hj)).open_is rfl
structure Pl (s0:Ledger.LS) (n:Nat) (m:MV) (r:Nat):Prop where
 up:Up s0 n m.s m.j m.v
 down:m.down=false
 fuse:m.s.fuse=-1
 room:m.j.pos+r≤n / 2
section
variable {s0 : Ledger.LS} {n r p : Nat} {m : MV} {x : BV} {b : List Int} {seq clock de : Int}
theorem Pl.wv (h:Pl s0 n m r):WV s0 m.v:=by
 obtain⟨v0,hr⟩:=h.up.rep
 exact hr.wv
theorem Pl.less {r':Nat}(h:Pl s0 n m r) (hr:r'≤r):Pl s0 n m r':=⟨h.up,h.down,h.fuse,by have:=h.room;omega⟩
theorem Td (h:Pl s0 n m (r+1)) {rec:List Int}(hb:Bytes rec) (hl:rec.length≤39):∃ t,Journal.appendJ m.s m.j rec=(0,t,Journal.kw m.j rec)∧Journal.aA n t (Journal.kw m.j rec)∧t.pend=[]∧t.down=false∧t.fuse=-1:=by
 have h3:=Journal.jZ h.up.k.wf
 have hk:Journal.kF rec=1:=by unfold Journal.kF;omega
 have hr:=h.room
 rcases Journal.append_any h.up.k h.up.pend h.up.up h.up.dead hb (Journal.rec_ok h.up.k (by omega)) with⟨h1,-⟩|⟨-,t,e,k,a1,a2,a3⟩|⟨hf,-⟩
 ·omega
 ·exact⟨t,e,k,a1,a2,a3 h.fuse⟩
 ·exact absurd h.fuse hf
theorem zI (he:encB x=(0,b)) (hok:∀ r∈x.l,r.ok):Bytes b:=by
 have:=tC hok
 rw[he] at this
 exact this
theorem Nj (h:Pl s0 n m (r+1)) (hp:p < m.v.t.length) (hs:seq=(tAt m.v p).seq+1) (hq:seq≤4294967295) (he:encB x=(0,b)) (hok:∀ r∈x.l,r.ok) (hl:b.length≤26) :
  ∃ m',handleM m p seq clock b 0 x=((0,bytesA (Ledger.applyL m.v.l p clock x).1),m')∧Pl s0 n m' r∧m'.v=doV m.v p seq (atV m.v.l clock) x∧m'.served=m.served+1:=by
 have hw:=h.wv
 have ht:=Ez hw.wl clock
 have h0:=(Lm hw hp).1
 obtain⟨t,e,k,a1,a2,a3⟩:=Td h (rec:=recV p seq (atV m.v.l clock) b) (nz (zI he hok)) (by rw[lC];omega)
 obtain⟨v0,hr⟩:=h.up.rep
 have hrep:Rep s0 (Journal.kw m.j (recV p seq (atV m.v.l clock) b)) v0 (doV m.v p seq (atV m.v.l clock) x):=by
  have:=hr.plus hp (by omega) ht.1 ht.2 he hok
  rw[← hs] at this
  exact this
 have es:storeJ m.s m.j (pictV m.v) (recV p seq (atV m.v.l clock) b)=(0,t,Journal.kw m.j (recV p seq (atV m.v.l clock) b)):=by
  unfold storeJ
  rw[e,if_neg (show ¬ ((0:Int)=12) by decide)]
 refine⟨⟨t,Journal.kw m.j (recV p seq (atV m.v.l clock) b),doV m.v p seq (atV m.v.l clock) x,false,m.served+1⟩,?_,⟨⟨k,a1,a2,h.up.dead,v0,hrep⟩,rfl,a3,?_⟩,rfl,rfl⟩
 ·unfold handleM
  have hpz:((p:Int)).toNat=p:=Int.toNat_natCast p
  rw[if_neg (by rw[h.down];decide),if_neg (by omega),hpz,if_neg (by omega),if_neg (by omega),if_neg (by decide)]
  dsimp only
  rw[es,if_pos rfl,applyL_at]
 ·have hk:Journal.kF (recV p seq (atV m.v.l clock) b)=1:=by unfold Journal.kF;rw[lC];omega
  have:=h.room
  show m.j.pos+Journal.kF (recV p seq (atV m.v.l clock) b)+r≤n / 2
  omega
theorem Nk (h:m.down=false) (hp:p < m.v.t.length) (hs:seq=(tAt m.v p).seq) (h0:0 < seq):handleM m p seq clock b de x=((0,bytesA (tAt m.v p).a),m):=by
 unfold handleM
 have hpz:((p:Int)).toNat=p:=Int.toNat_natCast p
 rw[if_neg (by rw[h];decide),if_neg (by omega),hpz,if_pos ⟨h0,hs⟩]
theorem nH (l:Ledger.LS) (p c seen:Int):Ledger.applyL l p c ⟨seen,[]⟩=(⟨(Ledger.clockL l c).clock,((Ledger.clockL l c).e.length:Nat),[],Ledger.oJ (Ledger.clockL l c) seen⟩,Ledger.clockL l c):=rfl
theorem Xn {k:Nat}{X:Nat→List Int}{cap:Int}(hc:Ledger.bU k X cap) (hn:needV k X cap≤(n:Int)) (h2:n≤8192):Pl (Ledger.newL k X cap) n ⟨newD n,Journal.noJ,newV (Ledger.newL k X cap) k,false,0⟩ 53:=by
 have hk:2≤k∧k≤16:=by have:=hc.1;unfold mG at this;omega
 obtain⟨c1,c2⟩:=hc.2
 unfold needV at hn
 rw[if_pos hc] at hn
 unfold sectorsF at hn
 rw[if_neg (by omega),if_neg (by omega)] at hn
 refine⟨⟨Journal.yY (Jz n (by omega) h2) (fun j hj=>cZ n j hj),rfl,rfl,rfl,_,UT (Ledger.Ky hc) (Ledger.KX k X cap) rfl⟩,rfl,rfl,?_⟩
 show 0+53≤n / 2
 omega
end
theorem pG:encB (⟨0,[]⟩:BV)=(0,[0,0,0]):=by decide
theorem pI:decNum (decNum (0,[0,0,0]) 2).2 1=(0,(0,[])):=by decide
theorem Nl:(decNum (0,[0,0,0]) 2).1=0:=by decide
theorem Np:DecC [0,0,0]:=fun w' A n c r hn=>by
 have hd:(decNum (decNum (0,[0,0,0]) 2).2 1).1=0:=by rw[pI]
 refine MP (fun w' d G he hd2=>C9 he hd2 hd) (fun _=>.inl ⟨rfl,?_⟩) (fun h=>absurd ?_ h) (fun r hr=>?_) r hn
 ·rw[pI,Nl];exact pG
 ·unfold DecBC
  rw[pI]
  exact⟨by decide,(fun r hr=>by cases hr),by decide⟩
 ·rw[pI] at hr;cases hr
theorem zJ {a:AV}(hp:a.p=[]) (hv:a.v=[]):EncC a:=by
 obtain⟨clock,seen,p,v⟩:=a
 dsimp only at hp hv
 subst hp hv
 intro w' A n c D m d hr hv hok
 obtain rfl:0=n:=hr.1
 obtain rfl:0=m:=hv.1
 exact IU clock seen (fun _ _ _ _ _ h hl _ _ _=>zt h (by omega)) (fun _ _ _ _ _ h hl _ _ _ _=>zu h (by omega)) hr hv hok
structure Nil (v:VS):Prop where
 e:v.l.e=[]
 a:∀ p,(tAt v p).a.p=[]∧(tAt v p).a.v=[]
theorem lq (l:Ledger.LS) (c:Int):(Ledger.clockL l c).e=l.e:=by unfold Ledger.clockL;split<;>rfl
theorem pJ {l:Ledger.LS}(h:l.e=[]) (p c:Int):(Ledger.applyL l p c ⟨0,[]⟩).1=⟨(Ledger.clockL l c).clock,0,[],[]⟩:=by
 rw[nH]
 have e:=(lq l c).trans h
 unfold Ledger.oJ Ledger.evs
 rw[e]
 rfl
theorem Nil.poll {v:VS}{p:Nat}{s c:Int}(h:Nil v) (hp:p < v.t.length):Nil (doV v p s c ⟨0,[]⟩):=by
 refine⟨?_,fun q=>?_⟩
 ·show (Ledger.applyL v.l p c ⟨0,[]⟩).2.e=[]
  rw[nH]
  exact(lq v.l c).trans h.e
 ·rw[Nb hp]
  by_cases e:q=p
  ·rw[if_pos e,pJ h.e];exact⟨rfl,rfl⟩
  ·rw[if_neg e];exact h.a q
theorem Vd (k:Nat) (X:Nat→List Int) (cap:Int) (j:Nat):Nil (newV (Ledger.newL k X cap) j):=⟨rfl,fun p=>by rw[Nc];exact⟨rfl,rfl⟩⟩
section
variable {b : Nat} {K : List Nat} {w : World} {x t d n r : Nat} {m : MV} {s0 : Ledger.LS} {party seq clock : Int}
theorem Ve {A:Option Addr}{bn c:Nat}(P:Pl s0 n m (r+1)) (N:Nil m.v) (h:VQ b K w x t d n m) (hK:∀ z∈K,z < w.heap.size) (rd:Rd w A bn [0,0,0]) (hA:In A bn K) (hsv:m.served≤1000000) (hsv0:0≤m.served) :
  Calls Tryz.prog 96 #[.pointer (some ⟨x,0,none⟩),.int .i64 party,.int .i64 seq,.int .i64 clock,.slice A bn c] w (wO b K w x t d n (handleM m party seq clock [0,0,0] 0 ⟨0,[]⟩)):=by
 have W:=P.wv
 have hby:Bytes [0,0,0]:=zI pG (fun r hr=>by cases hr)
 refine XZ (fun j y HJ FL I lv l h1 off=>Ig W h1 rd off (by have:3=bn:=rd.1;omega) hsv hsv0 (.inl ⟨rfl,pG⟩) Np (fun p=>⟨zJ (N.a p).1 (N.a p).2,?_⟩) (fun p w' A bn c hv r hp hq ht hn=>?_) (fun p w' HJ s5 j5 dn A bn c hv hp hr off hok hn hc hcm=>?_)) h hK hA
 ·exact zJ (by rw[pJ N.e]) (by rw[pJ N.e])
 ·refine MG (fun h12=>?_) hv r hp hq ht hn
  obtain⟨t,e,-⟩:=Td P (rec:=recV p seq (atV m.v.l clock) [0,0,0]) (nz hby) (by rw[lC];decide)
  rw[e] at h12
  exact absurd (show (0:Int)=12 from h12) (by decide)
 ·exact Xf (m:=⟨s5,j5,m.v,dn,m.served⟩) (fun w' t y FL A bn c hk hr off hn hc hcm=>Ledger.yA (p:Int) _ _ (fun r hr=>by cases hr) hk W.wl W.wi hr off (fun r hr=>by cases hr) hn hc hcm) hv hp hr off hn hc hcm
end
end Vault
namespace Gate
open Go.RowKit Num Sha Purse Escrow Go.Proofs.YtlkeieoecfkkeaaGreat.Frame Vault
def fives:Nat→List Int:=fun _=>[5]
theorem Nq:∀ k:Nat,k < 15→(∀ i,i < k+2→(fives i).length=(fives 0).length)∧∀ a,a < (fives 0).length→sumE (col fives (k+2) a)=0:=by decide +kernel
theorem ER {k:Nat}(h1:2≤k) (h2:k≤16):Ledger.bU k fives 4:=by
 obtain⟨j,rfl⟩:∃ j,k=j+2:=⟨k - 2,by omega⟩
 have h:=Nq j (by omega)
 exact⟨⟨⟨h1,h2⟩,by decide,h.1,h.2⟩,by decide,by decide⟩
theorem Ij {k:Nat}(h1:2≤k) (h2:k≤16):needV k fives 4=2 * ((24+(266+220 * (k:Int))+62) / 63+53):=by
 have hc:=ER h1 h2
 unfold needV
 rw[if_pos hc]
 unfold sectorsF
 rw[if_neg (by omega),if_neg (by omega)]
 omega
theorem Vf {w:World}{M:Nat}{T:TypeId}{cs:Array Value}{bs:List Nat}(h:Blk w M T cs) (hc:cs=(bs.map (fun b=>Value.slice (some ⟨b,0,none⟩) 1 1)).toArray) (hb:∀ b∈bs,Blk w b 3 #[.int .i64 5]):Rwi w (some ⟨M,0,none⟩) bs.length fives:=by
 refine .inr ⟨M,0,rfl,fun r hr=>?_⟩
 have h1:=h.cell r
 rw[hc] at h1
 have e:(bs.map (fun b=>Value.slice (some ⟨b,0,none⟩) 1 1)).toArray[r]?=some (.slice (some ⟨bs[r],0,none⟩) 1 1):=by simp[hr]
 rw[e] at h1
 exact⟨_,1,1,by rw[Nat.zero_add];exact h1,Nat.le_refl _,by omega,Ri.blk (xs:=[5]) (hb _ (List.getElem_mem hr)) rfl⟩
def jf (w:World):World:=(((w.alloc (.cells #[.int .i64 5] 3)).alloc (.cells #[.int .i64 5] 3)).alloc (.cells #[.int .i64 5] 3)).alloc (.cells #[.slice (some ⟨w.heap.size,0,none⟩) 1 1,.slice (some ⟨w.heap.size+1,0,none⟩) 1 1,.slice (some ⟨w.heap.size+2,0,none⟩) 1 1] 38)
theorem wP (w:World):Below w.heap.size w (jf w):=by
 unfold jf
 exact(((((Below.refl _ w).alloc (by(try simp only[World.size_alloc]);omega) _).alloc (by(try simp only[World.size_alloc]);omega) _).alloc (by(try simp only[World.size_alloc]);omega) _).alloc (by(try simp only[World.size_alloc]);omega) _)
theorem zK (w:World):(jf w).heap.size=w.heap.size+4:=by simp[jf]
theorem zL (w:World):Rwi (jf w) (some ⟨w.heap.size+3,0,none⟩) 3 fives:=by
 have h:Blk (jf w) (w.heap.size+3) 38 #[.slice (some ⟨w.heap.size,0,none⟩) 1 1,.slice (some ⟨w.heap.size+1,0,none⟩) 1 1,.slice (some ⟨w.heap.size+2,0,none⟩) 1 1]:=Blk.new_at _ _ _ _ (by simp)
 refine Vf (bs:=[w.heap.size,w.heap.size+1,w.heap.size+2]) h rfl (fun b hb=>?_)
 simp only[List.mem_cons,List.not_mem_nil,or_false] at hb
 rcases hb with rfl|rfl|rfl
 ·exact(((Blk.new_at w 3 #[.int .i64 5] (w.heap.size) (by simp)).alloc (.cells #[.int .i64 5] 3)).alloc (.cells #[.int .i64 5] 3)).alloc _
 ·exact((Blk.new_at (w.alloc (.cells #[.int .i64 5] 3)) 3 #[.int .i64 5] (w.heap.size+1) (by simp)).alloc (.cells #[.int .i64 5] 3)).alloc _
 ·exact(Blk.new_at ((w.alloc (.cells #[.int .i64 5] 3)).alloc (.cells #[.int .i64 5] 3)) 3 #[.int .i64 5] (w.heap.size+2) (by simp)).alloc _
end Gate
end Go.Proofs.YtlkeieoecfkkeaaGreat
