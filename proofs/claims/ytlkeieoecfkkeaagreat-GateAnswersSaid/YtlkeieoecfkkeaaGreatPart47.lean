/-
  Parts laid together: SealSeal.
-/
import Derived.Test.YtlkeieoecfkkeaaGreatPart6
import Derived.Test.YtlkeieoecfkkeaaGreatPart34
import Derived.Test.YtlkeieoecfkkeaaGreatPart41
import Derived.Test.YtlkeieoecfkkeaaGreatPart18
import Derived.Lib.SmallJoins
set_option maxRecDepth 100000
set_option maxHeartbeats 1000000
namespace Go.Proofs.YtlkeieoecfkkeaaGreat
namespace Seal
open Go.RowKit Sha Wire Mac
def QX (n:NV) (i:Nat):List Int:=if i=0 then lI n else n.body
theorem Fa (n:NV):cat (QX n) 2=iH n:=by unfold iH;simp[cat,QX]
theorem rws2 {w:World}{g:Nat}{T:TypeId}{n:NV}{A0 A1:Option Addr}{n0 n1 c0 c1:Nat}(h:Blk w g T #[.slice A0 n0 c0,.slice A1 n1 c1])
  (h0:n0≤c0) (h1:n1≤c1) (k0:c0≤9223372036854775807) (k1:c1≤9223372036854775807)
  (r0:Rd w A0 n0 (lI n)) (r1:Rd w A1 n1 n.body):Rws w (some ⟨g,0,none⟩) 2 (QX n):=by
 refine .inr ⟨g,0,rfl,fun r hr=>?_⟩
 rw[Nat.zero_add,h.cell]
 match r,hr with
 | 0,_=>exact⟨A0,n0,c0,rfl,h0,k0,r0⟩
 | 1,_=>exact⟨A1,n1,c1,rfl,h1,k1,r1⟩
def gU (t:Nat) (r:Int × List Int) (w:World) (e:Ending) (w':World):Prop :=
 ∃ A l c,e=.returned (.tuple #[.slice A l c,.int .i64 r.1])∧l≤c∧c≤9223372036854775807∧Rd w' A l r.2∧Tab w' t∧Bar [t] w w'∧NewA w A
theorem ND (t:Nat) (Ak:Option Addr) (nk ck:Nat) (key:List Int) (n:NV) (A:Option Addr) (l c:Nat) (w:World) (ht:Tab w t) (hk:Rd w Ak nk key) (hck:nk≤ck) (hmk:ck≤9223372036854775807) (hnk:nk≤1000000) (hr:Rd w A l n.body) (hc:l≤c) (hcm:c≤9223372036854775807) (hl:l≤1000000) :
  Calls Tryz.prog 140 #[.pointer (some ⟨t,0,none⟩),.slice Ak nk ck,.agg #[.int .i64 n.party,.int .i64 n.which,.int .i64 n.way,.int .i64 n.seq,.slice A l c]] w (gU t (sealN key n) w):=by
 obtain⟨N,hN⟩:∃ N,w.heap.size=N:=⟨_,rfl⟩
 have htN:t < N:=by rw[← hN];exact ht.lt
 have b0:Below N w (w.alloc (.cells #[.int .i64 n.party,.int .i64 n.which,.int .i64 n.way,.int .i64 n.seq,.slice A l c] 54)):=(Below.refl _ _).alloc (by omega) _
 have F:=ae.mk (Blk.new_at w 54 #[.int .i64 n.party,.int .i64 n.which,.int .i64 n.way,.int .i64 n.seq,.slice A l c] N hN.symm)
 have HT:=ae.mk (ht.below b0 htN)
 have HK:=ae.mk (hk.below (hN.symm▸b0));have HR:=ae.mk (hr.below (hN.symm▸b0))
 have W:=ae.mk b0
 have HLB:=ae.mk hr.1
 have HBY:=ae.mk hr.2.1
 have WAY:=ae.mk (fun w'=>FH n.party n.which n.way n.seq n.body A l c w')
 have PE0:ae (∀ (u:Int),errN n=u→u≠0→∀ w',Tab w' t→Bar [t] w w'→gU t (sealN key n) w (.returned (.tuple #[.slice none 0 0,.int .i64 u])) w'):=⟨fun u hu h0 w' h1 h2=>by
  unfold sealN;rw[if_neg (by rw[hu];exact h0),hu]
  exact⟨none,0,0,rfl,Nat.le_refl _,by omega,Rd.nil_,h1,h2,lQ _⟩⟩
 have PE1:ae (errN n=0→∀ (A':Option Addr) (l' c':Nat) w',l'≤c'→c'≤9223372036854775807→Rd w' A' l' (bJ key n)→Tab w' t→Bar [t] w w'→NewA w A'→gU t (sealN key n) w (.returned (.tuple #[.slice A' l' c',.int .i64 0])) w'):=⟨fun h0 A' l' c' w' h1 h2 h3 h4 h5 h6=>by
  unfold sealN;rw[if_pos h0,h0]
  exact⟨A',l',c',rfl,h1,h2,h3,h4,h5,h6⟩⟩
 clear ht hk hr b0
 go_enter Tryz.func140,Tryz.ntmps140
 go_upto_region 1 with(fail)
 generalize w.alloc (.cells #[.int .i64 n.party,.int .i64 n.which,.int .i64 n.way,.int .i64 n.seq,.slice A l c] 54)=w1 at *
 have f0:=F.out.cell 0;have f1:=F.out.cell 1;have f2:=F.out.cell 2;have f3:=F.out.cell 3;have f4:=F.out.cell 4
 by_cases hw:wayN n
 rotate_left
 ·rw[show decide (wayN ⟨n.party,n.which,n.way,n.seq,n.body⟩)=false from decide_eq_false hw] at WAY
  have PF:=ae.mk (PE0.out 1 (by unfold errN;rw[if_neg (fun h=>hw h.1)]) (by decide))
  clear hw
  go_wp2_with fail
  refine(WAY.out w1).mono ?_
  rintro x w2 ⟨rfl,b2⟩
  have HT2:=ae.mk (HT.out.below b2 HT.out.lt)
  have W2:ae (Bar [t] w w2):=⟨barOf (hN.symm▸(W.out.trans (b2.mono (by have:=F.out.lt;have:=W.out.size;omega)))) _⟩
  clear b2
  go_wp2
  go_ret2
  exact PF.out _ HT2.out W2.out
 rw[show decide (wayN ⟨n.party,n.which,n.way,n.seq,n.body⟩)=true from decide_eq_true hw] at WAY
 have HW:=ae.mk hw
 clear hw
 go_wp2_with fail
 refine(WAY.out w1).mono ?_
 rintro x w2 ⟨rfl,b2⟩
 replace F:=ae.mk (F.out.below b2 F.out.lt);replace HT:=ae.mk (HT.out.below b2 HT.out.lt);replace HK:=ae.mk (HK.out.below b2);replace HR:=ae.mk (HR.out.below b2)
 replace W:=ae.mk (W.out.trans (b2.mono (by have:=W.out.size;omega)))
 clear b2 f0 f1 f2 f3 f4 WAY
 have f3:=F.out.cell 3
 by_cases h0:n.seq=0
 ·have PF:=ae.mk (PE0.out 1 (by unfold errN;rw[if_neg (fun h=>by have:=h.2.1;omega)]) (by decide) _ HT.out (barOf (hN.symm▸W.out) _))
  have h0b:(n.seq == 0)=true:=by simpa using h0
  clear h0
  go_wp2
  go_ret2
  exact PF.out
 have h0b:(n.seq == 0)=false:=by simpa using h0
 have H0:=ae.mk h0
 clear h0
 have f0:=F.out.cell 0;have f1:=F.out.cell 1;have f2:=F.out.cell 2;have f4:=F.out.cell 4
 have CH:=qV n A l c w2 HLB.out (by omega) HW.out H0.out
 rw[SL n HW.out H0.out (by have:=HLB.out;omega)] at CH
 unfold jC at CH
 by_cases hm:mayN n
 rotate_left
 ·rw[if_neg hm] at CH
  replace CH:=ae.mk CH
  have PF:=ae.mk (PE0.out 1 (by unfold errN;rw[if_neg hm]) (by decide))
  clear hm
  go_wp2_with fail
  refine CH.out.mono ?_
  rintro x w3 ⟨v,rfl,o3,b3⟩
  obtain⟨Av,cv,rfl⟩:=aY o3
  have HT3:=ae.mk (HT.out.below b3 HT.out.lt)
  have W3:ae (Bar [t] w w3):=⟨barOf (hN.symm▸(W.out.trans (b3.mono (by have:=W.out.size;omega)))) _⟩
  clear b3 o3
  go_wp2
  go_ret2
  exact PF.out _ HT3.out W3.out
 rw[if_pos hm] at CH
 replace CH:=ae.mk CH
 have HM:=ae.mk hm
 clear hm
 go_wp2_with fail
 refine CH.out.mono ?_
 rintro x w3 ⟨v,rfl,o3,b3⟩
 replace F:=ae.mk (F.out.below b3 F.out.lt);replace HT:=ae.mk (HT.out.below b3 HT.out.lt);replace HK:=ae.mk (HK.out.below b3);replace HR:=ae.mk (HR.out.below b3)
 replace W:=ae.mk (W.out.trans (b3.mono (by have:=W.out.size;omega)))
 obtain⟨Av,cv,rfl,k1,k2,k3⟩:=aO o3 (kD n)
 rw[lJ] at k1 k3 ⊢
 have HH:=ae.mk k3
 clear b3 o3 k3 f0 f1 f2 f3 f4 CH
 have f4:=F.out.cell 4
 by_cases hbig:60000 < l
 ·have hbig':(60000:Int) < l:=by omega
  have PF:=ae.mk (PE0.out 3 (by unfold errN;rw[if_pos HM.out,if_pos (by have:=HLB.out;omega)]) (by decide) _ HT.out (barOf (hN.symm▸W.out) _))
  go_wp2
  go_ret2
  exact PF.out
 have hbig':((60000:Int) < l)=False:=eq_false (by omega)
 go_upto_region 8 with(fail)
 obtain⟨M,hM⟩:∃ M,w3.heap.size=M:=⟨_,rfl⟩
 have q5:Bar [] w3 (w3.alloc (.cells #[.slice Av 12 cv,.slice A l c] 22)):=(Bar.refl _ _).alloc _
 have W5:=ae.mk (rws2 (n:=n) (Blk.new w3 22 #[.slice Av 12 cv,.slice A l c]) k1 hc k2 hcm (HH.out.keep q5 (by simp)) (HR.out.keep q5 (by simp)))
 go_wp2_with fail
 have CC:=mD (some ⟨M,0,none⟩) 2 2 (QX n) (w3.alloc (.cells #[.slice Av 12 cv,.slice A l c] 22)) (hM▸W5.out) (by omega) (by rw[Fa,lK,HLB.out];omega)
 rw[Fa] at CC
 unfold jo at CC
 have hTL:=lK n
 rw[HLB.out] at hTL
 rw[hTL] at CC
 have F5:=ae.mk (F.out.bar q5 (by simp));have HT5:=ae.mk (HT.out.bar q5 (by simp));have HK5:=ae.mk (HK.out.keep q5 (by simp))
 have W6:ae (Bar [t] w (w3.alloc (.cells #[.slice Av 12 cv,.slice A l c] 22))):=⟨(barOf (hN.symm▸W.out) [t]).trans q5 (by simp)⟩
 replace CC:=ae.mk CC
 have HTLK:=ae.mk hTL
 clear F HT HK W W5 q5 HH HR hTL
 generalize w3.alloc (.cells #[.slice Av 12 cv,.slice A l c] 22)=w4 at *
 refine CC.out.mono ?_
 rintro x w5 ⟨v5,rfl,o5,b5⟩
 obtain⟨A5,c5,rfl,hc5,hm5,r5⟩:=aO o5 (kE n HBY.out)
 have hs5:=b5.size
 replace HT5:=ae.mk (HT5.out.below b5 HT5.out.lt);replace HK5:=ae.mk (HK5.out.below b5)
 replace W6:=ae.mk (W6.out.trans (barOf b5 []) (by simp))
 have R5:=ae.mk r5
 have O5:=ae.mk o5
 have HTO:∀ g∈(Value.slice A5 (12+l) c5).ownBlock.toList,g∉[t]:=fun g hg hm=>by
  rw[List.mem_singleton] at hm
  subst hm
  have h1:=(o5.lt g (by simpa using hg)).1
  have h2:=F5.out.lt
  omega
 have HTO:=ae.mk HTO
 clear b5 o5 r5 CC
 go_wp2_with fail
 refine(wQ t Ak A5 nk ck (12+l) c5 key (iH n) w5 HT5.out HK5.out R5.out hck hmk hc5 hm5 (by omega) (by omega)).mono ?_
 rintro x w6 ⟨M1,rfl,hM1,k1',m1,b6⟩
 have K1:=ae.mk (Rd.blk k1' (iI key (iH n)) (dG _ _))
 have O6:=ae.mk (own_keep O5.out b6 HTO.out)
 have HT6:ae (Tab w6 t):=⟨.inr m1⟩
 have W7:=ae.mk (W6.out.trans b6 (by simp))
 have hb6:w4.heap.size≤w6.heap.size:=by have:=b6.size;omega
 have hN4:=F5.out.lt
 have hw4:w.heap.size≤w4.heap.size:=by omega
 clear k1' m1 b6 O5 R5 HK5 HT5 W6 F5
 go_wp2_with ((with_reducible refine sel 41 ?_);refine ai rfl (.tmp 36) (.tmp 40) 22 rfl w4.heap.size 5 Tryz.underlying22 ax (.slice A5 (12+l) c5) (12+l) _ rfl O6.out (some ⟨M1,0,none⟩) 32 32 (hmac key (iH n)) rfl K1.out (by omega) hb6 ?_;intro v7 w7 o7 g7;have B7:=ae.mk (own_below O6.out g7 hb6);have G7:=ae.mk (Bar.grownRow g7);clear g7)
 replace o7:=o7.out
 rw[← af] at o7
 obtain⟨A7,c7,rfl,hc7,hm7,r7⟩:=aO o7 (ry key n HBY.out)
 have HT7:=ae.mk (HT6.out.below B7.out (by omega))
 have W8:ae (Bar [t] w w7):=⟨W7.out.trans G7.out (fun k hk=>.inr (by have h1:=(O6.out.lt k (by simpa using hk)).1;omega))⟩
 have h0:errN n=0:=wL.2 ⟨HM.out,by have:=HLB.out;omega⟩
 have PF:=ae.mk (PE1.out h0 A7 (12+l+32) c7 w7 hc7 hm7 r7 HT7.out W8.out (pR o7 hw4))
 clear o7 r7
 go_wp2
 go_ret2
 exact PF.out
end Seal
end Go.Proofs.YtlkeieoecfkkeaaGreat
