/-
  Parts laid together: SealRSeal.
-/
import Derived.Test.YtlkeieoecfkkeaaGreatPart34
import Derived.Test.YtlkeieoecfkkeaaGreatPart44
set_option maxRecDepth 100000
set_option maxHeartbeats 1000000
namespace Go.Proofs.YtlkeieoecfkkeaaGreat
namespace Seal
open Go.RowKit Sha Wire Mac
def jF (r:Int × List Int) (w:World) (e:Ending) (w':World):Prop :=
 ∃ A l c,e=.returned (.tuple #[.slice A l c,.int .i64 r.1])∧l≤c∧c≤9223372036854775807∧Rd w' A l r.2∧Below w.heap.size w w'∧NewA w A
theorem NT (Ak:Option Addr) (nk ck:Nat) (key:List Int) (n:NV) (A:Option Addr) (l c:Nat) (w:World) (hk:Rd w Ak nk key) (hnk:nk≤1000000) (hr:Rd w A l n.body) (hl:l≤1000000) :
  Calls Tryz.prog 23 #[.slice Ak nk ck,.agg #[.int .i64 n.party,.int .i64 n.which,.int .i64 n.way,.int .i64 n.seq,.slice A l c]] w (jF (sealN key n) w):=by
 obtain⟨p,h,y,s,bd⟩:=n
 dsimp only at hr ⊢
 have W:ae (Below w.heap.size w (w.alloc (.cells #[.int .i64 p,.int .i64 h,.int .i64 y,.int .i64 s,.slice A l c] 54))):=⟨(Below.refl _ _).alloc (Nat.le_refl _) _⟩
 have F:=ae.mk (Blk.new w 54 #[.int .i64 p,.int .i64 h,.int .i64 y,.int .i64 s,.slice A l c])
 have HK:=ae.mk (hk.below W.out);have HR:=ae.mk (hr.below W.out)
 have HLB:=ae.mk hr.1
 have HBY:=ae.mk hr.2.1
 have PE0:ae (∀ (u:Int),errN ⟨p,h,y,s,bd⟩=u→u≠0→∀ w',Below w.heap.size w w'→jF (sealN key ⟨p,h,y,s,bd⟩) w (.returned (.tuple #[.slice none 0 0,.int .i64 u])) w'):=⟨fun u hu h0 w' h1=>by
  unfold sealN;rw[if_neg (by rw[hu];exact h0),hu]
  exact⟨none,0,0,rfl,Nat.le_refl _,by omega,Rd.nil_,h1,lQ _⟩⟩
 have PE1:ae (errN ⟨p,h,y,s,bd⟩=0→∀ (A':Option Addr) (l' c':Nat) w',l'≤c'→c'≤9223372036854775807→Rd w' A' l' (bJ key ⟨p,h,y,s,bd⟩)→Below w.heap.size w w'→NewA w A'→jF (sealN key ⟨p,h,y,s,bd⟩) w (.returned (.tuple #[.slice A' l' c',.int .i64 0])) w'):=⟨fun h0 A' l' c' w' h1 h2 h3 h4 h5=>by
  unfold sealN;rw[if_pos h0,h0]
  exact⟨A',l',c',rfl,h1,h2,h3,h4,h5⟩⟩
 clear hk hr
 by_cases q0:p < 0
 ·have PF:=ae.mk (PE0.out 1 (by unfold errN;rw[if_neg (show ¬ mayN ⟨p,h,y,s,bd⟩ from fun k=>by unfold mayN wayN at k;dsimp only at k;omega)]) (by decide) _ W.out)
  go_enter Tryz.func23,Tryz.ntmps23
  go_wp2
  go_ret2
  exact PF.out
 by_cases q1:16≤p
 ·have PF:=ae.mk (PE0.out 1 (by unfold errN;rw[if_neg (show ¬ mayN ⟨p,h,y,s,bd⟩ from fun k=>by unfold mayN wayN at k;dsimp only at k;omega)]) (by decide) _ W.out)
  go_enter Tryz.func23,Tryz.ntmps23
  go_wp2
  go_ret2
  exact PF.out
 by_cases q2:h < 0
 ·have PF:=ae.mk (PE0.out 1 (by unfold errN;rw[if_neg (show ¬ mayN ⟨p,h,y,s,bd⟩ from fun k=>by unfold mayN wayN at k;dsimp only at k;omega)]) (by decide) _ W.out)
  go_enter Tryz.func23,Tryz.ntmps23
  go_wp2
  go_ret2
  exact PF.out
 by_cases q3:1 < h
 ·have PF:=ae.mk (PE0.out 1 (by unfold errN;rw[if_neg (show ¬ mayN ⟨p,h,y,s,bd⟩ from fun k=>by unfold mayN wayN at k;dsimp only at k;omega)]) (by decide) _ W.out)
  go_enter Tryz.func23,Tryz.ntmps23
  go_wp2
  go_ret2
  exact PF.out
 by_cases q4:y < 0
 ·have PF:=ae.mk (PE0.out 1 (by unfold errN;rw[if_neg (show ¬ mayN ⟨p,h,y,s,bd⟩ from fun k=>by unfold mayN wayN at k;dsimp only at k;omega)]) (by decide) _ W.out)
  go_enter Tryz.func23,Tryz.ntmps23
  go_wp2
  go_ret2
  exact PF.out
 by_cases q5:1 < y
 ·have PF:=ae.mk (PE0.out 1 (by unfold errN;rw[if_neg (show ¬ mayN ⟨p,h,y,s,bd⟩ from fun k=>by unfold mayN wayN at k;dsimp only at k;omega)]) (by decide) _ W.out)
  go_enter Tryz.func23,Tryz.ntmps23
  go_wp2
  go_ret2
  exact PF.out
 by_cases q6:s < 1
 ·have PF:=ae.mk (PE0.out 1 (by unfold errN;rw[if_neg (show ¬ mayN ⟨p,h,y,s,bd⟩ from fun k=>by unfold mayN wayN at k;dsimp only at k;omega)]) (by decide) _ W.out)
  go_enter Tryz.func23,Tryz.ntmps23
  go_wp2
  go_ret2
  exact PF.out
 by_cases q7:4294967295 < s
 ·have PF:=ae.mk (PE0.out 1 (by unfold errN;rw[if_neg (show ¬ mayN ⟨p,h,y,s,bd⟩ from fun k=>by unfold mayN wayN at k;dsimp only at k;omega)]) (by decide) _ W.out)
  go_enter Tryz.func23,Tryz.ntmps23
  go_wp2
  go_ret2
  exact PF.out
 have hm:mayN ⟨p,h,y,s,bd⟩:=by unfold mayN wayN;dsimp only;omega
 by_cases hbig:60000 < l
 ·have hbig':(60000:Int) < l:=by omega
  have PF:=ae.mk (PE0.out 3 (by unfold errN;rw[if_pos hm,if_pos (by have:=HLB.out;dsimp only;omega)]) (by decide) _ W.out)
  go_enter Tryz.func23,Tryz.ntmps23
  go_wp2
  go_ret2
  exact PF.out
 have hbig':((60000:Int) < l)=False:=eq_false (by omega)
 have HM:=ae.mk hm
 have CH:=ae.mk (Ht ⟨p,h,y,s,bd⟩ A l c _ HR.out hm (by omega))
 have h0:errN ⟨p,h,y,s,bd⟩=0:=wL.2 ⟨hm,by have:=HLB.out;dsimp only;omega⟩
 replace PE1:=ae.mk (PE1.out h0)
 clear hm h0
 go_enter Tryz.func23,Tryz.ntmps23
 go_upto_region 1 with(fail)
 generalize w.alloc (.cells #[.int .i64 p,.int .i64 h,.int .i64 y,.int .i64 s,.slice A l c] 54)=w1 at *
 have f0:=F.out.cell 0;have f1:=F.out.cell 1;have f2:=F.out.cell 2;have f3:=F.out.cell 3;have f4:=F.out.cell 4
 unfold gI at CH
 go_wp2_with fail
 refine CH.out.mono ?_
 rintro x w2 ⟨v2,rfl,o2,b2⟩
 obtain⟨A2,c2,rfl,hc2,hm2,r2⟩:=aO o2 (kE _ HBY.out)
 dsimp only at o2 r2 hc2 ⊢
 have hl2:bd.length=l:=HLB.out
 rw[hl2] at o2 r2 hc2 ⊢
 have O2:=ae.mk o2;have R2:=ae.mk r2
 have W2:=ae.mk (W.out.trans (b2.mono W.out.size))
 have hw1:=W.out.size
 have HK2:=ae.mk (HK.out.below b2)
 have hb2:=b2.size
 clear o2 r2 b2 hl2 HK HR f0 f1 f2 f3 f4 F W CH
 go_wp2_with fail
 refine(wU Ak A2 nk ck (12+l) c2 key (iH ⟨p,h,y,s,bd⟩) w2 HK2.out R2.out (by omega) (by omega)).mono ?_
 rintro x w3 ⟨M,c3,rfl,-,hc3,hm3,r3,b3⟩
 have R3:=ae.mk r3
 have O3:=ae.mk (own_keep O2.out (barOf b3 []) (fun _ _=>by simp))
 have W3:=ae.mk (W2.out.trans (b3.mono W2.out.size))
 have hw3:w1.heap.size≤w3.heap.size:=by have:=b3.size;omega
 clear r3 b3 O2 R2 HK2 W2
 go_wp2_with ((with_reducible refine sel 55 ?_);refine ai rfl (.tmp 51) (.tmp 54) 22 rfl w1.heap.size 5 Tryz.underlying22 ax (.slice A2 (12+l) c2) (12+l) _ rfl O3.out (some ⟨M,0,none⟩) 32 c3 (hmac key (iH ⟨p,h,y,s,bd⟩)) rfl R3.out (by omega) hw3 ?_;intro v7 w7 o7 g7;have B7:=ae.mk (own_below O3.out g7 hw3);clear g7)
 replace o7:=o7.out
 rw[← af] at o7
 obtain⟨A7,c7,rfl,hc7,hm7,r7⟩:=aO o7 (ry key _ HBY.out)
 have PF:=ae.mk (PE1.out A7 (12+l+32) c7 w7 hc7 hm7 r7 (W3.out.trans (B7.out.mono hw1)) (pR o7 hw1))
 clear o7 r7
 go_wp2
 go_ret2
 exact PF.out
end Seal
end Go.Proofs.YtlkeieoecfkkeaaGreat
