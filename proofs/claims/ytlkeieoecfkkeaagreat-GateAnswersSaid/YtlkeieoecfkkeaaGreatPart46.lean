/-
  Parts laid together: SealOpen.
-/
import Derived.Test.YtlkeieoecfkkeaaGreatPart45
import Derived.Test.YtlkeieoecfkkeaaGreatPart41
import Derived.Test.YtlkeieoecfkkeaaGreatPart6
import Derived.BigQuiet
import Derived.Lib.SmallJoins
set_option maxRecDepth 100000
set_option maxHeartbeats 1000000
namespace Go.Proofs.YtlkeieoecfkkeaaGreat
namespace Seal
open Go.RowKit Sha Wire Mac
theorem nJ {A:Option Addr}{n:Nat}{F G:List Nat}(h:Off A n F) (q:∀ k∈G,k∈F):Off A n G:=by
 rcases h with h|⟨g,o,e,hg⟩
 ·exact .inl h
 ·exact .inr ⟨g,o,e,fun hm=>hg (q g hm)⟩
def gY (t:Nat) (r:NV × Int) (w:World) (e:Ending) (w':World):Prop :=
 ∃ A l c,e=.returned (.tuple #[.agg #[.int .i64 r.1.party,.int .i64 r.1.which,.int .i64 r.1.way,.int .i64 r.1.seq,.slice A l c],.int .i64 r.2])∧l≤c∧c≤9223372036854775807∧Rd w' A l r.1.body∧Tab w' t∧Bar [t] w w'
def aX (t:Nat) (r:NV × Int) (w:World) (e:Ending) (w':World):Prop :=
 ∃ A l c,e=.returned (.tuple #[.agg #[.int .i64 r.1.party,.int .i64 r.1.which,.int .i64 r.1.way,.int .i64 r.1.seq,.slice A l c],.int .i64 r.2])∧l≤c∧c≤9223372036854775807∧Rd w' A l r.1.body∧Tab w' t∧Bar [t] w w'∧NewA w A
theorem zS (t:Nat) (Ak:Option Addr) (nk ck:Nat) (key:List Int) (A:Option Addr) (n c:Nat) (b:List Int) (w:World) (ht:Tab w t) (hk:Rd w Ak nk key) (hck:nk≤ck) (hmk:ck≤9223372036854775807) (hnk:nk≤1000000) (hr:Rd w A n b) (hc:n≤c) (hcm:c≤9223372036854775807) (hn:n≤1000000) :
  Calls Tryz.prog 135 #[.pointer (some ⟨t,0,none⟩),.slice Ak nk ck,.slice A n c] w (aX t (openN key b) w):=by
 obtain⟨N,hN⟩:∃ N,w.heap.size=N:=⟨_,rfl⟩
 have htN:t < N:=by rw[← hN];exact ht.lt
 have b0:Below N w (w.alloc (.cells #[.int .i64 0,.int .i64 0,.int .i64 0,.int .i64 0,.slice none 0 0] 54)):=(Below.refl _ _).alloc (by omega) _
 have B0:=ae.mk (Blk.new_at w 54 #[.int .i64 0,.int .i64 0,.int .i64 0,.int .i64 0,.slice none 0 0] N hN.symm)
 have HT:=ae.mk (ht.below b0 htN)
 have HK:=ae.mk (hk.below (hN.symm▸b0));have HR:=ae.mk (hr.below (hN.symm▸b0))
 have W0:=ae.mk b0
 have CR:=ae.mk (lL A n c b _ HR.out hc hn)
 have HLB:=ae.mk hr.1
 have HBY:=ae.mk hr.2.1
 have HOC:=ae.mk (rD key b)
 have PE0:ae (∀ (u:Int),gJ key b=u→u≠0→∀ w',Tab w' t→Bar [t] w w'→aX t (openN key b) w (.returned (.tuple #[.agg #[.int .i64 0,.int .i64 0,.int .i64 0,.int .i64 0,.slice none 0 0],.int .i64 u])) w'):=⟨fun u hu h0 w' h1 h2=>by
  unfold openN;rw[if_neg (by rw[hu];exact h0),hu]
  exact⟨none,0,0,rfl,Nat.le_refl _,by omega,Rd.nil_,h1,h2,lQ _⟩⟩
 have PE1:ae (gJ key b=0→∀ (A':Option Addr) (l c':Nat) w',l≤c'→c'≤9223372036854775807→Rd w' A' l ((b.take (n - 32)).drop 12)→Tab w' t→Bar [t] w w'→NewA w A'→aX t (openN key b) w (.returned (.tuple #[.agg #[.int .i64 (at_ b 1),.int .i64 (at_ b 2),.int .i64 (at_ b 3),.int .i64 (nS b:Nat),.slice A' l c'],.int .i64 0])) w'):=⟨fun h0 A' l c' w' h1 h2 h3 h4 h5 h6=>by
  unfold openN;rw[if_pos h0]
  have:=HLB.out
  exact⟨A',l,c',rfl,h1,h2,by unfold MX;rw[this];exact h3,h4,h5,h6⟩⟩
 unfold zO at CR
 clear ht hk hr b0
 go_enter Tryz.func135,Tryz.ntmps135
 go_upto_region 1 with(fail)
 generalize w.alloc (.cells #[.int .i64 0,.int .i64 0,.int .i64 0,.int .i64 0,.slice none 0 0] 54)=w1 at *
 go_wp2_with fail
 refine CR.out.mono ?_
 rintro x w2 ⟨rfl,b2⟩
 replace B0:=ae.mk (B0.out.below b2 B0.out.lt);replace HT:=ae.mk (HT.out.below b2 HT.out.lt);replace HK:=ae.mk (HK.out.below b2);replace HR:=ae.mk (HR.out.below b2)
 have W2:=ae.mk (W0.out.trans (b2.mono (by have:=B0.out.lt;have:=W0.out.size;omega)))
 clear CR W0 b2
 obtain⟨M,hM⟩:∃ M,w2.heap.size=M:=⟨_,rfl⟩
 have hNM:N < M:=by have:=B0.out.lt;omega
 obtain⟨q,hq⟩:∃ q,decide (peekOk b)=q:=⟨_,rfl⟩
 rw[hq]
 have HQ:=ae.mk hq
 obtain⟨H,hH⟩:∃ H,hdV b=H:=⟨_,rfl⟩
 rw[hH]
 have HH:=ae.mk hH
 obtain⟨p,h,y,s,bd⟩:=H
 dsimp only
 clear hH hq
 have F3:=ae.mk (Blk.new_at w2 54 #[.int .i64 p,.int .i64 h,.int .i64 y,.int .i64 s,.slice none 0 0] M hM.symm)
 have b3:Below w2.heap.size w2 (w2.alloc (.cells #[.int .i64 p,.int .i64 h,.int .i64 y,.int .i64 s,.slice none 0 0] 54)):=(Below.refl _ _).alloc (Nat.le_refl _) _
 go_upto_region 2 with(fail)
 replace B0:=ae.mk (B0.out.below b3 B0.out.lt);replace HT:=ae.mk (HT.out.below b3 HT.out.lt);replace HK:=ae.mk (HK.out.below b3);replace HR:=ae.mk (HR.out.below b3)
 have W3:=ae.mk (W2.out.trans (b3.mono (by omega)))
 clear W2 b3 hM
 generalize w2.alloc (.cells #[.int .i64 p,.int .i64 h,.int .i64 y,.int .i64 s,.slice none 0 0] 54)=w3 at *
 have W3b:ae (Bar [t] w w3):=⟨barOf (hN.symm▸W3.out) _⟩
 have P5:=ae.mk (put5 B0.out (.int .i64 0) (.int .i64 0) (.int .i64 0) (.int .i64 0) (.slice none 0 0))
 have z0:=B0.out.cell 0;have z1:=B0.out.cell 1;have z2:=B0.out.cell 2;have z3:=B0.out.cell 3;have z4:=B0.out.cell 4
 have y0:=B0.out.frozen 0;have y1:=B0.out.frozen 1;have y2:=B0.out.frozen 2;have y3:=B0.out.frozen 3;have y4:=B0.out.frozen 4
 have PZ:ae (∀ u,gJ key b=u→u≠0→aX t (openN key b) w (.returned (.tuple #[.agg #[.int .i64 0,.int .i64 0,.int .i64 0,.int .i64 0,.slice none 0 0],.int .i64 u])) (((((w3.setCell ⟨N,0,none⟩ (.int .i64 0)).setCell ⟨N,1,none⟩ (.int .i64 0)).setCell ⟨N,2,none⟩ (.int .i64 0)).setCell ⟨N,3,none⟩ (.int .i64 0)).setCell ⟨N,4,none⟩ (.slice none 0 0))):=⟨fun u hu h0=>PE0.out u hu h0 _ (HT.out.bar P5.out.2 (by rw[List.mem_singleton];omega)) (W3b.out.trans P5.out.2 (fun k hk=>.inr (by rw[List.mem_singleton] at hk;omega)))⟩
 cases q with
 | false =>
  have PF:=ae.mk (PZ.out 2 (HOC.out.elim (fun h=>absurd h.2.1 (of_decide_eq_false HQ.out)) (fun h=>h.elim (fun k=>k.1) (fun k=>absurd k.2.1 (of_decide_eq_false HQ.out)))) (by decide))
  go_wp2
  (try simp only[Exit.inBlock,Exit.then])
  refine bodyPost_ret (results_cell_tmp rfl _ _ N 54 #[.int .i64 0,.int .i64 0,.int .i64 0,.int .i64 0,.slice none 0 0] (0,0) _ rfl P5.out.1 Tryz.underlying54 rfl aG) rfl ?_
  exact PF.out
 | true =>
  have hpk:=of_decide_eq_true HQ.out
  have h44:44≤n:=by have:=hpk.1;have:=HLB.out;omega
  have HPK:=ae.mk hpk
  have hHV:hdV b=⟨at_ b 1,at_ b 2,at_ b 3,(nS b:Nat),[]⟩:=by unfold hdV;rw[if_neg (by have:=hpk.1;omega)]
  rw[HH.out] at hHV
  injection hHV with e1 e2 e3 e4 e5
  have f3:=F3.out.cell 3
  by_cases hs0:nS b=0
  ·obtain rfl:s=0:=by rw[e4,hs0];rfl
   have PF:=ae.mk (PZ.out 2 (HOC.out.elim (fun h=>absurd hs0 h.2.2.1) (fun h=>h.elim (fun k=>k.1) (fun k=>absurd hs0 k.2.2.1))) (by decide))
   clear e1 e2 e3 e4 e5 hs0 hpk
   go_wp2
   (try simp only[Exit.inBlock,Exit.then])
   refine bodyPost_ret (results_cell_tmp rfl _ _ N 54 #[.int .i64 0,.int .i64 0,.int .i64 0,.int .i64 0,.slice none 0 0] (0,0) _ rfl P5.out.1 Tryz.underlying54 rfl aG) rfl ?_
   exact PF.out
  ·have hsn:(s == 0)=false:=by
    have:s≠0:=by rw[e4];omega
    simpa using this
   have HE:ae (gJ key b=if hmac key (b.take (n - 32))=b.drop (n - 32) then 0 else 4):=⟨by
    have hl:=HLB.out
    rcases HOC.out with k|k|k
    ·rw[k.1,if_pos (by rw[← hl];exact k.2.2.2)]
    ·exact absurd ⟨hpk,hs0⟩ k.2
    ·rw[k.1,if_neg (by rw[← hl];exact k.2.2.2)]⟩
   have PE2:=PE1
   rw[← e1,← e2,← e3,← e4] at PE2
   clear e1 e2 e3 e4 e5 hs0 hpk PE1
   obtain⟨A1,hs1,r1,-⟩:=rQ HR.out hc (n - 32) (by omega) ((n:Int) - 32) (by omega)
   obtain⟨A2,hs2,r2,-⟩:=jh HR.out hc (n - 32) (by omega) ((n:Int) - 32) (by omega)
   have R1:=ae.mk r1;have R2:=ae.mk r2
   clear r1 r2 z0 z1 z2 z3 z4 y0 y1 y2 y3 y4
   go_upto_region 5 with(fail)
   clear f3
   go_quiet (fail)
   have b4:Below w3.heap.size w3 (w3.drewN nq):=below_drewN (Below.refl _ _) _
   replace F3:=ae.mk (F3.out.below b4 F3.out.lt);replace B0:=ae.mk (B0.out.below b4 B0.out.lt);replace HT:=ae.mk (HT.out.below b4 HT.out.lt);replace HK:=ae.mk (HK.out.below b4);replace R1:=ae.mk (R1.out.below b4);replace R2:=ae.mk (R2.out.below b4)
   have W4:ae (Bar [t] w (w3.drewN nq)):=⟨W3b.out.trans (barOf b4 []) (by simp)⟩
   clear W3 W3b b4 HR PZ P5
   generalize w3.drewN nq=w4 at *
   go_wp2_with fail
   refine(wQ t Ak A1 nk ck (n - 32) c key (b.take (n - 32)) w4 HT.out HK.out R1.out hck hmk (by omega) hcm (by omega) (by omega)).mono ?_
   rintro x w5 ⟨M1,rfl,hM1,k1,m1,b5⟩
   have K1:=ae.mk k1
   replace F3:=ae.mk (F3.out.bar b5 (by rw[List.mem_singleton];omega));replace B0:=ae.mk (B0.out.bar b5 (by rw[List.mem_singleton];omega))
   replace R1:=ae.mk (R1.out.tab HT.out b5);replace R2:=ae.mk (R2.out.tab HT.out b5)
   replace HT:ae (Tab w5 t):=⟨.inr m1⟩
   replace W4:=ae.mk (W4.out.trans b5 (by simp))
   clear k1 m1 b5 HK hs1
   have CE:=Nr A2 (some ⟨M1,0,none⟩) (n - (n - 32)) 32 (c - (n - 32)) 32 (b.drop (n - 32)) (hmac key (b.take (n - 32))) w5 R2.out (Rd.blk K1.out (iI _ _) (dG _ _)) (by omega) (Nat.le_refl _) (by omega)
   obtain⟨e,he⟩:∃ e,sameB (b.drop (n - 32)) (hmac key (b.take (n - 32)))=e:=⟨_,rfl⟩
   rw[he] at CE
   have HSE:=ae.mk he
   replace CE:=ae.mk CE
   clear he hs2
   go_wp2_with fail
   refine CE.out.mono ?_
   rintro x w6 ⟨rfl,b6⟩
   replace F3:=ae.mk (F3.out.below b6 F3.out.lt);replace B0:=ae.mk (B0.out.below b6 B0.out.lt);replace HT:=ae.mk (HT.out.below b6 HT.out.lt);replace R1:=ae.mk (R1.out.below b6)
   replace W4:=ae.mk (W4.out.trans (barOf b6 []) (by simp))
   clear b6 CE R2 K1
   have z0:=B0.out.cell 0;have z1:=B0.out.cell 1;have z2:=B0.out.cell 2;have z3:=B0.out.cell 3;have z4:=B0.out.cell 4
   have y0:=B0.out.frozen 0;have y1:=B0.out.frozen 1;have y2:=B0.out.frozen 2;have y3:=B0.out.frozen 3;have y4:=B0.out.frozen 4
   cases e with
   | false =>
    have P5:=ae.mk (put5 B0.out (.int .i64 0) (.int .i64 0) (.int .i64 0) (.int .i64 0) (.slice none 0 0))
    have PF:=ae.mk (PE0.out 4 (by rw[HE.out,if_neg (fun k=>by have:=HSE.out;rw[k] at this;rw[mF] at this;exact Bool.noConfusion this)]) (by decide) _ (HT.out.bar P5.out.2 (by rw[List.mem_singleton];omega)) (W4.out.trans P5.out.2 (fun k hk=>.inr (by rw[List.mem_singleton] at hk;omega))))
    go_wp2
    (try simp only[Exit.inBlock,Exit.then])
    refine bodyPost_ret (results_cell_tmp rfl _ _ N 54 #[.int .i64 0,.int .i64 0,.int .i64 0,.int .i64 0,.slice none 0 0] (0,0) _ rfl P5.out.1 Tryz.underlying54 rfl aG) rfl ?_
    exact PF.out
   | true =>
    have HE0:ae (gJ key b=0):=⟨by rw[HE.out,if_pos (of_decide_eq_true HSE.out).symm]⟩
    have HT6:=HT.out.lt
    obtain⟨A3,hs3,r3,-⟩:=jh R1.out (show n - 32≤c by omega) 12 (by omega) 12 rfl
    have CC:=ae.mk (clone_any A3 (n - 32 - 12) (c - 12) _ w6 r3 (by omega))
    have HBY3:ae (Bytes ((b.take (n - 32)).drop 12)):=⟨(HBY.out.take _).drop _⟩
    clear r3
    go_wp2_with fail
    refine CC.out.mono ?_
    rintro x w7 ⟨v7,rfl,o7,b7⟩
    obtain⟨A7,c7,rfl,hc7,hm7,r7⟩:=aO o7 HBY3.out
    have R7:=ae.mk r7
    have NW7:ae (NewA w A7):=⟨pR o7 W4.out.size⟩
    have hM6:=F3.out.lt
    have hN6:=B0.out.lt
    have OF7:ae (Off A7 (n - 32 - 12) [M,N]):=⟨eH o7 (fun k hk hm=>by
     have:=(o7.lt k (by simpa using hk)).1
     simp only[List.mem_cons,List.not_mem_nil,or_false] at hm
     omega)⟩
    replace F3:=ae.mk (F3.out.below b7 F3.out.lt);replace B0:=ae.mk (B0.out.below b7 B0.out.lt);replace HT:=ae.mk (HT.out.below b7 HT.out.lt)
    replace W4:=ae.mk (W4.out.trans (barOf b7 []) (by simp))
    clear b7 CC hs3 o7 r7 z0 z1 z2 z3 z4 y0 y1 y2 y3 y4
    have f4:=F3.out.cell 4;have g4:=F3.out.frozen 4
    go_upto_region 9 with(fail)
    have F8:ae (Blk (w7.setCell ⟨M,4,none⟩ (.slice A7 (n - 32 - 12) c7)) M 54 #[.int .i64 p,.int .i64 h,.int .i64 y,.int .i64 s,.slice A7 (n - 32 - 12) c7]):=⟨by
     have:=F3.out.set_ 4 (.slice A7 (n - 32 - 12) c7)
     simpa using this⟩
    have b8:Bar [M] w7 (w7.setCell ⟨M,4,none⟩ (.slice A7 (n - 32 - 12) c7)):=(Bar.refl _ _).setCell (by simp) _
    replace B0:=ae.mk (B0.out.bar b8 (by rw[List.mem_singleton];omega));replace HT:=ae.mk (HT.out.bar b8 (by rw[List.mem_singleton];omega));replace R7:=ae.mk (R7.out.far b8 (nJ OF7.out (by simp)))
    replace W4:=ae.mk (W4.out.trans b8 (fun k hk=>.inr (by rw[List.mem_singleton] at hk;omega)))
    clear f4 g4 b8 F3
    generalize w7.setCell ⟨M,4,none⟩ (.slice A7 (n - 32 - 12) c7)=w8 at *
    have P5:=ae.mk (put5 B0.out (.int .i64 p) (.int .i64 h) (.int .i64 y) (.int .i64 s) (.slice A7 (n - 32 - 12) c7))
    have PF:=ae.mk (PE2.out HE0.out A7 (n - 32 - 12) c7 _ hc7 hm7 (R7.out.far P5.out.2 (nJ OF7.out (by simp))) (HT.out.bar P5.out.2 (by rw[List.mem_singleton];omega)) (W4.out.trans P5.out.2 (fun k hk=>.inr (by rw[List.mem_singleton] at hk;omega))) NW7.out)
    have f0:=F8.out.cell 0;have f1:=F8.out.cell 1;have f2:=F8.out.cell 2;have f3:=F8.out.cell 3;have f4:=F8.out.cell 4
    have z0:=B0.out.cell 0;have z1:=B0.out.cell 1;have z2:=B0.out.cell 2;have z3:=B0.out.cell 3;have z4:=B0.out.cell 4
    have y0:=B0.out.frozen 0;have y1:=B0.out.frozen 1;have y2:=B0.out.frozen 2;have y3:=B0.out.frozen 3;have y4:=B0.out.frozen 4
    go_wp2
    (try simp only[Exit.inBlock,Exit.then])
    refine bodyPost_ret (results_cell_tmp rfl _ _ N 54 #[.int .i64 p,.int .i64 h,.int .i64 y,.int .i64 s,.slice A7 (n - 32 - 12) c7] (0,0) _ rfl P5.out.1 Tryz.underlying54 rfl aG) rfl ?_
    exact PF.out
theorem xY (t:Nat) (Ak:Option Addr) (nk ck:Nat) (key:List Int) (A:Option Addr) (n c:Nat) (b:List Int) (w:World) (ht:Tab w t) (hk:Rd w Ak nk key) (hck:nk≤ck) (hmk:ck≤9223372036854775807) (hnk:nk≤1000000) (hr:Rd w A n b) (hc:n≤c) (hcm:c≤9223372036854775807) (hn:n≤1000000) :
  Calls Tryz.prog 135 #[.pointer (some ⟨t,0,none⟩),.slice Ak nk ck,.slice A n c] w (gY t (openN key b) w) :=
 (zS t Ak nk ck key A n c b w ht hk hck hmk hnk hr hc hcm hn).mono fun _ _ ⟨A,l,c,h1,h2,h3,h4,h5,h6,_⟩=>⟨A,l,c,h1,h2,h3,h4,h5,h6⟩
end Seal
end Go.Proofs.YtlkeieoecfkkeaaGreat
