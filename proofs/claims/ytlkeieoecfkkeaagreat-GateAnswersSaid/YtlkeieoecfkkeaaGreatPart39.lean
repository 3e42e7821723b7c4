/-
  Parts laid together: ReqCGet ReqCGetV ReqCRow ReqCGAll ReqCGetR ReqCGAllR ReqCDec ReqNone.
-/
import Derived.Test.YtlkeieoecfkkeaaGreatPart12
import Derived.Test.YtlkeieoecfkkeaaGreatPart8
import Derived.Deep.CutBlock
import Derived.Deep.CutRange
import Derived.Deep.RegionHeld3
import Derived.Test.YtlkeieoecfkkeaaGreatPart1
import Derived.Test.YtlkeieoecfkkeaaGreatPart6
import Derived.Test.YtlkeieoecfkkeaaGreatPart9
set_option maxRecDepth 100000
set_option maxHeartbeats 2000000
namespace Go.Proofs.YtlkeieoecfkkeaaGreat
namespace Req
open Go.RowKit Sha Wire
structure RowP {α:Type} (C:α→List Value) (s n:Nat) (cs:Array Value) (l:List α):Prop where
 size:cs.size=n * s
 at_:∀ k x,l[k]?=some x→∀ j v,(C x)[j]?=some v→cs[k * s+j]?=some v
theorem RowP.new {α:Type}{C:α→List Value}{s n:Nat}{cs:Array Value}(h:cs.size=n * s):RowP C s n cs []:=⟨h,fun k x hx=>by simp at hx⟩
theorem RowP.next {α:Type}{C:α→List Value}{s n k:Nat}{cs ds:Array Value}{l:List α}{x:α}(h:RowP C s n cs l) (hl:l.length=k) (hC:∀ x,(C x).length=s) (hs:ds.size=cs.size)
  (hin:∀ j v,(C x)[j]?=some v→ds[k * s+j]?=some v) (hout:∀ i,i < k * s→ds[i]?=cs[i]?):RowP C s n ds (l++[x]):=by
 refine⟨by rw[hs,h.size],fun i y hy j v hv=>?_⟩
 by_cases hi:i < k
 ·rw[List.getElem?_append_left (by omega)] at hy
  have hj:j < s:=by
   have:=(List.getElem?_eq_some_iff.1 hv).1
   rwa [hC] at this
  rw[hout _ (by
   have:(i+1) * s≤k * s:=Nat.mul_le_mul_right s hi
   rw[Nat.add_mul] at this;omega)]
  exact h.at_ i y hy j v hv
 ·rw[List.getElem?_append_right (by omega)] at hy
  have he:i=k:=by
   have:=(List.getElem?_eq_some_iff.1 hy).1
   simp at this;omega
  subst he
  rw[hl,Nat.sub_self] at hy
  simp at hy
  subst hy
  exact hin j v hv
theorem RowP.read {α:Type}{C:α→List Value}{s n M:Nat}{T:TypeId}{cs:Array Value}{l:List α}{w:World}(h:RowP C s n cs l) (hb:Blk w M T cs) (hl:l.length=n):Rc C s w (some ⟨M,0,none⟩) n l:=by
 refine⟨hl,.inr ⟨M,0,rfl,fun k x hx j v hv=>?_⟩⟩
 rw[Nat.zero_add,hb.cell]
 exact h.at_ k x hx j v hv
theorem MO:(Tryz.prog.info? 164).map (fun i=>(i.zero,i.size,i.bytes))=some (some (.agg #[.int .i64 0,.int .i64 0,.int .i64 0,.int .i64 0,.int .i64 0,.int .i64 0,.string ⟨#[]⟩,.string ⟨#[]⟩]),8,80):=by kernel_rfl
theorem QM (w:World) (n:Nat) (hn:n≤400):∃ w' cs,(Instr.makeSlice 70 (.int .i64 (n:Int)) (.int .i64 (n:Int))).run Tryz.prog w=.ok (.slice (some ⟨w.heap.size,0,none⟩) n n) w'∧Blk w' w.heap.size 164 cs∧cs.size=n * 8∧Below w.heap.size w w':=by
 obtain⟨iu,hi,hz0,hz1,hz2⟩:=info_parts MO
 obtain⟨w',hm,own,gr⟩:=run_makeSlice_full (P:=Tryz.prog) w w.heap.size 70 164 iu _ 8 Tryz.underlying70 hi hz0 hz1 .i64 .i64 n (by omega) (by rw[hz2];omega) (by unfold maxLen;omega) (Nat.le_refl _)
 rcases own.2 with⟨h0,-⟩|⟨g,cap,cur,hv,-,hh,h1,-,hs,-⟩
 ·cases h0
 ·have hv2:w.heap.size=g∧n=cap:=by
   have:=hv
   simp only[Value.slice.injEq,Option.some.injEq,Addr.mk.injEq] at this
   omega
  obtain⟨hg,rfl⟩:=hv2
  refine⟨w',cur,hm,?_,hs,⟨gr.os,gr.tape,gr.output,gr.size,fun k hk=>gr.block k hk (by simp)⟩⟩
  rw[hg];exact hh
def GetPost {α:Type} (C:α→List Value) (s d:Nat) (G:List Nat) (it:List α × St) (P:Prop) (w:World) (x:Ending) (w':World):Prop :=
 ∃ q A m c,x=.returned (.tuple #[.slice A m c,.bool q])∧m≤c∧c≤9223372036854775807∧(q=true ↔ P)∧Bar [d] w w'∧(∀ b o,A=some ⟨b,o,none⟩→w.heap.size≤b)∧(q=true→Rc C s w' A m it.1∧De 236 w' d G it.2)
def qY (b:List Int) (w:World) (x:Ending) (w':World):Prop :=
 ∃ e seen A n c l,x=.returned (.tuple #[.agg #[.int .i64 seen,.slice A n c],.int .i64 e])∧n≤c∧c≤9223372036854775807∧Rr w' A n l∧(∀ r∈l,r.ok)∧DecB b e ⟨seen,l⟩∧Below w.heap.size w w'∧∀ k o,A=some ⟨k,o,none⟩→w.heap.size≤k
def XV (b:List Int):Prop:=∀ (w':World) (d:Nat) (G:List Nat),De 236 w' d G (decNum (0,b) 2).2→d∉G→Calls Tryz.prog 130 #[.pointer (some ⟨d,0,none⟩),.int .i64 1,.int .i64 64,.func (.func 131) #[] #[]] w' (GetPost rvC 8 d G (iter cReq (decNum (decNum (0,b) 2).2 1).1.toNat (decNum (decNum (0,b) 2).2 1).2) ((decNum (decNum (0,b) 2).2 1).1≤64∧∀ r∈(iter cReq (decNum (decNum (0,b) 2).2 1).1.toNat (decNum (decNum (0,b) 2).2 1).2).1,HoldR r) w')
theorem MP {A:Option Addr}{n c:Nat}{b:List Int}{w:World}(hget:XV b) (dy:DecBC b→DecB b 0 ⟨(decNum (0,b) 2).1,(iter cReq (decNum (decNum (0,b) 2).2 1).1.toNat (decNum (decNum (0,b) 2).2 1).2).1⟩) (dn:¬ DecBC b→DecB b 2 ⟨0,[]⟩) (ok:∀ r∈(iter cReq (decNum (decNum (0,b) 2).2 1).1.toNat (decNum (decNum (0,b) 2).2 1).2).1,r.ok) (hr:Rd w A n b) (hn:n≤100000):Calls Tryz.prog 91 #[.slice A n c] w (qY b w):=by
 have HGET:=ae.mk hget
 have DY:ae (DecBC b→DecB b 0 ⟨(decNum (0,b) 2).1,(iter cReq (decNum (decNum (0,b) 2).2 1).1.toNat (decNum (decNum (0,b) 2).2 1).2).1⟩):=⟨dy⟩
 have DN:ae (¬ DecBC b→DecB b 2 ⟨0,[]⟩):=⟨dn⟩
 have OK:ae (∀ r∈(iter cReq (decNum (decNum (0,b) 2).2 1).1.toNat (decNum (decNum (0,b) 2).2 1).2).1,r.ok):=⟨ok⟩
 have DI:ae (DecBC b ↔ ((decNum (decNum (0,b) 2).2 1).1≤64∧∀ r∈(iter cReq (decNum (decNum (0,b) 2).2 1).1.toNat (decNum (decNum (0,b) 2).2 1).2).1,HoldR r)∧endOf (iter cReq (decNum (decNum (0,b) 2).2 1).1.toNat (decNum (decNum (0,b) 2).2 1).2).2=0):=⟨⟨fun h=>⟨⟨h.1,h.2.1⟩,h.2.2⟩,fun h=>⟨h.1.1,h.1.2,h.2⟩⟩⟩
 clear hget dy dn ok
 generalize DecBC b=Q at *
 obtain⟨N,hN⟩:∃ N,w.heap.size=N:=⟨_,rfl⟩
 have HN:=ae.mk hN
 have B0:Below N w (w.alloc (.cells #[.int .i64 0,.slice none 0 0] 72)):=(Below.refl _ _).alloc (by omega) _
 have Y:ae (Blk (w.alloc (.cells #[.int .i64 0,.slice none 0 0] 72)) N 72 #[.int .i64 0,.slice none 0 0]):=⟨Blk.new_at w _ _ N hN.symm⟩
 have KN:=nT A n c b (w.alloc (.cells #[.int .i64 0,.slice none 0 0] 72)) (hr.below (hN▸B0)) (by omega)
 have B:=ae.mk B0
 clear B0 hr
 go_enter Tryz.func91,Tryz.ntmps91
 go_upto_region 1 with(fail)
 generalize w.alloc (.cells #[.int .i64 0,.slice none 0 0] 72)=w0 at *
 have KK:=ae.mk KN
 clear KN
 go_wp2_with fail
 refine KK.out.mono ?_
 rintro x w1 ⟨d,G,rfl,he,hd1,-,hd,b1⟩
 have hNw:=Y.out.lt
 have hNd:N∉[d]:=by simp;omega
 have HND:=ae.mk hNd
 have DNX:ae (N≤d):=⟨by omega⟩
 replace Y:=ae.mk (Y.out.below b1 hNw)
 replace B:=ae.mk (B.out.trans (b1.mono (by omega)))
 have KC:=pX w1 d G 2 (0,b) he hd
 have KD:=ae.mk KC
 clear he b1 hNd KK KC hd1 hNw
 go_wp2_with fail
 refine KD.out.mono ?_
 rintro x w2 ⟨rfl,he,b2⟩
 replace Y:=ae.mk (Y.out.bar b2 HND.out)
 replace B:=ae.mk (B.out.trans (b2.below (by have:=B.out.size;have:=HN.out;omega) (by simpa using DNX.out)))
 have KC:=HGET.out _ _ _ he hd
 clear HGET
 have KA:=ae.mk KC
 unfold GetPost at KA
 obtain⟨s,hs⟩:∃ s,decNum (0,b) 2=s:=⟨_,rfl⟩
 rw[hs] at KA DY OK DI
 obtain⟨it,hit⟩:∃ it,iter cReq (decNum s.2 1).1.toNat (decNum s.2 1).2=it:=⟨_,rfl⟩
 rw[hit] at KA DY OK DI
 generalize hP:((decNum s.2 1).1≤64∧∀ r∈it.1,HoldR r)=P at *
 rw[hs]
 clear he b2 KD KC hs hit hP
 have KB:=ae.mk KA.out
 clear KA
 go_wp2_with fail
 refine KB.out.mono ?_
 rintro x w3 ⟨q,A3,m,c3,rfl,hm,hc3,hq,b3,hnew,hres⟩
 have AW:ae (∀ k o,A3=some ⟨k,o,none⟩→w.heap.size≤k):=⟨fun k o ho=>by have:=hnew k o ho;have:=B.out.size;have:=HN.out;omega⟩
 have AN:ae (∀ o,A3≠some ⟨N,o,none⟩):=⟨fun o ho=>by have:=hnew N o ho;have:=Y.out.lt;omega⟩
 replace Y:=ae.mk (Y.out.bar b3 HND.out)
 replace B:=ae.mk (B.out.trans (b3.below (by have:=B.out.size;have:=HN.out;omega) (by simpa using DNX.out)))
 clear b3 KB hnew
 have y0:w3.cell? ⟨N,0,none⟩=some (.int .i64 0):=Y.out.cell 0;have y1:w3.cell? ⟨N,1,none⟩=some (.slice none 0 0):=Y.out.cell 1;have z0:=Y.out.frozen 0;have z1:=Y.out.frozen 1
 cases q with
 | false =>
  have DB:=ae.mk (DN.out (fun h=>by have:=hq.2 (DI.out.1 h).1;cases this))
  clear hq hres hm hc3
  have P2:ae (Blk ((w3.setCell ⟨N,0,none⟩ (.int .i64 0)).setCell ⟨N,1,none⟩ (.slice none 0 0)) N 72 #[.int .i64 0,.slice none 0 0]):=⟨(Y.out.set_ 0 _).set_ 1 _⟩
  have PB:ae (Bar [N] w3 ((w3.setCell ⟨N,0,none⟩ (.int .i64 0)).setCell ⟨N,1,none⟩ (.slice none 0 0))):=⟨((Bar.refl [N] w3).setCell (p:=⟨N,0,none⟩) (by simp) _).setCell (p:=⟨N,1,none⟩) (by simp) _⟩
  have BE:ae (Below w.heap.size w ((w3.setCell ⟨N,0,none⟩ (.int .i64 0)).setCell ⟨N,1,none⟩ (.slice none 0 0))):=⟨by rw[HN.out];exact B.out.trans (PB.out.below (by have:=B.out.size;have:=HN.out;omega) (by simp))⟩
  go_wp2
  (try simp only[Exit.inBlock,Exit.then])
  refine bodyPost_ret (dY rfl _ _ N 72 #[.int .i64 0,.slice none 0 0] (0,0) _ rfl P2.out Tryz.underlying72 rfl lY) rfl ?_
  exact⟨2,0,none,0,0,[],rfl,Nat.le_refl _,by omega,Rc.nil,by simp,DB.out,BE.out,fun _ _ h=>by cases h⟩
 | true =>
  obtain⟨rc,hde⟩:=hres rfl
  have hp:=hq.1 rfl
  have KE:=ae.mk (VF w3 d G it.2 hde)
  have RC:=ae.mk rc
  have HM:=ae.mk hm;have HC:=ae.mk hc3
  obtain⟨e0,he0⟩:∃ e0,endOf it.2=e0:=⟨_,rfl⟩
  rw[he0] at KE DI
  by_cases h0:e0=0
  ·subst h0
   have DB:=ae.mk (DY.out (DI.out.2 ⟨hp,rfl⟩))
   clear rc hde hp hq hres hm hc3 he0
   have P2:ae (Blk ((w3.setCell ⟨N,0,none⟩ (.int .i64 s.1)).setCell ⟨N,1,none⟩ (.slice A3 m c3)) N 72 #[.int .i64 s.1,.slice A3 m c3]):=⟨(Y.out.set_ 0 _).set_ 1 _⟩
   have PB:ae (Bar [N] w3 ((w3.setCell ⟨N,0,none⟩ (.int .i64 s.1)).setCell ⟨N,1,none⟩ (.slice A3 m c3))):=⟨((Bar.refl [N] w3).setCell (p:=⟨N,0,none⟩) (by simp) _).setCell (p:=⟨N,1,none⟩) (by simp) _⟩
   have BE:ae (Below w.heap.size w ((w3.setCell ⟨N,0,none⟩ (.int .i64 s.1)).setCell ⟨N,1,none⟩ (.slice A3 m c3))):=⟨by rw[HN.out];exact B.out.trans (PB.out.below (by have:=B.out.size;have:=HN.out;omega) (by simp))⟩
   go_wp2_with (go_at_call 89;refine KE.out.mono ?_;rintro x w' ⟨rfl,rfl⟩)
   (try simp only[Exit.inBlock,Exit.then])
   refine bodyPost_ret (dY rfl _ _ N 72 #[.int .i64 s.1,.slice A3 m c3] (0,0) _ rfl P2.out Tryz.underlying72 rfl lY) rfl ?_
   exact⟨0,s.1,A3,m,c3,it.1,rfl,HM.out,HC.out,RC.out.bar PB.out (fun x hx=>.inr (fun o ho=>by rw[List.mem_singleton] at hx;subst hx;exact AN.out o ho)),OK.out,DB.out,BE.out,AW.out⟩
  ·have h1:(e0 != 0)=true:=by simpa using h0
   have DB:=ae.mk (DN.out (fun h=>h0 (DI.out.1 h).2))
   clear rc hde hp hq hres hm hc3 he0
   have P2:ae (Blk ((w3.setCell ⟨N,0,none⟩ (.int .i64 0)).setCell ⟨N,1,none⟩ (.slice none 0 0)) N 72 #[.int .i64 0,.slice none 0 0]):=⟨(Y.out.set_ 0 _).set_ 1 _⟩
   have PB:ae (Bar [N] w3 ((w3.setCell ⟨N,0,none⟩ (.int .i64 0)).setCell ⟨N,1,none⟩ (.slice none 0 0))):=⟨((Bar.refl [N] w3).setCell (p:=⟨N,0,none⟩) (by simp) _).setCell (p:=⟨N,1,none⟩) (by simp) _⟩
   have BE:ae (Below w.heap.size w ((w3.setCell ⟨N,0,none⟩ (.int .i64 0)).setCell ⟨N,1,none⟩ (.slice none 0 0))):=⟨by rw[HN.out];exact B.out.trans (PB.out.below (by have:=B.out.size;have:=HN.out;omega) (by simp))⟩
   go_wp2_with (go_at_call 89;refine KE.out.mono ?_;rintro x w' ⟨rfl,rfl⟩)
   (try simp only[Exit.inBlock,Exit.then])
   refine bodyPost_ret (dY rfl _ _ N 72 #[.int .i64 0,.slice none 0 0] (0,0) _ rfl P2.out Tryz.underlying72 rfl lY) rfl ?_
   exact⟨2,0,none,0,0,[],rfl,Nat.le_refl _,by omega,Rc.nil,by simp,DB.out,BE.out,fun _ _ h=>by cases h⟩
section
variable {w : World} {F : List Nat} {e : Nat} {st : St} {A : Option Addr} {c : Nat}
theorem zt (h:En 301 w F e st) (hl:st.2.length≤900000000) :
  Calls Tryz.prog 173 #[.pointer (some ⟨e,0,none⟩),.slice A 0 c,.int .i64 1,.int .i64 64,.func (.func 174) #[] #[]] w (eQ 301 F e (wAll wRep (encNum st (0:Nat) 1) []) (0≤64) w):=by
 have KC:=ae.mk (aP w F e 0 1 st h (by omega))
 clear h
 go_enter Tryz.func173,Tryz.ntmps173
 go_wp2_with fail
 refine KC.out.mono ?_
 rintro x w1 ⟨rfl,F1,he,fp⟩
 have HE:=ae.mk he
 have FP:=ae.mk fp
 clear he fp KC
 go_wp2
 go_loopw [24] (fun i wr=>i=.int .i64 0∧wr=w1) (fun _ _=>0)
 case atStart=>exact⟨rfl,rfl⟩
 case round =>
  obtain⟨rfl,rfl⟩:=hrel
  go_wp2
  go_ret
  exact⟨true,F1,rfl,FP.out,⟨fun _=>by omega,fun _=>rfl⟩,fun _=>HE.out⟩
theorem zu (h:En 301 w F e st) (hl:st.2.length≤900000000) :
  Calls Tryz.prog 175 #[.pointer (some ⟨e,0,none⟩),.slice A 0 c,.int .i64 2,.int .i64 400,.func (.func 176) #[] #[]] w (eQ 301 F e (wAll wEv (encNum st (0:Nat) 2) []) (0≤400∧∀ r∈([]:List VV),vH r) w):=by
 have KC:=ae.mk (aP w F e 0 2 st h (by omega))
 clear h
 go_enter Tryz.func175,Tryz.ntmps175
 go_wp2_with fail
 refine KC.out.mono ?_
 rintro x w1 ⟨rfl,F1,he,fp⟩
 have HE:=ae.mk he
 have FP:=ae.mk fp
 clear he fp KC
 go_wp2
 go_loopw [24] (fun i wr=>i=.int .i64 0∧wr=w1) (fun _ _=>0)
 case atStart=>exact⟨rfl,rfl⟩
 case round =>
  obtain⟨rfl,rfl⟩:=hrel
  go_wp2
  go_ret
  exact⟨true,F1,rfl,FP.out,⟨fun _=>⟨by omega,by simp⟩,fun _=>rfl⟩,fun _=>HE.out⟩
end
section
variable {w : World} {d : Nat} {G : List Nat} {st : St}
theorem C9 (h:De 236 w d G st) (hd:d∉G) (h0:(decNum st 1).1=0) :
  Calls Tryz.prog 130 #[.pointer (some ⟨d,0,none⟩),.int .i64 1,.int .i64 64,.func (.func 131) #[] #[]] w (GetPost rvC 8 d G (iter cReq (decNum st 1).1.toNat (decNum st 1).2) ((decNum st 1).1≤64∧∀ r∈(iter cReq (decNum st 1).1.toNat (decNum st 1).2).1,HoldR r) w):=by
 have KC:=ae.mk (pX w d G 1 st h hd)
 have hlt:=h.lt;have hG:=ae.mk h.1
 clear h
 obtain⟨a,ha⟩:∃ a,decNum st 1=a:=⟨_,rfl⟩
 rw[ha] at KC h0 ⊢
 clear ha
 obtain⟨z,s1⟩:=a
 dsimp only at KC h0 ⊢
 subst h0
 go_enter Tryz.func130,Tryz.ntmps130
 go_wp2_with fail
 refine KC.out.mono ?_
 rintro x w1 ⟨rfl,he,b⟩
 obtain⟨w2,cs0,hmk,hblk,hcs,b2⟩:=QM w1 0 (by omega)
 obtain⟨M,hM⟩:∃ M,w1.heap.size=M:=⟨_,rfl⟩
 have MW:ae (w.heap.size≤M):=⟨by rw[← hM];exact b.size⟩
 have HD:ae (De 236 w2 d G s1):=⟨he.below b2⟩
 have B:=ae.mk (b.trans (barOf b2 [d]) (fun x hx=>.inl hx))
 rw[hM,show ((0:Nat):Int)=0 from rfl] at hmk
 clear he b KC hblk hcs b2 hlt hM
 go_wp2
 clear hmk
 go_loopw [24] (fun i wr=>i=.int .i64 0∧wr=w2) (fun _ _=>0)
 case atStart=>exact⟨rfl,rfl⟩
 case round =>
  obtain⟨rfl,rfl⟩:=hrel
  go_wp2
  go_ret2
  exact⟨true,_,0,0,rfl,Nat.le_refl _,by omega,⟨fun _=>⟨by decide,fun r hr=>by cases hr⟩,fun _=>rfl⟩,B.out,fun b o h=>by injection h with h;injection h with h1;rw[← h1];exact MW.out,fun _=>⟨Rc.nil,HD.out⟩⟩
end
end Req
end Go.Proofs.YtlkeieoecfkkeaaGreat
