/-
  Parts laid together: ReqCGet ReqCGetV ReqCRow ReqCGAll ReqCGetR ReqCGAllR ReqCDec.
-/
import Derived.Test.YtidjkhpekhpffaaGreatPart12
import Derived.Test.YtidjkhpekhpffaaGreatPart10
import Derived.Deep.CutBlock
import Derived.Deep.CutRange
import Derived.Deep.RegionHeld3
import Derived.Test.YtidjkhpekhpffaaGreatPart1
import Derived.Test.YtidjkhpekhpffaaGreatPart8
import Derived.Test.YtidjkhpekhpffaaGreatPart11
namespace Go.Proofs.YtidjkhpekhpffaaGreat.Req
open Go.RowKit Go.Proofs.YtidjkhpekhpffaaGreat.Sha Go.Proofs.YtidjkhpekhpffaaGreat.Wire
theorem creq_size:(Tryz.prog.info? 88).map (·.size)=some 8:=by kernel_rfl
theorem cReq_ok (st:St) (hb:Bytes st.2):(cReq st).1.ok:=by
 have n0:Bytes []:=by intro x hx;simp at hx
 have h1:=decNum_bytes st 1 hb
 have h2:=cMove_rest _ h1
 have h3:=decNum_bytes _ 2 h1
 unfold cReq
 split
 ·exact⟨n0,n0⟩
 ·split
  ·exact⟨iter_bytes1 32 _ h2,n0⟩
  ·split
   ·exact⟨n0,iter_bytes1 32 _ h3⟩
   ·split
    ·exact⟨n0,n0⟩
    ·exact⟨n0,n0⟩
structure RowP {α:Type} (C:α→List Value) (s n:Nat) (cs:Array Value) (l:List α):Prop where
 size:cs.size=n * s
 at_:∀ k x,l[k]?=some x→∀ j v,(C x)[j]?=some v→cs[k * s+j]?=some v
theorem RowP.new {α:Type}{C:α→List Value}{s n:Nat}{cs:Array Value}(h:cs.size=n * s):RowP C s n cs []:=⟨h,fun k x hx=>by simp at hx⟩
theorem RowP.next {α:Type}{C:α→List Value}{s n k:Nat}{cs ds:Array Value}{l:List α}{x:α}(h:RowP C s n cs l) (hl:l.length=k) (hC:∀ x,(C x).length=s) (hs:ds.size=cs.size)
  (hin:∀ j v,(C x)[j]?=some v→ds[k * s+j]?=some v) (hout:∀ i,i < k * s→ds[i]?=cs[i]?):RowP C s n ds (l++[x]):=by
 refine⟨by rw[hs,h.size],fun i y hy j v hv=>?_⟩
 by_cases hi:i < k
 ·rw[List.getElem?_append_left (by omega)] at hy
  have hj:j < s:=by
   have:=(List.getElem?_eq_some_iff.1 hv).1
   rwa [hC] at this
  rw[hout _ (by
   have:(i+1) * s≤k * s:=Nat.mul_le_mul_right s hi
   rw[Nat.add_mul] at this;omega)]
  exact h.at_ i y hy j v hv
 ·rw[List.getElem?_append_right (by omega)] at hy
  have he:i=k:=by
   have:=(List.getElem?_eq_some_iff.1 hy).1
   simp at this;omega
  subst he
  rw[hl,Nat.sub_self] at hy
  simp at hy
  subst hy
  exact hin j v hv
theorem RowP.read {α:Type}{C:α→List Value}{s n M:Nat}{T:TypeId}{cs:Array Value}{l:List α}{w:World}(h:RowP C s n cs l) (hb:Blk w M T cs) (hl:l.length=n):Rc C s w (some ⟨M,0,none⟩) n l:=by
 refine⟨hl,.inr ⟨M,0,rfl,fun k x hx j v hv=>?_⟩⟩
 rw[Nat.zero_add,hb.cell]
 exact h.at_ k x hx j v hv
theorem iter_mem {α:Type}(g:St→α × St) (st:St) {k n:Nat}(h:k < n):(g (iter g k st).2).1∈(iter g n st).1:=by
 induction n with
 | zero=>omega
 | succ n ih =>
  rw[iter]
  by_cases hk:k < n
  ·exact List.mem_append_left _ (ih hk)
  ·obtain rfl:k=n:=by omega
   exact List.mem_append_right _ (by simp)
theorem iter_all {α:Type}{g:St→α × St}{p:α→Prop}(hb:∀ st,Bytes st.2→Bytes (g st).2.2) (h:∀ st,Bytes st.2→p (g st).1) (k:Nat) (st:St) (hs:Bytes st.2):Bytes (iter g k st).2.2∧∀ x∈(iter g k st).1,p x:=by
 induction k with
 | zero=>exact⟨hs,by simp[iter]⟩
 | succ k ih =>
  refine⟨hb _ ih.1,fun x hx=>?_⟩
  rw[iter] at hx
  rcases List.mem_append.1 hx with hx|hx
  ·exact ih.2 x hx
  ·rw[List.mem_singleton] at hx;subst hx;exact h _ ih.1
theorem cinfo_req:(Tryz.prog.info? 88).map (fun i=>(i.zero,i.size,i.bytes))=some (some (.agg #[.int .i64 0,.int .i64 0,.int .i64 0,.int .i64 0,.int .i64 0,.int .i64 0,.string ⟨#[]⟩,.string ⟨#[]⟩]),8,80):=by kernel_rfl
theorem make_req (w:World) (n:Nat) (hn:n≤400):∃ w' cs,(Instr.makeSlice 73 (.int .i64 (n:Int)) (.int .i64 (n:Int))).run Tryz.prog w=.ok (.slice (some ⟨w.heap.size,0,none⟩) n n) w'∧Blk w' w.heap.size 88 cs∧cs.size=n * 8∧Below w.heap.size w w':=by
 obtain⟨iu,hi,hz0,hz1,hz2⟩:=info_parts cinfo_req
 obtain⟨w',hm,own,gr⟩:=run_makeSlice_full (P:=Tryz.prog) w w.heap.size 73 88 iu _ 8 Tryz.underlying73 hi hz0 hz1 .i64 .i64 n (by omega) (by rw[hz2];omega) (by unfold maxLen;omega) (Nat.le_refl _)
 rcases own.2 with⟨h0,-⟩|⟨g,cap,cur,hv,-,hh,h1,-,hs,-⟩
 ·cases h0
 ·have hv2:w.heap.size=g∧n=cap:=by
   have:=hv
   simp only[Value.slice.injEq,Option.some.injEq,Addr.mk.injEq] at this
   omega
  obtain⟨hg,rfl⟩:=hv2
  refine⟨w',cur,hm,?_,hs,⟨gr.os,gr.tape,gr.output,gr.size,fun k hk=>gr.block k hk (by simp)⟩⟩
  rw[hg];exact hh
def GetPost {α:Type} (C:α→List Value) (s d:Nat) (G:List Nat) (it:List α × St) (P:Prop) (w:World) (x:Ending) (w':World):Prop :=
 ∃ q A m c,x=.returned (.tuple #[.slice A m c,.bool q])∧m≤c∧c≤9223372036854775807∧(q=true ↔ P)∧Bar [d] w w'∧(∀ b o,A=some ⟨b,o,none⟩→w.heap.size≤b)∧(q=true→Rc C s w' A m it.1∧De 243 w' d G it.2)
theorem decNum_nonneg (st:St) (s:Int):0≤(decNum st s).1:=by
 unfold decNum
 split
 ·split
  ·split
   ·exact Int.natCast_nonneg _
   ·exact Int.le_refl _
  ·exact Int.le_refl _
 ·exact Int.le_refl _
set_option maxRecDepth 100000 in
set_option maxHeartbeats 4000000 in
theorem cgetr_any {w:World}{d:Nat}{G:List Nat}{st:St}(h:De 243 w d G st) (hd:d∉G):Calls Tryz.prog 120 #[.pointer (some ⟨d,0,none⟩)] w fun x w'=>x=.returned (.tuple #[rqv (cReq st).1,.bool (decide (HoldR (cReq st).1))])∧(cReq st).1.ok∧De 243 w' d G (cReq st).2∧Bar [d] w w':=by
 have hby:=h.bytes
 have hok:=cReq_ok st hby
 have hby1:=decNum_bytes st 1 hby
 obtain⟨R,hR⟩:∃ R,cReq st=R:=⟨_,rfl⟩
 rw[hR] at hok ⊢
 have HOK:=Kept.mk hok
 obtain⟨N,hN⟩:∃ N,w.heap.size=N:=⟨_,rfl⟩
 have hdN:d < N:=by rw[← hN];exact h.lt
 have hGN:∀ g∈G,g < N:=by rw[← hN];exact h.1
 have B0:Below w.heap.size w (w.alloc (.cells #[.int .i64 0,.int .i64 0,.int .i64 0,.int .i64 0,.int .i64 0,.int .i64 0,.string ⟨#[]⟩,.string ⟨#[]⟩] 88)):=(Below.refl _ _).alloc (Nat.le_refl _) _
 have Y:Kept (Blk (w.alloc (.cells #[.int .i64 0,.int .i64 0,.int .i64 0,.int .i64 0,.int .i64 0,.int .i64 0,.string ⟨#[]⟩,.string ⟨#[]⟩] 88)) N 88 #[.int .i64 0,.int .i64 0,.int .i64 0,.int .i64 0,.int .i64 0,.int .i64 0,.string ⟨#[]⟩,.string ⟨#[]⟩]):=⟨Blk.new_at w _ _ N hN.symm⟩
 have KC:=dnum_any _ d G 1 st (h.below B0) hd
 have B:Kept (Bar [d] w (w.alloc (.cells #[.int .i64 0,.int .i64 0,.int .i64 0,.int .i64 0,.int .i64 0,.int .i64 0,.string ⟨#[]⟩,.string ⟨#[]⟩] 88))):=⟨barOf B0 _⟩
 obtain⟨s,hs⟩:∃ s,decNum st 1=s:=⟨_,rfl⟩
 rw[hs] at KC hby1
 have HR:=Kept.mk hR;have HS:=Kept.mk hs
 have HG:=Kept.mk hGN
 have HW:=Kept.mk (Nat.le_of_eq hN)
 clear h hby hok hR hs B0 hGN
 obtain⟨z,s1⟩:=s
 dsimp only at KC hby1
 go_enter Tryz.func120,Tryz.ntmps120
 go_upto_region 1 with(fail)
 generalize w.alloc (.cells #[.int .i64 0,.int .i64 0,.int .i64 0,.int .i64 0,.int .i64 0,.int .i64 0,.string ⟨#[]⟩,.string ⟨#[]⟩] 88)=w0 at *
 have KK:=Kept.mk KC
 clear KC
 go_wp2_with fail
 refine KK.out.mono ?_
 rintro x w1 ⟨rfl,he,b⟩
 replace B:=Kept.mk (B.out.trans b (fun x hx=>.inl hx))
 have hNd:N∉[d]:=by simp;omega
 have HND:=Kept.mk hNd
 have hY:=Y.out.bar b hNd
 obtain⟨M,hM⟩:∃ M,w1.heap.size=M:=⟨_,rfl⟩
 have hNM:N < M:=by rw[← hM];exact hY.lt
 have b1:Below w1.heap.size w1 (w1.alloc (.cells #[.int .i64 z,.int .i64 0,.int .i64 0,.int .i64 0,.int .i64 0,.int .i64 0,.string ⟨#[]⟩,.string ⟨#[]⟩] 88)):=(Below.refl _ _).alloc (Nat.le_refl _) _
 replace Y:=Kept.mk (hY.below b1 hY.lt)
 have X:Kept (Blk (w1.alloc (.cells #[.int .i64 z,.int .i64 0,.int .i64 0,.int .i64 0,.int .i64 0,.int .i64 0,.string ⟨#[]⟩,.string ⟨#[]⟩] 88)) M 88 #[.int .i64 z,.int .i64 0,.int .i64 0,.int .i64 0,.int .i64 0,.int .i64 0,.string ⟨#[]⟩,.string ⟨#[]⟩]):=⟨Blk.new_at w1 _ _ M hM.symm⟩
 have HD:Kept (De 243 (w1.alloc (.cells #[.int .i64 z,.int .i64 0,.int .i64 0,.int .i64 0,.int .i64 0,.int .i64 0,.string ⟨#[]⟩,.string ⟨#[]⟩] 88)) d G s1):=⟨he.below b1⟩
 replace B:=Kept.mk (B.out.trans (barOf b1 [d]) (fun x hx=>.inl hx))
 clear he b hY b1 hNd KK
 go_upto_block 0 with(fail)
 generalize w1.alloc (.cells #[.int .i64 z,.int .i64 0,.int .i64 0,.int .i64 0,.int .i64 0,.int .i64 0,.string ⟨#[]⟩,.string ⟨#[]⟩] 88)=w2 at *
 have DM:Kept (d∉[M]∧Disj G [M]∧M∉[d]∧N≠M):=⟨by simp;omega,fun g hg hm=>by have:=HG.out g hg;simp at hm;omega,by simp;omega,by omega⟩
 have DL:Kept (w.heap.size≤M):=⟨by omega⟩
 go_cut [9] from 10 to 50 (fun _ wx=>Kept (Blk wx N 88 #[.int .i64 0,.int .i64 0,.int .i64 0,.int .i64 0,.int .i64 0,.int .i64 0,.string ⟨#[]⟩,.string ⟨#[]⟩])∧Kept (Blk wx M 88 (rvC R.1).toArray)∧Kept (De 243 wx d G R.2)∧Kept (Bar [d] w wx))
 case first =>
  by_cases hk1:z=1
  ·subst hk1
   obtain⟨m1,hm1⟩:∃ m,cMove s1=m:=⟨_,rfl⟩
   obtain rfl:(⟨1,m1.1.1,m1.1.2.1,m1.1.2.2,0,0,[],[]⟩,m1.2)=R:=by
    rw[← HR.out];unfold cReq;rw[HS.out];simp only[hm1,if_true]
   replace hm1:=Kept.mk hm1
   have KC:=cgetmove_any HD.out hd
   rw[hm1.out] at KC
   have x0:=X.out.cell 0
   have KK:=Kept.mk KC
   clear KC
   go_wp2_with fail
   refine KK.out.mono ?_
   rintro x w3 ⟨rfl,he,b⟩
   clear x0
   replace B:=Kept.mk (B.out.trans b (fun x hx=>.inl hx));replace X:=Kept.mk (X.out.bar b DM.out.2.2.1);replace Y:=Kept.mk (Y.out.bar b HND.out);replace HD:=Kept.mk he
   clear he b KK
   have x1:=X.out.cell 1;have f1:=X.out.frozen 1;have x2:=X.out.cell 2;have f2:=X.out.frozen 2;have x3:=X.out.cell 3;have f3:=X.out.frozen 3
   have hbM:Bar [M] w3 (((w3.setCell ⟨M,1,none⟩ (.int .i64 m1.1.1)).setCell ⟨M,2,none⟩ (.int .i64 m1.1.2.1)).setCell ⟨M,3,none⟩ (.int .i64 m1.1.2.2)):=(Bar.setCell (Bar.setCell (Bar.setCell (Bar.refl _ _) (p:=⟨M,1,none⟩) (.inl (by simp)) (.int .i64 m1.1.1)) (p:=⟨M,2,none⟩) (.inl (by simp)) (.int .i64 m1.1.2.1)) (p:=⟨M,3,none⟩) (.inl (by simp)) (.int .i64 m1.1.2.2))
   replace X:Kept (Blk (((w3.setCell ⟨M,1,none⟩ (.int .i64 m1.1.1)).setCell ⟨M,2,none⟩ (.int .i64 m1.1.2.1)).setCell ⟨M,3,none⟩ (.int .i64 m1.1.2.2)) M 88 #[.int .i64 1,.int .i64 m1.1.1,.int .i64 m1.1.2.1,.int .i64 m1.1.2.2,.int .i64 0,.int .i64 0,.string ⟨#[]⟩,.string ⟨#[]⟩]):=⟨(Blk.set_ (Blk.set_ (Blk.set_ X.out 1 (.int .i64 m1.1.1)) 2 (.int .i64 m1.1.2.1)) 3 (.int .i64 m1.1.2.2))⟩
   replace Y:Kept (Blk (((w3.setCell ⟨M,1,none⟩ (.int .i64 m1.1.1)).setCell ⟨M,2,none⟩ (.int .i64 m1.1.2.1)).setCell ⟨M,3,none⟩ (.int .i64 m1.1.2.2)) N 88 #[.int .i64 0,.int .i64 0,.int .i64 0,.int .i64 0,.int .i64 0,.int .i64 0,.string ⟨#[]⟩,.string ⟨#[]⟩]):=⟨Y.out.bar hbM (by simpa using DM.out.2.2.2)⟩
   replace HD:Kept (De 243 (((w3.setCell ⟨M,1,none⟩ (.int .i64 m1.1.1)).setCell ⟨M,2,none⟩ (.int .i64 m1.1.2.1)).setCell ⟨M,3,none⟩ (.int .i64 m1.1.2.2)) d G m1.2):=⟨HD.out.keep hbM DM.out.1 DM.out.2.1⟩
   replace B:Kept (Bar [d] w (((w3.setCell ⟨M,1,none⟩ (.int .i64 m1.1.1)).setCell ⟨M,2,none⟩ (.int .i64 m1.1.2.1)).setCell ⟨M,3,none⟩ (.int .i64 m1.1.2.2))):=⟨B.out.trans hbM (fun x hx=>.inr (by simp at hx;subst hx;exact DL.out))⟩
   clear hbM
   go_wp2
   go_meet
   case rel=>exact⟨Y,⟨X.out⟩,HD,B⟩
  by_cases hk2:z=2
  ·subst hk2
   obtain⟨m1,hm1⟩:∃ m,cMove s1=m:=⟨_,rfl⟩
   obtain⟨m2,hm2⟩:∃ m,cText m1.2=m:=⟨_,rfl⟩
   obtain⟨m3,hm3⟩:∃ m,decNum m2.2 8=m:=⟨_,rfl⟩
   obtain rfl:(⟨2,m1.1.1,m1.1.2.1,m1.1.2.2,0,m3.1,m2.1,[]⟩,m3.2)=R:=by
    rw[← HR.out];unfold cReq;rw[HS.out];simp only[hm1,hm2,hm3,if_true]
    simp
   replace hm1:=Kept.mk hm1
   replace hm2:=Kept.mk hm2
   replace hm3:=Kept.mk hm3
   have KC:=cgetmove_any HD.out hd
   rw[hm1.out] at KC
   have x0:=X.out.cell 0
   have KK:=Kept.mk KC
   clear KC
   go_wp2_with fail
   refine KK.out.mono ?_
   rintro x w3 ⟨rfl,he,b⟩
   clear x0
   replace B:=Kept.mk (B.out.trans b (fun x hx=>.inl hx));replace X:=Kept.mk (X.out.bar b DM.out.2.2.1);replace Y:=Kept.mk (Y.out.bar b HND.out);replace HD:=Kept.mk he
   clear he b KK
   have x1:=X.out.cell 1;have f1:=X.out.frozen 1;have x2:=X.out.cell 2;have f2:=X.out.frozen 2;have x3:=X.out.cell 3;have f3:=X.out.frozen 3
   have hbM:Bar [M] w3 (((w3.setCell ⟨M,1,none⟩ (.int .i64 m1.1.1)).setCell ⟨M,2,none⟩ (.int .i64 m1.1.2.1)).setCell ⟨M,3,none⟩ (.int .i64 m1.1.2.2)):=(Bar.setCell (Bar.setCell (Bar.setCell (Bar.refl _ _) (p:=⟨M,1,none⟩) (.inl (by simp)) (.int .i64 m1.1.1)) (p:=⟨M,2,none⟩) (.inl (by simp)) (.int .i64 m1.1.2.1)) (p:=⟨M,3,none⟩) (.inl (by simp)) (.int .i64 m1.1.2.2))
   replace X:Kept (Blk (((w3.setCell ⟨M,1,none⟩ (.int .i64 m1.1.1)).setCell ⟨M,2,none⟩ (.int .i64 m1.1.2.1)).setCell ⟨M,3,none⟩ (.int .i64 m1.1.2.2)) M 88 #[.int .i64 2,.int .i64 m1.1.1,.int .i64 m1.1.2.1,.int .i64 m1.1.2.2,.int .i64 0,.int .i64 0,.string ⟨#[]⟩,.string ⟨#[]⟩]):=⟨(Blk.set_ (Blk.set_ (Blk.set_ X.out 1 (.int .i64 m1.1.1)) 2 (.int .i64 m1.1.2.1)) 3 (.int .i64 m1.1.2.2))⟩
   replace Y:Kept (Blk (((w3.setCell ⟨M,1,none⟩ (.int .i64 m1.1.1)).setCell ⟨M,2,none⟩ (.int .i64 m1.1.2.1)).setCell ⟨M,3,none⟩ (.int .i64 m1.1.2.2)) N 88 #[.int .i64 0,.int .i64 0,.int .i64 0,.int .i64 0,.int .i64 0,.int .i64 0,.string ⟨#[]⟩,.string ⟨#[]⟩]):=⟨Y.out.bar hbM (by simpa using DM.out.2.2.2)⟩
   replace HD:Kept (De 243 (((w3.setCell ⟨M,1,none⟩ (.int .i64 m1.1.1)).setCell ⟨M,2,none⟩ (.int .i64 m1.1.2.1)).setCell ⟨M,3,none⟩ (.int .i64 m1.1.2.2)) d G m1.2):=⟨HD.out.keep hbM DM.out.1 DM.out.2.1⟩
   replace B:Kept (Bar [d] w (((w3.setCell ⟨M,1,none⟩ (.int .i64 m1.1.1)).setCell ⟨M,2,none⟩ (.int .i64 m1.1.2.1)).setCell ⟨M,3,none⟩ (.int .i64 m1.1.2.2))):=⟨B.out.trans hbM (fun x hx=>.inr (by simp at hx;subst hx;exact DL.out))⟩
   clear hbM
   have KC:=cgettext_any HD.out hd
   rw[hm2.out] at KC
   have KK:=Kept.mk KC
   clear KC
   go_wp2_with fail
   refine KK.out.mono ?_
   rintro x w4 ⟨rfl,he,b⟩
   replace B:=Kept.mk (B.out.trans b (fun x hx=>.inl hx));replace X:=Kept.mk (X.out.bar b DM.out.2.2.1);replace Y:=Kept.mk (Y.out.bar b HND.out);replace HD:=Kept.mk he
   clear he b KK
   have x6:=X.out.cell 6;have f6:=X.out.frozen 6
   have hbM:Bar [M] w4 (w4.setCell ⟨M,6,none⟩ (.string (strOfNums m2.1))):=(Bar.setCell (Bar.refl _ _) (p:=⟨M,6,none⟩) (.inl (by simp)) (.string (strOfNums m2.1)))
   replace X:Kept (Blk (w4.setCell ⟨M,6,none⟩ (.string (strOfNums m2.1))) M 88 #[.int .i64 2,.int .i64 m1.1.1,.int .i64 m1.1.2.1,.int .i64 m1.1.2.2,.int .i64 0,.int .i64 0,.string (strOfNums m2.1),.string ⟨#[]⟩]):=⟨(Blk.set_ X.out 6 (.string (strOfNums m2.1)))⟩
   replace Y:Kept (Blk (w4.setCell ⟨M,6,none⟩ (.string (strOfNums m2.1))) N 88 #[.int .i64 0,.int .i64 0,.int .i64 0,.int .i64 0,.int .i64 0,.int .i64 0,.string ⟨#[]⟩,.string ⟨#[]⟩]):=⟨Y.out.bar hbM (by simpa using DM.out.2.2.2)⟩
   replace HD:Kept (De 243 (w4.setCell ⟨M,6,none⟩ (.string (strOfNums m2.1))) d G m2.2):=⟨HD.out.keep hbM DM.out.1 DM.out.2.1⟩
   replace B:Kept (Bar [d] w (w4.setCell ⟨M,6,none⟩ (.string (strOfNums m2.1)))):=⟨B.out.trans hbM (fun x hx=>.inr (by simp at hx;subst hx;exact DL.out))⟩
   clear hbM
   have KC:=dnum_any _ d G 8 _ HD.out hd
   rw[hm3.out] at KC
   have KK:=Kept.mk KC
   clear KC
   go_wp2_with fail
   refine KK.out.mono ?_
   rintro x w5 ⟨rfl,he,b⟩
   replace B:=Kept.mk (B.out.trans b (fun x hx=>.inl hx));replace X:=Kept.mk (X.out.bar b DM.out.2.2.1);replace Y:=Kept.mk (Y.out.bar b HND.out);replace HD:=Kept.mk he
   clear he b KK
   have x5:=X.out.cell 5;have f5:=X.out.frozen 5
   have hbM:Bar [M] w5 (w5.setCell ⟨M,5,none⟩ (.int .i64 m3.1)):=(Bar.setCell (Bar.refl _ _) (p:=⟨M,5,none⟩) (.inl (by simp)) (.int .i64 m3.1))
   replace X:Kept (Blk (w5.setCell ⟨M,5,none⟩ (.int .i64 m3.1)) M 88 #[.int .i64 2,.int .i64 m1.1.1,.int .i64 m1.1.2.1,.int .i64 m1.1.2.2,.int .i64 0,.int .i64 m3.1,.string (strOfNums m2.1),.string ⟨#[]⟩]):=⟨(Blk.set_ X.out 5 (.int .i64 m3.1))⟩
   replace Y:Kept (Blk (w5.setCell ⟨M,5,none⟩ (.int .i64 m3.1)) N 88 #[.int .i64 0,.int .i64 0,.int .i64 0,.int .i64 0,.int .i64 0,.int .i64 0,.string ⟨#[]⟩,.string ⟨#[]⟩]):=⟨Y.out.bar hbM (by simpa using DM.out.2.2.2)⟩
   replace HD:Kept (De 243 (w5.setCell ⟨M,5,none⟩ (.int .i64 m3.1)) d G m3.2):=⟨HD.out.keep hbM DM.out.1 DM.out.2.1⟩
   replace B:Kept (Bar [d] w (w5.setCell ⟨M,5,none⟩ (.int .i64 m3.1))):=⟨B.out.trans hbM (fun x hx=>.inr (by simp at hx;subst hx;exact DL.out))⟩
   clear hbM
   go_wp2
   go_meet
   case rel=>exact⟨Y,⟨X.out⟩,HD,B⟩
  by_cases hk3:z=3
  ·subst hk3
   obtain⟨m1,hm1⟩:∃ m,decNum s1 2=m:=⟨_,rfl⟩
   obtain⟨m2,hm2⟩:∃ m,cText m1.2=m:=⟨_,rfl⟩
   obtain rfl:(⟨3,0,0,0,m1.1,0,[],m2.1⟩,m2.2)=R:=by
    rw[← HR.out];unfold cReq;rw[HS.out];simp only[hm1,hm2,if_true]
    simp
   replace hm1:=Kept.mk hm1
   replace hm2:=Kept.mk hm2
   have KC:=dnum_any _ d G 2 _ HD.out hd
   rw[hm1.out] at KC
   have x0:=X.out.cell 0
   have KK:=Kept.mk KC
   clear KC
   go_wp2_with fail
   refine KK.out.mono ?_
   rintro x w3 ⟨rfl,he,b⟩
   clear x0
   replace B:=Kept.mk (B.out.trans b (fun x hx=>.inl hx));replace X:=Kept.mk (X.out.bar b DM.out.2.2.1);replace Y:=Kept.mk (Y.out.bar b HND.out);replace HD:=Kept.mk he
   clear he b KK
   have x4:=X.out.cell 4;have f4:=X.out.frozen 4
   have hbM:Bar [M] w3 (w3.setCell ⟨M,4,none⟩ (.int .i64 m1.1)):=(Bar.setCell (Bar.refl _ _) (p:=⟨M,4,none⟩) (.inl (by simp)) (.int .i64 m1.1))
   replace X:Kept (Blk (w3.setCell ⟨M,4,none⟩ (.int .i64 m1.1)) M 88 #[.int .i64 3,.int .i64 0,.int .i64 0,.int .i64 0,.int .i64 m1.1,.int .i64 0,.string ⟨#[]⟩,.string ⟨#[]⟩]):=⟨(Blk.set_ X.out 4 (.int .i64 m1.1))⟩
   replace Y:Kept (Blk (w3.setCell ⟨M,4,none⟩ (.int .i64 m1.1)) N 88 #[.int .i64 0,.int .i64 0,.int .i64 0,.int .i64 0,.int .i64 0,.int .i64 0,.string ⟨#[]⟩,.string ⟨#[]⟩]):=⟨Y.out.bar hbM (by simpa using DM.out.2.2.2)⟩
   replace HD:Kept (De 243 (w3.setCell ⟨M,4,none⟩ (.int .i64 m1.1)) d G m1.2):=⟨HD.out.keep hbM DM.out.1 DM.out.2.1⟩
   replace B:Kept (Bar [d] w (w3.setCell ⟨M,4,none⟩ (.int .i64 m1.1))):=⟨B.out.trans hbM (fun x hx=>.inr (by simp at hx;subst hx;exact DL.out))⟩
   clear hbM
   have KC:=cgettext_any HD.out hd
   rw[hm2.out] at KC
   have KK:=Kept.mk KC
   clear KC
   go_wp2_with fail
   refine KK.out.mono ?_
   rintro x w4 ⟨rfl,he,b⟩
   replace B:=Kept.mk (B.out.trans b (fun x hx=>.inl hx));replace X:=Kept.mk (X.out.bar b DM.out.2.2.1);replace Y:=Kept.mk (Y.out.bar b HND.out);replace HD:=Kept.mk he
   clear he b KK
   have x7:=X.out.cell 7;have f7:=X.out.frozen 7
   have hbM:Bar [M] w4 (w4.setCell ⟨M,7,none⟩ (.string (strOfNums m2.1))):=(Bar.setCell (Bar.refl _ _) (p:=⟨M,7,none⟩) (.inl (by simp)) (.string (strOfNums m2.1)))
   replace X:Kept (Blk (w4.setCell ⟨M,7,none⟩ (.string (strOfNums m2.1))) M 88 #[.int .i64 3,.int .i64 0,.int .i64 0,.int .i64 0,.int .i64 m1.1,.int .i64 0,.string ⟨#[]⟩,.string (strOfNums m2.1)]):=⟨(Blk.set_ X.out 7 (.string (strOfNums m2.1)))⟩
   replace Y:Kept (Blk (w4.setCell ⟨M,7,none⟩ (.string (strOfNums m2.1))) N 88 #[.int .i64 0,.int .i64 0,.int .i64 0,.int .i64 0,.int .i64 0,.int .i64 0,.string ⟨#[]⟩,.string ⟨#[]⟩]):=⟨Y.out.bar hbM (by simpa using DM.out.2.2.2)⟩
   replace HD:Kept (De 243 (w4.setCell ⟨M,7,none⟩ (.string (strOfNums m2.1))) d G m2.2):=⟨HD.out.keep hbM DM.out.1 DM.out.2.1⟩
   replace B:Kept (Bar [d] w (w4.setCell ⟨M,7,none⟩ (.string (strOfNums m2.1)))):=⟨B.out.trans hbM (fun x hx=>.inr (by simp at hx;subst hx;exact DL.out))⟩
   clear hbM
   go_wp2
   go_meet
   case rel=>exact⟨Y,⟨X.out⟩,HD,B⟩
  by_cases hk4:z=4
  ·subst hk4
   obtain⟨m1,hm1⟩:∃ m,decNum s1 2=m:=⟨_,rfl⟩
   obtain rfl:(⟨4,0,0,0,m1.1,0,[],[]⟩,m1.2)=R:=by
    rw[← HR.out];unfold cReq;rw[HS.out];simp only[hm1,if_true]
    simp
   replace hm1:=Kept.mk hm1
   have KC:=dnum_any _ d G 2 _ HD.out hd
   rw[hm1.out] at KC
   have x0:=X.out.cell 0
   have KK:=Kept.mk KC
   clear KC
   go_wp2_with fail
   refine KK.out.mono ?_
   rintro x w3 ⟨rfl,he,b⟩
   clear x0
   replace B:=Kept.mk (B.out.trans b (fun x hx=>.inl hx));replace X:=Kept.mk (X.out.bar b DM.out.2.2.1);replace Y:=Kept.mk (Y.out.bar b HND.out);replace HD:=Kept.mk he
   clear he b KK
   have x4:=X.out.cell 4;have f4:=X.out.frozen 4
   have hbM:Bar [M] w3 (w3.setCell ⟨M,4,none⟩ (.int .i64 m1.1)):=(Bar.setCell (Bar.refl _ _) (p:=⟨M,4,none⟩) (.inl (by simp)) (.int .i64 m1.1))
   replace X:Kept (Blk (w3.setCell ⟨M,4,none⟩ (.int .i64 m1.1)) M 88 #[.int .i64 4,.int .i64 0,.int .i64 0,.int .i64 0,.int .i64 m1.1,.int .i64 0,.string ⟨#[]⟩,.string ⟨#[]⟩]):=⟨(Blk.set_ X.out 4 (.int .i64 m1.1))⟩
   replace Y:Kept (Blk (w3.setCell ⟨M,4,none⟩ (.int .i64 m1.1)) N 88 #[.int .i64 0,.int .i64 0,.int .i64 0,.int .i64 0,.int .i64 0,.int .i64 0,.string ⟨#[]⟩,.string ⟨#[]⟩]):=⟨Y.out.bar hbM (by simpa using DM.out.2.2.2)⟩
   replace HD:Kept (De 243 (w3.setCell ⟨M,4,none⟩ (.int .i64 m1.1)) d G m1.2):=⟨HD.out.keep hbM DM.out.1 DM.out.2.1⟩
   replace B:Kept (Bar [d] w (w3.setCell ⟨M,4,none⟩ (.int .i64 m1.1))):=⟨B.out.trans hbM (fun x hx=>.inr (by simp at hx;subst hx;exact DL.out))⟩
   clear hbM
   go_wp2
   go_meet
   case rel=>exact⟨Y,⟨X.out⟩,HD,B⟩
  obtain rfl:(⟨z,0,0,0,0,0,[],[]⟩,s1)=R:=by
   rw[← HR.out];unfold cReq;rw[HS.out];simp only[if_neg hk1,if_neg hk2,if_neg hk3,if_neg hk4]
  have d1:(z == 1)=false:=beq_eq_false_iff_ne.2 hk1
  have d2:(z == 2)=false:=beq_eq_false_iff_ne.2 hk2
  have d3:(z == 3)=false:=beq_eq_false_iff_ne.2 hk3
  have d4:(z == 4)=false:=beq_eq_false_iff_ne.2 hk4
  go_wp2
  go_meet
  case rel=>exact⟨Y,⟨X.out⟩,HD,B⟩
 case rest =>
  clear X Y HD B
  obtain⟨Y,X,HD,B⟩:=hcut
  generalize wc=w2 at *
  have HOLD:=Kept.mk (fun w=>holdR_any R.1 HOK.out w)
  obtain⟨D,hD⟩:∃ D,decide (HoldR R.1)=D:=⟨_,rfl⟩
  rw[hD] at HOLD
  have KD:=Kept.mk hD
  clear hD HR HS
  obtain⟨R,st2⟩:=R
  obtain⟨kind,dst,asset,amount,id,due,hash,sec⟩:=R
  unfold rqv at HOLD
  unfold rvC at X
  dsimp only at HOLD HOK X HD KD
  replace X:Kept (Blk w2 M 88 #[.int .i64 kind,.int .i64 dst,.int .i64 asset,.int .i64 amount,.int .i64 id,.int .i64 due,.string (strOfNums hash),.string (strOfNums sec)]):=⟨X.out⟩
  have DN:Kept (d∉[N]∧Disj G [N]∧M≠N):=⟨by simp;omega,fun g hg hm=>by have:=HG.out g hg;simp at hm;omega,by omega⟩
  go_upto_region 14 with(fail)
  have CS:∀ {u:World},Blk u M 88 #[.int .i64 kind,.int .i64 dst,.int .i64 asset,.int .i64 amount,.int .i64 id,.int .i64 due,.string (strOfNums hash),.string (strOfNums sec)]→u.cell? ⟨M,0,none⟩=some (.int .i64 kind)∧u.cell? ⟨M,1,none⟩=some (.int .i64 dst)∧u.cell? ⟨M,2,none⟩=some (.int .i64 asset)∧u.cell? ⟨M,3,none⟩=some (.int .i64 amount)∧u.cell? ⟨M,4,none⟩=some (.int .i64 id)∧u.cell? ⟨M,5,none⟩=some (.int .i64 due)∧u.cell? ⟨M,6,none⟩=some (.string (strOfNums hash))∧u.cell? ⟨M,7,none⟩=some (.string (strOfNums sec)):=fun h=>⟨h.cell 0,h.cell 1,h.cell 2,h.cell 3,h.cell 4,h.cell 5,h.cell 6,h.cell 7⟩
  refine wp_region_noPanic ?_
  refine wp_region_held_drew (S:=fun w':World=>w'.cell? ⟨M,0,none⟩=some (.int .i64 kind)∧w'.cell? ⟨M,1,none⟩=some (.int .i64 dst)∧w'.cell? ⟨M,2,none⟩=some (.int .i64 asset)∧w'.cell? ⟨M,3,none⟩=some (.int .i64 amount)∧w'.cell? ⟨M,4,none⟩=some (.int .i64 id)∧w'.cell? ⟨M,5,none⟩=some (.int .i64 due)∧w'.cell? ⟨M,6,none⟩=some (.string (strOfNums hash))∧w'.cell? ⟨M,7,none⟩=some (.string (strOfNums sec))) (by kernel_rfl) (CS X.out.drew) (fun _=>?_)
  replace X:=Kept.mk X.out.drew;replace Y:=Kept.mk Y.out.drew;replace B:=Kept.mk B.out.drew;replace HD:=Kept.mk (HD.out.keep ((Bar.refl [] w2).drew) (by simp) (fun _ _=>by simp))
  generalize w2.drew=w3 at *
  refine tk 0 (by assumption) ?_
  simp only[Act.put,zA,zB,zC]
  refine tk 1 (by assumption) ?_
  simp only[Act.put,zA,zB,zC]
  refine ld 2 (fun K hK=>?_)
  go_simp
  go_at_call 162
  refine(HOLD.out _).mono ?_
  rintro x w4 ⟨rfl,b4⟩
  replace X:=Kept.mk (X.out.below b4 X.out.lt);replace Y:=Kept.mk (Y.out.below b4 Y.out.lt);replace HD:=Kept.mk (HD.out.below b4);replace B:=Kept.mk (B.out.trans (barOf b4 [d]) (fun x hx=>.inl hx))
  refine hK.out _ _ (CS X.out) (fun _=>?_)
  clear hK K b4 HOLD
  have c0:w4.cell? ⟨N,0,none⟩=some (.int .i64 0):=Y.out.cell 0;have g0:=Y.out.frozen 0
  have c1:w4.cell? ⟨N,1,none⟩=some (.int .i64 0):=Y.out.cell 1;have g1:=Y.out.frozen 1
  have c2:w4.cell? ⟨N,2,none⟩=some (.int .i64 0):=Y.out.cell 2;have g2:=Y.out.frozen 2
  have c3:w4.cell? ⟨N,3,none⟩=some (.int .i64 0):=Y.out.cell 3;have g3:=Y.out.frozen 3
  have c4:w4.cell? ⟨N,4,none⟩=some (.int .i64 0):=Y.out.cell 4;have g4:=Y.out.frozen 4
  have c5:w4.cell? ⟨N,5,none⟩=some (.int .i64 0):=Y.out.cell 5;have g5:=Y.out.frozen 5
  have c6:w4.cell? ⟨N,6,none⟩=some (.string ⟨#[]⟩):=Y.out.cell 6;have g6:=Y.out.frozen 6
  have c7:w4.cell? ⟨N,7,none⟩=some (.string ⟨#[]⟩):=Y.out.cell 7;have g7:=Y.out.frozen 7
  refine ld 3 (fun K hK=>?_)
  go_simp
  have hbN:Bar [N] w4 ((((((((w4.setCell ⟨N,0,none⟩ (.int .i64 kind)).setCell ⟨N,1,none⟩ (.int .i64 dst)).setCell ⟨N,2,none⟩ (.int .i64 asset)).setCell ⟨N,3,none⟩ (.int .i64 amount)).setCell ⟨N,4,none⟩ (.int .i64 id)).setCell ⟨N,5,none⟩ (.int .i64 due)).setCell ⟨N,6,none⟩ (.string (strOfNums hash))).setCell ⟨N,7,none⟩ (.string (strOfNums sec))):=(Bar.setCell (Bar.setCell (Bar.setCell (Bar.setCell (Bar.setCell (Bar.setCell (Bar.setCell (Bar.setCell (Bar.refl _ _) (p:=⟨N,0,none⟩) (.inl (by simp)) (.int .i64 kind)) (p:=⟨N,1,none⟩) (.inl (by simp)) (.int .i64 dst)) (p:=⟨N,2,none⟩) (.inl (by simp)) (.int .i64 asset)) (p:=⟨N,3,none⟩) (.inl (by simp)) (.int .i64 amount)) (p:=⟨N,4,none⟩) (.inl (by simp)) (.int .i64 id)) (p:=⟨N,5,none⟩) (.inl (by simp)) (.int .i64 due)) (p:=⟨N,6,none⟩) (.inl (by simp)) (.string (strOfNums hash))) (p:=⟨N,7,none⟩) (.inl (by simp)) (.string (strOfNums sec)))
  replace Y:Kept (Blk ((((((((w4.setCell ⟨N,0,none⟩ (.int .i64 kind)).setCell ⟨N,1,none⟩ (.int .i64 dst)).setCell ⟨N,2,none⟩ (.int .i64 asset)).setCell ⟨N,3,none⟩ (.int .i64 amount)).setCell ⟨N,4,none⟩ (.int .i64 id)).setCell ⟨N,5,none⟩ (.int .i64 due)).setCell ⟨N,6,none⟩ (.string (strOfNums hash))).setCell ⟨N,7,none⟩ (.string (strOfNums sec))) N 88 #[.int .i64 kind,.int .i64 dst,.int .i64 asset,.int .i64 amount,.int .i64 id,.int .i64 due,.string (strOfNums hash),.string (strOfNums sec)]):=⟨(Blk.set_ (Blk.set_ (Blk.set_ (Blk.set_ (Blk.set_ (Blk.set_ (Blk.set_ (Blk.set_ Y.out 0 (.int .i64 kind)) 1 (.int .i64 dst)) 2 (.int .i64 asset)) 3 (.int .i64 amount)) 4 (.int .i64 id)) 5 (.int .i64 due)) 6 (.string (strOfNums hash))) 7 (.string (strOfNums sec)))⟩
  replace X:=Kept.mk (X.out.bar hbN (by simpa using DN.out.2.2))
  replace HD:=Kept.mk (HD.out.keep hbN DN.out.1 DN.out.2.1)
  replace B:=Kept.mk (B.out.trans hbN (fun x hx=>.inr (by simp at hx;subst hx;exact HW.out)))
  refine hK.out _ _ (CS X.out) (fun _=>?_)
  clear hK K hbN c0 g0 c1 g1 c2 g2 c3 g3 c4 g4 c5 g5 c6 g6 c7 g7
  generalize ((((((((w4.setCell ⟨N,0,none⟩ (.int .i64 kind)).setCell ⟨N,1,none⟩ (.int .i64 dst)).setCell ⟨N,2,none⟩ (.int .i64 asset)).setCell ⟨N,3,none⟩ (.int .i64 amount)).setCell ⟨N,4,none⟩ (.int .i64 id)).setCell ⟨N,5,none⟩ (.int .i64 due)).setCell ⟨N,6,none⟩ (.string (strOfNums hash))).setCell ⟨N,7,none⟩ (.string (strOfNums sec)))=w5 at *
  refine tk 4 (by assumption) ?_
  simp only[Act.put,zA,zB,zC]
  refine wpAnyH_done (by kernel_rfl) ?_ _
  refine NoPanic.normal ?_
  go_wp2
  (try simp only[Exit.inBlock,Exit.then])
  refine bodyPost_ret (results_row_tmp rfl _ _ N 88 #[.int .i64 kind,.int .i64 dst,.int .i64 asset,.int .i64 amount,.int .i64 id,.int .i64 due,.string (strOfNums hash),.string (strOfNums sec)] (0,0) _ rfl Y.out Tryz.underlying88 rfl creq_size) rfl ?_
  exact⟨by rw[KD.out];rfl,HOK.out,HD.out,B.out⟩
set_option maxRecDepth 100000 in
set_option maxHeartbeats 2000000 in
theorem getallr_any {w:World}{d:Nat}{G:List Nat}{st:St}(h:De 243 w d G st) (hd:d∉G) :
  Calls Tryz.prog 119 #[.pointer (some ⟨d,0,none⟩),.int .i64 1,.int .i64 64,.func (.func 120) #[] #[]] w (GetPost rvC 8 d G (iter cReq (decNum st 1).1.toNat (decNum st 1).2) ((decNum st 1).1≤64∧∀ r∈(iter cReq (decNum st 1).1.toNat (decNum st 1).2).1,HoldR r) w):=by
 have hby:=h.bytes
 have hbs:=decNum_bytes st 1 hby
 have h0:0≤(decNum st 1).1:=decNum_nonneg st 1
 have KC:=dnum_any w d G 1 st h hd
 have hlt:=h.lt;have hG:=Kept.mk h.1
 clear h hby
 obtain⟨a,ha⟩:∃ a,decNum st 1=a:=⟨_,rfl⟩
 rw[ha] at KC hbs h0 ⊢
 clear ha
 obtain⟨z,s1⟩:=a
 dsimp only at KC hbs h0 ⊢
 obtain⟨n,rfl⟩:∃ n:Nat,z=n:=⟨z.toNat,by omega⟩
 rw[Int.toNat_natCast]
 generalize hP:((n:Int)≤64∧∀ r∈(iter cReq n s1).1,HoldR r)=P
 have HP:=Kept.mk hP
 have HBS:=Kept.mk hbs
 clear hP hbs h0
 have KK:=Kept.mk KC
 clear KC
 by_cases hm:(n:Int)≤64
 ·have hnm:n≤400:=by omega
  go_enter Tryz.func119,Tryz.ntmps119
  go_wp2_with fail
  refine KK.out.mono ?_
  rintro x w1 ⟨rfl,he,b⟩
  have B:=Kept.mk b
  have hlt1:d < w1.heap.size:=he.lt
  obtain⟨w2,cs0,hmk,hblk,hcs,b2⟩:=make_req w1 n hnm
  obtain⟨M,hM⟩:∃ M,w1.heap.size=M:=⟨_,rfl⟩
  have hMw:w.heap.size≤M:=by rw[← hM];exact b.size
  have DM:Kept (M∉[d]∧d∉[M]∧Disj G [M]):=⟨by simp;omega,by simp;omega,fun g hg hm=>by have:=hG.out g hg;simp at hm;omega⟩
  rw[hM] at hmk hblk
  have X:=Kept.mk hblk
  have RP:Kept (RowP rvC 8 n cs0 (iter cReq 0 s1).1):=⟨RowP.new hcs⟩
  have HD:Kept (De 243 w2 d G (iter cReq 0 s1).2):=⟨he.below b2⟩
  replace B:=Kept.mk (B.out.trans (barOf b2 [d]) (fun x hx=>.inl hx))
  have MW:=Kept.mk hMw;have HLN:Kept (∀ k,(iter cReq k s1).1.length=k):=⟨fun k=>iter_len _ k s1⟩
  have HH:Kept (∀ r∈(iter cReq 0 s1).1,HoldR r):=⟨by simp[iter]⟩
  clear he b KK hblk hcs b2 hlt hM hMw hlt1
  go_wp2
  clear hmk
  go_loopw [24] (fun i wr=>∃ (k:Nat) (cs:Array Value),k≤n∧i=.int .i64 k∧Kept (De 243 wr d G (iter cReq k s1).2)∧Kept (Blk wr M 88 cs)∧Kept (RowP rvC 8 n cs (iter cReq k s1).1)∧Kept (Bar [d] w wr)∧Kept (∀ r∈(iter cReq k s1).1,HoldR r)) (fun i _=>n - (Go.RowKit.intOf i).toNat)
  case atStart=>exact⟨0,cs0,by omega,rfl,HD,X,RP,B,HH⟩
  case round =>
   clear HD X RP B HH
   obtain⟨k,cs,hk,rfl,HD,X,RP,B,HH⟩:=hrel
   by_cases hkn:k < n
   ·have hkn':(k:Int) < n:=by omega
    have KC:=cgetr_any HD.out hd
    have hit:iter cReq (k+1) s1=((iter cReq k s1).1++[(cReq (iter cReq k s1).2).1],(cReq (iter cReq k s1).2).2):=rfl
    have hin:(cReq (iter cReq k s1).2).1∈(iter cReq n s1).1:=iter_mem cReq s1 hkn
    obtain⟨R,hR⟩:∃ R,cReq (iter cReq k s1).2=R:=⟨_,rfl⟩
    rw[hR] at KC hit hin
    have HIT:=Kept.mk hit;have HIN:=Kept.mk hin
    clear hR hit hin
    obtain⟨R,st2⟩:=R
    obtain⟨kind,dst,asset,amount,id,due,hash,sec⟩:=R
    unfold rqv at KC
    dsimp only at KC HIT HIN
    have KK:=Kept.mk KC
    clear KC
    by_cases hh:HoldR ⟨kind,dst,asset,amount,id,due,hash,sec⟩
    ·have KD:=KK.out
     rw[decide_eq_true hh] at KD
     replace KK:=Kept.mk KD
     have HH2:Kept (∀ r∈(iter cReq (k+1) s1).1,HoldR r):=⟨by
      rw[HIT.out]
      intro y hy
      rcases List.mem_append.1 hy with hy|hy
      ·exact HH.out y hy
      ·rw[List.mem_singleton] at hy;subst hy;exact hh⟩
     clear KD hh HIN
     go_wp2_with fail
     refine KK.out.mono ?_
     rintro x w3 ⟨rfl,-,he,b⟩
     replace X:=Kept.mk (X.out.bar b DM.out.1)
     replace B:=Kept.mk (B.out.trans b (fun x hx=>.inl hx))
     have hsz:k * 8+8≤cs.size:=by rw[RP.out.size];omega
     obtain⟨u0,c0⟩:∃ u,w3.cell? ⟨M,k * 8,none⟩=some u:=⟨_,(X.out.cell (k * 8)).trans (Array.getElem?_eq_getElem (by omega))⟩
     have f0:=X.out.frozen (k * 8)
     obtain⟨u1,c1⟩:∃ u,w3.cell? ⟨M,k * 8+1,none⟩=some u:=⟨_,(X.out.cell (k * 8+1)).trans (Array.getElem?_eq_getElem (by omega))⟩
     have f1:=X.out.frozen (k * 8+1)
     obtain⟨u2,c2⟩:∃ u,w3.cell? ⟨M,k * 8+2,none⟩=some u:=⟨_,(X.out.cell (k * 8+2)).trans (Array.getElem?_eq_getElem (by omega))⟩
     have f2:=X.out.frozen (k * 8+2)
     obtain⟨u3,c3⟩:∃ u,w3.cell? ⟨M,k * 8+3,none⟩=some u:=⟨_,(X.out.cell (k * 8+3)).trans (Array.getElem?_eq_getElem (by omega))⟩
     have f3:=X.out.frozen (k * 8+3)
     obtain⟨u4,c4⟩:∃ u,w3.cell? ⟨M,k * 8+4,none⟩=some u:=⟨_,(X.out.cell (k * 8+4)).trans (Array.getElem?_eq_getElem (by omega))⟩
     have f4:=X.out.frozen (k * 8+4)
     obtain⟨u5,c5⟩:∃ u,w3.cell? ⟨M,k * 8+5,none⟩=some u:=⟨_,(X.out.cell (k * 8+5)).trans (Array.getElem?_eq_getElem (by omega))⟩
     have f5:=X.out.frozen (k * 8+5)
     obtain⟨u6,c6⟩:∃ u,w3.cell? ⟨M,k * 8+6,none⟩=some u:=⟨_,(X.out.cell (k * 8+6)).trans (Array.getElem?_eq_getElem (by omega))⟩
     have f6:=X.out.frozen (k * 8+6)
     obtain⟨u7,c7⟩:∃ u,w3.cell? ⟨M,k * 8+7,none⟩=some u:=⟨_,(X.out.cell (k * 8+7)).trans (Array.getElem?_eq_getElem (by omega))⟩
     have f7:=X.out.frozen (k * 8+7)
     have RP2:Kept (RowP rvC 8 n ((((((((cs.setIfInBounds (k * 8) (.int .i64 kind)).setIfInBounds (k * 8+1) (.int .i64 dst)).setIfInBounds (k * 8+2) (.int .i64 asset)).setIfInBounds (k * 8+3) (.int .i64 amount)).setIfInBounds (k * 8+4) (.int .i64 id)).setIfInBounds (k * 8+5) (.int .i64 due)).setIfInBounds (k * 8+6) (.string (strOfNums hash))).setIfInBounds (k * 8+7) (.string (strOfNums sec))) (iter cReq (k+1) s1).1):=⟨by
      rw[HIT.out]
      refine RP.out.next (HLN.out k) (fun _=>rfl) (by simp) ?_ ?_
      ·intro j v hv
       have hj:j < 8:=(List.getElem?_eq_some_iff.1 hv).1
       have hj2:j=0∨j=1∨j=2∨j=3∨j=4∨j=5∨j=6∨j=7:=by omega
       rcases hj2 with rfl|rfl|rfl|rfl|rfl|rfl|rfl|rfl<;>(simp only[rvC] at hv;simp at hv;subst hv;simp[Array.getElem?_setIfInBounds];try omega)
      ·intro i hi
       simp only[Array.getElem?_setIfInBounds]
       rw[if_neg (by omega)];rw[if_neg (by omega)];rw[if_neg (by omega)];rw[if_neg (by omega)];rw[if_neg (by omega)];rw[if_neg (by omega)];rw[if_neg (by omega)];rw[if_neg (by omega)]⟩
     have hbM:Bar [M] w3 ((((((((w3.setCell ⟨M,k * 8,none⟩ (.int .i64 kind)).setCell ⟨M,k * 8+1,none⟩ (.int .i64 dst)).setCell ⟨M,k * 8+2,none⟩ (.int .i64 asset)).setCell ⟨M,k * 8+3,none⟩ (.int .i64 amount)).setCell ⟨M,k * 8+4,none⟩ (.int .i64 id)).setCell ⟨M,k * 8+5,none⟩ (.int .i64 due)).setCell ⟨M,k * 8+6,none⟩ (.string (strOfNums hash))).setCell ⟨M,k * 8+7,none⟩ (.string (strOfNums sec))):=(Bar.setCell (Bar.setCell (Bar.setCell (Bar.setCell (Bar.setCell (Bar.setCell (Bar.setCell (Bar.setCell (Bar.refl _ _) (p:=⟨M,k * 8,none⟩) (.inl (by simp)) (.int .i64 kind)) (p:=⟨M,k * 8+1,none⟩) (.inl (by simp)) (.int .i64 dst)) (p:=⟨M,k * 8+2,none⟩) (.inl (by simp)) (.int .i64 asset)) (p:=⟨M,k * 8+3,none⟩) (.inl (by simp)) (.int .i64 amount)) (p:=⟨M,k * 8+4,none⟩) (.inl (by simp)) (.int .i64 id)) (p:=⟨M,k * 8+5,none⟩) (.inl (by simp)) (.int .i64 due)) (p:=⟨M,k * 8+6,none⟩) (.inl (by simp)) (.string (strOfNums hash))) (p:=⟨M,k * 8+7,none⟩) (.inl (by simp)) (.string (strOfNums sec)))
     replace X:Kept (Blk ((((((((w3.setCell ⟨M,k * 8,none⟩ (.int .i64 kind)).setCell ⟨M,k * 8+1,none⟩ (.int .i64 dst)).setCell ⟨M,k * 8+2,none⟩ (.int .i64 asset)).setCell ⟨M,k * 8+3,none⟩ (.int .i64 amount)).setCell ⟨M,k * 8+4,none⟩ (.int .i64 id)).setCell ⟨M,k * 8+5,none⟩ (.int .i64 due)).setCell ⟨M,k * 8+6,none⟩ (.string (strOfNums hash))).setCell ⟨M,k * 8+7,none⟩ (.string (strOfNums sec))) M 88 ((((((((cs.setIfInBounds (k * 8) (.int .i64 kind)).setIfInBounds (k * 8+1) (.int .i64 dst)).setIfInBounds (k * 8+2) (.int .i64 asset)).setIfInBounds (k * 8+3) (.int .i64 amount)).setIfInBounds (k * 8+4) (.int .i64 id)).setIfInBounds (k * 8+5) (.int .i64 due)).setIfInBounds (k * 8+6) (.string (strOfNums hash))).setIfInBounds (k * 8+7) (.string (strOfNums sec)))):=⟨(Blk.set_ (Blk.set_ (Blk.set_ (Blk.set_ (Blk.set_ (Blk.set_ (Blk.set_ (Blk.set_ X.out (k * 8) (.int .i64 kind)) (k * 8+1) (.int .i64 dst)) (k * 8+2) (.int .i64 asset)) (k * 8+3) (.int .i64 amount)) (k * 8+4) (.int .i64 id)) (k * 8+5) (.int .i64 due)) (k * 8+6) (.string (strOfNums hash))) (k * 8+7) (.string (strOfNums sec)))⟩
     have HD2:Kept (De 243 ((((((((w3.setCell ⟨M,k * 8,none⟩ (.int .i64 kind)).setCell ⟨M,k * 8+1,none⟩ (.int .i64 dst)).setCell ⟨M,k * 8+2,none⟩ (.int .i64 asset)).setCell ⟨M,k * 8+3,none⟩ (.int .i64 amount)).setCell ⟨M,k * 8+4,none⟩ (.int .i64 id)).setCell ⟨M,k * 8+5,none⟩ (.int .i64 due)).setCell ⟨M,k * 8+6,none⟩ (.string (strOfNums hash))).setCell ⟨M,k * 8+7,none⟩ (.string (strOfNums sec))) d G (iter cReq (k+1) s1).2):=⟨by rw[HIT.out];exact he.keep hbM DM.out.2.1 DM.out.2.2⟩
     replace B:=Kept.mk (B.out.trans hbM (fun x hx=>.inr (by simp at hx;subst hx;exact MW.out)))
     clear he b KK hbM hsz RP HD
     go_wp2
     go_roundw
     case rel=>exact⟨k+1,_,by omega,by go_num,HD2,X,RP2,B,HH2⟩
     case measure=>simp[Go.RowKit.intOf];omega
    ·have KD:=KK.out
     rw[decide_eq_false hh] at KD
     replace KK:=Kept.mk KD
     have NO:Kept (¬ P):=⟨fun h=>by rw[← HP.out] at h;exact hh (h.2 _ HIN.out)⟩
     clear KD hh HIN
     go_wp2_with fail
     refine KK.out.mono ?_
     rintro x w3 ⟨rfl,-,he,b⟩
     replace X:=Kept.mk (X.out.bar b DM.out.1)
     replace B:=Kept.mk (B.out.trans b (fun x hx=>.inl hx))
     have hsz:k * 8+8≤cs.size:=by rw[RP.out.size];omega
     obtain⟨u0,c0⟩:∃ u,w3.cell? ⟨M,k * 8,none⟩=some u:=⟨_,(X.out.cell (k * 8)).trans (Array.getElem?_eq_getElem (by omega))⟩
     have f0:=X.out.frozen (k * 8)
     obtain⟨u1,c1⟩:∃ u,w3.cell? ⟨M,k * 8+1,none⟩=some u:=⟨_,(X.out.cell (k * 8+1)).trans (Array.getElem?_eq_getElem (by omega))⟩
     have f1:=X.out.frozen (k * 8+1)
     obtain⟨u2,c2⟩:∃ u,w3.cell? ⟨M,k * 8+2,none⟩=some u:=⟨_,(X.out.cell (k * 8+2)).trans (Array.getElem?_eq_getElem (by omega))⟩
     have f2:=X.out.frozen (k * 8+2)
     obtain⟨u3,c3⟩:∃ u,w3.cell? ⟨M,k * 8+3,none⟩=some u:=⟨_,(X.out.cell (k * 8+3)).trans (Array.getElem?_eq_getElem (by omega))⟩
     have f3:=X.out.frozen (k * 8+3)
     obtain⟨u4,c4⟩:∃ u,w3.cell? ⟨M,k * 8+4,none⟩=some u:=⟨_,(X.out.cell (k * 8+4)).trans (Array.getElem?_eq_getElem (by omega))⟩
     have f4:=X.out.frozen (k * 8+4)
     obtain⟨u5,c5⟩:∃ u,w3.cell? ⟨M,k * 8+5,none⟩=some u:=⟨_,(X.out.cell (k * 8+5)).trans (Array.getElem?_eq_getElem (by omega))⟩
     have f5:=X.out.frozen (k * 8+5)
     obtain⟨u6,c6⟩:∃ u,w3.cell? ⟨M,k * 8+6,none⟩=some u:=⟨_,(X.out.cell (k * 8+6)).trans (Array.getElem?_eq_getElem (by omega))⟩
     have f6:=X.out.frozen (k * 8+6)
     obtain⟨u7,c7⟩:∃ u,w3.cell? ⟨M,k * 8+7,none⟩=some u:=⟨_,(X.out.cell (k * 8+7)).trans (Array.getElem?_eq_getElem (by omega))⟩
     have f7:=X.out.frozen (k * 8+7)
     have RP2:Kept (RowP rvC 8 n ((((((((cs.setIfInBounds (k * 8) (.int .i64 kind)).setIfInBounds (k * 8+1) (.int .i64 dst)).setIfInBounds (k * 8+2) (.int .i64 asset)).setIfInBounds (k * 8+3) (.int .i64 amount)).setIfInBounds (k * 8+4) (.int .i64 id)).setIfInBounds (k * 8+5) (.int .i64 due)).setIfInBounds (k * 8+6) (.string (strOfNums hash))).setIfInBounds (k * 8+7) (.string (strOfNums sec))) (iter cReq (k+1) s1).1):=⟨by
      rw[HIT.out]
      refine RP.out.next (HLN.out k) (fun _=>rfl) (by simp) ?_ ?_
      ·intro j v hv
       have hj:j < 8:=(List.getElem?_eq_some_iff.1 hv).1
       have hj2:j=0∨j=1∨j=2∨j=3∨j=4∨j=5∨j=6∨j=7:=by omega
       rcases hj2 with rfl|rfl|rfl|rfl|rfl|rfl|rfl|rfl<;>(simp only[rvC] at hv;simp at hv;subst hv;simp[Array.getElem?_setIfInBounds];try omega)
      ·intro i hi
       simp only[Array.getElem?_setIfInBounds]
       rw[if_neg (by omega)];rw[if_neg (by omega)];rw[if_neg (by omega)];rw[if_neg (by omega)];rw[if_neg (by omega)];rw[if_neg (by omega)];rw[if_neg (by omega)];rw[if_neg (by omega)]⟩
     have hbM:Bar [M] w3 ((((((((w3.setCell ⟨M,k * 8,none⟩ (.int .i64 kind)).setCell ⟨M,k * 8+1,none⟩ (.int .i64 dst)).setCell ⟨M,k * 8+2,none⟩ (.int .i64 asset)).setCell ⟨M,k * 8+3,none⟩ (.int .i64 amount)).setCell ⟨M,k * 8+4,none⟩ (.int .i64 id)).setCell ⟨M,k * 8+5,none⟩ (.int .i64 due)).setCell ⟨M,k * 8+6,none⟩ (.string (strOfNums hash))).setCell ⟨M,k * 8+7,none⟩ (.string (strOfNums sec))):=(Bar.setCell (Bar.setCell (Bar.setCell (Bar.setCell (Bar.setCell (Bar.setCell (Bar.setCell (Bar.setCell (Bar.refl _ _) (p:=⟨M,k * 8,none⟩) (.inl (by simp)) (.int .i64 kind)) (p:=⟨M,k * 8+1,none⟩) (.inl (by simp)) (.int .i64 dst)) (p:=⟨M,k * 8+2,none⟩) (.inl (by simp)) (.int .i64 asset)) (p:=⟨M,k * 8+3,none⟩) (.inl (by simp)) (.int .i64 amount)) (p:=⟨M,k * 8+4,none⟩) (.inl (by simp)) (.int .i64 id)) (p:=⟨M,k * 8+5,none⟩) (.inl (by simp)) (.int .i64 due)) (p:=⟨M,k * 8+6,none⟩) (.inl (by simp)) (.string (strOfNums hash))) (p:=⟨M,k * 8+7,none⟩) (.inl (by simp)) (.string (strOfNums sec)))
     replace X:Kept (Blk ((((((((w3.setCell ⟨M,k * 8,none⟩ (.int .i64 kind)).setCell ⟨M,k * 8+1,none⟩ (.int .i64 dst)).setCell ⟨M,k * 8+2,none⟩ (.int .i64 asset)).setCell ⟨M,k * 8+3,none⟩ (.int .i64 amount)).setCell ⟨M,k * 8+4,none⟩ (.int .i64 id)).setCell ⟨M,k * 8+5,none⟩ (.int .i64 due)).setCell ⟨M,k * 8+6,none⟩ (.string (strOfNums hash))).setCell ⟨M,k * 8+7,none⟩ (.string (strOfNums sec))) M 88 ((((((((cs.setIfInBounds (k * 8) (.int .i64 kind)).setIfInBounds (k * 8+1) (.int .i64 dst)).setIfInBounds (k * 8+2) (.int .i64 asset)).setIfInBounds (k * 8+3) (.int .i64 amount)).setIfInBounds (k * 8+4) (.int .i64 id)).setIfInBounds (k * 8+5) (.int .i64 due)).setIfInBounds (k * 8+6) (.string (strOfNums hash))).setIfInBounds (k * 8+7) (.string (strOfNums sec)))):=⟨(Blk.set_ (Blk.set_ (Blk.set_ (Blk.set_ (Blk.set_ (Blk.set_ (Blk.set_ (Blk.set_ X.out (k * 8) (.int .i64 kind)) (k * 8+1) (.int .i64 dst)) (k * 8+2) (.int .i64 asset)) (k * 8+3) (.int .i64 amount)) (k * 8+4) (.int .i64 id)) (k * 8+5) (.int .i64 due)) (k * 8+6) (.string (strOfNums hash))) (k * 8+7) (.string (strOfNums sec)))⟩
     have HD2:Kept (De 243 ((((((((w3.setCell ⟨M,k * 8,none⟩ (.int .i64 kind)).setCell ⟨M,k * 8+1,none⟩ (.int .i64 dst)).setCell ⟨M,k * 8+2,none⟩ (.int .i64 asset)).setCell ⟨M,k * 8+3,none⟩ (.int .i64 amount)).setCell ⟨M,k * 8+4,none⟩ (.int .i64 id)).setCell ⟨M,k * 8+5,none⟩ (.int .i64 due)).setCell ⟨M,k * 8+6,none⟩ (.string (strOfNums hash))).setCell ⟨M,k * 8+7,none⟩ (.string (strOfNums sec))) d G (iter cReq (k+1) s1).2):=⟨by rw[HIT.out];exact he.keep hbM DM.out.2.1 DM.out.2.2⟩
     replace B:=Kept.mk (B.out.trans hbM (fun x hx=>.inr (by simp at hx;subst hx;exact MW.out)))
     clear he b KK hbM hsz RP HD
     go_wp2
     go_ret2
     exact⟨false,none,0,0,rfl,Nat.le_refl _,by omega,⟨fun h=>(by cases h),fun h=>(NO.out h).elim⟩,B.out,fun b o h=>(by cases h),fun h=>(by cases h)⟩
   ·have hkn':¬ (k:Int) < n:=by omega
    obtain rfl:k=n:=by omega
    have YES:Kept P:=⟨by rw[← HP.out];exact⟨hm,HH.out⟩⟩
    have RC:=Kept.mk (RP.out.read X.out (HLN.out k))
    go_wp2
    go_ret2
    exact⟨true,_,k,k,rfl,Nat.le_refl _,by omega,⟨fun _=>YES.out,fun _=>rfl⟩,B.out,fun b o h=>by injection h with h;injection h with h1;rw[← h1];exact MW.out,fun _=>⟨RC.out,HD.out⟩⟩
 ·have hm2:(64:Int) < n:=by omega
  have NO:Kept (¬ P):=⟨fun h=>by rw[← HP.out] at h;exact hm h.1⟩
  clear hm
  go_enter Tryz.func119,Tryz.ntmps119
  go_wp2_with fail
  refine KK.out.mono ?_
  rintro x w1 ⟨rfl,he,b⟩
  have B:=Kept.mk b
  clear he b KK
  go_wp2
  go_ret2
  exact⟨false,none,0,0,rfl,Nat.le_refl _,by omega,⟨fun h=>(by cases h),fun h=>(NO.out h).elim⟩,B.out,fun b o h=>(by cases h),fun h=>(by cases h)⟩
def DecBNPost (b:List Int) (w:World) (x:Ending) (w':World):Prop :=
 ∃ e seen A n c l,x=.returned (.tuple #[.agg #[.int .i64 seen,.slice A n c],.int .i64 e])∧n≤c∧c≤9223372036854775807∧Rr w' A n l∧(∀ r∈l,r.ok)∧DecB b e ⟨seen,l⟩∧Below w.heap.size w w'∧∀ k o,A=some ⟨k,o,none⟩→w.heap.size≤k
set_option maxRecDepth 100000 in
set_option maxHeartbeats 2000000 in
theorem cdecbn_any {A:Option Addr}{n c:Nat}{b:List Int}{w:World}(hr:Rd w A n b) (hn:n≤100000):Calls Tryz.prog 61 #[.slice A n c] w (DecBNPost b w):=by
 have hby:=hr.2.1
 have DY:Kept (DecBC b→DecB b 0 ⟨(decNum (0,b) 2).1,(iter cReq (decNum (decNum (0,b) 2).2 1).1.toNat (decNum (decNum (0,b) 2).2 1).2).1⟩):=⟨decB_yes hby⟩
 have DN:Kept (¬ DecBC b→DecB b 2 ⟨0,[]⟩):=⟨decB_no hby⟩
 have hb1:=decNum_bytes (0,b) 2 hby
 have hb2:=decNum_bytes (decNum (0,b) 2).2 1 hb1
 have OK:Kept (∀ r∈(iter cReq (decNum (decNum (0,b) 2).2 1).1.toNat (decNum (decNum (0,b) 2).2 1).2).1,r.ok):=⟨(iter_all req_rest cReq_ok _ _ hb2).2⟩
 have DI:Kept (DecBC b ↔ ((decNum (decNum (0,b) 2).2 1).1≤64∧∀ r∈(iter cReq (decNum (decNum (0,b) 2).2 1).1.toNat (decNum (decNum (0,b) 2).2 1).2).1,HoldR r)∧endOf (iter cReq (decNum (decNum (0,b) 2).2 1).1.toNat (decNum (decNum (0,b) 2).2 1).2).2=0):=⟨⟨fun h=>⟨⟨h.1,h.2.1⟩,h.2.2⟩,fun h=>⟨h.1.1,h.1.2,h.2⟩⟩⟩
 clear hb1 hb2 hby
 generalize DecBC b=Q at *
 obtain⟨N,hN⟩:∃ N,w.heap.size=N:=⟨_,rfl⟩
 have HN:=Kept.mk hN
 have B0:Below N w (w.alloc (.cells #[.int .i64 0,.slice none 0 0] 75)):=(Below.refl _ _).alloc (by omega) _
 have Y:Kept (Blk (w.alloc (.cells #[.int .i64 0,.slice none 0 0] 75)) N 75 #[.int .i64 0,.slice none 0 0]):=⟨Blk.new_at w _ _ N hN.symm⟩
 have KN:=newdec_any A n c b (w.alloc (.cells #[.int .i64 0,.slice none 0 0] 75)) (hr.below (hN▸B0)) (by omega)
 have B:=Kept.mk B0
 clear B0 hr
 go_enter Tryz.func61,Tryz.ntmps61
 go_upto_region 1 with(fail)
 generalize w.alloc (.cells #[.int .i64 0,.slice none 0 0] 75)=w0 at *
 have KK:=Kept.mk KN
 clear KN
 go_wp2_with fail
 refine KK.out.mono ?_
 rintro x w1 ⟨d,G,rfl,he,hd1,-,hd,b1⟩
 have hNw:=Y.out.lt
 have hNd:N∉[d]:=by simp;omega
 have HND:=Kept.mk hNd
 have DNX:Kept (N≤d):=⟨by omega⟩
 replace Y:=Kept.mk (Y.out.below b1 hNw)
 replace B:=Kept.mk (B.out.trans (b1.mono (by omega)))
 have KC:=dnum_any w1 d G 2 (0,b) he hd
 have KD:=Kept.mk KC
 clear he b1 hNd KK KC hd1 hNw
 go_wp2_with fail
 refine KD.out.mono ?_
 rintro x w2 ⟨rfl,he,b2⟩
 replace Y:=Kept.mk (Y.out.bar b2 HND.out)
 replace B:=Kept.mk (B.out.trans (b2.below (by have:=B.out.size;have:=HN.out;omega) (by simpa using DNX.out)))
 have KC:=getallr_any he hd
 have KA:=Kept.mk KC
 unfold GetPost at KA
 obtain⟨s,hs⟩:∃ s,decNum (0,b) 2=s:=⟨_,rfl⟩
 rw[hs] at KA DY OK DI
 obtain⟨it,hit⟩:∃ it,iter cReq (decNum s.2 1).1.toNat (decNum s.2 1).2=it:=⟨_,rfl⟩
 rw[hit] at KA DY OK DI
 generalize hP:((decNum s.2 1).1≤64∧∀ r∈it.1,HoldR r)=P at *
 rw[hs]
 clear he b2 KD KC hs hit hP
 have KB:=Kept.mk KA.out
 clear KA
 go_wp2_with fail
 refine KB.out.mono ?_
 rintro x w3 ⟨q,A3,m,c3,rfl,hm,hc3,hq,b3,hnew,hres⟩
 have AW:Kept (∀ k o,A3=some ⟨k,o,none⟩→w.heap.size≤k):=⟨fun k o ho=>by have:=hnew k o ho;have:=B.out.size;have:=HN.out;omega⟩
 have AN:Kept (∀ o,A3≠some ⟨N,o,none⟩):=⟨fun o ho=>by have:=hnew N o ho;have:=Y.out.lt;omega⟩
 replace Y:=Kept.mk (Y.out.bar b3 HND.out)
 replace B:=Kept.mk (B.out.trans (b3.below (by have:=B.out.size;have:=HN.out;omega) (by simpa using DNX.out)))
 clear b3 KB hnew
 have y0:w3.cell? ⟨N,0,none⟩=some (.int .i64 0):=Y.out.cell 0;have y1:w3.cell? ⟨N,1,none⟩=some (.slice none 0 0):=Y.out.cell 1;have z0:=Y.out.frozen 0;have z1:=Y.out.frozen 1
 cases q with
 | false =>
  have DB:=Kept.mk (DN.out (fun h=>by have:=hq.2 (DI.out.1 h).1;cases this))
  clear hq hres hm hc3
  have P2:Kept (Blk ((w3.setCell ⟨N,0,none⟩ (.int .i64 0)).setCell ⟨N,1,none⟩ (.slice none 0 0)) N 75 #[.int .i64 0,.slice none 0 0]):=⟨(Y.out.set_ 0 _).set_ 1 _⟩
  have PB:Kept (Bar [N] w3 ((w3.setCell ⟨N,0,none⟩ (.int .i64 0)).setCell ⟨N,1,none⟩ (.slice none 0 0))):=⟨((Bar.refl [N] w3).setCell (p:=⟨N,0,none⟩) (by simp) _).setCell (p:=⟨N,1,none⟩) (by simp) _⟩
  have BE:Kept (Below w.heap.size w ((w3.setCell ⟨N,0,none⟩ (.int .i64 0)).setCell ⟨N,1,none⟩ (.slice none 0 0))):=⟨by rw[HN.out];exact B.out.trans (PB.out.below (by have:=B.out.size;have:=HN.out;omega) (by simp))⟩
  go_wp2
  (try simp only[Exit.inBlock,Exit.then])
  refine bodyPost_ret (results_row_tmp rfl _ _ N 75 #[.int .i64 0,.slice none 0 0] (0,0) _ rfl P2.out Tryz.underlying75 rfl batch_size) rfl ?_
  exact⟨2,0,none,0,0,[],rfl,Nat.le_refl _,by omega,Rc.nil,by simp,DB.out,BE.out,fun _ _ h=>by cases h⟩
 | true =>
  obtain⟨rc,hde⟩:=hres rfl
  have hp:=hq.1 rfl
  have KE:=Kept.mk (end_any w3 d G it.2 hde)
  have RC:=Kept.mk rc
  have HM:=Kept.mk hm;have HC:=Kept.mk hc3
  obtain⟨e0,he0⟩:∃ e0,endOf it.2=e0:=⟨_,rfl⟩
  rw[he0] at KE DI
  by_cases h0:e0=0
  ·subst h0
   have DB:=Kept.mk (DY.out (DI.out.2 ⟨hp,rfl⟩))
   clear rc hde hp hq hres hm hc3 he0
   have P2:Kept (Blk ((w3.setCell ⟨N,0,none⟩ (.int .i64 s.1)).setCell ⟨N,1,none⟩ (.slice A3 m c3)) N 75 #[.int .i64 s.1,.slice A3 m c3]):=⟨(Y.out.set_ 0 _).set_ 1 _⟩
   have PB:Kept (Bar [N] w3 ((w3.setCell ⟨N,0,none⟩ (.int .i64 s.1)).setCell ⟨N,1,none⟩ (.slice A3 m c3))):=⟨((Bar.refl [N] w3).setCell (p:=⟨N,0,none⟩) (by simp) _).setCell (p:=⟨N,1,none⟩) (by simp) _⟩
   have BE:Kept (Below w.heap.size w ((w3.setCell ⟨N,0,none⟩ (.int .i64 s.1)).setCell ⟨N,1,none⟩ (.slice A3 m c3))):=⟨by rw[HN.out];exact B.out.trans (PB.out.below (by have:=B.out.size;have:=HN.out;omega) (by simp))⟩
   go_wp2_with (go_at_call 104;refine KE.out.mono ?_;rintro x w' ⟨rfl,rfl⟩)
   (try simp only[Exit.inBlock,Exit.then])
   refine bodyPost_ret (results_row_tmp rfl _ _ N 75 #[.int .i64 s.1,.slice A3 m c3] (0,0) _ rfl P2.out Tryz.underlying75 rfl batch_size) rfl ?_
   exact⟨0,s.1,A3,m,c3,it.1,rfl,HM.out,HC.out,RC.out.bar PB.out (fun x hx=>.inr (fun o ho=>by rw[List.mem_singleton] at hx;subst hx;exact AN.out o ho)),OK.out,DB.out,BE.out,AW.out⟩
  ·have h1:(e0 != 0)=true:=by simpa using h0
   have DB:=Kept.mk (DN.out (fun h=>h0 (DI.out.1 h).2))
   clear rc hde hp hq hres hm hc3 he0
   have P2:Kept (Blk ((w3.setCell ⟨N,0,none⟩ (.int .i64 0)).setCell ⟨N,1,none⟩ (.slice none 0 0)) N 75 #[.int .i64 0,.slice none 0 0]):=⟨(Y.out.set_ 0 _).set_ 1 _⟩
   have PB:Kept (Bar [N] w3 ((w3.setCell ⟨N,0,none⟩ (.int .i64 0)).setCell ⟨N,1,none⟩ (.slice none 0 0))):=⟨((Bar.refl [N] w3).setCell (p:=⟨N,0,none⟩) (by simp) _).setCell (p:=⟨N,1,none⟩) (by simp) _⟩
   have BE:Kept (Below w.heap.size w ((w3.setCell ⟨N,0,none⟩ (.int .i64 0)).setCell ⟨N,1,none⟩ (.slice none 0 0))):=⟨by rw[HN.out];exact B.out.trans (PB.out.below (by have:=B.out.size;have:=HN.out;omega) (by simp))⟩
   go_wp2_with (go_at_call 104;refine KE.out.mono ?_;rintro x w' ⟨rfl,rfl⟩)
   (try simp only[Exit.inBlock,Exit.then])
   refine bodyPost_ret (results_row_tmp rfl _ _ N 75 #[.int .i64 0,.slice none 0 0] (0,0) _ rfl P2.out Tryz.underlying75 rfl batch_size) rfl ?_
   exact⟨2,0,none,0,0,[],rfl,Nat.le_refl _,by omega,Rc.nil,by simp,DB.out,BE.out,fun _ _ h=>by cases h⟩
end Go.Proofs.YtidjkhpekhpffaaGreat.Req
