/-
 The law VaultAgain, walked.
-/
import Derived.Test.YtidjkhpekhpffaaGreatPart53
import Derived.Test.YtidjkhpekhpffaaGreatPart8
import Derived.Test.YtidjkhpekhpffaaGreatPart17
import Derived.Test.YtidjkhpekhpffaaGreatPart52
import Derived.Test.YtidjkhpekhpffaaGreatPart9
import Derived.LoopN
import Derived.Deep.DeepCutAuto
import Derived.Lib.SlBytesConst
namespace Go.Proofs.YtidjkhpekhpffaaGreat.Vault
open Go.RowKit Go.Proofs.YtidjkhpekhpffaaGreat.Num Go.Proofs.YtidjkhpekhpffaaGreat.Sha Go.Proofs.YtidjkhpekhpffaaGreat.Purse Go.Proofs.YtidjkhpekhpffaaGreat.Escrow Go.Proofs.YtidjkhpekhpffaaGreat.Wire Go.Proofs.YtidjkhpekhpffaaGreat.Req Go.Proofs.YtidjkhpekhpffaaGreat.Disk Go.Proofs.YtidjkhpekhpffaaGreat.Frame
set_option maxRecDepth 100000 in
set_option maxHeartbeats 4000000 in
theorem vagain_walk (times amount:Int) (w:World):Calls Tryz.prog 6 #[.int .i64 times,.int .i64 amount] w fun e w'=>e=.returned (.bool true)∧Below w.heap.size w w':=by
 obtain⟨N,hN⟩:∃ N,w.heap.size=N:=⟨_,rfl⟩
 rw[hN]
 go_enter Tryz.func6,Tryz.ntmps6
 go_wp2_with fail
 refine(vfirst_any w).mono ?_
 rintro e w1 ⟨rfl,bb⟩
 have B:Kept (Below N w w1):=⟨hN▸bb⟩
 clear bb
 by_cases q1:times < 0
 ·go_wp2_with fail
  refine(vfirst_any w1).mono ?_
  rintro e wz ⟨rfl,bb⟩
  replace B:=Kept.mk (B.out.trans (bb.mono (by have:=B.out.size;omega)))
  clear bb
  go_wp2
  go_ret
  exact⟨rfl,B.out⟩
 by_cases q2:10 < times
 ·go_wp2_with fail
  refine(vfirst_any w1).mono ?_
  rintro e wz ⟨rfl,bb⟩
  replace B:=Kept.mk (B.out.trans (bb.mono (by have:=B.out.size;omega)))
  clear bb
  go_wp2
  go_ret
  exact⟨rfl,B.out⟩
 by_cases q3:amount < 1
 ·go_wp2_with fail
  refine(vfirst_any w1).mono ?_
  rintro e wz ⟨rfl,bb⟩
  replace B:=Kept.mk (B.out.trans (bb.mono (by have:=B.out.size;omega)))
  clear bb
  go_wp2
  go_ret
  exact⟨rfl,B.out⟩
 by_cases q4:100 < amount
 ·go_wp2_with fail
  refine(vfirst_any w1).mono ?_
  rintro e wz ⟨rfl,bb⟩
  replace B:=Kept.mk (B.out.trans (bb.mono (by have:=B.out.size;omega)))
  clear bb
  go_wp2
  go_ret
  exact⟨rfl,B.out⟩
 obtain⟨hs,hh,hc2,hob⟩:=again_vals (a:=amount) (by omega) (by omega)
 have VAL:=Kept.mk (And.intro hs (And.intro hh (And.intro hc2 hob)))
 clear hs hh hc2 hob
 go_wp2_with fail
 refine(newt_any w1).mono ?_
 rintro e w2 ⟨t,rfl,ht,bb,htw⟩
 have hw1:=B.out.size
 have T:=Kept.mk ht
 replace B:=Kept.mk (B.out.trans (bb.mono (by omega)))
 have htN:N≤t:=by omega
 have htl:t < w2.heap.size:=ftab_lt ht
 clear bb htw ht
 obtain⟨M,hM⟩:∃ M,w2.heap.size=M:=⟨_,rfl⟩
 have hcn:=need_two (a:=100) (b:=0) (cap:=9) (by decide) (by omega) (by omega)
 have HC:=Kept.mk hcn.1
 have hne:needV 2 (twoX 100 0) 9=140:=hcn.2.trans (by decide)
 have HNE:=Kept.mk hne
 have e1:twoW w2 100 0=(((w2.alloc (.cells #[.int .i64 100] 3)).alloc (.cells #[.int .i64 0] 3)).alloc (.cells #[.slice (some ⟨M,0,none⟩) 1 1,.slice (some ⟨M+1,0,none⟩) 1 1] 58)):=by unfold twoW;rw[hM]
 have hr:Rwi (((w2.alloc (.cells #[.int .i64 100] 3)).alloc (.cells #[.int .i64 0] 3)).alloc (.cells #[.slice (some ⟨M,0,none⟩) 1 1,.slice (some ⟨M+1,0,none⟩) 1 1] 58)) (some ⟨M+1+1,0,none⟩) 2 (twoX 100 0):=by have:=two_rows w2 100 0;rw[e1,hM] at this;exact this
 have b1:Below w2.heap.size w2 (((w2.alloc (.cells #[.int .i64 100] 3)).alloc (.cells #[.int .i64 0] 3)).alloc (.cells #[.slice (some ⟨M,0,none⟩) 1 1,.slice (some ⟨M+1,0,none⟩) 1 1] 58)):=by have:=twoW_below w2 100 0;rw[e1] at this;exact this
 have hs1:(((w2.alloc (.cells #[.int .i64 100] 3)).alloc (.cells #[.int .i64 0] 3)).alloc (.cells #[.slice (some ⟨M,0,none⟩) 1 1,.slice (some ⟨M+1,0,none⟩) 1 1] 58)).heap.size=M+1+1+1:=by simp[hM]
 have R:=Kept.mk hr
 replace T:=Kept.mk (ftab_below T.out b1 htl)
 replace B:=Kept.mk (B.out.trans (b1.mono (by omega)))
 clear hcn hne e1 hr b1
 go_upto_region 7 with(fail)
 generalize (((w2.alloc (.cells #[.int .i64 100] 3)).alloc (.cells #[.int .i64 0] 3)).alloc (.cells #[.slice (some ⟨M,0,none⟩) 1 1,.slice (some ⟨M+1,0,none⟩) 1 1] 58))=w3 at *
 have bb:Below w3.heap.size w3 (w3.alloc (.cells #[.slice (some ⟨M+1+1,0,none⟩) 2 2,.int .i64 9] 24)):=(Below.refl _ _).alloc (Nat.le_refl _) _
 have X:=Kept.mk (Blk.new_at w3 24 #[.slice (some ⟨M+1+1,0,none⟩) 2 2,.int .i64 9] (M+1+1+1) hs1.symm)
 replace R:=Kept.mk (R.out.below bb);replace T:=Kept.mk (ftab_below T.out bb (by omega));replace B:=Kept.mk (B.out.trans (bb.mono (by omega)))
 clear bb hs1
 generalize w3.alloc (.cells #[.slice (some ⟨M+1+1,0,none⟩) 2 2,.int .i64 9] 24)=w4 at *
 have x0:=X.out.cell 0;have x1:=X.out.cell 1
 have KN:=vneed_any (c:=2) (cap:=9) R.out
 rw[HNE.out] at KN
 replace KN:=Kept.mk KN
 go_wp2_with fail
 refine KN.out.mono ?_
 rintro e w5 ⟨rfl,bb⟩
 have htl4:t < w4.heap.size:=ftab_lt T.out
 replace R:=Kept.mk (R.out.below bb);replace X:=Kept.mk (X.out.below bb X.out.lt);replace T:=Kept.mk (ftab_below T.out bb htl4);replace B:=Kept.mk (B.out.trans (bb.mono (by have:=B.out.size;omega)))
 clear KN bb x0 x1 htl4
 have KD:=cnew_ok w5 140 (by omega) (by omega)
 unfold CNewPost at KD
 replace KD:=Kept.mk KD
 go_wp2_with fail
 refine KD.out.mono ?_
 rintro e w6 ⟨d,F,rfl,dk,fp⟩
 have bb:Below w5.heap.size w5 w6:=fp.below (by simp) (Nat.le_refl _)
 have htl5:t < w5.heap.size:=ftab_lt T.out
 have hX5:=X.out.lt
 have HF:Kept (∀ z∈F,M+1+1+1 < z∧t < z):=⟨fun z hz=>by
  rcases fp.2 z hz with e|e
  ·simp at e
  ·omega⟩
 replace R:=Kept.mk (R.out.below bb);replace X:=Kept.mk (X.out.below bb hX5);replace T:=Kept.mk (ftab_below T.out bb htl5);replace B:=Kept.mk (B.out.trans (bb.mono (by have:=B.out.size;omega)))
 have SD:Kept (Journal.Sd w6 (t :: F) t d 140 (newD 140)):=⟨F,T.out,dk,fun hm=>by have:=(HF.out t hm).2;omega,rfl⟩
 have HH:Kept (∀ z∈t :: F,N≤z∧z∉([]:List Nat)):=⟨fun z hz=>⟨by
  rcases List.mem_cons.1 hz with e|e
  ·omega
  ·have:=(HF.out z e).2;omega,by simp⟩⟩
 have hj:=open_newd (n:=140) (by omega) (by omega)
 have KO:=vq_open (c:=2) (K:=[]) SD.out HH.out (by simp) (by have:=B.out.size;omega) R.out HC.out (by rw[HNE.out];omega) (by rw[hj];rfl) (by rw[hj];rfl)
 rw[hj] at KO
 unfold VQOPost at KO
 have OK0:=Kept.mk (ok_first (n:=140) HC.out (by rw[HNE.out];omega) (by omega))
 obtain⟨m0,hm0⟩:∃ m0,(⟨newD 140,Journal.noJ,newV (Ledger.newL 2 (twoX 100 0) 9) 2,false,0⟩:MV)=m0:=⟨_,rfl⟩
 have E0:Kept (m0.v=newV (Ledger.newL 2 (twoX 100 0) 9) 2∧m0.served=0∧m0.j.gen=0):=⟨by rw[← hm0];exact⟨rfl,rfl,rfl⟩⟩
 rw[hm0] at KO OK0
 replace KO:=Kept.mk KO
 have x0:=X.out.cell 0;have x1:=X.out.cell 1
 clear hm0 hj SD HH KD dk fp bb HF htl5 hX5
 go_wp2_with fail
 refine KO.out.mono ?_
 rintro e w7 ⟨x,rfl,V,far⟩
 replace V:=Kept.mk V
 have hw6:=B.out.size
 have hb6:=far.below (by omega)
 replace B:=Kept.mk (B.out.trans hb6)
 clear far KO R X T hb6 hw6 x0 x1 hw1 htl htN hM
 have HK:Kept (∀ z∈([]:List Nat),z < w7.heap.size):=⟨by simp⟩
 have KY:Kept (Calls Tryz.prog 24 #[.pointer (some ⟨x,0,none⟩)] w7 fun e w'=>∃ y,e=.returned (.pointer (some ⟨y,0,none⟩))∧w7=w'):=⟨by
  obtain⟨j,y,HJ,FL,I,lv,⟨l,vp⟩,-⟩:=V.out
  exact(vledger_any vp).mono (fun e w' h=>⟨y,h⟩)⟩
 go_wp2_with fail
 refine KY.out.mono ?_
 rintro e w' ⟨y,rfl,rfl⟩
 clear KY
 obtain⟨w8,hmk0,hz,bz⟩:=make_zeros w7 32 (by omega)
 have hmk:(Instr.makeSlice 44 (.int .i64 32) (.int .i64 32)).run Tryz.prog w7=.ok (.slice (some ⟨w7.heap.size,0,none⟩) 32 32) w8:=hmk0
 have hcv:=conv_same (cap:=32) hz
 clear hmk0
 have BZ:=Kept.mk bz
 clear bz hz
 go_wp2_with fail
 have bb:Below w8.heap.size w8 (w8.alloc (.cells #[.int .i64 2,.int .i64 1,.int .i64 0,.int .i64 amount,.int .i64 0,.int .i64 50,.string (strOfNums [0,0,0,0,0,0,0,0,0,0,0,0,0,0,0,0,0,0,0,0,0,0,0,0,0,0,0,0,0,0,0,0]),.string { data:=#[] }] 88)):=(Below.refl _ _).alloc (Nat.le_refl _) _
 have RQ:Kept (Rr (w8.alloc (.cells #[.int .i64 2,.int .i64 1,.int .i64 0,.int .i64 amount,.int .i64 0,.int .i64 50,.string (strOfNums [0,0,0,0,0,0,0,0,0,0,0,0,0,0,0,0,0,0,0,0,0,0,0,0,0,0,0,0,0,0,0,0]),.string { data:=#[] }] 88)) (some ⟨w8.heap.size,0,none⟩) 1 [rA amount]):=⟨⟨rfl,.inr ⟨w8.heap.size,0,rfl,fun k z hk j v hv=>by
  match k,hk with
  | 0,hk =>
   injection hk with hk
   subst hk
   have h:=(Blk.new w8 88 (rvC (rA amount)).toArray).cell j
   rw[List.getElem?_toArray] at h
   simp only[Nat.zero_mul,Nat.zero_add]
   exact h.trans hv⟩⟩⟩
 replace V:=Kept.mk (V.out.below (BZ.out.trans (bb.mono BZ.out.size)))
 have hb7:=B.out.size
 have hs78:=BZ.out.size
 replace B:=Kept.mk (B.out.trans ((BZ.out.trans (bb.mono BZ.out.size)).mono (by omega)))
 clear bb hmk hcv
 generalize (w8.alloc (.cells #[.int .i64 2,.int .i64 1,.int .i64 0,.int .i64 amount,.int .i64 0,.int .i64 50,.string (strOfNums [0,0,0,0,0,0,0,0,0,0,0,0,0,0,0,0,0,0,0,0,0,0,0,0,0,0,0,0,0,0,0,0]),.string { data:=#[] }] 88))=w9 at *
 have KE:=rencbn_any 0 _ 1 1 [rA amount] w9 RQ.out (by intro r hr;rw[List.mem_singleton] at hr;rw[hr];exact rA_ok amount) (by omega)
 rw[encB_yes VAL.out.2.2.2] at KE
 obtain⟨BB,hBB⟩:∃ BB,bytesB ⟨0,[rA amount]⟩=BB:=⟨_,rfl⟩
 rw[hBB] at KE
 have EB:Kept (encB ⟨0,[rA amount]⟩=(0,BB)):=⟨by rw[encB_yes VAL.out.2.2.2,hBB]⟩
 have hBL:BB.length=54:=by rw[← hBB];exact bytes_len amount
 unfold REncNPost at KE
 dsimp only at KE
 replace KE:=Kept.mk KE
 clear hBB BZ hb7 hs78
 refine KE.out.mono ?_
 rintro e w10 ⟨AB,lB,cB,rfl,hcB,hmB,rB,bb,hnw⟩
 dsimp only
 have hlB:lB=54:=by rw[← rB.1];exact hBL
 obtain⟨gB,oB,rfl,hgB⟩:∃ g o,AB=some ⟨g,o,none⟩∧g < w10.heap.size:=by
  obtain⟨g,o,e,hc⟩:=rB.2.2.resolve_left (by omega)
  exact⟨g,o,e,World.block_lt_of_cell? _ _ (hc 0 (by omega))⟩
 have hgn:=hnw gB oB rfl
 replace V:=Kept.mk ((V.out.more (K':=[gB]) (fun z hz=>by rw[List.mem_singleton] at hz;left;omega)).below bb)
 have HK:Kept (∀ z∈[gB],z < w10.heap.size):=⟨fun z hz=>by rw[List.mem_singleton] at hz;omega⟩
 replace B:=Kept.mk (B.out.trans (bb.mono (by have:=B.out.size;omega)))
 have RB:=Kept.mk rB
 subst hlB
 clear KE rB bb hnw hgn hgB RQ
 have hl0:(0:Nat) < m0.v.t.length:=by rw[E0.out.1];simp[newV]
 have ht0:(tAt m0.v 0).seq=0:=by rw[E0.out.1,tAt_new];rfl
 have hok:∀ r∈[rA amount],r.ok:=by intro r hr;rw[List.mem_singleton] at hr;rw[hr];exact rA_ok amount
 obtain⟨m1,e1,OK1,hv1,hs1,hg1⟩:=handle_next (x:=⟨0,[rA amount]⟩) (b:=BB) (p:=0) (seq:=1) (clock:=2) OK0.out hl0 (by rw[ht0];rfl) (by omega) EB.out hok (by omega) (by rw[E0.out.2.2];omega)
 have hl1:m1.v.t.length=2:=by rw[hv1,doV_len,E0.out.1];simp[newV]
 have ht1:tAt m1.v 0=⟨1,0,(Ledger.applyL m0.v.l 0 2 ⟨0,[rA amount]⟩).1⟩:=by rw[hv1,tAt_set hl0,if_pos rfl,applyL_at];rfl
 have hle:m1.v.l=sA amount:=by rw[hv1,doV_l,E0.out.1];rfl
 have hsv1:m1.served=1:=by rw[hs1,E0.out.2.1];rfl
 have hpos:0 < (bytesA (Ledger.applyL m0.v.l 0 2 ⟨0,[rA amount]⟩).1).length:=by unfold bytesA;simp only[List.length_append,be_len];omega
 obtain⟨AN,hAN⟩:∃ AN,(Ledger.applyL m0.v.l 0 2 ⟨0,[rA amount]⟩).1=AN:=⟨_,rfl⟩
 replace e1:handleM m0 0 1 2 BB 0 ⟨0,[rA amount]⟩=((0,bytesA (Ledger.applyL m0.v.l 0 2 ⟨0,[rA amount]⟩).1),m1):=e1
 rw[hAN] at e1 ht1 hpos
 have HE1:Kept (handleM m0 0 1 2 BB 0 ⟨0,[rA amount]⟩=((0,bytesA AN),m1)):=⟨e1⟩
 have HSA:Kept (∀ (c de:Int) (b:List Int) (X:BV),handleM m1 0 1 c b de X=((0,bytesA AN),m1)):=⟨fun c de b X=>by
  have:=handle_same (x:=X) (b:=b) (de:=de) (p:=0) (seq:=1) (clock:=c) OK1 (by omega) (by rw[ht1]) (by omega)
  rw[ht1] at this
  exact this⟩
 have HST:Kept (∀ (s c:Int),s≠1→s≠2→handleM m1 0 s c BB 0 ⟨0,[rA amount]⟩=((5,[]),m1)):=⟨fun s c h1 h2 =>
  handle_stale (x:=⟨0,[rA amount]⟩) (b:=BB) (de:=0) (p:=0) (seq:=s) (clock:=c) OK1 (by omega) (by rw[ht1];exact h2) (by rw[ht1];exact fun h=>h1 h.2)⟩
 have HPA:Kept (handleM m1 2 1 9 BB 0 ⟨0,[rA amount]⟩=((14,[]),m1)):=⟨handle_party OK1 (by omega)⟩
 have HFO:Kept (handleM m1 0 2 9 [97,110,111,116,104,101,114] 2 ⟨0,[]⟩=((2,[]),m1)):=⟨handle_form (x:=⟨0,[]⟩) (p:=0) (seq:=2) OK1 (by omega) (by rw[ht1];rfl) (by omega) (by omega)⟩
 have HPOS:=Kept.mk hpos;have HPO:=Kept.mk hpos;have HT1:=Kept.mk ht1;have HL1:=Kept.mk hl1;have HLE:=Kept.mk hle;have HSV:=Kept.mk hsv1;have OKK:=Kept.mk OK1
 have HS0:=Kept.mk E0.out.2.1
 clear hl0 ht0 hok e1 hv1 hs1 hg1 hl1 ht1 hle hsv1 hpos OK1 hAN hBL
 generalize bytesA AN=XB at *
 have KH:=vq_row (c:=cB) HE1.out HPOS.out OK0.out.wv V.out HK.out RB.out (.inr ⟨gB,oB,rfl,by simp⟩) (by omega) (by rw[HS0.out];omega) (by rw[HS0.out];omega) (.inl ⟨rfl,EB.out⟩)
 unfold VQRow at KH
 replace KH:=Kept.mk KH
 go_wp2_with fail
 refine KH.out.mono ?_
 rintro e w11 ⟨AX,lX,cX,rfl,rr,far,zX,v',inX,hk'⟩
 replace RB:=Kept.mk (far.rd RB.out (.inr ⟨gB,oB,rfl,by simp⟩))
 have hb9:=B.out.size
 have fb9:=far.below (by omega)
 replace B:=Kept.mk (B.out.trans fb9)
 replace V:=Kept.mk v';replace HK:=Kept.mk hk'
 have QX:=Kept.mk rr;have JX:=Kept.mk inX
 clear KH rr far v' inX hk' hb9 fb9 HE1 OK0 E0 HS0 HPOS
 go_wp2
 go_loopw [15] (fun i wr=>∃ k:Nat,k≤10∧(k:Int)≤times∧i=.int .i64 k∧Kept (VQ N [zX,gB] wr x t d 140 m1)∧Kept (∀ z∈[zX,gB],z < wr.heap.size)∧Kept (Below N w wr)∧Kept (Rd wr (some ⟨gB,oB,none⟩) 54 BB)∧Kept (Rd wr AX lX XB)) (fun i _=>10 - (Go.RowKit.intOf i).toNat)
 case atStart=>exact⟨0,by omega,by omega,rfl,V,HK,B,RB,QX⟩
 case round =>
  clear V HK B RB QX
  obtain⟨k,hk,hkt,rfl,V,HK,B,RB,QX⟩:=hrel
  by_cases hlt:(k:Int) < times
  ·have KH:=vq_row (c:=cB) (HSA.out (3+k) 0 BB ⟨0,[rA amount]⟩) HPO.out OKK.out.wv V.out HK.out RB.out (.inr ⟨gB,oB,rfl,by simp⟩) (by omega) (by rw[HSV.out];omega) (by rw[HSV.out];omega) (.inl ⟨rfl,EB.out⟩)
   unfold VQRow at KH
   replace KH:=Kept.mk KH
   go_wp2_with fail
   refine KH.out.mono ?_
   rintro e w21 ⟨AY,lY,cY,rfl,rr,far,zY,v',inY,hk'⟩
   replace RB:=Kept.mk (far.rd RB.out (.inr ⟨gB,oB,rfl,by simp⟩))
   replace QX:=Kept.mk (far.rd QX.out (JX.out.mono (fun z hz=>by simp only[List.mem_cons,List.not_mem_nil,or_false] at hz ⊢;omega)))
   have hb9:=B.out.size
   have fb9:=far.below (by omega)
   replace B:=Kept.mk (B.out.trans fb9)
   replace V:=Kept.mk v';replace HK:=Kept.mk hk'
   clear KH far v' hk' hb9 fb9
   have QY:=Kept.mk rr
   have JY:=Kept.mk inY
   clear rr inY
   obtain⟨gL,hgL⟩:∃ g,w21.heap.size=g:=⟨_,rfl⟩
   have VN:=vq_new V.out HK.out hgL (.cells #[.int .u8 97,.int .u8 110,.int .u8 111,.int .u8 116,.int .u8 104,.int .u8 101,.int .u8 114] 5 (7,8))
   replace V:=Kept.mk VN.1;replace HK:=Kept.mk VN.2
   have RgL:Kept (Rd (w21.alloc (.cells #[.int .u8 97,.int .u8 110,.int .u8 111,.int .u8 116,.int .u8 104,.int .u8 101,.int .u8 114] 5 (7,8))) (some ⟨gL,0,none⟩) 7 [97,110,111,116,104,101,114]):=⟨Rd.made (T:=5) (fr:=(7,8)) (by rw[← hgL];exact heap_alloc_new w21 _) (by intro z hz;simp at hz;omega) rfl⟩
   have bb:Below w21.heap.size w21 (w21.alloc (.cells #[.int .u8 97,.int .u8 110,.int .u8 111,.int .u8 116,.int .u8 104,.int .u8 101,.int .u8 114] 5 (7,8))):=(Below.refl _ _).alloc (Nat.le_refl _) _
   have hcv:=Lib.run_convert_bytes_const (P:=Tryz.prog) w21 44 5 #[.int .u8 97,.int .u8 110,.int .u8 111,.int .u8 116,.int .u8 104,.int .u8 101,.int .u8 114] 7 7 Tryz.underlying44 Tryz.underlying5
   rw[hgL] at hcv
   replace RB:=Kept.mk (RB.out.below bb)
   replace QX:=Kept.mk (QX.out.below bb)
   replace QY:=Kept.mk (QY.out.below bb)
   replace B:=Kept.mk (B.out.trans (bb.mono (by have:=B.out.size;omega)))
   clear VN bb
   have KH:=vq_row (c:=7) (HSA.out (3+k) 2 [97,110,111,116,104,101,114] ⟨0,[]⟩) HPO.out OKK.out.wv V.out HK.out RgL.out (.inr ⟨gL,0,rfl,by simp⟩) (by omega) (by rw[HSV.out];omega) (by rw[HSV.out];omega) another_dec
   unfold VQRow at KH
   replace KH:=Kept.mk KH
   go_wp2_with fail
   clear hcv
   generalize (w21.alloc (.cells #[.int .u8 97,.int .u8 110,.int .u8 111,.int .u8 116,.int .u8 104,.int .u8 101,.int .u8 114] 5 (7,8)))=w22 at *
   clear hgL
   refine KH.out.mono ?_
   rintro e w23 ⟨AZ,lZ,cZ,rfl,rr,far,zZ,v',inZ,hk'⟩
   replace RB:=Kept.mk (far.rd RB.out (.inr ⟨gB,oB,rfl,by simp⟩))
   replace QX:=Kept.mk (far.rd QX.out (JX.out.mono (fun z hz=>by simp only[List.mem_cons,List.not_mem_nil,or_false] at hz ⊢;omega)))
   replace QY:=Kept.mk (far.rd QY.out (JY.out.mono (fun z hz=>by simp only[List.mem_cons,List.not_mem_nil,or_false] at hz ⊢;omega)))
   have hb9:=B.out.size
   have fb9:=far.below (by omega)
   replace B:=Kept.mk (B.out.trans fb9)
   replace V:=Kept.mk v';replace HK:=Kept.mk hk'
   clear KH far v' hk' hb9 fb9
   have QZ:=Kept.mk rr
   have JZ:=Kept.mk inZ
   clear rr inZ
   clear RgL
   have KH:=vq_no (c:=cB) (HST.out 3 (3+k) (by decide) (by decide)) OKK.out.wv V.out HK.out RB.out (.inr ⟨gB,oB,rfl,by simp⟩) (by omega) (by rw[HSV.out];omega) (by rw[HSV.out];omega) (.inl ⟨rfl,EB.out⟩)
   unfold VQNo at KH
   replace KH:=Kept.mk KH
   go_wp2_with fail
   refine KH.out.mono ?_
   rintro e w24 ⟨AU,lU,cU,rfl,far,v',hk'⟩
   replace RB:=Kept.mk (far.rd RB.out (.inr ⟨gB,oB,rfl,by simp⟩))
   replace QX:=Kept.mk (far.rd QX.out (JX.out.mono (fun z hz=>by simp only[List.mem_cons,List.not_mem_nil,or_false] at hz ⊢;omega)))
   replace QY:=Kept.mk (far.rd QY.out (JY.out.mono (fun z hz=>by simp only[List.mem_cons,List.not_mem_nil,or_false] at hz ⊢;omega)))
   replace QZ:=Kept.mk (far.rd QZ.out (JZ.out.mono (fun z hz=>by simp only[List.mem_cons,List.not_mem_nil,or_false] at hz ⊢;omega)))
   have hb9:=B.out.size
   have fb9:=far.below (by omega)
   replace B:=Kept.mk (B.out.trans fb9)
   replace V:=Kept.mk v';replace HK:=Kept.mk hk'
   clear KH far v' hk' hb9 fb9
   have KH:=vq_no (c:=cB) (HST.out 0 (3+k) (by decide) (by decide)) OKK.out.wv V.out HK.out RB.out (.inr ⟨gB,oB,rfl,by simp⟩) (by omega) (by rw[HSV.out];omega) (by rw[HSV.out];omega) (.inl ⟨rfl,EB.out⟩)
   unfold VQNo at KH
   replace KH:=Kept.mk KH
   go_wp2_with fail
   refine KH.out.mono ?_
   rintro e w25 ⟨AW,lW,cW,rfl,far,v',hk'⟩
   replace RB:=Kept.mk (far.rd RB.out (.inr ⟨gB,oB,rfl,by simp⟩))
   replace QX:=Kept.mk (far.rd QX.out (JX.out.mono (fun z hz=>by simp only[List.mem_cons,List.not_mem_nil,or_false] at hz ⊢;omega)))
   replace QY:=Kept.mk (far.rd QY.out (JY.out.mono (fun z hz=>by simp only[List.mem_cons,List.not_mem_nil,or_false] at hz ⊢;omega)))
   replace QZ:=Kept.mk (far.rd QZ.out (JZ.out.mono (fun z hz=>by simp only[List.mem_cons,List.not_mem_nil,or_false] at hz ⊢;omega)))
   have hb9:=B.out.size
   have fb9:=far.below (by omega)
   replace B:=Kept.mk (B.out.trans fb9)
   replace V:=Kept.mk v';replace HK:=Kept.mk hk'
   clear KH far v' hk' hb9 fb9
   dsimp only
   have C1:=Kept.mk (bytes_same AX AY lX lY cX cY XB w25 QX.out QY.out)
   have C2:=Kept.mk (bytes_same AX AZ lX lZ cX cZ XB w25 QX.out QZ.out)
   go_wp2_with fail
   refine C1.out.mono ?_
   rintro e wq ⟨rfl,rfl⟩
   go_wp2_with fail
   refine C2.out.mono ?_
   rintro e wq ⟨rfl,rfl⟩
   clear C1 C2
   replace V:=Kept.mk (V.out.more (K':=[zX,gB]) (fun z hz=>.inr (by simp only[List.mem_cons,List.not_mem_nil,or_false] at hz ⊢;omega)))
   replace HK:Kept (∀ z∈[zX,gB],z < w25.heap.size):=⟨fun z hz=>HK.out z (by simp only[List.mem_cons,List.not_mem_nil,or_false] at hz ⊢;omega)⟩
   go_wp2
   go_roundw
   case rel=>exact⟨k+1,by omega,by omega,by go_num,V,HK,B,RB,QX⟩
   case measure=>simp[Go.RowKit.intOf];omega
  ·clear QX
   have KH:=vq_no (c:=cB) HPA.out OKK.out.wv V.out HK.out RB.out (.inr ⟨gB,oB,rfl,by simp⟩) (by omega) (by rw[HSV.out];omega) (by rw[HSV.out];omega) (.inl ⟨rfl,EB.out⟩)
   unfold VQNo at KH
   replace KH:=Kept.mk KH
   go_wp2_with fail
   refine KH.out.mono ?_
   rintro e w21 ⟨AU,lU,cU,rfl,far,v',hk'⟩
   replace RB:=Kept.mk (far.rd RB.out (.inr ⟨gB,oB,rfl,by simp⟩))
   have hb9:=B.out.size
   have fb9:=far.below (by omega)
   replace B:=Kept.mk (B.out.trans fb9)
   replace V:=Kept.mk v';replace HK:=Kept.mk hk'
   clear KH far v' hk' hb9 fb9
   obtain⟨gL,hgL⟩:∃ g,w21.heap.size=g:=⟨_,rfl⟩
   have VN:=vq_new V.out HK.out hgL (.cells #[.int .u8 97,.int .u8 110,.int .u8 111,.int .u8 116,.int .u8 104,.int .u8 101,.int .u8 114] 5 (7,8))
   replace V:=Kept.mk VN.1;replace HK:=Kept.mk VN.2
   have RgL:Kept (Rd (w21.alloc (.cells #[.int .u8 97,.int .u8 110,.int .u8 111,.int .u8 116,.int .u8 104,.int .u8 101,.int .u8 114] 5 (7,8))) (some ⟨gL,0,none⟩) 7 [97,110,111,116,104,101,114]):=⟨Rd.made (T:=5) (fr:=(7,8)) (by rw[← hgL];exact heap_alloc_new w21 _) (by intro z hz;simp at hz;omega) rfl⟩
   have bb:Below w21.heap.size w21 (w21.alloc (.cells #[.int .u8 97,.int .u8 110,.int .u8 111,.int .u8 116,.int .u8 104,.int .u8 101,.int .u8 114] 5 (7,8))):=(Below.refl _ _).alloc (Nat.le_refl _) _
   have hcv:=Lib.run_convert_bytes_const (P:=Tryz.prog) w21 44 5 #[.int .u8 97,.int .u8 110,.int .u8 111,.int .u8 116,.int .u8 104,.int .u8 101,.int .u8 114] 7 7 Tryz.underlying44 Tryz.underlying5
   rw[hgL] at hcv
   replace B:=Kept.mk (B.out.trans (bb.mono (by have:=B.out.size;omega)))
   clear VN bb
   have KH:=vq_no (c:=7) HFO.out OKK.out.wv V.out HK.out RgL.out (.inr ⟨gL,0,rfl,by simp⟩) (by omega) (by rw[HSV.out];omega) (by rw[HSV.out];omega) another_dec
   unfold VQNo at KH
   replace KH:=Kept.mk KH
   go_wp2_with fail
   clear hcv
   generalize (w21.alloc (.cells #[.int .u8 97,.int .u8 110,.int .u8 111,.int .u8 116,.int .u8 104,.int .u8 101,.int .u8 114] 5 (7,8)))=w22 at *
   clear hgL
   refine KH.out.mono ?_
   rintro e w23 ⟨AW,lW,cW,rfl,far,v',hk'⟩
   have hb9:=B.out.size
   have fb9:=far.below (by omega)
   replace B:=Kept.mk (B.out.trans fb9)
   replace V:=Kept.mk v';replace HK:=Kept.mk hk'
   clear KH far v' hk' hb9 fb9
   clear RgL RB
   dsimp only
   go_wp2_with fail
   refine(vfirst_any w23).mono ?_
   rintro e w24 ⟨rfl,bb⟩
   replace V:=Kept.mk (V.out.below bb)
   replace B:=Kept.mk (B.out.trans (bb.mono (by have:=B.out.size;omega)))
   clear bb HK
   obtain⟨j,y9,HJ,FL,I,lv,⟨l,vp⟩,-⟩:=V.out
   have KY:=Kept.mk (vledger_any vp)
   obtain⟨b9,q9,G9,v9,d9,lp,-⟩:=vp.lk
   have KV:=Ledger.levents_any OKK.out.wv.wl lp
   unfold Ledger.EventsPost at KV
   have hlen:(Ledger.evs m1.v.l).length=1:=by rw[Ledger.evs_len,HLE.out];exact VAL.out.1
   have hamt:(100:Int) - amount=100 - amount:=rfl
   replace KV:=Kept.mk KV
   have HLEN:=Kept.mk hlen
   have VP:=Kept.mk vp
   clear vp lp V hlen hamt
   go_wp2_with fail
   refine KY.out.mono ?_
   rintro e wq ⟨rfl,rfl⟩
   go_wp2_with fail
   refine KV.out.mono ?_
   rintro e w25 ⟨Ae,ne,ce,rfl,-,-,rv,-,bb⟩
   obtain rfl:ne=1:=by have:=rv.1;rw[HLEN.out] at this;exact this.symm
   replace VP:=Kept.mk (VP.out.below bb)
   replace B:=Kept.mk (B.out.trans (bb.mono (by have:=B.out.size;omega)))
   clear bb rv KV KY b9 q9 G9 v9 d9
   have KY:=Kept.mk (vledger_any VP.out)
   obtain⟨b9,q9,G9,v9,d9,lp,-⟩:=VP.out.lk
   have KA:=Ledger.lhas_any 0 0 lp
   have KC:=Ledger.lclk_any lp
   unfold TellB at KC
   rw[HLE.out] at KC KA
   rw[show (sA amount).clock=2 from VAL.out.2.2.1] at KC
   rw[show hasP (sA amount).b.p 0 0=100 - amount from VAL.out.2.1] at KA
   replace KC:=Kept.mk KC;replace KA:=Kept.mk KA
   clear lp
   go_wp2_with fail
   refine KY.out.mono ?_
   rintro e wq ⟨rfl,rfl⟩
   go_wp2_with fail
   refine KA.out.mono ?_
   rintro e wq ⟨rfl,rfl⟩
   go_wp2_with fail
   refine KY.out.mono ?_
   rintro e wq ⟨rfl,rfl⟩
   go_wp2_with fail
   refine KC.out.mono ?_
   rintro e w26 ⟨rfl,bb⟩
   replace VP:=Kept.mk (VP.out.below bb)
   replace B:=Kept.mk (B.out.trans (bb.mono (by have:=B.out.size;omega)))
   clear bb KC KA KY
   have KL:=vlast_any 0 VP.out
   rw[show (if 0≤(0:Int)∧(0:Int) < (m1.v.t.length:Int) then (tAt m1.v (Int.toNat 0)).seq else 0)=1 by
    have h:=HL1.out
    rw[if_pos (by omega),show Int.toNat 0=0 from rfl,HT1.out]] at KL
   have KS:=vserved_any VP.out
   rw[HSV.out] at KS
   replace KL:=Kept.mk KL;replace KS:=Kept.mk KS
   go_wp2_with fail
   refine KS.out.mono ?_
   rintro e wq ⟨rfl,rfl⟩
   go_wp2_with fail
   refine KL.out.mono ?_
   rintro e wq ⟨rfl,rfl⟩
   go_wp2
   go_ret
   exact⟨rfl,B.out⟩
end Go.Proofs.YtidjkhpekhpffaaGreat.Vault
