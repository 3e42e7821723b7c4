/-
 The law VaultRoom, walked.
-/
import Derived.Test.YtidjkhpekhpffaaGreatPart52
import Derived.LoopN
import Derived.Deep.DeepCutAuto
namespace Go.Proofs.YtidjkhpekhpffaaGreat.Vault
open Go.RowKit Go.Proofs.YtidjkhpekhpffaaGreat.Num Go.Proofs.YtidjkhpekhpffaaGreat.Sha Go.Proofs.YtidjkhpekhpffaaGreat.Purse Go.Proofs.YtidjkhpekhpffaaGreat.Escrow Go.Proofs.YtidjkhpekhpffaaGreat.Wire Go.Proofs.YtidjkhpekhpffaaGreat.Req Go.Proofs.YtidjkhpekhpffaaGreat.Disk Go.Proofs.YtidjkhpekhpffaaGreat.Frame
set_option maxRecDepth 100000 in
set_option maxHeartbeats 4000000 in
theorem vroom_walk (parties events polls:Int) (w:World):Calls Tryz.prog 5 #[.int .i64 parties,.int .i64 events,.int .i64 polls] w fun e w'=>e=.returned (.bool true)∧Below w.heap.size w w':=by
 obtain⟨N,hN⟩:∃ N,w.heap.size=N:=⟨_,rfl⟩
 rw[hN]
 have hTI:=Kept.mk (info_parts (show (Tryz.prog.info? 58).map (fun i=>(i.zero,i.size,i.bytes))=some (some (.slice none 0 0),1,24) by kernel_rfl))
 go_enter Tryz.func5,Tryz.ntmps5
 go_wp2_with fail
 refine(vfirst_any w).mono ?_
 rintro e w1 ⟨rfl,bb⟩
 have B:Kept (Below N w w1):=⟨hN▸bb⟩
 clear bb
 by_cases q0:parties < 2
 ·go_wp2_with fail
  refine(vfirst_any w1).mono ?_
  rintro e wz ⟨rfl,bb⟩
  replace B:=Kept.mk (B.out.trans (bb.mono (by have:=B.out.size;omega)))
  clear bb
  go_wp2
  go_ret
  exact⟨rfl,B.out⟩
 by_cases q1:16 < parties
 ·go_wp2_with fail
  refine(vfirst_any w1).mono ?_
  rintro e wz ⟨rfl,bb⟩
  replace B:=Kept.mk (B.out.trans (bb.mono (by have:=B.out.size;omega)))
  clear bb
  go_wp2
  go_ret
  exact⟨rfl,B.out⟩
 by_cases q2:events < 1
 ·go_wp2_with fail
  refine(vfirst_any w1).mono ?_
  rintro e wz ⟨rfl,bb⟩
  replace B:=Kept.mk (B.out.trans (bb.mono (by have:=B.out.size;omega)))
  clear bb
  go_wp2
  go_ret
  exact⟨rfl,B.out⟩
 by_cases q3:40 < events
 ·go_wp2_with fail
  refine(vfirst_any w1).mono ?_
  rintro e wz ⟨rfl,bb⟩
  replace B:=Kept.mk (B.out.trans (bb.mono (by have:=B.out.size;omega)))
  clear bb
  go_wp2
  go_ret
  exact⟨rfl,B.out⟩
 by_cases q4:polls < 0
 ·go_wp2_with fail
  refine(vfirst_any w1).mono ?_
  rintro e wz ⟨rfl,bb⟩
  replace B:=Kept.mk (B.out.trans (bb.mono (by have:=B.out.size;omega)))
  clear bb
  go_wp2
  go_ret
  exact⟨rfl,B.out⟩
 by_cases q5:400 < polls
 ·go_wp2_with fail
  refine(vfirst_any w1).mono ?_
  rintro e wz ⟨rfl,bb⟩
  replace B:=Kept.mk (B.out.trans (bb.mono (by have:=B.out.size;omega)))
  clear bb
  go_wp2
  go_ret
  exact⟨rfl,B.out⟩
 obtain⟨np,rfl⟩:∃ np:Nat,parties=(np:Int):=⟨parties.toNat,by omega⟩
 obtain⟨nq,rfl⟩:∃ nq:Nat,polls=(nq:Int):=⟨polls.toNat,by omega⟩
 obtain⟨C,hC⟩:∃ C,w1.heap.size=C:=⟨_,rfl⟩
 have hNC:N≤C:=by have:=B.out.size;omega
 have bb:Below w1.heap.size w1 (w1.alloc (.cells #[.slice none 0 0,.int .i64 events] 24)):=(Below.refl _ _).alloc (Nat.le_refl _) _
 have X:Kept (Blk (w1.alloc (.cells #[.slice none 0 0,.int .i64 events] 24)) C 24 #[.slice none 0 0,.int .i64 events]):=⟨Blk.new_at w1 _ _ C hC.symm⟩
 have RO:Kept (RG N (w1.alloc (.cells #[.slice none 0 0,.int .i64 events] 24)) (.slice none 0 0) []):=⟨World.ownsRow_nil _ _ _ _,by simp⟩
 replace B:=Kept.mk (B.out.trans (bb.mono (by omega)))
 clear bb
 go_upto_region 6 with(fail)
 generalize w1.alloc (.cells #[.slice none 0 0,.int .i64 events] 24)=w2 at *
 clear hC
 go_wp2
 go_loopw [8] (fun i wr=>∃ (k:Nat) (ov:Value) (l:List Nat),k≤np∧l.length=k∧i=.int .i64 k∧Kept (Blk wr C 24 #[ov,.int .i64 events])∧Kept (RG N wr ov l)∧Kept (Below N w wr)) (fun i _=>np - (Go.RowKit.intOf i).toNat)
 case atStart=>exact⟨0,_,[],by omega,rfl,rfl,X,RO,B⟩
 case round =>
  clear X RO B
  obtain⟨k,ov,l,hk,hlk,rfl,X,RO,B⟩:=hrel
  by_cases hlt:k < np
  ·have hlt':(k:Int) < (np:Int):=by omega
   have x0:=X.out.cell 0
   obtain⟨g,hg⟩:∃ g,wr.heap.size=g:=⟨_,rfl⟩
   have b1:Below wr.heap.size wr (wr.alloc (.cells #[.int .i64 9] 3)):=(Below.refl _ _).alloc (Nat.le_refl _) _
   have b2:Below wr.heap.size wr ((wr.alloc (.cells #[.int .i64 9] 3)).alloc (.cells #[.slice (some ⟨g,0,none⟩) 1 1] 58)):=b1.alloc b1.size _
   have hsz:((wr.alloc (.cells #[.int .i64 9] 3)).alloc (.cells #[.slice (some ⟨g,0,none⟩) 1 1] 58)).heap.size=g+2:=by simp[hg]
   have GB:Kept (Blk ((wr.alloc (.cells #[.int .i64 9] 3)).alloc (.cells #[.slice (some ⟨g,0,none⟩) 1 1] 58)) g 3 #[.int .i64 9]):=⟨(Blk.new_at wr _ _ g hg.symm).alloc _⟩
   have HB:Kept (Rc rowC 1 ((wr.alloc (.cells #[.int .i64 9] 3)).alloc (.cells #[.slice (some ⟨g,0,none⟩) 1 1] 58)) (some ⟨g+1,0,none⟩) 1 [g]):=⟨⟨rfl,.inr ⟨g+1,0,rfl,fun kk z hz j v hv=>by
    match kk,hz with
    | 0,hz =>
     injection hz with hz
     subst hz
     have h:=(Blk.new_at (wr.alloc (.cells #[.int .i64 9] 3)) 58 #[.slice (some ⟨g,0,none⟩) 1 1] (g+1) (by simp[hg])).cell j
     rw[show (#[Value.slice (some ⟨g,0,none⟩) 1 1]:Array Value)=(rowC g).toArray from rfl,List.getElem?_toArray] at h
     simp only[Nat.zero_mul,Nat.zero_add]
     exact h.trans hv⟩⟩⟩
   have O2:=Kept.mk (RO.out.below b2)
   have X2:=Kept.mk (X.out.below b2 X.out.lt)
   have hNg:N≤g:=by have:=B.out.size;omega
   have B2:=Kept.mk (B.out.trans (b2.mono (by omega)))
   obtain⟨Ao,co,hov⟩:=RO.out.shape
   obtain⟨iu,hi,hz0,hz1,hz2⟩:=hTI.out
   have hN2:N≤((wr.alloc (.cells #[.int .i64 9] 3)).alloc (.cells #[.slice (some ⟨g,0,none⟩) 1 1] 58)).heap.size:=by omega
   clear b1 b2 X RO B hov
   go_wp2_with ((with_reducible refine sel 59 ?_);refine wpList_append_rc rfl (.tmp 56) (.tmp 58) 22 rfl N 58 iu (.slice none 0 0) 24 Tryz.underlying22 hi hz0 hz1 hz2 rfl (by omega) ov l.length (l.flatMap rowC) rfl O2.out.1 (some ⟨g+1,0,none⟩) 1 1 [g] rfl HB.out (fun _=>rfl) (fun z u hu=>by simp only[rowC,List.mem_singleton] at hu;subst hu;rfl) (by unfold maxLen;omega) (by omega) hN2 ?_;intro v3 w3 o3 g3 a3;have hX3:=X2.out.bar (Bar.grownRow g3) (fun hm=>own_far O2.out.1 X2.out (by decide) (by simpa using hm));have RO3:=Kept.mk (RG.snoc O2.out hNg GB.out o3 g3);have B3:=Kept.mk (B2.out.trans (own_below O2.out.1 g3 hN2));obtain⟨A3,c3,hv3⟩:=own_shape o3;subst hv3;have x3:=hX3.cell 0;have y3:=hX3.frozen 0;have X3:=Kept.mk hX3;clear o3 g3 a3 hX3)
   go_roundw
   case rel=>exact⟨k+1,.slice A3 (k+1) c3,l++[g],by omega,by simp[hlk],by go_num,⟨by
    have:=X3.out.set_ 0 (.slice A3 (k+1) c3)
    simpa [hlk] using this⟩,⟨by
    have:=RO3.out.put (u:=.slice A3 (k+1) c3) X3.out
    simpa [hlk] using this⟩,⟨B3.out.setCell (by omega) _⟩⟩
   case measure=>simp[Go.RowKit.intOf];omega
  ·obtain rfl:np=k:=by omega
   obtain⟨A4,c4,hov⟩:=RO.out.shape
   rw[hlk] at hov
   subst hov
   have RW:Kept (Rwi wr A4 np nines):=⟨by have:=RO.out;rw[← hlk] at this;have h2:=this.rwi;rw[hlk] at h2;exact h2⟩
   have hcf:=nines_ok (k:=np) (cap:=events) (by omega) (by omega) (by omega) (by omega)
   have HC:=Kept.mk hcf
   obtain⟨nd,hnd,hnd2,hnd4⟩:=need_is (k:=np) (cap:=events) (by omega) (by omega) (by omega) (by omega)
   have HND:=Kept.mk hnd
   clear RO hcf hnd hlk
   obtain⟨M,hM⟩:∃ M,wr.heap.size=M:=⟨_,rfl⟩
   have hNM:N≤M:=by have:=B.out.size;omega
   have hCM:C < M:=by have:=X.out.lt;omega
   have RWM:Kept (∀ u,Below M wr u→Rwi u A4 np nines):=⟨fun u b=>RW.out.below (hM.symm▸b)⟩
   have XM:Kept (∀ u,Below M wr u→Blk u C 24 #[.slice A4 np c4,.int .i64 events]):=⟨fun u b=>X.out.below b hCM⟩
   clear RW X
   go_wp2_with fail
   refine(newt_any wr).mono ?_
   rintro e w3 ⟨t,rfl,ht,bb,htw⟩
   have BM:Kept (Below M wr w3):=⟨hM▸bb⟩
   have T:=Kept.mk ht
   have htM:M≤t:=by omega
   clear ht bb htw
   have x0:=(XM.out _ BM.out).cell 0;have x1:=(XM.out _ BM.out).cell 1
   have KN:=vneed_any (c:=c4) (cap:=events) (RWM.out _ BM.out)
   rw[HND.out] at KN
   replace KN:=Kept.mk KN
   go_wp2_with fail
   refine KN.out.mono ?_
   rintro e w4 ⟨rfl,bb⟩
   have hs3:=BM.out.size
   have ht3:t < w3.heap.size:=ftab_lt T.out
   replace T:=Kept.mk (ftab_below T.out bb ht3)
   replace BM:=Kept.mk (BM.out.trans (bb.mono (by omega)))
   clear KN bb x0 x1 hs3 ht3
   have KD:=cnew_ok w4 nd (by omega) (by omega)
   unfold CNewPost at KD
   replace KD:=Kept.mk KD
   go_wp2_with fail
   refine KD.out.mono ?_
   rintro e w5 ⟨d,F,rfl,dk,fp⟩
   have hs4:=BM.out.size
   have ht4:t < w4.heap.size:=ftab_lt T.out
   have bb:Below w4.heap.size w4 w5:=fp.below (by simp) (Nat.le_refl _)
   have HF:Kept (∀ z∈F,t < z∧z < w5.heap.size):=⟨fun z hz=>by
    rcases fp.2 z hz with e|e
    ·simp at e
    ·have:=dk.lts z hz;omega⟩
   replace T:=Kept.mk (ftab_below T.out bb ht4)
   replace BM:=Kept.mk (BM.out.trans (bb.mono (by omega)))
   have DK:=Kept.mk dk
   clear KD dk fp bb hs4 ht4
   have hn1:(1:Int)≤(nd:Int) - 1:=by omega
   have hmx:max ((nd:Int) - 1) 1=((nd - 1:Nat):Int):=by omega
   go_wp2_with fail
   have KD:=cnew_ok w5 (nd - 1) (by omega) (by omega)
   rw[show ((nd - 1:Nat):Int)=(nd:Int) - 1 by omega] at KD
   unfold CNewPost at KD
   replace KD:=Kept.mk KD
   refine KD.out.mono ?_
   rintro e w6 ⟨ds,F2,rfl,dk2,fp⟩
   have hs5:=BM.out.size
   have ht5:t < w5.heap.size:=ftab_lt T.out
   have bb:Below w5.heap.size w5 w6:=fp.below (by simp) (Nat.le_refl _)
   have HF2:Kept (∀ z∈F2,w5.heap.size≤z∧z < w6.heap.size):=⟨fun z hz=>by
    rcases fp.2 z hz with e|e
    ·simp at e
    ·have:=dk2.lts z hz;omega⟩
   replace T:=Kept.mk (ftab_below T.out bb ht5)
   replace BM:=Kept.mk (BM.out.trans (bb.mono (by omega)))
   have SD:Kept (Journal.Sd w6 (t :: F) t d nd (newD nd)):=⟨F,T.out,DK.out.keep (barOf bb []) (fun _ _=>by simp),fun hm=>by have:=(HF.out t hm).1;omega,rfl⟩
   have DK2:=Kept.mk dk2
   have HH:Kept (∀ z∈t :: F,M≤z∧z∉F2):=⟨fun z hz=>by
    have h3:t≤z∧z < w5.heap.size:=by
     rcases List.mem_cons.1 hz with e|e
     ·omega
     ·have:=HF.out z e;omega
    exact⟨by omega,fun hm=>by have:=(HF2.out z hm).1;omega⟩⟩
   have hj:=open_newd (n:=nd) (by omega) (by omega)
   have hs6:=BM.out.size
   have KO:=vq_open (c:=c4) (K:=F2) SD.out HH.out (fun z hz=>(HF2.out z hz).2) (by omega) (RWM.out _ BM.out) HC.out (by rw[HND.out];omega) (by rw[hj];rfl) (by rw[hj];rfl)
   rw[hj] at KO
   unfold VQOPost at KO
   have OK0:=Kept.mk (ok_first (n:=nd) HC.out (by rw[HND.out];omega) (by omega))
   obtain⟨m0,hm0⟩:∃ m0,(⟨newD nd,Journal.noJ,newV (Ledger.newL np nines events) np,false,0⟩:MV)=m0:=⟨_,rfl⟩
   have E0:Kept (m0.v=newV (Ledger.newL np nines events) np∧m0.served=0∧m0.j.gen=0):=⟨by rw[← hm0];exact⟨rfl,rfl,rfl⟩⟩
   rw[hm0] at KO OK0
   replace KO:=Kept.mk KO
   have x0:=(XM.out _ BM.out).cell 0;have x1:=(XM.out _ BM.out).cell 1
   clear KD dk2 fp bb hs5 ht5 DK HF T SD HH hj hm0 hmx hn1
   go_wp2_with fail
   refine KO.out.mono ?_
   rintro e w7 ⟨x,rfl,V,far⟩
   have DK3:Kept (Dk w7 F2 ds (nd - 1) (newD (nd - 1))):=⟨by
    obtain⟨F',bar,hF'⟩:=far
    exact DK2.out.keep bar (fun z hz hm=>(hF' z hm).2 hz)⟩
   replace V:=Kept.mk V
   have fb:=far.below (by omega)
   replace BM:=Kept.mk (BM.out.trans fb)
   have TT:Kept (Tab w7 t):=⟨by
    obtain⟨j,y,HJ,FL,I,lv,⟨l,vp⟩,-⟩:=V.out
    exact tab_sy vp.sy⟩
   clear far fb KO DK2 HF2 x0 x1 hs6
   have KF:=Kept.mk (vopen_full (c:=c4) TT.out DK3.out (RWM.out _ BM.out) HC.out (by rw[HND.out];omega))
   have x0:=(XM.out _ BM.out).cell 0;have x1:=(XM.out _ BM.out).cell 1
   go_wp2_with fail
   refine KF.out.mono ?_
   rintro e w8 ⟨rfl,bb⟩
   have hs7:=BM.out.size
   replace V:=Kept.mk ((V.out.more (K':=[]) (by simp)).below bb)
   replace B:=Kept.mk (B.out.trans ((BM.out.trans (bb.mono (by omega))).mono hNM))
   clear KF bb TT DK3 x0 x1 hs7 BM RWM XM hM
   have hgo:∀ q,(tAt m0.v q).seq≤0:=fun q=>by rw[E0.out.1,tAt_new];exact Int.le_refl _
   have hge:=hgo
   have L0:Kept (m0.v.t.length=np):=⟨by rw[E0.out.1];simp[newV]⟩
   have G0:Kept (∀ q,(tAt m0.v q).seq≤((0:Nat):Int)):=⟨hgo⟩
   have S0:Kept (m0.served=((0:Nat):Int)∧m0.j.gen≤((0:Nat):Int)):=⟨⟨E0.out.2.1,by rw[E0.out.2.2];omega⟩⟩
   have HKE:Kept (∀ z∈([]:List Nat),z < w8.heap.size):=⟨by simp⟩
   clear hgo hge E0
   generalize Ledger.newL np nines events=s0 at *
   go_wp2
   go_loopw [19] (fun i wr=>∃ (k:Nat) (m:MV),k≤nq∧i=.int .i64 k∧Kept (VQ M [] wr x t d nd m)∧Kept (Below N w wr)∧Kept (Ok s0 nd m)∧Kept (m.v.t.length=np)∧Kept (∀ q,(tAt m.v q).seq≤(k:Int))∧Kept (m.served=(k:Int)∧m.j.gen≤(k:Int))) (fun i _=>nq - (Go.RowKit.intOf i).toNat)
   case atStart=>exact⟨0,m0,by omega,rfl,V,B,OK0,L0,G0,S0⟩
   case round =>
    clear V B OK0 L0 G0 S0 HKE
    obtain⟨k,m,hk,rfl,V,B,OKm,Lm,Gm,Sm⟩:=hrel
    by_cases hlt:k < nq
    ·have hlt':(k:Int) < (nq:Int):=by omega
     have hnz:¬ (np:Int)=0:=by omega
     have hmd:Int.tmod (k:Int) (np:Int)=((k % np:Nat):Int):=rfl
     have hpl:k % np < np:=Nat.mod_lt _ (by omega)
     obtain⟨p,hp⟩:∃ p,k % np=p:=⟨_,rfl⟩
     rw[hp] at hmd hpl
     have hp2:(p:Int) < (np:Int):=by omega
     obtain⟨O,hO⟩:∃ O,(tAt m.v p).seq=O:=⟨_,rfl⟩
     have hOk:O≤(k:Int):=by rw[← hO];exact Gm.out p
     have hO0:0≤O:=by rw[← hO];exact(tAt_seq OKm.out.wv (by rw[Lm.out];exact hpl)).1
     obtain⟨m',e1,OK1,hv1,hs1,hg1⟩:=handle_next (x:=⟨0,[]⟩) (b:=[0,0,0]) (p:=p) (seq:=O+1) (clock:=(k:Int)) OKm.out (by rw[Lm.out];exact hpl) (by rw[hO]) (by omega) enc_none (by simp) (by simp) (by have:=Sm.out.2;omega)
     have hpos:0 < (bytesA (Ledger.applyL m.v.l p k ⟨0,[]⟩).1).length:=by unfold bytesA;simp only[List.length_append,be_len];omega
     generalize bytesA (Ledger.applyL m.v.l p k ⟨0,[]⟩).1=AB at *
     have L1:Kept (m'.v.t.length=np):=⟨by rw[hv1,doV_len];exact Lm.out⟩
     have G1:Kept (∀ q,(tAt m'.v q).seq≤((k+1:Nat):Int)):=⟨fun q=>by
      rw[hv1,tAt_set (by rw[Lm.out];exact hpl)]
      by_cases hq:q=p
      ·rw[if_pos hq];dsimp only;omega
      ·rw[if_neg hq];have:=Gm.out q;omega⟩
     have S1:Kept (m'.served=((k+1:Nat):Int)∧m'.j.gen≤((k+1:Nat):Int)):=⟨⟨by rw[hs1,Sm.out.1];omega,by have:=Sm.out.2;omega⟩⟩
     have HE:=Kept.mk e1;have HPOS:=Kept.mk hpos;have OKN:=Kept.mk OK1
     have KL:Kept (Calls Tryz.prog 25 #[.pointer (some ⟨x,0,none⟩),.int .i64 p] wr fun e w'=>e=.returned (.int .i64 O)∧wr=w'):=⟨by
      obtain⟨j,y,HJ,FL,I,lv,⟨l,vp⟩,-⟩:=V.out
      have:=vlast_any (p:Int) vp
      rw[if_pos ⟨by omega,by rw[Lm.out];exact hp2⟩,Int.toNat_natCast,hO] at this
      exact this⟩
     obtain⟨g1,hg1e⟩:∃ g,wr.heap.size=g:=⟨_,rfl⟩
     have VN:=vq_new V.out (by simp) hg1e (.cells #[.int .u8 0,.int .u8 0,.int .u8 0] 5)
     have V2:=Kept.mk VN.1;have HK2:=Kept.mk VN.2
     have R2:Kept (Rd (wr.alloc (.cells #[.int .u8 0,.int .u8 0,.int .u8 0] 5)) (some ⟨g1,0,none⟩) 3 [0,0,0]):=⟨Rd.blk (T:=5) (xs:=[0,0,0]) (Blk.new_at _ _ _ g1 hg1e.symm) (by intro z hz;simp at hz;omega) rfl⟩
     have B2:=Kept.mk (B.out.trans (((Below.refl wr.heap.size wr).alloc (Nat.le_refl _) (.cells #[.int .u8 0,.int .u8 0,.int .u8 0] 5)).mono (by have:=B.out.size;omega)))
     clear VN V B hv1 hs1 hg1 e1 hpos OK1 hp hO
     go_wp2_with fail
     refine KL.out.mono ?_
     rintro e wq ⟨rfl,rfl⟩
     go_wp2_with fail
     generalize wr.alloc (.cells #[.int .u8 0,.int .u8 0,.int .u8 0] 5)=w9 at *
     have KH:=vq_row (c:=3) HE.out HPOS.out OKm.out.wv V2.out HK2.out R2.out (.inr ⟨g1,0,rfl,by simp⟩) (by omega) (by rw[Sm.out.1];omega) (by rw[Sm.out.1];omega) (.inl ⟨rfl,enc_none⟩)
     unfold VQRow at KH
     replace KH:=Kept.mk KH
     refine KH.out.mono ?_
     rintro e w10 ⟨A1,l1,c1,rfl,-,far,z1,v',-,-⟩
     have hb9:=B2.out.size
     have fb9:=far.below (V2.out.size)
     have B3:=Kept.mk (B2.out.trans (fb9.mono hNM))
     have V3:Kept (VQ M [] w10 x t d nd m'):=⟨v'.more (by simp)⟩
     clear KH far v' fb9 hb9 V2 HK2 R2 B2 KL
     go_wp2
     go_roundw
     case rel=>exact⟨k+1,m',by omega,by go_num,V3,B3,OKN,L1,G1,S1⟩
     case measure=>simp[Go.RowKit.intOf];omega
    ·obtain rfl:k=nq:=by omega
     go_wp2_with fail
     refine(vfirst_any wr).mono ?_
     rintro e w9 ⟨rfl,bb⟩
     replace V:=Kept.mk (V.out.below bb)
     replace B:=Kept.mk (B.out.trans (bb.mono (by have:=B.out.size;omega)))
     clear bb
     obtain⟨j,y,HJ,FL,I,lv,⟨l,vp⟩,-⟩:=V.out
     have KS:=vserved_any vp
     rw[Sm.out.1] at KS
     have KD:=vdown_any vp
     rw[OKm.out.down] at KD
     replace KS:=Kept.mk KS;replace KD:=Kept.mk KD
     clear vp V
     go_wp2_with fail
     refine KS.out.mono ?_
     rintro e wq ⟨rfl,rfl⟩
     go_wp2_with fail
     refine KD.out.mono ?_
     rintro e wq ⟨rfl,rfl⟩
     go_wp2
     go_ret
     exact⟨rfl,B.out⟩
end Go.Proofs.YtidjkhpekhpffaaGreat.Vault
