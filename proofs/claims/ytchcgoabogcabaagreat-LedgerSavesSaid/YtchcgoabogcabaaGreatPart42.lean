/-
  Parts laid together: ReqCGet ReqCGetV ReqCRow ReqCGAll ReqCDecA.
-/
import Derived.Test.YtchcgoabogcabaaGreatPart18
import Derived.Test.YtchcgoabogcabaaGreatPart11
import Derived.Deep.CutBlock
import Derived.Deep.CutRange
import Derived.Deep.RegionHeld3
import Derived.Test.YtchcgoabogcabaaGreatPart1
import Derived.Test.YtchcgoabogcabaaGreatPart7
import Derived.Test.YtchcgoabogcabaaGreatPart8
import Derived.Test.YtchcgoabogcabaaGreatPart16
import Derived.Test.YtchcgoabogcabaaGreatPart12
namespace Go.Proofs.YtchcgoabogcabaaGreat.Req
open Go.RowKit Go.Proofs.YtchcgoabogcabaaGreat.Sha Go.Proofs.YtchcgoabogcabaaGreat.Wire
theorem cev_size:(Tryz.prog.info? 71).map (·.size)=some 9:=by kernel_rfl
theorem cEv_ok (st:St) (hb:Bytes st.2):(cEv st).1.ok:=by
 have n0:Bytes []:=by intro x hx;simp at hx
 have h1:=decNum_bytes st 1 hb
 have h2:=decNum_bytes _ 2 (cMove_rest _ (decNum_bytes _ 1 h1))
 have h3:=decNum_bytes _ 2 h1
 unfold cEv
 split
 ·exact⟨n0,n0⟩
 ·split
  ·exact⟨iter_bytes1 32 _ h2,n0⟩
  ·split
   ·exact⟨n0,iter_bytes1 32 _ h3⟩
   ·split
    ·exact⟨n0,n0⟩
    ·exact⟨n0,n0⟩
set_option maxRecDepth 100000 in
set_option maxHeartbeats 4000000 in
theorem cgetv_any {w:World}{d:Nat}{G:List Nat}{st:St}(h:De 157 w d G st) (hd:d∉G):Calls Tryz.prog 111 #[.pointer (some ⟨d,0,none⟩)] w fun x w'=>x=.returned (.tuple #[vqv (cEv st).1,.bool (decide (HoldV (cEv st).1))])∧(cEv st).1.ok∧De 157 w' d G (cEv st).2∧Bar [d] w w':=by
 have hby:=h.bytes
 have hok:=cEv_ok st hby
 have hby1:=decNum_bytes st 1 hby
 obtain⟨R,hR⟩:∃ R,cEv st=R:=⟨_,rfl⟩
 rw[hR] at hok ⊢
 have HOK:=Kept.mk hok
 obtain⟨N,hN⟩:∃ N,w.heap.size=N:=⟨_,rfl⟩
 have hdN:d < N:=by rw[← hN];exact h.lt
 have hGN:∀ g∈G,g < N:=by rw[← hN];exact h.1
 have B0:Below w.heap.size w (w.alloc (.cells #[.int .i64 0,.int .i64 0,.int .i64 0,.int .i64 0,.int .i64 0,.int .i64 0,.int .i64 0,.string ⟨#[]⟩,.string ⟨#[]⟩] 71)):=(Below.refl _ _).alloc (Nat.le_refl _) _
 have Y:Kept (Blk (w.alloc (.cells #[.int .i64 0,.int .i64 0,.int .i64 0,.int .i64 0,.int .i64 0,.int .i64 0,.int .i64 0,.string ⟨#[]⟩,.string ⟨#[]⟩] 71)) N 71 #[.int .i64 0,.int .i64 0,.int .i64 0,.int .i64 0,.int .i64 0,.int .i64 0,.int .i64 0,.string ⟨#[]⟩,.string ⟨#[]⟩]):=⟨Blk.new_at w _ _ N hN.symm⟩
 have KC:=dnum_any _ d G 1 st (h.below B0) hd
 have B:Kept (Bar [d] w (w.alloc (.cells #[.int .i64 0,.int .i64 0,.int .i64 0,.int .i64 0,.int .i64 0,.int .i64 0,.int .i64 0,.string ⟨#[]⟩,.string ⟨#[]⟩] 71))):=⟨barOf B0 _⟩
 obtain⟨s,hs⟩:∃ s,decNum st 1=s:=⟨_,rfl⟩
 rw[hs] at KC hby1
 have HR:=Kept.mk hR;have HS:=Kept.mk hs
 have HG:=Kept.mk hGN
 have HW:=Kept.mk (Nat.le_of_eq hN)
 clear h hby hok hR hs B0 hGN
 obtain⟨z,s1⟩:=s
 dsimp only at KC hby1
 go_enter Tryz.func111,Tryz.ntmps111
 go_upto_region 1 with(fail)
 generalize w.alloc (.cells #[.int .i64 0,.int .i64 0,.int .i64 0,.int .i64 0,.int .i64 0,.int .i64 0,.int .i64 0,.string ⟨#[]⟩,.string ⟨#[]⟩] 71)=w0 at *
 have KK:=Kept.mk KC
 clear KC
 go_wp2_with fail
 refine KK.out.mono ?_
 rintro x w1 ⟨rfl,he,b⟩
 replace B:=Kept.mk (B.out.trans b (fun x hx=>.inl hx))
 have hNd:N∉[d]:=by simp;omega
 have HND:=Kept.mk hNd
 have hY:=Y.out.bar b hNd
 obtain⟨M,hM⟩:∃ M,w1.heap.size=M:=⟨_,rfl⟩
 have hNM:N < M:=by rw[← hM];exact hY.lt
 have b1:Below w1.heap.size w1 (w1.alloc (.cells #[.int .i64 z,.int .i64 0,.int .i64 0,.int .i64 0,.int .i64 0,.int .i64 0,.int .i64 0,.string ⟨#[]⟩,.string ⟨#[]⟩] 71)):=(Below.refl _ _).alloc (Nat.le_refl _) _
 replace Y:=Kept.mk (hY.below b1 hY.lt)
 have X:Kept (Blk (w1.alloc (.cells #[.int .i64 z,.int .i64 0,.int .i64 0,.int .i64 0,.int .i64 0,.int .i64 0,.int .i64 0,.string ⟨#[]⟩,.string ⟨#[]⟩] 71)) M 71 #[.int .i64 z,.int .i64 0,.int .i64 0,.int .i64 0,.int .i64 0,.int .i64 0,.int .i64 0,.string ⟨#[]⟩,.string ⟨#[]⟩]):=⟨Blk.new_at w1 _ _ M hM.symm⟩
 have HD:Kept (De 157 (w1.alloc (.cells #[.int .i64 z,.int .i64 0,.int .i64 0,.int .i64 0,.int .i64 0,.int .i64 0,.int .i64 0,.string ⟨#[]⟩,.string ⟨#[]⟩] 71)) d G s1):=⟨he.below b1⟩
 replace B:=Kept.mk (B.out.trans (barOf b1 [d]) (fun x hx=>.inl hx))
 clear he b hY b1 hNd KK
 go_upto_block 0 with(fail)
 generalize w1.alloc (.cells #[.int .i64 z,.int .i64 0,.int .i64 0,.int .i64 0,.int .i64 0,.int .i64 0,.int .i64 0,.string ⟨#[]⟩,.string ⟨#[]⟩] 71)=w2 at *
 have DM:Kept (d∉[M]∧Disj G [M]∧M∉[d]∧N≠M):=⟨by simp;omega,fun g hg hm=>by have:=HG.out g hg;simp at hm;omega,by simp;omega,by omega⟩
 have DL:Kept (w.heap.size≤M):=⟨by omega⟩
 go_cut [9] from 10 to 59 (fun _ wx=>Kept (Blk wx N 71 #[.int .i64 0,.int .i64 0,.int .i64 0,.int .i64 0,.int .i64 0,.int .i64 0,.int .i64 0,.string ⟨#[]⟩,.string ⟨#[]⟩])∧Kept (Blk wx M 71 (vvC R.1).toArray)∧Kept (De 157 wx d G R.2)∧Kept (Bar [d] w wx))
 case first =>
  by_cases hk1:z=1
  ·subst hk1
   obtain⟨m1,hm1⟩:∃ m,decNum s1 1=m:=⟨_,rfl⟩
   obtain⟨m2,hm2⟩:∃ m,cMove m1.2=m:=⟨_,rfl⟩
   obtain rfl:(⟨1,m1.1,m2.1.1,m2.1.2.1,m2.1.2.2,0,0,[],[]⟩,m2.2)=R:=by
    rw[← HR.out];unfold cEv;rw[HS.out];simp only[hm1,hm2,if_true]
   replace hm1:=Kept.mk hm1
   replace hm2:=Kept.mk hm2
   have KC:=dnum_any _ d G 1 _ HD.out hd
   rw[hm1.out] at KC
   have x0:=X.out.cell 0
   have KK:=Kept.mk KC
   clear KC
   go_wp2_with fail
   refine KK.out.mono ?_
   rintro x w3 ⟨rfl,he,b⟩
   clear x0
   replace B:=Kept.mk (B.out.trans b (fun x hx=>.inl hx));replace X:=Kept.mk (X.out.bar b DM.out.2.2.1);replace Y:=Kept.mk (Y.out.bar b HND.out);replace HD:=Kept.mk he
   clear he b KK
   have x1:=X.out.cell 1;have f1:=X.out.frozen 1
   have hbM:Bar [M] w3 (w3.setCell ⟨M,1,none⟩ (.int .i64 m1.1)):=(Bar.setCell (Bar.refl _ _) (p:=⟨M,1,none⟩) (.inl (by simp)) (.int .i64 m1.1))
   replace X:Kept (Blk (w3.setCell ⟨M,1,none⟩ (.int .i64 m1.1)) M 71 #[.int .i64 1,.int .i64 m1.1,.int .i64 0,.int .i64 0,.int .i64 0,.int .i64 0,.int .i64 0,.string ⟨#[]⟩,.string ⟨#[]⟩]):=⟨(Blk.set_ X.out 1 (.int .i64 m1.1))⟩
   replace Y:Kept (Blk (w3.setCell ⟨M,1,none⟩ (.int .i64 m1.1)) N 71 #[.int .i64 0,.int .i64 0,.int .i64 0,.int .i64 0,.int .i64 0,.int .i64 0,.int .i64 0,.string ⟨#[]⟩,.string ⟨#[]⟩]):=⟨Y.out.bar hbM (by simpa using DM.out.2.2.2)⟩
   replace HD:Kept (De 157 (w3.setCell ⟨M,1,none⟩ (.int .i64 m1.1)) d G m1.2):=⟨HD.out.keep hbM DM.out.1 DM.out.2.1⟩
   replace B:Kept (Bar [d] w (w3.setCell ⟨M,1,none⟩ (.int .i64 m1.1))):=⟨B.out.trans hbM (fun x hx=>.inr (by simp at hx;subst hx;exact DL.out))⟩
   clear hbM
   have KC:=cgetmove_any HD.out hd
   rw[hm2.out] at KC
   have KK:=Kept.mk KC
   clear KC
   go_wp2_with fail
   refine KK.out.mono ?_
   rintro x w4 ⟨rfl,he,b⟩
   replace B:=Kept.mk (B.out.trans b (fun x hx=>.inl hx));replace X:=Kept.mk (X.out.bar b DM.out.2.2.1);replace Y:=Kept.mk (Y.out.bar b HND.out);replace HD:=Kept.mk he
   clear he b KK
   have x2:=X.out.cell 2;have f2:=X.out.frozen 2;have x3:=X.out.cell 3;have f3:=X.out.frozen 3;have x4:=X.out.cell 4;have f4:=X.out.frozen 4
   have hbM:Bar [M] w4 (((w4.setCell ⟨M,2,none⟩ (.int .i64 m2.1.1)).setCell ⟨M,3,none⟩ (.int .i64 m2.1.2.1)).setCell ⟨M,4,none⟩ (.int .i64 m2.1.2.2)):=(Bar.setCell (Bar.setCell (Bar.setCell (Bar.refl _ _) (p:=⟨M,2,none⟩) (.inl (by simp)) (.int .i64 m2.1.1)) (p:=⟨M,3,none⟩) (.inl (by simp)) (.int .i64 m2.1.2.1)) (p:=⟨M,4,none⟩) (.inl (by simp)) (.int .i64 m2.1.2.2))
   replace X:Kept (Blk (((w4.setCell ⟨M,2,none⟩ (.int .i64 m2.1.1)).setCell ⟨M,3,none⟩ (.int .i64 m2.1.2.1)).setCell ⟨M,4,none⟩ (.int .i64 m2.1.2.2)) M 71 #[.int .i64 1,.int .i64 m1.1,.int .i64 m2.1.1,.int .i64 m2.1.2.1,.int .i64 m2.1.2.2,.int .i64 0,.int .i64 0,.string ⟨#[]⟩,.string ⟨#[]⟩]):=⟨(Blk.set_ (Blk.set_ (Blk.set_ X.out 2 (.int .i64 m2.1.1)) 3 (.int .i64 m2.1.2.1)) 4 (.int .i64 m2.1.2.2))⟩
   replace Y:Kept (Blk (((w4.setCell ⟨M,2,none⟩ (.int .i64 m2.1.1)).setCell ⟨M,3,none⟩ (.int .i64 m2.1.2.1)).setCell ⟨M,4,none⟩ (.int .i64 m2.1.2.2)) N 71 #[.int .i64 0,.int .i64 0,.int .i64 0,.int .i64 0,.int .i64 0,.int .i64 0,.int .i64 0,.string ⟨#[]⟩,.string ⟨#[]⟩]):=⟨Y.out.bar hbM (by simpa using DM.out.2.2.2)⟩
   replace HD:Kept (De 157 (((w4.setCell ⟨M,2,none⟩ (.int .i64 m2.1.1)).setCell ⟨M,3,none⟩ (.int .i64 m2.1.2.1)).setCell ⟨M,4,none⟩ (.int .i64 m2.1.2.2)) d G m2.2):=⟨HD.out.keep hbM DM.out.1 DM.out.2.1⟩
   replace B:Kept (Bar [d] w (((w4.setCell ⟨M,2,none⟩ (.int .i64 m2.1.1)).setCell ⟨M,3,none⟩ (.int .i64 m2.1.2.1)).setCell ⟨M,4,none⟩ (.int .i64 m2.1.2.2))):=⟨B.out.trans hbM (fun x hx=>.inr (by simp at hx;subst hx;exact DL.out))⟩
   clear hbM
   go_wp2
   go_meet
   case rel=>exact⟨Y,⟨X.out⟩,HD,B⟩
  by_cases hk2:z=2
  ·subst hk2
   obtain⟨m1,hm1⟩:∃ m,decNum s1 1=m:=⟨_,rfl⟩
   obtain⟨m2,hm2⟩:∃ m,cMove m1.2=m:=⟨_,rfl⟩
   obtain⟨m3,hm3⟩:∃ m,decNum m2.2 2=m:=⟨_,rfl⟩
   obtain⟨m4,hm4⟩:∃ m,cText m3.2=m:=⟨_,rfl⟩
   obtain⟨m5,hm5⟩:∃ m,decNum m4.2 8=m:=⟨_,rfl⟩
   obtain rfl:(⟨2,m1.1,m2.1.1,m2.1.2.1,m2.1.2.2,m3.1,m5.1,m4.1,[]⟩,m5.2)=R:=by
    rw[← HR.out];unfold cEv;rw[HS.out];simp only[hm1,hm2,hm3,hm4,hm5,if_true]
    simp
   replace hm1:=Kept.mk hm1
   replace hm2:=Kept.mk hm2
   replace hm3:=Kept.mk hm3
   replace hm4:=Kept.mk hm4
   replace hm5:=Kept.mk hm5
   have KC:=dnum_any _ d G 1 _ HD.out hd
   rw[hm1.out] at KC
   have x0:=X.out.cell 0
   have KK:=Kept.mk KC
   clear KC
   go_wp2_with fail
   refine KK.out.mono ?_
   rintro x w3 ⟨rfl,he,b⟩
   clear x0
   replace B:=Kept.mk (B.out.trans b (fun x hx=>.inl hx));replace X:=Kept.mk (X.out.bar b DM.out.2.2.1);replace Y:=Kept.mk (Y.out.bar b HND.out);replace HD:=Kept.mk he
   clear he b KK
   have x1:=X.out.cell 1;have f1:=X.out.frozen 1
   have hbM:Bar [M] w3 (w3.setCell ⟨M,1,none⟩ (.int .i64 m1.1)):=(Bar.setCell (Bar.refl _ _) (p:=⟨M,1,none⟩) (.inl (by simp)) (.int .i64 m1.1))
   replace X:Kept (Blk (w3.setCell ⟨M,1,none⟩ (.int .i64 m1.1)) M 71 #[.int .i64 2,.int .i64 m1.1,.int .i64 0,.int .i64 0,.int .i64 0,.int .i64 0,.int .i64 0,.string ⟨#[]⟩,.string ⟨#[]⟩]):=⟨(Blk.set_ X.out 1 (.int .i64 m1.1))⟩
   replace Y:Kept (Blk (w3.setCell ⟨M,1,none⟩ (.int .i64 m1.1)) N 71 #[.int .i64 0,.int .i64 0,.int .i64 0,.int .i64 0,.int .i64 0,.int .i64 0,.int .i64 0,.string ⟨#[]⟩,.string ⟨#[]⟩]):=⟨Y.out.bar hbM (by simpa using DM.out.2.2.2)⟩
   replace HD:Kept (De 157 (w3.setCell ⟨M,1,none⟩ (.int .i64 m1.1)) d G m1.2):=⟨HD.out.keep hbM DM.out.1 DM.out.2.1⟩
   replace B:Kept (Bar [d] w (w3.setCell ⟨M,1,none⟩ (.int .i64 m1.1))):=⟨B.out.trans hbM (fun x hx=>.inr (by simp at hx;subst hx;exact DL.out))⟩
   clear hbM
   have KC:=cgetmove_any HD.out hd
   rw[hm2.out] at KC
   have KK:=Kept.mk KC
   clear KC
   go_wp2_with fail
   refine KK.out.mono ?_
   rintro x w4 ⟨rfl,he,b⟩
   replace B:=Kept.mk (B.out.trans b (fun x hx=>.inl hx));replace X:=Kept.mk (X.out.bar b DM.out.2.2.1);replace Y:=Kept.mk (Y.out.bar b HND.out);replace HD:=Kept.mk he
   clear he b KK
   have x2:=X.out.cell 2;have f2:=X.out.frozen 2;have x3:=X.out.cell 3;have f3:=X.out.frozen 3;have x4:=X.out.cell 4;have f4:=X.out.frozen 4
   have hbM:Bar [M] w4 (((w4.setCell ⟨M,2,none⟩ (.int .i64 m2.1.1)).setCell ⟨M,3,none⟩ (.int .i64 m2.1.2.1)).setCell ⟨M,4,none⟩ (.int .i64 m2.1.2.2)):=(Bar.setCell (Bar.setCell (Bar.setCell (Bar.refl _ _) (p:=⟨M,2,none⟩) (.inl (by simp)) (.int .i64 m2.1.1)) (p:=⟨M,3,none⟩) (.inl (by simp)) (.int .i64 m2.1.2.1)) (p:=⟨M,4,none⟩) (.inl (by simp)) (.int .i64 m2.1.2.2))
   replace X:Kept (Blk (((w4.setCell ⟨M,2,none⟩ (.int .i64 m2.1.1)).setCell ⟨M,3,none⟩ (.int .i64 m2.1.2.1)).setCell ⟨M,4,none⟩ (.int .i64 m2.1.2.2)) M 71 #[.int .i64 2,.int .i64 m1.1,.int .i64 m2.1.1,.int .i64 m2.1.2.1,.int .i64 m2.1.2.2,.int .i64 0,.int .i64 0,.string ⟨#[]⟩,.string ⟨#[]⟩]):=⟨(Blk.set_ (Blk.set_ (Blk.set_ X.out 2 (.int .i64 m2.1.1)) 3 (.int .i64 m2.1.2.1)) 4 (.int .i64 m2.1.2.2))⟩
   replace Y:Kept (Blk (((w4.setCell ⟨M,2,none⟩ (.int .i64 m2.1.1)).setCell ⟨M,3,none⟩ (.int .i64 m2.1.2.1)).setCell ⟨M,4,none⟩ (.int .i64 m2.1.2.2)) N 71 #[.int .i64 0,.int .i64 0,.int .i64 0,.int .i64 0,.int .i64 0,.int .i64 0,.int .i64 0,.string ⟨#[]⟩,.string ⟨#[]⟩]):=⟨Y.out.bar hbM (by simpa using DM.out.2.2.2)⟩
   replace HD:Kept (De 157 (((w4.setCell ⟨M,2,none⟩ (.int .i64 m2.1.1)).setCell ⟨M,3,none⟩ (.int .i64 m2.1.2.1)).setCell ⟨M,4,none⟩ (.int .i64 m2.1.2.2)) d G m2.2):=⟨HD.out.keep hbM DM.out.1 DM.out.2.1⟩
   replace B:Kept (Bar [d] w (((w4.setCell ⟨M,2,none⟩ (.int .i64 m2.1.1)).setCell ⟨M,3,none⟩ (.int .i64 m2.1.2.1)).setCell ⟨M,4,none⟩ (.int .i64 m2.1.2.2))):=⟨B.out.trans hbM (fun x hx=>.inr (by simp at hx;subst hx;exact DL.out))⟩
   clear hbM
   have KC:=dnum_any _ d G 2 _ HD.out hd
   rw[hm3.out] at KC
   have KK:=Kept.mk KC
   clear KC
   go_wp2_with fail
   refine KK.out.mono ?_
   rintro x w5 ⟨rfl,he,b⟩
   replace B:=Kept.mk (B.out.trans b (fun x hx=>.inl hx));replace X:=Kept.mk (X.out.bar b DM.out.2.2.1);replace Y:=Kept.mk (Y.out.bar b HND.out);replace HD:=Kept.mk he
   clear he b KK
   have x5:=X.out.cell 5;have f5:=X.out.frozen 5
   have hbM:Bar [M] w5 (w5.setCell ⟨M,5,none⟩ (.int .i64 m3.1)):=(Bar.setCell (Bar.refl _ _) (p:=⟨M,5,none⟩) (.inl (by simp)) (.int .i64 m3.1))
   replace X:Kept (Blk (w5.setCell ⟨M,5,none⟩ (.int .i64 m3.1)) M 71 #[.int .i64 2,.int .i64 m1.1,.int .i64 m2.1.1,.int .i64 m2.1.2.1,.int .i64 m2.1.2.2,.int .i64 m3.1,.int .i64 0,.string ⟨#[]⟩,.string ⟨#[]⟩]):=⟨(Blk.set_ X.out 5 (.int .i64 m3.1))⟩
   replace Y:Kept (Blk (w5.setCell ⟨M,5,none⟩ (.int .i64 m3.1)) N 71 #[.int .i64 0,.int .i64 0,.int .i64 0,.int .i64 0,.int .i64 0,.int .i64 0,.int .i64 0,.string ⟨#[]⟩,.string ⟨#[]⟩]):=⟨Y.out.bar hbM (by simpa using DM.out.2.2.2)⟩
   replace HD:Kept (De 157 (w5.setCell ⟨M,5,none⟩ (.int .i64 m3.1)) d G m3.2):=⟨HD.out.keep hbM DM.out.1 DM.out.2.1⟩
   replace B:Kept (Bar [d] w (w5.setCell ⟨M,5,none⟩ (.int .i64 m3.1))):=⟨B.out.trans hbM (fun x hx=>.inr (by simp at hx;subst hx;exact DL.out))⟩
   clear hbM
   have KC:=cgettext_any HD.out hd
   rw[hm4.out] at KC
   have KK:=Kept.mk KC
   clear KC
   go_wp2_with fail
   refine KK.out.mono ?_
   rintro x w6 ⟨rfl,he,b⟩
   replace B:=Kept.mk (B.out.trans b (fun x hx=>.inl hx));replace X:=Kept.mk (X.out.bar b DM.out.2.2.1);replace Y:=Kept.mk (Y.out.bar b HND.out);replace HD:=Kept.mk he
   clear he b KK
   have x7:=X.out.cell 7;have f7:=X.out.frozen 7
   have hbM:Bar [M] w6 (w6.setCell ⟨M,7,none⟩ (.string (strOfNums m4.1))):=(Bar.setCell (Bar.refl _ _) (p:=⟨M,7,none⟩) (.inl (by simp)) (.string (strOfNums m4.1)))
   replace X:Kept (Blk (w6.setCell ⟨M,7,none⟩ (.string (strOfNums m4.1))) M 71 #[.int .i64 2,.int .i64 m1.1,.int .i64 m2.1.1,.int .i64 m2.1.2.1,.int .i64 m2.1.2.2,.int .i64 m3.1,.int .i64 0,.string (strOfNums m4.1),.string ⟨#[]⟩]):=⟨(Blk.set_ X.out 7 (.string (strOfNums m4.1)))⟩
   replace Y:Kept (Blk (w6.setCell ⟨M,7,none⟩ (.string (strOfNums m4.1))) N 71 #[.int .i64 0,.int .i64 0,.int .i64 0,.int .i64 0,.int .i64 0,.int .i64 0,.int .i64 0,.string ⟨#[]⟩,.string ⟨#[]⟩]):=⟨Y.out.bar hbM (by simpa using DM.out.2.2.2)⟩
   replace HD:Kept (De 157 (w6.setCell ⟨M,7,none⟩ (.string (strOfNums m4.1))) d G m4.2):=⟨HD.out.keep hbM DM.out.1 DM.out.2.1⟩
   replace B:Kept (Bar [d] w (w6.setCell ⟨M,7,none⟩ (.string (strOfNums m4.1)))):=⟨B.out.trans hbM (fun x hx=>.inr (by simp at hx;subst hx;exact DL.out))⟩
   clear hbM
   have KC:=dnum_any _ d G 8 _ HD.out hd
   rw[hm5.out] at KC
   have KK:=Kept.mk KC
   clear KC
   go_wp2_with fail
   refine KK.out.mono ?_
   rintro x w7 ⟨rfl,he,b⟩
   replace B:=Kept.mk (B.out.trans b (fun x hx=>.inl hx));replace X:=Kept.mk (X.out.bar b DM.out.2.2.1);replace Y:=Kept.mk (Y.out.bar b HND.out);replace HD:=Kept.mk he
   clear he b KK
   have x6:=X.out.cell 6;have f6:=X.out.frozen 6
   have hbM:Bar [M] w7 (w7.setCell ⟨M,6,none⟩ (.int .i64 m5.1)):=(Bar.setCell (Bar.refl _ _) (p:=⟨M,6,none⟩) (.inl (by simp)) (.int .i64 m5.1))
   replace X:Kept (Blk (w7.setCell ⟨M,6,none⟩ (.int .i64 m5.1)) M 71 #[.int .i64 2,.int .i64 m1.1,.int .i64 m2.1.1,.int .i64 m2.1.2.1,.int .i64 m2.1.2.2,.int .i64 m3.1,.int .i64 m5.1,.string (strOfNums m4.1),.string ⟨#[]⟩]):=⟨(Blk.set_ X.out 6 (.int .i64 m5.1))⟩
   replace Y:Kept (Blk (w7.setCell ⟨M,6,none⟩ (.int .i64 m5.1)) N 71 #[.int .i64 0,.int .i64 0,.int .i64 0,.int .i64 0,.int .i64 0,.int .i64 0,.int .i64 0,.string ⟨#[]⟩,.string ⟨#[]⟩]):=⟨Y.out.bar hbM (by simpa using DM.out.2.2.2)⟩
   replace HD:Kept (De 157 (w7.setCell ⟨M,6,none⟩ (.int .i64 m5.1)) d G m5.2):=⟨HD.out.keep hbM DM.out.1 DM.out.2.1⟩
   replace B:Kept (Bar [d] w (w7.setCell ⟨M,6,none⟩ (.int .i64 m5.1))):=⟨B.out.trans hbM (fun x hx=>.inr (by simp at hx;subst hx;exact DL.out))⟩
   clear hbM
   go_wp2
   go_meet
   case rel=>exact⟨Y,⟨X.out⟩,HD,B⟩
  by_cases hk3:z=3
  ·subst hk3
   obtain⟨m1,hm1⟩:∃ m,decNum s1 2=m:=⟨_,rfl⟩
   obtain⟨m2,hm2⟩:∃ m,cText m1.2=m:=⟨_,rfl⟩
   obtain rfl:(⟨3,0,0,0,0,m1.1,0,[],m2.1⟩,m2.2)=R:=by
    rw[← HR.out];unfold cEv;rw[HS.out];simp only[hm1,hm2,if_true]
    simp
   replace hm1:=Kept.mk hm1
   replace hm2:=Kept.mk hm2
   have KC:=dnum_any _ d G 2 _ HD.out hd
   rw[hm1.out] at KC
   have x0:=X.out.cell 0
   have KK:=Kept.mk KC
   clear KC
   go_wp2_with fail
   refine KK.out.mono ?_
   rintro x w3 ⟨rfl,he,b⟩
   clear x0
   replace B:=Kept.mk (B.out.trans b (fun x hx=>.inl hx));replace X:=Kept.mk (X.out.bar b DM.out.2.2.1);replace Y:=Kept.mk (Y.out.bar b HND.out);replace HD:=Kept.mk he
   clear he b KK
   have x5:=X.out.cell 5;have f5:=X.out.frozen 5
   have hbM:Bar [M] w3 (w3.setCell ⟨M,5,none⟩ (.int .i64 m1.1)):=(Bar.setCell (Bar.refl _ _) (p:=⟨M,5,none⟩) (.inl (by simp)) (.int .i64 m1.1))
   replace X:Kept (Blk (w3.setCell ⟨M,5,none⟩ (.int .i64 m1.1)) M 71 #[.int .i64 3,.int .i64 0,.int .i64 0,.int .i64 0,.int .i64 0,.int .i64 m1.1,.int .i64 0,.string ⟨#[]⟩,.string ⟨#[]⟩]):=⟨(Blk.set_ X.out 5 (.int .i64 m1.1))⟩
   replace Y:Kept (Blk (w3.setCell ⟨M,5,none⟩ (.int .i64 m1.1)) N 71 #[.int .i64 0,.int .i64 0,.int .i64 0,.int .i64 0,.int .i64 0,.int .i64 0,.int .i64 0,.string ⟨#[]⟩,.string ⟨#[]⟩]):=⟨Y.out.bar hbM (by simpa using DM.out.2.2.2)⟩
   replace HD:Kept (De 157 (w3.setCell ⟨M,5,none⟩ (.int .i64 m1.1)) d G m1.2):=⟨HD.out.keep hbM DM.out.1 DM.out.2.1⟩
   replace B:Kept (Bar [d] w (w3.setCell ⟨M,5,none⟩ (.int .i64 m1.1))):=⟨B.out.trans hbM (fun x hx=>.inr (by simp at hx;subst hx;exact DL.out))⟩
   clear hbM
   have KC:=cgettext_any HD.out hd
   rw[hm2.out] at KC
   have KK:=Kept.mk KC
   clear KC
   go_wp2_with fail
   refine KK.out.mono ?_
   rintro x w4 ⟨rfl,he,b⟩
   replace B:=Kept.mk (B.out.trans b (fun x hx=>.inl hx));replace X:=Kept.mk (X.out.bar b DM.out.2.2.1);replace Y:=Kept.mk (Y.out.bar b HND.out);replace HD:=Kept.mk he
   clear he b KK
   have x8:=X.out.cell 8;have f8:=X.out.frozen 8
   have hbM:Bar [M] w4 (w4.setCell ⟨M,8,none⟩ (.string (strOfNums m2.1))):=(Bar.setCell (Bar.refl _ _) (p:=⟨M,8,none⟩) (.inl (by simp)) (.string (strOfNums m2.1)))
   replace X:Kept (Blk (w4.setCell ⟨M,8,none⟩ (.string (strOfNums m2.1))) M 71 #[.int .i64 3,.int .i64 0,.int .i64 0,.int .i64 0,.int .i64 0,.int .i64 m1.1,.int .i64 0,.string ⟨#[]⟩,.string (strOfNums m2.1)]):=⟨(Blk.set_ X.out 8 (.string (strOfNums m2.1)))⟩
   replace Y:Kept (Blk (w4.setCell ⟨M,8,none⟩ (.string (strOfNums m2.1))) N 71 #[.int .i64 0,.int .i64 0,.int .i64 0,.int .i64 0,.int .i64 0,.int .i64 0,.int .i64 0,.string ⟨#[]⟩,.string ⟨#[]⟩]):=⟨Y.out.bar hbM (by simpa using DM.out.2.2.2)⟩
   replace HD:Kept (De 157 (w4.setCell ⟨M,8,none⟩ (.string (strOfNums m2.1))) d G m2.2):=⟨HD.out.keep hbM DM.out.1 DM.out.2.1⟩
   replace B:Kept (Bar [d] w (w4.setCell ⟨M,8,none⟩ (.string (strOfNums m2.1)))):=⟨B.out.trans hbM (fun x hx=>.inr (by simp at hx;subst hx;exact DL.out))⟩
   clear hbM
   go_wp2
   go_meet
   case rel=>exact⟨Y,⟨X.out⟩,HD,B⟩
  by_cases hk4:z=4
  ·subst hk4
   obtain⟨m1,hm1⟩:∃ m,decNum s1 2=m:=⟨_,rfl⟩
   obtain rfl:(⟨4,0,0,0,0,m1.1,0,[],[]⟩,m1.2)=R:=by
    rw[← HR.out];unfold cEv;rw[HS.out];simp only[hm1,if_true]
    simp
   replace hm1:=Kept.mk hm1
   have KC:=dnum_any _ d G 2 _ HD.out hd
   rw[hm1.out] at KC
   have x0:=X.out.cell 0
   have KK:=Kept.mk KC
   clear KC
   go_wp2_with fail
   refine KK.out.mono ?_
   rintro x w3 ⟨rfl,he,b⟩
   clear x0
   replace B:=Kept.mk (B.out.trans b (fun x hx=>.inl hx));replace X:=Kept.mk (X.out.bar b DM.out.2.2.1);replace Y:=Kept.mk (Y.out.bar b HND.out);replace HD:=Kept.mk he
   clear he b KK
   have x5:=X.out.cell 5;have f5:=X.out.frozen 5
   have hbM:Bar [M] w3 (w3.setCell ⟨M,5,none⟩ (.int .i64 m1.1)):=(Bar.setCell (Bar.refl _ _) (p:=⟨M,5,none⟩) (.inl (by simp)) (.int .i64 m1.1))
   replace X:Kept (Blk (w3.setCell ⟨M,5,none⟩ (.int .i64 m1.1)) M 71 #[.int .i64 4,.int .i64 0,.int .i64 0,.int .i64 0,.int .i64 0,.int .i64 m1.1,.int .i64 0,.string ⟨#[]⟩,.string ⟨#[]⟩]):=⟨(Blk.set_ X.out 5 (.int .i64 m1.1))⟩
   replace Y:Kept (Blk (w3.setCell ⟨M,5,none⟩ (.int .i64 m1.1)) N 71 #[.int .i64 0,.int .i64 0,.int .i64 0,.int .i64 0,.int .i64 0,.int .i64 0,.int .i64 0,.string ⟨#[]⟩,.string ⟨#[]⟩]):=⟨Y.out.bar hbM (by simpa using DM.out.2.2.2)⟩
   replace HD:Kept (De 157 (w3.setCell ⟨M,5,none⟩ (.int .i64 m1.1)) d G m1.2):=⟨HD.out.keep hbM DM.out.1 DM.out.2.1⟩
   replace B:Kept (Bar [d] w (w3.setCell ⟨M,5,none⟩ (.int .i64 m1.1))):=⟨B.out.trans hbM (fun x hx=>.inr (by simp at hx;subst hx;exact DL.out))⟩
   clear hbM
   go_wp2
   go_meet
   case rel=>exact⟨Y,⟨X.out⟩,HD,B⟩
  obtain rfl:(⟨z,0,0,0,0,0,0,[],[]⟩,s1)=R:=by
   rw[← HR.out];unfold cEv;rw[HS.out];simp only[if_neg hk1,if_neg hk2,if_neg hk3,if_neg hk4]
  have d1:(z == 1)=false:=beq_eq_false_iff_ne.2 hk1
  have d2:(z == 2)=false:=beq_eq_false_iff_ne.2 hk2
  have d3:(z == 3)=false:=beq_eq_false_iff_ne.2 hk3
  have d4:(z == 4)=false:=beq_eq_false_iff_ne.2 hk4
  go_wp2
  go_meet
  case rel=>exact⟨Y,⟨X.out⟩,HD,B⟩
 case rest =>
  clear X Y HD B
  obtain⟨Y,X,HD,B⟩:=hcut
  generalize wc=w2 at *
  have HOLD:=Kept.mk (fun w=>holdV_any R.1 HOK.out w)
  obtain⟨D,hD⟩:∃ D,decide (HoldV R.1)=D:=⟨_,rfl⟩
  rw[hD] at HOLD
  have KD:=Kept.mk hD
  clear hD HR HS
  obtain⟨R,st2⟩:=R
  obtain⟨kind,src,dst,asset,amount,id,due,hash,sec⟩:=R
  unfold vqv at HOLD
  unfold vvC at X
  dsimp only at HOLD HOK X HD KD
  replace X:Kept (Blk w2 M 71 #[.int .i64 kind,.int .i64 src,.int .i64 dst,.int .i64 asset,.int .i64 amount,.int .i64 id,.int .i64 due,.string (strOfNums hash),.string (strOfNums sec)]):=⟨X.out⟩
  have DN:Kept (d∉[N]∧Disj G [N]∧M≠N):=⟨by simp;omega,fun g hg hm=>by have:=HG.out g hg;simp at hm;omega,by omega⟩
  go_upto_region 17 with(fail)
  have CS:∀ {u:World},Blk u M 71 #[.int .i64 kind,.int .i64 src,.int .i64 dst,.int .i64 asset,.int .i64 amount,.int .i64 id,.int .i64 due,.string (strOfNums hash),.string (strOfNums sec)]→u.cell? ⟨M,0,none⟩=some (.int .i64 kind)∧u.cell? ⟨M,1,none⟩=some (.int .i64 src)∧u.cell? ⟨M,2,none⟩=some (.int .i64 dst)∧u.cell? ⟨M,3,none⟩=some (.int .i64 asset)∧u.cell? ⟨M,4,none⟩=some (.int .i64 amount)∧u.cell? ⟨M,5,none⟩=some (.int .i64 id)∧u.cell? ⟨M,6,none⟩=some (.int .i64 due)∧u.cell? ⟨M,7,none⟩=some (.string (strOfNums hash))∧u.cell? ⟨M,8,none⟩=some (.string (strOfNums sec)):=fun h=>⟨h.cell 0,h.cell 1,h.cell 2,h.cell 3,h.cell 4,h.cell 5,h.cell 6,h.cell 7,h.cell 8⟩
  refine wp_region_noPanic ?_
  refine wp_region_held_drew (S:=fun w':World=>w'.cell? ⟨M,0,none⟩=some (.int .i64 kind)∧w'.cell? ⟨M,1,none⟩=some (.int .i64 src)∧w'.cell? ⟨M,2,none⟩=some (.int .i64 dst)∧w'.cell? ⟨M,3,none⟩=some (.int .i64 asset)∧w'.cell? ⟨M,4,none⟩=some (.int .i64 amount)∧w'.cell? ⟨M,5,none⟩=some (.int .i64 id)∧w'.cell? ⟨M,6,none⟩=some (.int .i64 due)∧w'.cell? ⟨M,7,none⟩=some (.string (strOfNums hash))∧w'.cell? ⟨M,8,none⟩=some (.string (strOfNums sec))) (by kernel_rfl) (CS X.out.drew) (fun _=>?_)
  replace X:=Kept.mk X.out.drew;replace Y:=Kept.mk Y.out.drew;replace B:=Kept.mk B.out.drew;replace HD:=Kept.mk (HD.out.keep ((Bar.refl [] w2).drew) (by simp) (fun _ _=>by simp))
  generalize w2.drew=w3 at *
  refine tk 0 (by assumption) ?_
  simp only[Act.put,zA,zB,zC]
  refine tk 1 (by assumption) ?_
  simp only[Act.put,zA,zB,zC]
  refine ld 2 (fun K hK=>?_)
  go_simp
  go_at_call 114
  refine(HOLD.out _).mono ?_
  rintro x w4 ⟨rfl,b4⟩
  replace X:=Kept.mk (X.out.below b4 X.out.lt);replace Y:=Kept.mk (Y.out.below b4 Y.out.lt);replace HD:=Kept.mk (HD.out.below b4);replace B:=Kept.mk (B.out.trans (barOf b4 [d]) (fun x hx=>.inl hx))
  refine hK.out _ _ (CS X.out) (fun _=>?_)
  clear hK K b4 HOLD
  have c0:w4.cell? ⟨N,0,none⟩=some (.int .i64 0):=Y.out.cell 0;have g0:=Y.out.frozen 0
  have c1:w4.cell? ⟨N,1,none⟩=some (.int .i64 0):=Y.out.cell 1;have g1:=Y.out.frozen 1
  have c2:w4.cell? ⟨N,2,none⟩=some (.int .i64 0):=Y.out.cell 2;have g2:=Y.out.frozen 2
  have c3:w4.cell? ⟨N,3,none⟩=some (.int .i64 0):=Y.out.cell 3;have g3:=Y.out.frozen 3
  have c4:w4.cell? ⟨N,4,none⟩=some (.int .i64 0):=Y.out.cell 4;have g4:=Y.out.frozen 4
  have c5:w4.cell? ⟨N,5,none⟩=some (.int .i64 0):=Y.out.cell 5;have g5:=Y.out.frozen 5
  have c6:w4.cell? ⟨N,6,none⟩=some (.int .i64 0):=Y.out.cell 6;have g6:=Y.out.frozen 6
  have c7:w4.cell? ⟨N,7,none⟩=some (.string ⟨#[]⟩):=Y.out.cell 7;have g7:=Y.out.frozen 7
  have c8:w4.cell? ⟨N,8,none⟩=some (.string ⟨#[]⟩):=Y.out.cell 8;have g8:=Y.out.frozen 8
  refine ld 3 (fun K hK=>?_)
  go_simp
  have hbN:Bar [N] w4 (((((((((w4.setCell ⟨N,0,none⟩ (.int .i64 kind)).setCell ⟨N,1,none⟩ (.int .i64 src)).setCell ⟨N,2,none⟩ (.int .i64 dst)).setCell ⟨N,3,none⟩ (.int .i64 asset)).setCell ⟨N,4,none⟩ (.int .i64 amount)).setCell ⟨N,5,none⟩ (.int .i64 id)).setCell ⟨N,6,none⟩ (.int .i64 due)).setCell ⟨N,7,none⟩ (.string (strOfNums hash))).setCell ⟨N,8,none⟩ (.string (strOfNums sec))):=(Bar.setCell (Bar.setCell (Bar.setCell (Bar.setCell (Bar.setCell (Bar.setCell (Bar.setCell (Bar.setCell (Bar.setCell (Bar.refl _ _) (p:=⟨N,0,none⟩) (.inl (by simp)) (.int .i64 kind)) (p:=⟨N,1,none⟩) (.inl (by simp)) (.int .i64 src)) (p:=⟨N,2,none⟩) (.inl (by simp)) (.int .i64 dst)) (p:=⟨N,3,none⟩) (.inl (by simp)) (.int .i64 asset)) (p:=⟨N,4,none⟩) (.inl (by simp)) (.int .i64 amount)) (p:=⟨N,5,none⟩) (.inl (by simp)) (.int .i64 id)) (p:=⟨N,6,none⟩) (.inl (by simp)) (.int .i64 due)) (p:=⟨N,7,none⟩) (.inl (by simp)) (.string (strOfNums hash))) (p:=⟨N,8,none⟩) (.inl (by simp)) (.string (strOfNums sec)))
  replace Y:Kept (Blk (((((((((w4.setCell ⟨N,0,none⟩ (.int .i64 kind)).setCell ⟨N,1,none⟩ (.int .i64 src)).setCell ⟨N,2,none⟩ (.int .i64 dst)).setCell ⟨N,3,none⟩ (.int .i64 asset)).setCell ⟨N,4,none⟩ (.int .i64 amount)).setCell ⟨N,5,none⟩ (.int .i64 id)).setCell ⟨N,6,none⟩ (.int .i64 due)).setCell ⟨N,7,none⟩ (.string (strOfNums hash))).setCell ⟨N,8,none⟩ (.string (strOfNums sec))) N 71 #[.int .i64 kind,.int .i64 src,.int .i64 dst,.int .i64 asset,.int .i64 amount,.int .i64 id,.int .i64 due,.string (strOfNums hash),.string (strOfNums sec)]):=⟨(Blk.set_ (Blk.set_ (Blk.set_ (Blk.set_ (Blk.set_ (Blk.set_ (Blk.set_ (Blk.set_ (Blk.set_ Y.out 0 (.int .i64 kind)) 1 (.int .i64 src)) 2 (.int .i64 dst)) 3 (.int .i64 asset)) 4 (.int .i64 amount)) 5 (.int .i64 id)) 6 (.int .i64 due)) 7 (.string (strOfNums hash))) 8 (.string (strOfNums sec)))⟩
  replace X:=Kept.mk (X.out.bar hbN (by simpa using DN.out.2.2))
  replace HD:=Kept.mk (HD.out.keep hbN DN.out.1 DN.out.2.1)
  replace B:=Kept.mk (B.out.trans hbN (fun x hx=>.inr (by simp at hx;subst hx;exact HW.out)))
  refine hK.out _ _ (CS X.out) (fun _=>?_)
  clear hK K hbN c0 g0 c1 g1 c2 g2 c3 g3 c4 g4 c5 g5 c6 g6 c7 g7 c8 g8
  generalize (((((((((w4.setCell ⟨N,0,none⟩ (.int .i64 kind)).setCell ⟨N,1,none⟩ (.int .i64 src)).setCell ⟨N,2,none⟩ (.int .i64 dst)).setCell ⟨N,3,none⟩ (.int .i64 asset)).setCell ⟨N,4,none⟩ (.int .i64 amount)).setCell ⟨N,5,none⟩ (.int .i64 id)).setCell ⟨N,6,none⟩ (.int .i64 due)).setCell ⟨N,7,none⟩ (.string (strOfNums hash))).setCell ⟨N,8,none⟩ (.string (strOfNums sec)))=w5 at *
  refine tk 4 (by assumption) ?_
  simp only[Act.put,zA,zB,zC]
  refine wpAnyH_done (by kernel_rfl) ?_ _
  refine NoPanic.normal ?_
  go_wp2
  (try simp only[Exit.inBlock,Exit.then])
  refine bodyPost_ret (results_row_tmp rfl _ _ N 71 #[.int .i64 kind,.int .i64 src,.int .i64 dst,.int .i64 asset,.int .i64 amount,.int .i64 id,.int .i64 due,.string (strOfNums hash),.string (strOfNums sec)] (0,0) _ rfl Y.out Tryz.underlying71 rfl cev_size) rfl ?_
  exact⟨by rw[KD.out];rfl,HOK.out,HD.out,B.out⟩
structure RowP {α:Type} (C:α→List Value) (s n:Nat) (cs:Array Value) (l:List α):Prop where
 size:cs.size=n * s
 at_:∀ k x,l[k]?=some x→∀ j v,(C x)[j]?=some v→cs[k * s+j]?=some v
theorem RowP.new {α:Type}{C:α→List Value}{s n:Nat}{cs:Array Value}(h:cs.size=n * s):RowP C s n cs []:=⟨h,fun k x hx=>by simp at hx⟩
theorem RowP.next {α:Type}{C:α→List Value}{s n k:Nat}{cs ds:Array Value}{l:List α}{x:α}(h:RowP C s n cs l) (hl:l.length=k) (hC:∀ x,(C x).length=s) (hs:ds.size=cs.size)
  (hin:∀ j v,(C x)[j]?=some v→ds[k * s+j]?=some v) (hout:∀ i,i < k * s→ds[i]?=cs[i]?):RowP C s n ds (l++[x]):=by
 refine⟨by rw[hs,h.size],fun i y hy j v hv=>?_⟩
 by_cases hi:i < k
 ·rw[List.getElem?_append_left (by omega)] at hy
  have hj:j < s:=by
   have:=(List.getElem?_eq_some_iff.1 hv).1
   rwa [hC] at this
  rw[hout _ (by
   have:(i+1) * s≤k * s:=Nat.mul_le_mul_right s hi
   rw[Nat.add_mul] at this;omega)]
  exact h.at_ i y hy j v hv
 ·rw[List.getElem?_append_right (by omega)] at hy
  have he:i=k:=by
   have:=(List.getElem?_eq_some_iff.1 hy).1
   simp at this;omega
  subst he
  rw[hl,Nat.sub_self] at hy
  simp at hy
  subst hy
  exact hin j v hv
theorem RowP.read {α:Type}{C:α→List Value}{s n M:Nat}{T:TypeId}{cs:Array Value}{l:List α}{w:World}(h:RowP C s n cs l) (hb:Blk w M T cs) (hl:l.length=n):Rc C s w (some ⟨M,0,none⟩) n l:=by
 refine⟨hl,.inr ⟨M,0,rfl,fun k x hx j v hv=>?_⟩⟩
 rw[Nat.zero_add,hb.cell]
 exact h.at_ k x hx j v hv
theorem iter_mem {α:Type}(g:St→α × St) (st:St) {k n:Nat}(h:k < n):(g (iter g k st).2).1∈(iter g n st).1:=by
 induction n with
 | zero=>omega
 | succ n ih =>
  rw[iter]
  by_cases hk:k < n
  ·exact List.mem_append_left _ (ih hk)
  ·obtain rfl:k=n:=by omega
   exact List.mem_append_right _ (by simp)
theorem iter_all {α:Type}{g:St→α × St}{p:α→Prop}(hb:∀ st,Bytes st.2→Bytes (g st).2.2) (h:∀ st,Bytes st.2→p (g st).1) (k:Nat) (st:St) (hs:Bytes st.2):Bytes (iter g k st).2.2∧∀ x∈(iter g k st).1,p x:=by
 induction k with
 | zero=>exact⟨hs,by simp[iter]⟩
 | succ k ih =>
  refine⟨hb _ ih.1,fun x hx=>?_⟩
  rw[iter] at hx
  rcases List.mem_append.1 hx with hx|hx
  ·exact ih.2 x hx
  ·rw[List.mem_singleton] at hx;subst hx;exact h _ ih.1
theorem crep_size:(Tryz.prog.info? 63).map (·.size)=some 2:=by kernel_rfl
theorem cinfo_ev:(Tryz.prog.info? 71).map (fun i=>(i.zero,i.size,i.bytes))=some (some (.agg #[.int .i64 0,.int .i64 0,.int .i64 0,.int .i64 0,.int .i64 0,.int .i64 0,.int .i64 0,.string ⟨#[]⟩,.string ⟨#[]⟩]),9,88):=by kernel_rfl
theorem make_ev (w:World) (n:Nat) (hn:n≤400):∃ w' cs,(Instr.makeSlice 40 (.int .i64 (n:Int)) (.int .i64 (n:Int))).run Tryz.prog w=.ok (.slice (some ⟨w.heap.size,0,none⟩) n n) w'∧Blk w' w.heap.size 71 cs∧cs.size=n * 9∧Below w.heap.size w w':=by
 obtain⟨iu,hi,hz0,hz1,hz2⟩:=info_parts cinfo_ev
 obtain⟨w',hm,own,gr⟩:=run_makeSlice_full (P:=Tryz.prog) w w.heap.size 40 71 iu _ 9 Tryz.underlying40 hi hz0 hz1 .i64 .i64 n (by omega) (by rw[hz2];omega) (by unfold maxLen;omega) (Nat.le_refl _)
 rcases own.2 with⟨h0,-⟩|⟨g,cap,cur,hv,-,hh,h1,-,hs,-⟩
 ·cases h0
 ·have hv2:w.heap.size=g∧n=cap:=by
   have:=hv
   simp only[Value.slice.injEq,Option.some.injEq,Addr.mk.injEq] at this
   omega
  obtain⟨hg,rfl⟩:=hv2
  refine⟨w',cur,hm,?_,hs,⟨gr.os,gr.tape,gr.output,gr.size,fun k hk=>gr.block k hk (by simp)⟩⟩
  rw[hg];exact hh
theorem cinfo_rep:(Tryz.prog.info? 63).map (fun i=>(i.zero,i.size,i.bytes))=some (some (.agg #[.int .i64 0,.int .i64 0]),2,16):=by kernel_rfl
theorem make_rep (w:World) (n:Nat) (hn:n≤400):∃ w' cs,(Instr.makeSlice 57 (.int .i64 (n:Int)) (.int .i64 (n:Int))).run Tryz.prog w=.ok (.slice (some ⟨w.heap.size,0,none⟩) n n) w'∧Blk w' w.heap.size 63 cs∧cs.size=n * 2∧Below w.heap.size w w':=by
 obtain⟨iu,hi,hz0,hz1,hz2⟩:=info_parts cinfo_rep
 obtain⟨w',hm,own,gr⟩:=run_makeSlice_full (P:=Tryz.prog) w w.heap.size 57 63 iu _ 2 Tryz.underlying57 hi hz0 hz1 .i64 .i64 n (by omega) (by rw[hz2];omega) (by unfold maxLen;omega) (Nat.le_refl _)
 rcases own.2 with⟨h0,-⟩|⟨g,cap,cur,hv,-,hh,h1,-,hs,-⟩
 ·cases h0
 ·have hv2:w.heap.size=g∧n=cap:=by
   have:=hv
   simp only[Value.slice.injEq,Option.some.injEq,Addr.mk.injEq] at this
   omega
  obtain⟨hg,rfl⟩:=hv2
  refine⟨w',cur,hm,?_,hs,⟨gr.os,gr.tape,gr.output,gr.size,fun k hk=>gr.block k hk (by simp)⟩⟩
  rw[hg];exact hh
set_option maxRecDepth 100000 in
set_option maxHeartbeats 1000000 in
theorem cgetp_any {w:World}{d:Nat}{G:List Nat}{st:St}(h:De 157 w d G st) (hd:d∉G):Calls Tryz.prog 109 #[.pointer (some ⟨d,0,none⟩)] w fun x w'=>x=.returned (.tuple #[pqv (cRep st).1,.bool true])∧De 157 w' d G (cRep st).2∧Bar [d] w w':=by
 unfold cRep pqv
 dsimp only
 obtain⟨N,hN⟩:∃ N,w.heap.size=N:=⟨_,rfl⟩
 have HND:Kept (N∉[d]∧d∉[N]∧Disj G [N]):=⟨by have:=h.lt;simp;omega,by have:=h.lt;simp;omega,fun g hg hm=>by have:=h.1 g hg;simp at hm;omega⟩
 have HW:=Kept.mk (Nat.le_of_eq hN)
 have B0:Below w.heap.size w (w.alloc (.cells #[.int .i64 0,.int .i64 0] 63)):=(Below.refl _ _).alloc (Nat.le_refl _) _
 have Y:Kept (Blk (w.alloc (.cells #[.int .i64 0,.int .i64 0] 63)) N 63 #[.int .i64 0,.int .i64 0]):=⟨Blk.new_at w _ _ N hN.symm⟩
 have B:Kept (Bar [d] w (w.alloc (.cells #[.int .i64 0,.int .i64 0] 63))):=⟨barOf B0 _⟩
 have KC:=dnum_any _ d G 1 st (h.below B0) hd
 obtain⟨a,ha⟩:∃ a,decNum st 1=a:=⟨_,rfl⟩
 rw[ha] at KC ⊢
 obtain⟨c,hc⟩:∃ c,decNum a.2 2=c:=⟨_,rfl⟩
 rw[hc]
 have HC:=Kept.mk hc
 clear h ha hc B0
 go_enter Tryz.func109,Tryz.ntmps109
 go_upto_region 1 with(fail)
 generalize w.alloc (.cells #[.int .i64 0,.int .i64 0] 63)=w0 at *
 have KK:=Kept.mk KC
 clear KC
 go_wp2_with fail
 refine KK.out.mono ?_
 rintro x w1 ⟨rfl,he,b⟩
 replace B:=Kept.mk (B.out.trans b (fun x hx=>.inl hx))
 replace Y:=Kept.mk (Y.out.bar b HND.out.1)
 have KC:=dnum_any w1 d G 2 a.2 he hd
 rw[HC.out] at KC
 have KK2:=Kept.mk KC
 clear he b KK KC
 go_wp2_with fail
 refine KK2.out.mono ?_
 rintro x w2 ⟨rfl,he,b⟩
 replace B:=Kept.mk (B.out.trans b (fun x hx=>.inl hx))
 replace Y:=Kept.mk (Y.out.bar b HND.out.1)
 have HD:=Kept.mk he
 clear he b KK2
 have c0:w2.cell? ⟨N,0,none⟩=some (.int .i64 0):=Y.out.cell 0;have g0:=Y.out.frozen 0
 have c1:w2.cell? ⟨N,1,none⟩=some (.int .i64 0):=Y.out.cell 1;have g1:=Y.out.frozen 1
 have hbN:Bar [N] w2 ((w2.setCell ⟨N,0,none⟩ (.int .i64 a.1)).setCell ⟨N,1,none⟩ (.int .i64 c.1)):=Bar.setCell (Bar.setCell (Bar.refl _ _) (p:=⟨N,0,none⟩) (.inl (by simp)) _) (p:=⟨N,1,none⟩) (.inl (by simp)) _
 replace Y:Kept (Blk ((w2.setCell ⟨N,0,none⟩ (.int .i64 a.1)).setCell ⟨N,1,none⟩ (.int .i64 c.1)) N 63 #[.int .i64 a.1,.int .i64 c.1]):=⟨Blk.set_ (Blk.set_ Y.out 0 _) 1 _⟩
 replace HD:=Kept.mk (HD.out.keep hbN HND.out.2.1 HND.out.2.2)
 replace B:=Kept.mk (B.out.trans hbN (fun x hx=>.inr (by simp at hx;subst hx;exact HW.out)))
 clear hbN
 go_wp2
 (try simp only[Exit.inBlock,Exit.then])
 refine bodyPost_ret (results_row_tmp rfl _ _ N 63 #[.int .i64 a.1,.int .i64 c.1] (0,0) _ rfl Y.out Tryz.underlying63 rfl crep_size) rfl ?_
 exact⟨rfl,HD.out,B.out⟩
def GetPost {α:Type} (C:α→List Value) (s d:Nat) (G:List Nat) (it:List α × St) (P:Prop) (w:World) (x:Ending) (w':World):Prop :=
 ∃ q A m c,x=.returned (.tuple #[.slice A m c,.bool q])∧m≤c∧c≤9223372036854775807∧(q=true ↔ P)∧Bar [d] w w'∧(∀ b o,A=some ⟨b,o,none⟩→w.heap.size≤b)∧(q=true→Rc C s w' A m it.1∧De 157 w' d G it.2)
theorem decNum_nonneg (st:St) (s:Int):0≤(decNum st s).1:=by
 unfold decNum
 split
 ·split
  ·split
   ·exact Int.natCast_nonneg _
   ·exact Int.le_refl _
  ·exact Int.le_refl _
 ·exact Int.le_refl _
set_option maxRecDepth 100000 in
set_option maxHeartbeats 2000000 in
theorem getallp_any {w:World}{d:Nat}{G:List Nat}{st:St}(h:De 157 w d G st) (hd:d∉G) :
  Calls Tryz.prog 108 #[.pointer (some ⟨d,0,none⟩),.int .i64 1,.int .i64 64,.func (.func 109) #[] #[]] w (GetPost pvC 2 d G (iter cRep (decNum st 1).1.toNat (decNum st 1).2) ((decNum st 1).1≤64) w):=by
 have hby:=h.bytes
 have hbs:=decNum_bytes st 1 hby
 have h0:0≤(decNum st 1).1:=decNum_nonneg st 1
 have KC:=dnum_any w d G 1 st h hd
 have hlt:=h.lt;have hG:=Kept.mk h.1
 clear h hby
 obtain⟨a,ha⟩:∃ a,decNum st 1=a:=⟨_,rfl⟩
 rw[ha] at KC hbs h0 ⊢
 clear ha
 obtain⟨z,s1⟩:=a
 dsimp only at KC hbs h0 ⊢
 obtain⟨n,rfl⟩:∃ n:Nat,z=n:=⟨z.toNat,by omega⟩
 rw[Int.toNat_natCast]
 generalize hP:((n:Int)≤64)=P
 have HP:=Kept.mk hP
 have HBS:=Kept.mk hbs
 clear hP hbs h0
 have KK:=Kept.mk KC
 clear KC
 by_cases hm:(n:Int)≤64
 ·have hnm:n≤400:=by omega
  go_enter Tryz.func108,Tryz.ntmps108
  go_wp2_with fail
  refine KK.out.mono ?_
  rintro x w1 ⟨rfl,he,b⟩
  have B:=Kept.mk b
  have hlt1:d < w1.heap.size:=he.lt
  obtain⟨w2,cs0,hmk,hblk,hcs,b2⟩:=make_rep w1 n hnm
  obtain⟨M,hM⟩:∃ M,w1.heap.size=M:=⟨_,rfl⟩
  have hMw:w.heap.size≤M:=by rw[← hM];exact b.size
  have DM:Kept (M∉[d]∧d∉[M]∧Disj G [M]):=⟨by simp;omega,by simp;omega,fun g hg hm=>by have:=hG.out g hg;simp at hm;omega⟩
  rw[hM] at hmk hblk
  have X:=Kept.mk hblk
  have RP:Kept (RowP pvC 2 n cs0 (iter cRep 0 s1).1):=⟨RowP.new hcs⟩
  have HD:Kept (De 157 w2 d G (iter cRep 0 s1).2):=⟨he.below b2⟩
  replace B:=Kept.mk (B.out.trans (barOf b2 [d]) (fun x hx=>.inl hx))
  have MW:=Kept.mk hMw;have HLN:Kept (∀ k,(iter cRep k s1).1.length=k):=⟨fun k=>iter_len _ k s1⟩
  clear he b KK hblk hcs b2 hlt hM hMw hlt1
  go_wp2
  clear hmk
  go_loopw [24] (fun i wr=>∃ (k:Nat) (cs:Array Value),k≤n∧i=.int .i64 k∧Kept (De 157 wr d G (iter cRep k s1).2)∧Kept (Blk wr M 63 cs)∧Kept (RowP pvC 2 n cs (iter cRep k s1).1)∧Kept (Bar [d] w wr)) (fun i _=>n - (Go.RowKit.intOf i).toNat)
  case atStart=>exact⟨0,cs0,by omega,rfl,HD,X,RP,B⟩
  case round =>
   clear HD X RP B
   obtain⟨k,cs,hk,rfl,HD,X,RP,B⟩:=hrel
   by_cases hkn:k < n
   ·have hkn':(k:Int) < n:=by omega
    have KC:=cgetp_any HD.out hd
    have hit:iter cRep (k+1) s1=((iter cRep k s1).1++[(cRep (iter cRep k s1).2).1],(cRep (iter cRep k s1).2).2):=rfl
    have hin:(cRep (iter cRep k s1).2).1∈(iter cRep n s1).1:=iter_mem cRep s1 hkn
    obtain⟨R,hR⟩:∃ R,cRep (iter cRep k s1).2=R:=⟨_,rfl⟩
    rw[hR] at KC hit hin
    have HIT:=Kept.mk hit;have HIN:=Kept.mk hin
    clear hR hit hin
    obtain⟨R,st2⟩:=R
    obtain⟨code,id⟩:=R
    unfold pqv at KC
    dsimp only at KC HIT HIN
    have KK:=Kept.mk KC
    clear KC
    go_wp2_with fail
    refine KK.out.mono ?_
    rintro x w3 ⟨rfl,he,b⟩
    replace X:=Kept.mk (X.out.bar b DM.out.1)
    replace B:=Kept.mk (B.out.trans b (fun x hx=>.inl hx))
    have hsz:k * 2+2≤cs.size:=by rw[RP.out.size];omega
    obtain⟨u0,c0⟩:∃ u,w3.cell? ⟨M,k * 2,none⟩=some u:=⟨_,(X.out.cell (k * 2)).trans (Array.getElem?_eq_getElem (by omega))⟩
    have f0:=X.out.frozen (k * 2)
    obtain⟨u1,c1⟩:∃ u,w3.cell? ⟨M,k * 2+1,none⟩=some u:=⟨_,(X.out.cell (k * 2+1)).trans (Array.getElem?_eq_getElem (by omega))⟩
    have f1:=X.out.frozen (k * 2+1)
    have RP2:Kept (RowP pvC 2 n ((cs.setIfInBounds (k * 2) (.int .i64 code)).setIfInBounds (k * 2+1) (.int .i64 id)) (iter cRep (k+1) s1).1):=⟨by
     rw[HIT.out]
     refine RP.out.next (HLN.out k) (fun _=>rfl) (by simp) ?_ ?_
     ·intro j v hv
      have hj:j < 2:=(List.getElem?_eq_some_iff.1 hv).1
      have hj2:j=0∨j=1:=by omega
      rcases hj2 with rfl|rfl<;>(simp only[pvC] at hv;simp at hv;subst hv;simp[Array.getElem?_setIfInBounds];try omega)
     ·intro i hi
      simp only[Array.getElem?_setIfInBounds]
      rw[if_neg (by omega)];rw[if_neg (by omega)]⟩
    have hbM:Bar [M] w3 ((w3.setCell ⟨M,k * 2,none⟩ (.int .i64 code)).setCell ⟨M,k * 2+1,none⟩ (.int .i64 id)):=(Bar.setCell (Bar.setCell (Bar.refl _ _) (p:=⟨M,k * 2,none⟩) (.inl (by simp)) (.int .i64 code)) (p:=⟨M,k * 2+1,none⟩) (.inl (by simp)) (.int .i64 id))
    replace X:Kept (Blk ((w3.setCell ⟨M,k * 2,none⟩ (.int .i64 code)).setCell ⟨M,k * 2+1,none⟩ (.int .i64 id)) M 63 ((cs.setIfInBounds (k * 2) (.int .i64 code)).setIfInBounds (k * 2+1) (.int .i64 id))):=⟨(Blk.set_ (Blk.set_ X.out (k * 2) (.int .i64 code)) (k * 2+1) (.int .i64 id))⟩
    have HD2:Kept (De 157 ((w3.setCell ⟨M,k * 2,none⟩ (.int .i64 code)).setCell ⟨M,k * 2+1,none⟩ (.int .i64 id)) d G (iter cRep (k+1) s1).2):=⟨by rw[HIT.out];exact he.keep hbM DM.out.2.1 DM.out.2.2⟩
    replace B:=Kept.mk (B.out.trans hbM (fun x hx=>.inr (by simp at hx;subst hx;exact MW.out)))
    clear he b KK hbM hsz RP HD
    go_wp2
    go_roundw
    case rel=>exact⟨k+1,_,by omega,by go_num,HD2,X,RP2,B⟩
    case measure=>simp[Go.RowKit.intOf];omega
   ·have hkn':¬ (k:Int) < n:=by omega
    obtain rfl:k=n:=by omega
    have YES:Kept P:=⟨by rw[← HP.out];exact hm⟩
    have RC:=Kept.mk (RP.out.read X.out (HLN.out k))
    go_wp2
    go_ret2
    exact⟨true,_,k,k,rfl,Nat.le_refl _,by omega,⟨fun _=>YES.out,fun _=>rfl⟩,B.out,fun b o h=>by injection h with h;injection h with h1;rw[← h1];exact MW.out,fun _=>⟨RC.out,HD.out⟩⟩
 ·have hm2:(64:Int) < n:=by omega
  have NO:Kept (¬ P):=⟨fun h=>by rw[← HP.out] at h;exact hm h⟩
  clear hm
  go_enter Tryz.func108,Tryz.ntmps108
  go_wp2_with fail
  refine KK.out.mono ?_
  rintro x w1 ⟨rfl,he,b⟩
  have B:=Kept.mk b
  clear he b KK
  go_wp2
  go_ret2
  exact⟨false,none,0,0,rfl,Nat.le_refl _,by omega,⟨fun h=>(by cases h),fun h=>(NO.out h).elim⟩,B.out,fun b o h=>(by cases h),fun h=>(by cases h)⟩
set_option maxRecDepth 100000 in
set_option maxHeartbeats 2000000 in
theorem getallv_any {w:World}{d:Nat}{G:List Nat}{st:St}(h:De 157 w d G st) (hd:d∉G) :
  Calls Tryz.prog 110 #[.pointer (some ⟨d,0,none⟩),.int .i64 2,.int .i64 400,.func (.func 111) #[] #[]] w (GetPost vvC 9 d G (iter cEv (decNum st 2).1.toNat (decNum st 2).2) ((decNum st 2).1≤400∧∀ r∈(iter cEv (decNum st 2).1.toNat (decNum st 2).2).1,HoldV r) w):=by
 have hby:=h.bytes
 have hbs:=decNum_bytes st 2 hby
 have h0:0≤(decNum st 2).1:=decNum_nonneg st 2
 have KC:=dnum_any w d G 2 st h hd
 have hlt:=h.lt;have hG:=Kept.mk h.1
 clear h hby
 obtain⟨a,ha⟩:∃ a,decNum st 2=a:=⟨_,rfl⟩
 rw[ha] at KC hbs h0 ⊢
 clear ha
 obtain⟨z,s1⟩:=a
 dsimp only at KC hbs h0 ⊢
 obtain⟨n,rfl⟩:∃ n:Nat,z=n:=⟨z.toNat,by omega⟩
 rw[Int.toNat_natCast]
 generalize hP:((n:Int)≤400∧∀ r∈(iter cEv n s1).1,HoldV r)=P
 have HP:=Kept.mk hP
 have HBS:=Kept.mk hbs
 clear hP hbs h0
 have KK:=Kept.mk KC
 clear KC
 by_cases hm:(n:Int)≤400
 ·have hnm:n≤400:=by omega
  go_enter Tryz.func110,Tryz.ntmps110
  go_wp2_with fail
  refine KK.out.mono ?_
  rintro x w1 ⟨rfl,he,b⟩
  have B:=Kept.mk b
  have hlt1:d < w1.heap.size:=he.lt
  obtain⟨w2,cs0,hmk,hblk,hcs,b2⟩:=make_ev w1 n hnm
  obtain⟨M,hM⟩:∃ M,w1.heap.size=M:=⟨_,rfl⟩
  have hMw:w.heap.size≤M:=by rw[← hM];exact b.size
  have DM:Kept (M∉[d]∧d∉[M]∧Disj G [M]):=⟨by simp;omega,by simp;omega,fun g hg hm=>by have:=hG.out g hg;simp at hm;omega⟩
  rw[hM] at hmk hblk
  have X:=Kept.mk hblk
  have RP:Kept (RowP vvC 9 n cs0 (iter cEv 0 s1).1):=⟨RowP.new hcs⟩
  have HD:Kept (De 157 w2 d G (iter cEv 0 s1).2):=⟨he.below b2⟩
  replace B:=Kept.mk (B.out.trans (barOf b2 [d]) (fun x hx=>.inl hx))
  have MW:=Kept.mk hMw;have HLN:Kept (∀ k,(iter cEv k s1).1.length=k):=⟨fun k=>iter_len _ k s1⟩
  have HH:Kept (∀ r∈(iter cEv 0 s1).1,HoldV r):=⟨by simp[iter]⟩
  clear he b KK hblk hcs b2 hlt hM hMw hlt1
  go_wp2
  clear hmk
  go_loopw [24] (fun i wr=>∃ (k:Nat) (cs:Array Value),k≤n∧i=.int .i64 k∧Kept (De 157 wr d G (iter cEv k s1).2)∧Kept (Blk wr M 71 cs)∧Kept (RowP vvC 9 n cs (iter cEv k s1).1)∧Kept (Bar [d] w wr)∧Kept (∀ r∈(iter cEv k s1).1,HoldV r)) (fun i _=>n - (Go.RowKit.intOf i).toNat)
  case atStart=>exact⟨0,cs0,by omega,rfl,HD,X,RP,B,HH⟩
  case round =>
   clear HD X RP B HH
   obtain⟨k,cs,hk,rfl,HD,X,RP,B,HH⟩:=hrel
   by_cases hkn:k < n
   ·have hkn':(k:Int) < n:=by omega
    have KC:=cgetv_any HD.out hd
    have hit:iter cEv (k+1) s1=((iter cEv k s1).1++[(cEv (iter cEv k s1).2).1],(cEv (iter cEv k s1).2).2):=rfl
    have hin:(cEv (iter cEv k s1).2).1∈(iter cEv n s1).1:=iter_mem cEv s1 hkn
    obtain⟨R,hR⟩:∃ R,cEv (iter cEv k s1).2=R:=⟨_,rfl⟩
    rw[hR] at KC hit hin
    have HIT:=Kept.mk hit;have HIN:=Kept.mk hin
    clear hR hit hin
    obtain⟨R,st2⟩:=R
    obtain⟨kind,src,dst,asset,amount,id,due,hash,sec⟩:=R
    unfold vqv at KC
    dsimp only at KC HIT HIN
    have KK:=Kept.mk KC
    clear KC
    by_cases hh:HoldV ⟨kind,src,dst,asset,amount,id,due,hash,sec⟩
    ·have KD:=KK.out
     rw[decide_eq_true hh] at KD
     replace KK:=Kept.mk KD
     have HH2:Kept (∀ r∈(iter cEv (k+1) s1).1,HoldV r):=⟨by
      rw[HIT.out]
      intro y hy
      rcases List.mem_append.1 hy with hy|hy
      ·exact HH.out y hy
      ·rw[List.mem_singleton] at hy;subst hy;exact hh⟩
     clear KD hh HIN
     go_wp2_with fail
     refine KK.out.mono ?_
     rintro x w3 ⟨rfl,-,he,b⟩
     replace X:=Kept.mk (X.out.bar b DM.out.1)
     replace B:=Kept.mk (B.out.trans b (fun x hx=>.inl hx))
     have hsz:k * 9+9≤cs.size:=by rw[RP.out.size];omega
     obtain⟨u0,c0⟩:∃ u,w3.cell? ⟨M,k * 9,none⟩=some u:=⟨_,(X.out.cell (k * 9)).trans (Array.getElem?_eq_getElem (by omega))⟩
     have f0:=X.out.frozen (k * 9)
     obtain⟨u1,c1⟩:∃ u,w3.cell? ⟨M,k * 9+1,none⟩=some u:=⟨_,(X.out.cell (k * 9+1)).trans (Array.getElem?_eq_getElem (by omega))⟩
     have f1:=X.out.frozen (k * 9+1)
     obtain⟨u2,c2⟩:∃ u,w3.cell? ⟨M,k * 9+2,none⟩=some u:=⟨_,(X.out.cell (k * 9+2)).trans (Array.getElem?_eq_getElem (by omega))⟩
     have f2:=X.out.frozen (k * 9+2)
     obtain⟨u3,c3⟩:∃ u,w3.cell? ⟨M,k * 9+3,none⟩=some u:=⟨_,(X.out.cell (k * 9+3)).trans (Array.getElem?_eq_getElem (by omega))⟩
     have f3:=X.out.frozen (k * 9+3)
     obtain⟨u4,c4⟩:∃ u,w3.cell? ⟨M,k * 9+4,none⟩=some u:=⟨_,(X.out.cell (k * 9+4)).trans (Array.getElem?_eq_getElem (by omega))⟩
     have f4:=X.out.frozen (k * 9+4)
     obtain⟨u5,c5⟩:∃ u,w3.cell? ⟨M,k * 9+5,none⟩=some u:=⟨_,(X.out.cell (k * 9+5)).trans (Array.getElem?_eq_getElem (by omega))⟩
     have f5:=X.out.frozen (k * 9+5)
     obtain⟨u6,c6⟩:∃ u,w3.cell? ⟨M,k * 9+6,none⟩=some u:=⟨_,(X.out.cell (k * 9+6)).trans (Array.getElem?_eq_getElem (by omega))⟩
     have f6:=X.out.frozen (k * 9+6)
     obtain⟨u7,c7⟩:∃ u,w3.cell? ⟨M,k * 9+7,none⟩=some u:=⟨_,(X.out.cell (k * 9+7)).trans (Array.getElem?_eq_getElem (by omega))⟩
     have f7:=X.out.frozen (k * 9+7)
     obtain⟨u8,c8⟩:∃ u,w3.cell? ⟨M,k * 9+8,none⟩=some u:=⟨_,(X.out.cell (k * 9+8)).trans (Array.getElem?_eq_getElem (by omega))⟩
     have f8:=X.out.frozen (k * 9+8)
     have RP2:Kept (RowP vvC 9 n (((((((((cs.setIfInBounds (k * 9) (.int .i64 kind)).setIfInBounds (k * 9+1) (.int .i64 src)).setIfInBounds (k * 9+2) (.int .i64 dst)).setIfInBounds (k * 9+3) (.int .i64 asset)).setIfInBounds (k * 9+4) (.int .i64 amount)).setIfInBounds (k * 9+5) (.int .i64 id)).setIfInBounds (k * 9+6) (.int .i64 due)).setIfInBounds (k * 9+7) (.string (strOfNums hash))).setIfInBounds (k * 9+8) (.string (strOfNums sec))) (iter cEv (k+1) s1).1):=⟨by
      rw[HIT.out]
      refine RP.out.next (HLN.out k) (fun _=>rfl) (by simp) ?_ ?_
      ·intro j v hv
       have hj:j < 9:=(List.getElem?_eq_some_iff.1 hv).1
       have hj2:j=0∨j=1∨j=2∨j=3∨j=4∨j=5∨j=6∨j=7∨j=8:=by omega
       rcases hj2 with rfl|rfl|rfl|rfl|rfl|rfl|rfl|rfl|rfl<;>(simp only[vvC] at hv;simp at hv;subst hv;simp[Array.getElem?_setIfInBounds];try omega)
      ·intro i hi
       simp only[Array.getElem?_setIfInBounds]
       rw[if_neg (by omega)];rw[if_neg (by omega)];rw[if_neg (by omega)];rw[if_neg (by omega)];rw[if_neg (by omega)];rw[if_neg (by omega)];rw[if_neg (by omega)];rw[if_neg (by omega)];rw[if_neg (by omega)]⟩
     have hbM:Bar [M] w3 (((((((((w3.setCell ⟨M,k * 9,none⟩ (.int .i64 kind)).setCell ⟨M,k * 9+1,none⟩ (.int .i64 src)).setCell ⟨M,k * 9+2,none⟩ (.int .i64 dst)).setCell ⟨M,k * 9+3,none⟩ (.int .i64 asset)).setCell ⟨M,k * 9+4,none⟩ (.int .i64 amount)).setCell ⟨M,k * 9+5,none⟩ (.int .i64 id)).setCell ⟨M,k * 9+6,none⟩ (.int .i64 due)).setCell ⟨M,k * 9+7,none⟩ (.string (strOfNums hash))).setCell ⟨M,k * 9+8,none⟩ (.string (strOfNums sec))):=(Bar.setCell (Bar.setCell (Bar.setCell (Bar.setCell (Bar.setCell (Bar.setCell (Bar.setCell (Bar.setCell (Bar.setCell (Bar.refl _ _) (p:=⟨M,k * 9,none⟩) (.inl (by simp)) (.int .i64 kind)) (p:=⟨M,k * 9+1,none⟩) (.inl (by simp)) (.int .i64 src)) (p:=⟨M,k * 9+2,none⟩) (.inl (by simp)) (.int .i64 dst)) (p:=⟨M,k * 9+3,none⟩) (.inl (by simp)) (.int .i64 asset)) (p:=⟨M,k * 9+4,none⟩) (.inl (by simp)) (.int .i64 amount)) (p:=⟨M,k * 9+5,none⟩) (.inl (by simp)) (.int .i64 id)) (p:=⟨M,k * 9+6,none⟩) (.inl (by simp)) (.int .i64 due)) (p:=⟨M,k * 9+7,none⟩) (.inl (by simp)) (.string (strOfNums hash))) (p:=⟨M,k * 9+8,none⟩) (.inl (by simp)) (.string (strOfNums sec)))
     replace X:Kept (Blk (((((((((w3.setCell ⟨M,k * 9,none⟩ (.int .i64 kind)).setCell ⟨M,k * 9+1,none⟩ (.int .i64 src)).setCell ⟨M,k * 9+2,none⟩ (.int .i64 dst)).setCell ⟨M,k * 9+3,none⟩ (.int .i64 asset)).setCell ⟨M,k * 9+4,none⟩ (.int .i64 amount)).setCell ⟨M,k * 9+5,none⟩ (.int .i64 id)).setCell ⟨M,k * 9+6,none⟩ (.int .i64 due)).setCell ⟨M,k * 9+7,none⟩ (.string (strOfNums hash))).setCell ⟨M,k * 9+8,none⟩ (.string (strOfNums sec))) M 71 (((((((((cs.setIfInBounds (k * 9) (.int .i64 kind)).setIfInBounds (k * 9+1) (.int .i64 src)).setIfInBounds (k * 9+2) (.int .i64 dst)).setIfInBounds (k * 9+3) (.int .i64 asset)).setIfInBounds (k * 9+4) (.int .i64 amount)).setIfInBounds (k * 9+5) (.int .i64 id)).setIfInBounds (k * 9+6) (.int .i64 due)).setIfInBounds (k * 9+7) (.string (strOfNums hash))).setIfInBounds (k * 9+8) (.string (strOfNums sec)))):=⟨(Blk.set_ (Blk.set_ (Blk.set_ (Blk.set_ (Blk.set_ (Blk.set_ (Blk.set_ (Blk.set_ (Blk.set_ X.out (k * 9) (.int .i64 kind)) (k * 9+1) (.int .i64 src)) (k * 9+2) (.int .i64 dst)) (k * 9+3) (.int .i64 asset)) (k * 9+4) (.int .i64 amount)) (k * 9+5) (.int .i64 id)) (k * 9+6) (.int .i64 due)) (k * 9+7) (.string (strOfNums hash))) (k * 9+8) (.string (strOfNums sec)))⟩
     have HD2:Kept (De 157 (((((((((w3.setCell ⟨M,k * 9,none⟩ (.int .i64 kind)).setCell ⟨M,k * 9+1,none⟩ (.int .i64 src)).setCell ⟨M,k * 9+2,none⟩ (.int .i64 dst)).setCell ⟨M,k * 9+3,none⟩ (.int .i64 asset)).setCell ⟨M,k * 9+4,none⟩ (.int .i64 amount)).setCell ⟨M,k * 9+5,none⟩ (.int .i64 id)).setCell ⟨M,k * 9+6,none⟩ (.int .i64 due)).setCell ⟨M,k * 9+7,none⟩ (.string (strOfNums hash))).setCell ⟨M,k * 9+8,none⟩ (.string (strOfNums sec))) d G (iter cEv (k+1) s1).2):=⟨by rw[HIT.out];exact he.keep hbM DM.out.2.1 DM.out.2.2⟩
     replace B:=Kept.mk (B.out.trans hbM (fun x hx=>.inr (by simp at hx;subst hx;exact MW.out)))
     clear he b KK hbM hsz RP HD
     go_wp2
     go_roundw
     case rel=>exact⟨k+1,_,by omega,by go_num,HD2,X,RP2,B,HH2⟩
     case measure=>simp[Go.RowKit.intOf];omega
    ·have KD:=KK.out
     rw[decide_eq_false hh] at KD
     replace KK:=Kept.mk KD
     have NO:Kept (¬ P):=⟨fun h=>by rw[← HP.out] at h;exact hh (h.2 _ HIN.out)⟩
     clear KD hh HIN
     go_wp2_with fail
     refine KK.out.mono ?_
     rintro x w3 ⟨rfl,-,he,b⟩
     replace X:=Kept.mk (X.out.bar b DM.out.1)
     replace B:=Kept.mk (B.out.trans b (fun x hx=>.inl hx))
     have hsz:k * 9+9≤cs.size:=by rw[RP.out.size];omega
     obtain⟨u0,c0⟩:∃ u,w3.cell? ⟨M,k * 9,none⟩=some u:=⟨_,(X.out.cell (k * 9)).trans (Array.getElem?_eq_getElem (by omega))⟩
     have f0:=X.out.frozen (k * 9)
     obtain⟨u1,c1⟩:∃ u,w3.cell? ⟨M,k * 9+1,none⟩=some u:=⟨_,(X.out.cell (k * 9+1)).trans (Array.getElem?_eq_getElem (by omega))⟩
     have f1:=X.out.frozen (k * 9+1)
     obtain⟨u2,c2⟩:∃ u,w3.cell? ⟨M,k * 9+2,none⟩=some u:=⟨_,(X.out.cell (k * 9+2)).trans (Array.getElem?_eq_getElem (by omega))⟩
     have f2:=X.out.frozen (k * 9+2)
     obtain⟨u3,c3⟩:∃ u,w3.cell? ⟨M,k * 9+3,none⟩=some u:=⟨_,(X.out.cell (k * 9+3)).trans (Array.getElem?_eq_getElem (by omega))⟩
     have f3:=X.out.frozen (k * 9+3)
     obtain⟨u4,c4⟩:∃ u,w3.cell? ⟨M,k * 9+4,none⟩=some u:=⟨_,(X.out.cell (k * 9+4)).trans (Array.getElem?_eq_getElem (by omega))⟩
     have f4:=X.out.frozen (k * 9+4)
     obtain⟨u5,c5⟩:∃ u,w3.cell? ⟨M,k * 9+5,none⟩=some u:=⟨_,(X.out.cell (k * 9+5)).trans (Array.getElem?_eq_getElem (by omega))⟩
     have f5:=X.out.frozen (k * 9+5)
     obtain⟨u6,c6⟩:∃ u,w3.cell? ⟨M,k * 9+6,none⟩=some u:=⟨_,(X.out.cell (k * 9+6)).trans (Array.getElem?_eq_getElem (by omega))⟩
     have f6:=X.out.frozen (k * 9+6)
     obtain⟨u7,c7⟩:∃ u,w3.cell? ⟨M,k * 9+7,none⟩=some u:=⟨_,(X.out.cell (k * 9+7)).trans (Array.getElem?_eq_getElem (by omega))⟩
     have f7:=X.out.frozen (k * 9+7)
     obtain⟨u8,c8⟩:∃ u,w3.cell? ⟨M,k * 9+8,none⟩=some u:=⟨_,(X.out.cell (k * 9+8)).trans (Array.getElem?_eq_getElem (by omega))⟩
     have f8:=X.out.frozen (k * 9+8)
     have RP2:Kept (RowP vvC 9 n (((((((((cs.setIfInBounds (k * 9) (.int .i64 kind)).setIfInBounds (k * 9+1) (.int .i64 src)).setIfInBounds (k * 9+2) (.int .i64 dst)).setIfInBounds (k * 9+3) (.int .i64 asset)).setIfInBounds (k * 9+4) (.int .i64 amount)).setIfInBounds (k * 9+5) (.int .i64 id)).setIfInBounds (k * 9+6) (.int .i64 due)).setIfInBounds (k * 9+7) (.string (strOfNums hash))).setIfInBounds (k * 9+8) (.string (strOfNums sec))) (iter cEv (k+1) s1).1):=⟨by
      rw[HIT.out]
      refine RP.out.next (HLN.out k) (fun _=>rfl) (by simp) ?_ ?_
      ·intro j v hv
       have hj:j < 9:=(List.getElem?_eq_some_iff.1 hv).1
       have hj2:j=0∨j=1∨j=2∨j=3∨j=4∨j=5∨j=6∨j=7∨j=8:=by omega
       rcases hj2 with rfl|rfl|rfl|rfl|rfl|rfl|rfl|rfl|rfl<;>(simp only[vvC] at hv;simp at hv;subst hv;simp[Array.getElem?_setIfInBounds];try omega)
      ·intro i hi
       simp only[Array.getElem?_setIfInBounds]
       rw[if_neg (by omega)];rw[if_neg (by omega)];rw[if_neg (by omega)];rw[if_neg (by omega)];rw[if_neg (by omega)];rw[if_neg (by omega)];rw[if_neg (by omega)];rw[if_neg (by omega)];rw[if_neg (by omega)]⟩
     have hbM:Bar [M] w3 (((((((((w3.setCell ⟨M,k * 9,none⟩ (.int .i64 kind)).setCell ⟨M,k * 9+1,none⟩ (.int .i64 src)).setCell ⟨M,k * 9+2,none⟩ (.int .i64 dst)).setCell ⟨M,k * 9+3,none⟩ (.int .i64 asset)).setCell ⟨M,k * 9+4,none⟩ (.int .i64 amount)).setCell ⟨M,k * 9+5,none⟩ (.int .i64 id)).setCell ⟨M,k * 9+6,none⟩ (.int .i64 due)).setCell ⟨M,k * 9+7,none⟩ (.string (strOfNums hash))).setCell ⟨M,k * 9+8,none⟩ (.string (strOfNums sec))):=(Bar.setCell (Bar.setCell (Bar.setCell (Bar.setCell (Bar.setCell (Bar.setCell (Bar.setCell (Bar.setCell (Bar.setCell (Bar.refl _ _) (p:=⟨M,k * 9,none⟩) (.inl (by simp)) (.int .i64 kind)) (p:=⟨M,k * 9+1,none⟩) (.inl (by simp)) (.int .i64 src)) (p:=⟨M,k * 9+2,none⟩) (.inl (by simp)) (.int .i64 dst)) (p:=⟨M,k * 9+3,none⟩) (.inl (by simp)) (.int .i64 asset)) (p:=⟨M,k * 9+4,none⟩) (.inl (by simp)) (.int .i64 amount)) (p:=⟨M,k * 9+5,none⟩) (.inl (by simp)) (.int .i64 id)) (p:=⟨M,k * 9+6,none⟩) (.inl (by simp)) (.int .i64 due)) (p:=⟨M,k * 9+7,none⟩) (.inl (by simp)) (.string (strOfNums hash))) (p:=⟨M,k * 9+8,none⟩) (.inl (by simp)) (.string (strOfNums sec)))
     replace X:Kept (Blk (((((((((w3.setCell ⟨M,k * 9,none⟩ (.int .i64 kind)).setCell ⟨M,k * 9+1,none⟩ (.int .i64 src)).setCell ⟨M,k * 9+2,none⟩ (.int .i64 dst)).setCell ⟨M,k * 9+3,none⟩ (.int .i64 asset)).setCell ⟨M,k * 9+4,none⟩ (.int .i64 amount)).setCell ⟨M,k * 9+5,none⟩ (.int .i64 id)).setCell ⟨M,k * 9+6,none⟩ (.int .i64 due)).setCell ⟨M,k * 9+7,none⟩ (.string (strOfNums hash))).setCell ⟨M,k * 9+8,none⟩ (.string (strOfNums sec))) M 71 (((((((((cs.setIfInBounds (k * 9) (.int .i64 kind)).setIfInBounds (k * 9+1) (.int .i64 src)).setIfInBounds (k * 9+2) (.int .i64 dst)).setIfInBounds (k * 9+3) (.int .i64 asset)).setIfInBounds (k * 9+4) (.int .i64 amount)).setIfInBounds (k * 9+5) (.int .i64 id)).setIfInBounds (k * 9+6) (.int .i64 due)).setIfInBounds (k * 9+7) (.string (strOfNums hash))).setIfInBounds (k * 9+8) (.string (strOfNums sec)))):=⟨(Blk.set_ (Blk.set_ (Blk.set_ (Blk.set_ (Blk.set_ (Blk.set_ (Blk.set_ (Blk.set_ (Blk.set_ X.out (k * 9) (.int .i64 kind)) (k * 9+1) (.int .i64 src)) (k * 9+2) (.int .i64 dst)) (k * 9+3) (.int .i64 asset)) (k * 9+4) (.int .i64 amount)) (k * 9+5) (.int .i64 id)) (k * 9+6) (.int .i64 due)) (k * 9+7) (.string (strOfNums hash))) (k * 9+8) (.string (strOfNums sec)))⟩
     have HD2:Kept (De 157 (((((((((w3.setCell ⟨M,k * 9,none⟩ (.int .i64 kind)).setCell ⟨M,k * 9+1,none⟩ (.int .i64 src)).setCell ⟨M,k * 9+2,none⟩ (.int .i64 dst)).setCell ⟨M,k * 9+3,none⟩ (.int .i64 asset)).setCell ⟨M,k * 9+4,none⟩ (.int .i64 amount)).setCell ⟨M,k * 9+5,none⟩ (.int .i64 id)).setCell ⟨M,k * 9+6,none⟩ (.int .i64 due)).setCell ⟨M,k * 9+7,none⟩ (.string (strOfNums hash))).setCell ⟨M,k * 9+8,none⟩ (.string (strOfNums sec))) d G (iter cEv (k+1) s1).2):=⟨by rw[HIT.out];exact he.keep hbM DM.out.2.1 DM.out.2.2⟩
     replace B:=Kept.mk (B.out.trans hbM (fun x hx=>.inr (by simp at hx;subst hx;exact MW.out)))
     clear he b KK hbM hsz RP HD
     go_wp2
     go_ret2
     exact⟨false,none,0,0,rfl,Nat.le_refl _,by omega,⟨fun h=>(by cases h),fun h=>(NO.out h).elim⟩,B.out,fun b o h=>(by cases h),fun h=>(by cases h)⟩
   ·have hkn':¬ (k:Int) < n:=by omega
    obtain rfl:k=n:=by omega
    have YES:Kept P:=⟨by rw[← HP.out];exact⟨hm,HH.out⟩⟩
    have RC:=Kept.mk (RP.out.read X.out (HLN.out k))
    go_wp2
    go_ret2
    exact⟨true,_,k,k,rfl,Nat.le_refl _,by omega,⟨fun _=>YES.out,fun _=>rfl⟩,B.out,fun b o h=>by injection h with h;injection h with h1;rw[← h1];exact MW.out,fun _=>⟨RC.out,HD.out⟩⟩
 ·have hm2:(400:Int) < n:=by omega
  have NO:Kept (¬ P):=⟨fun h=>by rw[← HP.out] at h;exact hm h.1⟩
  clear hm
  go_enter Tryz.func110,Tryz.ntmps110
  go_wp2_with fail
  refine KK.out.mono ?_
  rintro x w1 ⟨rfl,he,b⟩
  have B:=Kept.mk b
  clear he b KK
  go_wp2
  go_ret2
  exact⟨false,none,0,0,rfl,Nat.le_refl _,by omega,⟨fun h=>(by cases h),fun h=>(NO.out h).elim⟩,B.out,fun b o h=>(by cases h),fun h=>(by cases h)⟩
end Go.Proofs.YtchcgoabogcabaaGreat.Req
namespace Go.Proofs.YtchcgoabogcabaaGreat.Req
open Go.RowKit Go.Proofs.YtchcgoabogcabaaGreat.Sha Go.Proofs.YtchcgoabogcabaaGreat.Wire Go.Proofs.YtchcgoabogcabaaGreat.Num
theorem canswer_size:(Tryz.prog.info? 59).map (·.size)=some 4:=by kernel_rfl
set_option maxRecDepth 100000 in
set_option maxHeartbeats 3000000 in
theorem cdeca_any {A:Option Addr}{n c:Nat}{b:List Int}{w:World}(hr:Rd w A n b) (hn:n≤100000):Calls Tryz.prog 85 #[.slice A n c] w (DecAPost b w):=by
 have hby:=hr.2.1
 have DY:Kept (DecAC b→DecA b 0 ⟨(decNum (0,b) 8).1,(decNum (decNum (0,b) 8).2 2).1,(dA2 b).1,(dA4 b).1⟩):=⟨decA_yes hby⟩
 have DN:Kept (¬ DecAC b→DecA b 2 ⟨0,0,[],[]⟩):=⟨decA_no hby⟩
 have b0:=decNum_bytes (0,b) 8 hby
 have b1:Bytes (dA0 b).2:=decNum_bytes _ 2 b0
 have b2:Bytes (dA1 b).2.2:=decNum_bytes _ 1 b1
 have b3:Bytes (dA2 b).2.2:=(rep_way.iter _ _ b2).1
 have b4:Bytes (dA3 b).2.2:=decNum_bytes _ 2 b3
 have OK:Kept (∀ r∈(dA4 b).1,r.ok):=⟨(iter_all ev_rest cEv_ok _ _ b4).2⟩
 have DI:Kept (DecAC b ↔ Tck (decNum (0,b) 8).1∧(dA1 b).1≤64∧((dA3 b).1≤400∧∀ r∈(dA4 b).1,HoldV r)∧endOf (dA4 b).2=0):=⟨⟨fun h=>⟨h.1,h.2.1,⟨h.2.2.1,h.2.2.2.1⟩,h.2.2.2.2⟩,fun h=>⟨h.1,h.2.1,h.2.2.1.1,h.2.2.1.2,h.2.2.2⟩⟩⟩
 clear b0 b1 b2 b3 b4 hby
 generalize DecAC b=Q at *
 have E2:Kept (dA2 b=iter cRep (decNum (decNum (decNum (0,b) 8).2 2).2 1).1.toNat (decNum (decNum (decNum (0,b) 8).2 2).2 1).2):=⟨rfl⟩
 have E1:Kept (dA1 b=decNum (decNum (decNum (0,b) 8).2 2).2 1):=⟨rfl⟩
 have E4:Kept (dA4 b=iter cEv (decNum (dA2 b).2 2).1.toNat (decNum (dA2 b).2 2).2):=⟨rfl⟩
 have E3:Kept (dA3 b=decNum (dA2 b).2 2):=⟨rfl⟩
 generalize dA1 b=a1 at *
 generalize dA2 b=a2 at *
 generalize dA3 b=a3 at *
 generalize dA4 b=a4 at *
 obtain⟨N,hN⟩:∃ N,w.heap.size=N:=⟨_,rfl⟩
 have HN:=Kept.mk hN
 have B0:Below N w (w.alloc (.cells #[.int .i64 0,.int .i64 0,.slice none 0 0,.slice none 0 0] 59)):=(Below.refl _ _).alloc (by omega) _
 have Y:Kept (Blk (w.alloc (.cells #[.int .i64 0,.int .i64 0,.slice none 0 0,.slice none 0 0] 59)) N 59 #[.int .i64 0,.int .i64 0,.slice none 0 0,.slice none 0 0]):=⟨Blk.new_at w _ _ N hN.symm⟩
 have KN:=newdec_any A n c b (w.alloc (.cells #[.int .i64 0,.int .i64 0,.slice none 0 0,.slice none 0 0] 59)) (hr.below (hN▸B0)) (by omega)
 have B:=Kept.mk B0
 clear B0 hr
 go_enter Tryz.func85,Tryz.ntmps85
 go_upto_region 1 with(fail)
 generalize w.alloc (.cells #[.int .i64 0,.int .i64 0,.slice none 0 0,.slice none 0 0] 59)=w0 at *
 have KK:=Kept.mk KN
 clear KN
 go_wp2_with fail
 refine KK.out.mono ?_
 rintro x w1 ⟨d,G,rfl,he,hd1,-,hd,b1⟩
 have hNw:=Y.out.lt
 have hNd:N∉[d]:=by simp;omega
 have HND:=Kept.mk hNd
 have DNX:Kept (N≤d):=⟨by omega⟩
 replace Y:=Kept.mk (Y.out.below b1 hNw)
 replace B:=Kept.mk (B.out.trans (b1.mono (by omega)))
 have KC:=dnum_any w1 d G 8 (0,b) he hd
 obtain⟨s8,hs8⟩:∃ s,decNum (0,b) 8=s:=⟨_,rfl⟩
 rw[hs8] at KC DY DI E1 E2
 have KD:=Kept.mk KC
 clear he b1 hNd KK KC hd1 hNw hs8
 go_wp2_with fail
 refine KD.out.mono ?_
 rintro x w2 ⟨rfl,he,b2⟩
 replace Y:=Kept.mk (Y.out.bar b2 HND.out)
 replace B:=Kept.mk (B.out.trans (b2.below (by have:=B.out.size;have:=HN.out;omega) (by simpa using DNX.out)))
 have KC:=dnum_any w2 d G 2 s8.2 he hd
 obtain⟨s2,hs2⟩:∃ s,decNum s8.2 2=s:=⟨_,rfl⟩
 rw[hs2] at KC DY E1 E2
 have KD2:=Kept.mk KC
 clear he b2 KC KD hs2
 go_wp2_with fail
 refine KD2.out.mono ?_
 rintro x w3 ⟨rfl,he,b3⟩
 replace Y:=Kept.mk (Y.out.bar b3 HND.out)
 replace B:=Kept.mk (B.out.trans (b3.below (by have:=B.out.size;have:=HN.out;omega) (by simpa using DNX.out)))
 have KT:=Kept.mk (fun w=>tick_any s8.1 w)
 rw[ctick_iff] at KT
 have KP:=getallp_any he hd
 rw[← E1.out] at KP
 have E2':=E2.out
 rw[← E1.out] at E2'
 rw[← E2'] at KP
 have KA:=Kept.mk KP
 unfold GetPost at KA
 have DLT:Kept (d < w3.heap.size):=⟨he.lt⟩
 clear b3 KD2 he KP E2' E2 E1
 by_cases hc:Tck s8.1
 ·rw[decide_eq_true hc] at KT
  go_wp2_with (go_at_call 69;refine(KT.out _).mono ?_;rintro x w' ⟨rfl,rfl⟩)
  refine KA.out.mono ?_
  rintro x w4 ⟨q,A4,m4,c4,rfl,hm4,hc4,hq,b4,hnew,hres⟩
  have hdw:N < w3.heap.size:=Y.out.lt
  have AN:Kept (∀ o,A4≠some ⟨N,o,none⟩):=⟨fun o ho=>by have:=hnew N o ho;omega⟩
  replace Y:=Kept.mk (Y.out.bar b4 HND.out)
  replace B:=Kept.mk (B.out.trans (b4.below (by have:=B.out.size;have:=HN.out;omega) (by simpa using DNX.out)))
  cases q with
  | false =>
   have DB:=Kept.mk (DN.out (fun h=>by have:=hq.2 (DI.out.1 h).2.1;cases this))
   clear hq hres hm4 hc4 hnew b4 KA hdw
   have P2:Kept (Blk ((((w4.setCell ⟨N,0,none⟩ (.int .i64 0)).setCell ⟨N,1,none⟩ (.int .i64 0)).setCell ⟨N,2,none⟩ (.slice none 0 0)).setCell ⟨N,3,none⟩ (.slice none 0 0)) N 59 #[.int .i64 0,.int .i64 0,.slice none 0 0,.slice none 0 0]):=⟨(Blk.set_ (Blk.set_ (Blk.set_ (Blk.set_ Y.out 0 (.int .i64 0)) 1 (.int .i64 0)) 2 (.slice none 0 0)) 3 (.slice none 0 0))⟩
   have PB:Kept (Bar [N] w4 ((((w4.setCell ⟨N,0,none⟩ (.int .i64 0)).setCell ⟨N,1,none⟩ (.int .i64 0)).setCell ⟨N,2,none⟩ (.slice none 0 0)).setCell ⟨N,3,none⟩ (.slice none 0 0))):=⟨(Bar.setCell (Bar.setCell (Bar.setCell (Bar.setCell (Bar.refl [N] w4) (p:=⟨N,0,none⟩) (.inl (by simp)) (.int .i64 0)) (p:=⟨N,1,none⟩) (.inl (by simp)) (.int .i64 0)) (p:=⟨N,2,none⟩) (.inl (by simp)) (.slice none 0 0)) (p:=⟨N,3,none⟩) (.inl (by simp)) (.slice none 0 0))⟩
   have BE:Kept (Below w.heap.size w ((((w4.setCell ⟨N,0,none⟩ (.int .i64 0)).setCell ⟨N,1,none⟩ (.int .i64 0)).setCell ⟨N,2,none⟩ (.slice none 0 0)).setCell ⟨N,3,none⟩ (.slice none 0 0))):=⟨by rw[HN.out];exact B.out.trans (PB.out.below (by have:=B.out.size;have:=HN.out;omega) (by simp))⟩
   have y0:w4.cell? ⟨N,0,none⟩=some (.int .i64 0):=Y.out.cell 0;have y1:w4.cell? ⟨N,1,none⟩=some (.int .i64 0):=Y.out.cell 1;have y2:w4.cell? ⟨N,2,none⟩=some (.slice none 0 0):=Y.out.cell 2;have y3:w4.cell? ⟨N,3,none⟩=some (.slice none 0 0):=Y.out.cell 3
   have z0:=Y.out.frozen 0;have z1:=Y.out.frozen 1;have z2:=Y.out.frozen 2;have z3:=Y.out.frozen 3
   go_wp2
   (try simp only[Exit.inBlock,Exit.then])
   refine bodyPost_ret (results_row_tmp rfl _ _ N 59 #[.int .i64 0,.int .i64 0,.slice none 0 0,.slice none 0 0] (0,0) _ rfl P2.out Tryz.underlying59 rfl canswer_size) rfl ?_
   exact⟨2,0,0,none,0,0,[],none,0,0,[],rfl,Nat.le_refl _,by omega,Nat.le_refl _,by omega,Rc.nil,Rc.nil,by simp,DB.out,BE.out⟩
  | true =>
   obtain⟨rc,hde⟩:=hres rfl
   have HP:=Kept.mk (hq.1 rfl)
   have HDD:=hde.lt
   have AD:Kept (∀ o,A4≠some ⟨d,o,none⟩):=⟨fun o ho=>by have h1:=hnew d o ho;have h2:=DLT.out;omega⟩
   have RC:=Kept.mk rc
   have HM4:=Kept.mk hm4;have HC4:=Kept.mk hc4
   have KP:=getallv_any hde hd
   rw[← E3.out] at KP
   have E4':=E4.out
   rw[← E3.out] at E4'
   rw[← E4'] at KP
   have KB:=Kept.mk KP
   unfold GetPost at KB
   clear rc hde hq hres hm4 hc4 hnew b4 KA hdw KP E4' E4 E3 HDD
   go_wp2_with fail
   refine KB.out.mono ?_
   rintro x w5 ⟨q,A5,m5,c5,rfl,hm5,hc5,hq,b5,hnew,hres⟩
   have AN5:Kept (∀ o,A5≠some ⟨N,o,none⟩):=⟨fun o ho=>by have:=hnew N o ho;have:=Y.out.lt;omega⟩
   replace Y:=Kept.mk (Y.out.bar b5 HND.out)
   replace B:=Kept.mk (B.out.trans (b5.below (by have:=B.out.size;have:=HN.out;omega) (by simpa using DNX.out)))
   replace RC:=Kept.mk (RC.out.bar b5 (fun x hx=>.inr (fun o ho=>by rw[List.mem_singleton] at hx;subst hx;exact AD.out o ho)))
   cases q with
   | false =>
    have DB:=Kept.mk (DN.out (fun h=>by have:=hq.2 (DI.out.1 h).2.2.1;cases this))
    clear hq hres hm5 hc5 hnew b5 KB
    have P2:Kept (Blk ((((w5.setCell ⟨N,0,none⟩ (.int .i64 0)).setCell ⟨N,1,none⟩ (.int .i64 0)).setCell ⟨N,2,none⟩ (.slice none 0 0)).setCell ⟨N,3,none⟩ (.slice none 0 0)) N 59 #[.int .i64 0,.int .i64 0,.slice none 0 0,.slice none 0 0]):=⟨(Blk.set_ (Blk.set_ (Blk.set_ (Blk.set_ Y.out 0 (.int .i64 0)) 1 (.int .i64 0)) 2 (.slice none 0 0)) 3 (.slice none 0 0))⟩
    have PB:Kept (Bar [N] w5 ((((w5.setCell ⟨N,0,none⟩ (.int .i64 0)).setCell ⟨N,1,none⟩ (.int .i64 0)).setCell ⟨N,2,none⟩ (.slice none 0 0)).setCell ⟨N,3,none⟩ (.slice none 0 0))):=⟨(Bar.setCell (Bar.setCell (Bar.setCell (Bar.setCell (Bar.refl [N] w5) (p:=⟨N,0,none⟩) (.inl (by simp)) (.int .i64 0)) (p:=⟨N,1,none⟩) (.inl (by simp)) (.int .i64 0)) (p:=⟨N,2,none⟩) (.inl (by simp)) (.slice none 0 0)) (p:=⟨N,3,none⟩) (.inl (by simp)) (.slice none 0 0))⟩
    have BE:Kept (Below w.heap.size w ((((w5.setCell ⟨N,0,none⟩ (.int .i64 0)).setCell ⟨N,1,none⟩ (.int .i64 0)).setCell ⟨N,2,none⟩ (.slice none 0 0)).setCell ⟨N,3,none⟩ (.slice none 0 0))):=⟨by rw[HN.out];exact B.out.trans (PB.out.below (by have:=B.out.size;have:=HN.out;omega) (by simp))⟩
    have y0:w5.cell? ⟨N,0,none⟩=some (.int .i64 0):=Y.out.cell 0;have y1:w5.cell? ⟨N,1,none⟩=some (.int .i64 0):=Y.out.cell 1;have y2:w5.cell? ⟨N,2,none⟩=some (.slice none 0 0):=Y.out.cell 2;have y3:w5.cell? ⟨N,3,none⟩=some (.slice none 0 0):=Y.out.cell 3
    have z0:=Y.out.frozen 0;have z1:=Y.out.frozen 1;have z2:=Y.out.frozen 2;have z3:=Y.out.frozen 3
    go_wp2
    (try simp only[Exit.inBlock,Exit.then])
    refine bodyPost_ret (results_row_tmp rfl _ _ N 59 #[.int .i64 0,.int .i64 0,.slice none 0 0,.slice none 0 0] (0,0) _ rfl P2.out Tryz.underlying59 rfl canswer_size) rfl ?_
    exact⟨2,0,0,none,0,0,[],none,0,0,[],rfl,Nat.le_refl _,by omega,Nat.le_refl _,by omega,Rc.nil,Rc.nil,by simp,DB.out,BE.out⟩
   | true =>
    obtain⟨rc,hde⟩:=hres rfl
    have hp:=hq.1 rfl
    have KE:=Kept.mk (end_any w5 d G a4.2 hde)
    have RC5:=Kept.mk rc
    have HM5:=Kept.mk hm5;have HC5:=Kept.mk hc5
    obtain⟨e0,he0⟩:∃ e0,endOf a4.2=e0:=⟨_,rfl⟩
    rw[he0] at KE DI
    by_cases h0:e0=0
    ·subst h0
     have DB:=Kept.mk (DY.out (DI.out.2 ⟨hc,HP.out,hp,rfl⟩))
     clear rc hde hp hq hres hm5 hc5 he0 hnew b5 KB
     have P2:Kept (Blk ((((w5.setCell ⟨N,0,none⟩ (.int .i64 s8.1)).setCell ⟨N,1,none⟩ (.int .i64 s2.1)).setCell ⟨N,2,none⟩ (.slice A4 m4 c4)).setCell ⟨N,3,none⟩ (.slice A5 m5 c5)) N 59 #[.int .i64 s8.1,.int .i64 s2.1,.slice A4 m4 c4,.slice A5 m5 c5]):=⟨(Blk.set_ (Blk.set_ (Blk.set_ (Blk.set_ Y.out 0 (.int .i64 s8.1)) 1 (.int .i64 s2.1)) 2 (.slice A4 m4 c4)) 3 (.slice A5 m5 c5))⟩
     have PB:Kept (Bar [N] w5 ((((w5.setCell ⟨N,0,none⟩ (.int .i64 s8.1)).setCell ⟨N,1,none⟩ (.int .i64 s2.1)).setCell ⟨N,2,none⟩ (.slice A4 m4 c4)).setCell ⟨N,3,none⟩ (.slice A5 m5 c5))):=⟨(Bar.setCell (Bar.setCell (Bar.setCell (Bar.setCell (Bar.refl [N] w5) (p:=⟨N,0,none⟩) (.inl (by simp)) (.int .i64 s8.1)) (p:=⟨N,1,none⟩) (.inl (by simp)) (.int .i64 s2.1)) (p:=⟨N,2,none⟩) (.inl (by simp)) (.slice A4 m4 c4)) (p:=⟨N,3,none⟩) (.inl (by simp)) (.slice A5 m5 c5))⟩
     have BE:Kept (Below w.heap.size w ((((w5.setCell ⟨N,0,none⟩ (.int .i64 s8.1)).setCell ⟨N,1,none⟩ (.int .i64 s2.1)).setCell ⟨N,2,none⟩ (.slice A4 m4 c4)).setCell ⟨N,3,none⟩ (.slice A5 m5 c5))):=⟨by rw[HN.out];exact B.out.trans (PB.out.below (by have:=B.out.size;have:=HN.out;omega) (by simp))⟩
     have y0:w5.cell? ⟨N,0,none⟩=some (.int .i64 0):=Y.out.cell 0;have y1:w5.cell? ⟨N,1,none⟩=some (.int .i64 0):=Y.out.cell 1;have y2:w5.cell? ⟨N,2,none⟩=some (.slice none 0 0):=Y.out.cell 2;have y3:w5.cell? ⟨N,3,none⟩=some (.slice none 0 0):=Y.out.cell 3
     have z0:=Y.out.frozen 0;have z1:=Y.out.frozen 1;have z2:=Y.out.frozen 2;have z3:=Y.out.frozen 3
     go_wp2_with (go_at_call 112;refine KE.out.mono ?_;rintro x w' ⟨rfl,rfl⟩)
     (try simp only[Exit.inBlock,Exit.then])
     refine bodyPost_ret (results_row_tmp rfl _ _ N 59 #[.int .i64 s8.1,.int .i64 s2.1,.slice A4 m4 c4,.slice A5 m5 c5] (0,0) _ rfl P2.out Tryz.underlying59 rfl canswer_size) rfl ?_
     exact⟨0,s8.1,s2.1,A4,m4,c4,a2.1,A5,m5,c5,a4.1,rfl,HM4.out,HC4.out,HM5.out,HC5.out,RC.out.bar PB.out (fun x hx=>.inr (fun o ho=>by rw[List.mem_singleton] at hx;subst hx;exact AN.out o ho)),RC5.out.bar PB.out (fun x hx=>.inr (fun o ho=>by rw[List.mem_singleton] at hx;subst hx;exact AN5.out o ho)),OK.out,DB.out,BE.out⟩
    ·have h1:(e0 != 0)=true:=by simpa using h0
     have DB:=Kept.mk (DN.out (fun h=>h0 (DI.out.1 h).2.2.2))
     clear rc hde hp hq hres hm5 hc5 he0 hnew b5 KB
     have P2:Kept (Blk ((((w5.setCell ⟨N,0,none⟩ (.int .i64 0)).setCell ⟨N,1,none⟩ (.int .i64 0)).setCell ⟨N,2,none⟩ (.slice none 0 0)).setCell ⟨N,3,none⟩ (.slice none 0 0)) N 59 #[.int .i64 0,.int .i64 0,.slice none 0 0,.slice none 0 0]):=⟨(Blk.set_ (Blk.set_ (Blk.set_ (Blk.set_ Y.out 0 (.int .i64 0)) 1 (.int .i64 0)) 2 (.slice none 0 0)) 3 (.slice none 0 0))⟩
     have PB:Kept (Bar [N] w5 ((((w5.setCell ⟨N,0,none⟩ (.int .i64 0)).setCell ⟨N,1,none⟩ (.int .i64 0)).setCell ⟨N,2,none⟩ (.slice none 0 0)).setCell ⟨N,3,none⟩ (.slice none 0 0))):=⟨(Bar.setCell (Bar.setCell (Bar.setCell (Bar.setCell (Bar.refl [N] w5) (p:=⟨N,0,none⟩) (.inl (by simp)) (.int .i64 0)) (p:=⟨N,1,none⟩) (.inl (by simp)) (.int .i64 0)) (p:=⟨N,2,none⟩) (.inl (by simp)) (.slice none 0 0)) (p:=⟨N,3,none⟩) (.inl (by simp)) (.slice none 0 0))⟩
     have BE:Kept (Below w.heap.size w ((((w5.setCell ⟨N,0,none⟩ (.int .i64 0)).setCell ⟨N,1,none⟩ (.int .i64 0)).setCell ⟨N,2,none⟩ (.slice none 0 0)).setCell ⟨N,3,none⟩ (.slice none 0 0))):=⟨by rw[HN.out];exact B.out.trans (PB.out.below (by have:=B.out.size;have:=HN.out;omega) (by simp))⟩
     have y0:w5.cell? ⟨N,0,none⟩=some (.int .i64 0):=Y.out.cell 0;have y1:w5.cell? ⟨N,1,none⟩=some (.int .i64 0):=Y.out.cell 1;have y2:w5.cell? ⟨N,2,none⟩=some (.slice none 0 0):=Y.out.cell 2;have y3:w5.cell? ⟨N,3,none⟩=some (.slice none 0 0):=Y.out.cell 3
     have z0:=Y.out.frozen 0;have z1:=Y.out.frozen 1;have z2:=Y.out.frozen 2;have z3:=Y.out.frozen 3
     go_wp2_with (go_at_call 112;refine KE.out.mono ?_;rintro x w' ⟨rfl,rfl⟩)
     (try simp only[Exit.inBlock,Exit.then])
     refine bodyPost_ret (results_row_tmp rfl _ _ N 59 #[.int .i64 0,.int .i64 0,.slice none 0 0,.slice none 0 0] (0,0) _ rfl P2.out Tryz.underlying59 rfl canswer_size) rfl ?_
     exact⟨2,0,0,none,0,0,[],none,0,0,[],rfl,Nat.le_refl _,by omega,Nat.le_refl _,by omega,Rc.nil,Rc.nil,by simp,DB.out,BE.out⟩
 ·rw[decide_eq_false hc] at KT
  have DB:=Kept.mk (DN.out (fun h=>hc (DI.out.1 h).1))
  clear KA
  have P2:Kept (Blk ((((w3.setCell ⟨N,0,none⟩ (.int .i64 0)).setCell ⟨N,1,none⟩ (.int .i64 0)).setCell ⟨N,2,none⟩ (.slice none 0 0)).setCell ⟨N,3,none⟩ (.slice none 0 0)) N 59 #[.int .i64 0,.int .i64 0,.slice none 0 0,.slice none 0 0]):=⟨(Blk.set_ (Blk.set_ (Blk.set_ (Blk.set_ Y.out 0 (.int .i64 0)) 1 (.int .i64 0)) 2 (.slice none 0 0)) 3 (.slice none 0 0))⟩
  have PB:Kept (Bar [N] w3 ((((w3.setCell ⟨N,0,none⟩ (.int .i64 0)).setCell ⟨N,1,none⟩ (.int .i64 0)).setCell ⟨N,2,none⟩ (.slice none 0 0)).setCell ⟨N,3,none⟩ (.slice none 0 0))):=⟨(Bar.setCell (Bar.setCell (Bar.setCell (Bar.setCell (Bar.refl [N] w3) (p:=⟨N,0,none⟩) (.inl (by simp)) (.int .i64 0)) (p:=⟨N,1,none⟩) (.inl (by simp)) (.int .i64 0)) (p:=⟨N,2,none⟩) (.inl (by simp)) (.slice none 0 0)) (p:=⟨N,3,none⟩) (.inl (by simp)) (.slice none 0 0))⟩
  have BE:Kept (Below w.heap.size w ((((w3.setCell ⟨N,0,none⟩ (.int .i64 0)).setCell ⟨N,1,none⟩ (.int .i64 0)).setCell ⟨N,2,none⟩ (.slice none 0 0)).setCell ⟨N,3,none⟩ (.slice none 0 0))):=⟨by rw[HN.out];exact B.out.trans (PB.out.below (by have:=B.out.size;have:=HN.out;omega) (by simp))⟩
  have y0:w3.cell? ⟨N,0,none⟩=some (.int .i64 0):=Y.out.cell 0;have y1:w3.cell? ⟨N,1,none⟩=some (.int .i64 0):=Y.out.cell 1;have y2:w3.cell? ⟨N,2,none⟩=some (.slice none 0 0):=Y.out.cell 2;have y3:w3.cell? ⟨N,3,none⟩=some (.slice none 0 0):=Y.out.cell 3
  have z0:=Y.out.frozen 0;have z1:=Y.out.frozen 1;have z2:=Y.out.frozen 2;have z3:=Y.out.frozen 3
  go_wp2_with (go_at_call 69;refine(KT.out _).mono ?_;rintro x w' ⟨rfl,rfl⟩)
  (try simp only[Exit.inBlock,Exit.then])
  refine bodyPost_ret (results_row_tmp rfl _ _ N 59 #[.int .i64 0,.int .i64 0,.slice none 0 0,.slice none 0 0] (0,0) _ rfl P2.out Tryz.underlying59 rfl canswer_size) rfl ?_
  exact⟨2,0,0,none,0,0,[],none,0,0,[],rfl,Nat.le_refl _,by omega,Nat.le_refl _,by omega,Rc.nil,Rc.nil,by simp,DB.out,BE.out⟩
end Go.Proofs.YtchcgoabogcabaaGreat.Req
