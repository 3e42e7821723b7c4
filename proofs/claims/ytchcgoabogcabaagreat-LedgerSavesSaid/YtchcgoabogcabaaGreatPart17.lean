/-
  Parts laid together: ReqRGetV ReqCText ReqCPut ReqCPutV.
-/
import Derived.Test.YtchcgoabogcabaaGreatPart10
import Derived.Test.YtchcgoabogcabaaGreatPart12
import Derived.Test.YtchcgoabogcabaaGreatPart3
import Derived.Test.YtchcgoabogcabaaGreatPart11
namespace Go.Proofs.YtchcgoabogcabaaGreat.Req
open Go.RowKit Go.Proofs.YtchcgoabogcabaaGreat.Sha Go.Proofs.YtchcgoabogcabaaGreat.Wire
theorem ev_size:(Tryz.prog.info? 71).map (·.size)=some 9:=by kernel_rfl
def getVPost (w:World) (d:Nat) (G:List Nat) (st:St) (x:Ending) (w':World):Prop :=
 x=.returned (vqv (getV st).1)∧(getV st).1.ok∧De 94 w' d G (getV st).2∧Bar [d] w w'
set_option maxRecDepth 100000 in
set_option maxHeartbeats 16000000 in
theorem rgetv_any {w:World}{d:Nat}{G:List Nat}{st:St}(h:De 94 w d G st) (hd:d∉G) (hl:st.2.length < 2147483648):Calls Tryz.prog 28 #[.pointer (some ⟨d,0,none⟩)] w (getVPost w d G st):=by
 obtain⟨N,hN⟩:∃ N,w.heap.size=N:=⟨_,rfl⟩
 have hdN:d < N:=by rw[← hN];exact h.lt
 have B0:Below w.heap.size w (w.alloc (.cells #[.int .i64 0,.int .i64 0,.int .i64 0,.int .i64 0,.int .i64 0,.int .i64 0,.int .i64 0,.string ⟨#[]⟩,.string ⟨#[]⟩] 71)):=(Below.refl _ _).alloc (Nat.le_refl _) _
 have HE:=Kept.mk (h.below B0)
 have BR:=Kept.mk (barOf B0 [d])
 have Y:Kept (Blk (w.alloc (.cells #[.int .i64 0,.int .i64 0,.int .i64 0,.int .i64 0,.int .i64 0,.int .i64 0,.int .i64 0,.string ⟨#[]⟩,.string ⟨#[]⟩] 71)) N 71 #[.int .i64 0,.int .i64 0,.int .i64 0,.int .i64 0,.int .i64 0,.int .i64 0,.int .i64 0,.string ⟨#[]⟩,.string ⟨#[]⟩]):=⟨Blk.new_at w _ _ N hN.symm⟩
 have HM1:Kept (∀ k∈G,k < N):=⟨fun k hk=>by have:=h.1 k hk;omega⟩
 have n0:Bytes []:=by intro x hx;simp at hx
 clear h B0
 go_enter Tryz.func28,Tryz.ntmps28
 go_wp2_with fail
 generalize w.alloc (.cells #[.int .i64 0,.int .i64 0,.int .i64 0,.int .i64 0,.int .i64 0,.int .i64 0,.int .i64 0,.string ⟨#[]⟩,.string ⟨#[]⟩] 71)=w0 at *
 have KC:=rdnum_any w0 d G 1 st HE.out hd
 have hL:=decNum_left st 1
 obtain⟨a0,s1,e0⟩:∃ a s,decNum st 1=(a,s):=⟨_,_,rfl⟩
 rw[e0] at KC hL
 have E0:=Kept.mk e0
 dsimp only at hL
 clear e0
 refine KC.mono ?_
 rintro x w1 ⟨rfl,he,b⟩
 replace HE:=Kept.mk he;replace BR:=Kept.mk (BR.out.trans b (by simp));replace Y:=Kept.mk (Y.out.bar b (by rw[List.mem_singleton];omega))
 have hNM:=Y.out.lt
 clear he b KC
 go_upto_region 2 with(fail)
 have B1:Below w1.heap.size w1 (w1.alloc (.cells #[.int .i64 a0,.int .i64 0,.int .i64 0,.int .i64 0,.int .i64 0,.int .i64 0,.int .i64 0,.string ⟨#[]⟩,.string ⟨#[]⟩] 71)):=(Below.refl _ _).alloc (Nat.le_refl _) _
 have X:Kept (Blk (w1.alloc (.cells #[.int .i64 a0,.int .i64 0,.int .i64 0,.int .i64 0,.int .i64 0,.int .i64 0,.int .i64 0,.string ⟨#[]⟩,.string ⟨#[]⟩] 71)) w1.heap.size 71 #[.int .i64 a0,.int .i64 0,.int .i64 0,.int .i64 0,.int .i64 0,.int .i64 0,.int .i64 0,.string ⟨#[]⟩,.string ⟨#[]⟩]):=⟨Blk.new _ _ _⟩
 replace HE:=Kept.mk (HE.out.below B1);replace BR:=Kept.mk (BR.out.trans (barOf B1 []) (by simp));replace Y:=Kept.mk (Y.out.below B1 hNM)
 generalize w1.alloc (.cells #[.int .i64 a0,.int .i64 0,.int .i64 0,.int .i64 0,.int .i64 0,.int .i64 0,.int .i64 0,.string ⟨#[]⟩,.string ⟨#[]⟩] 71)=w2 at *
 generalize w1.heap.size=M at *
 clear B1
 have HM:Kept (∀ k∈G,k < M):=⟨fun k hk=>Nat.lt_trans (HM1.out k hk) hNM⟩
 have HM2:Kept (∀ k∈G,k < N):=HM1
 by_cases h1:a0=1
 ·subst h1
  have x0:=X.out.cell 0
  have KC:=rdnum_any w2 d G 1 s1 HE.out hd
  have hL2:=decNum_left s1 1
  obtain⟨a1,s2,e1⟩:∃ a s,decNum s1 1=(a,s):=⟨_,_,rfl⟩
  rw[e1] at KC hL2
  have E1:=Kept.mk e1
  dsimp only at hL2
  replace hL:=Nat.le_trans hL2 hL
  clear e1 hL2
  go_wp2_with fail
  refine KC.mono ?_
  rintro x w3 ⟨rfl,he,b⟩
  have hMl:=X.out.lt
  replace HE:=Kept.mk he;replace BR:=Kept.mk (BR.out.trans b (by simp));replace Y:=Kept.mk (Y.out.bar b (by rw[List.mem_singleton];omega));replace X:=Kept.mk (X.out.bar b (by rw[List.mem_singleton];omega))
  clear he b KC hMl x0
  have x0:=X.out.cell 0
  have KC:=rdnum_any w3 d G 1 s2 HE.out hd
  have hL2:=decNum_left s2 1
  obtain⟨a2,s3,e2⟩:∃ a s,decNum s2 1=(a,s):=⟨_,_,rfl⟩
  rw[e2] at KC hL2
  have E2:=Kept.mk e2
  dsimp only at hL2
  replace hL:=Nat.le_trans hL2 hL
  clear e2 hL2
  go_wp2_with fail
  refine KC.mono ?_
  rintro x w4 ⟨rfl,he,b⟩
  have hMl:=X.out.lt
  replace HE:=Kept.mk he;replace BR:=Kept.mk (BR.out.trans b (by simp));replace Y:=Kept.mk (Y.out.bar b (by rw[List.mem_singleton];omega));replace X:=Kept.mk (X.out.bar b (by rw[List.mem_singleton];omega))
  clear he b KC hMl x0
  have x0:=X.out.cell 0
  have KC:=rdnum_any w4 d G 1 s3 HE.out hd
  have hL2:=decNum_left s3 1
  obtain⟨a3,s4,e3⟩:∃ a s,decNum s3 1=(a,s):=⟨_,_,rfl⟩
  rw[e3] at KC hL2
  have E3:=Kept.mk e3
  dsimp only at hL2
  replace hL:=Nat.le_trans hL2 hL
  clear e3 hL2
  go_wp2_with fail
  refine KC.mono ?_
  rintro x w5 ⟨rfl,he,b⟩
  have hMl:=X.out.lt
  replace HE:=Kept.mk he;replace BR:=Kept.mk (BR.out.trans b (by simp));replace Y:=Kept.mk (Y.out.bar b (by rw[List.mem_singleton];omega));replace X:=Kept.mk (X.out.bar b (by rw[List.mem_singleton];omega))
  clear he b KC hMl x0
  have x0:=X.out.cell 0
  have KC:=rdnum_any w5 d G 8 s4 HE.out hd
  have hL2:=decNum_left s4 8
  obtain⟨a4,s5,e4⟩:∃ a s,decNum s4 8=(a,s):=⟨_,_,rfl⟩
  rw[e4] at KC hL2
  have E4:=Kept.mk e4
  dsimp only at hL2
  replace hL:=Nat.le_trans hL2 hL
  clear e4 hL2
  go_wp2_with fail
  refine KC.mono ?_
  rintro x w6 ⟨rfl,he,b⟩
  have hMl:=X.out.lt
  replace HE:=Kept.mk he;replace BR:=Kept.mk (BR.out.trans b (by simp));replace Y:=Kept.mk (Y.out.bar b (by rw[List.mem_singleton];omega));replace X:=Kept.mk (X.out.bar b (by rw[List.mem_singleton];omega))
  clear he b KC hMl x0
  have y1:=X.out.cell 1;have z1:=X.out.frozen 1;have y2:=X.out.cell 2;have z2:=X.out.frozen 2;have y3:=X.out.cell 3;have z3:=X.out.frozen 3;have y4:=X.out.cell 4;have z4:=X.out.frozen 4
  go_upto_region 4 with(fail)
  have X2:Kept (Blk ((((w6.setCell ⟨M,1,none⟩ (.int .i64 a1)).setCell ⟨M,2,none⟩ (.int .i64 a2)).setCell ⟨M,3,none⟩ (.int .i64 a3)).setCell ⟨M,4,none⟩ (.int .i64 a4)) M 71 #[.int .i64 1,.int .i64 a1,.int .i64 a2,.int .i64 a3,.int .i64 a4,.int .i64 0,.int .i64 0,.string ⟨#[]⟩,.string ⟨#[]⟩]):=⟨((((X.out.set_ 1 (.int .i64 a1)).set_ 2 (.int .i64 a2)).set_ 3 (.int .i64 a3)).set_ 4 (.int .i64 a4))⟩
  have bb:Bar [M] w6 ((((w6.setCell ⟨M,1,none⟩ (.int .i64 a1)).setCell ⟨M,2,none⟩ (.int .i64 a2)).setCell ⟨M,3,none⟩ (.int .i64 a3)).setCell ⟨M,4,none⟩ (.int .i64 a4)):=(((((Bar.refl [M] w6).setCell (p:=⟨M,1,none⟩) (by simp) (.int .i64 a1)).setCell (p:=⟨M,2,none⟩) (by simp) (.int .i64 a2)).setCell (p:=⟨M,3,none⟩) (by simp) (.int .i64 a3)).setCell (p:=⟨M,4,none⟩) (by simp) (.int .i64 a4))
  replace HE:=Kept.mk (HE.out.keep bb (by rw[List.mem_singleton];omega) (fun k hk hm=>by rw[List.mem_singleton] at hm;have:=HM.out k hk;omega))
  replace BR:=Kept.mk (BR.out.trans bb (by intro z hz;rw[List.mem_singleton] at hz;omega));replace Y:=Kept.mk (Y.out.bar bb (by rw[List.mem_singleton];omega))
  replace X:=X2
  clear X2 bb y1 z1 y2 z2 y3 z3 y4 z4
  generalize ((((w6.setCell ⟨M,1,none⟩ (.int .i64 a1)).setCell ⟨M,2,none⟩ (.int .i64 a2)).setCell ⟨M,3,none⟩ (.int .i64 a3)).setCell ⟨M,4,none⟩ (.int .i64 a4))=w7 at *
  have x0:=X.out.cell 0;have x1:=X.out.cell 1;have x2:=X.out.cell 2;have x3:=X.out.cell 3;have x4:=X.out.cell 4;have x5:=X.out.cell 5;have x6:=X.out.cell 6;have x7:=X.out.cell 7;have x8:=X.out.cell 8;have y0:=Y.out.cell 0;have z0:=Y.out.frozen 0;have y1:=Y.out.cell 1;have z1:=Y.out.frozen 1;have y2:=Y.out.cell 2;have z2:=Y.out.frozen 2;have y3:=Y.out.cell 3;have z3:=Y.out.frozen 3;have y4:=Y.out.cell 4;have z4:=Y.out.frozen 4;have y5:=Y.out.cell 5;have z5:=Y.out.frozen 5;have y6:=Y.out.cell 6;have z6:=Y.out.frozen 6;have y7:=Y.out.cell 7;have z7:=Y.out.frozen 7;have y8:=Y.out.cell 8;have z8:=Y.out.frozen 8
  have P8:Kept (Blk (((((((((w7.setCell ⟨N,0,none⟩ (.int .i64 1)).setCell ⟨N,1,none⟩ (.int .i64 a1)).setCell ⟨N,2,none⟩ (.int .i64 a2)).setCell ⟨N,3,none⟩ (.int .i64 a3)).setCell ⟨N,4,none⟩ (.int .i64 a4)).setCell ⟨N,5,none⟩ (.int .i64 0)).setCell ⟨N,6,none⟩ (.int .i64 0)).setCell ⟨N,7,none⟩ (.string ⟨#[]⟩)).setCell ⟨N,8,none⟩ (.string ⟨#[]⟩)) N 71 #[.int .i64 1,.int .i64 a1,.int .i64 a2,.int .i64 a3,.int .i64 a4,.int .i64 0,.int .i64 0,.string ⟨#[]⟩,.string ⟨#[]⟩]):=⟨(((((((((Y.out.set_ 0 (.int .i64 1)).set_ 1 (.int .i64 a1)).set_ 2 (.int .i64 a2)).set_ 3 (.int .i64 a3)).set_ 4 (.int .i64 a4)).set_ 5 (.int .i64 0)).set_ 6 (.int .i64 0)).set_ 7 (.string ⟨#[]⟩)).set_ 8 (.string ⟨#[]⟩))⟩
  have PB:Kept (Bar [N] w7 (((((((((w7.setCell ⟨N,0,none⟩ (.int .i64 1)).setCell ⟨N,1,none⟩ (.int .i64 a1)).setCell ⟨N,2,none⟩ (.int .i64 a2)).setCell ⟨N,3,none⟩ (.int .i64 a3)).setCell ⟨N,4,none⟩ (.int .i64 a4)).setCell ⟨N,5,none⟩ (.int .i64 0)).setCell ⟨N,6,none⟩ (.int .i64 0)).setCell ⟨N,7,none⟩ (.string ⟨#[]⟩)).setCell ⟨N,8,none⟩ (.string ⟨#[]⟩))):=⟨((((((((((Bar.refl [N] w7).setCell (p:=⟨N,0,none⟩) (by simp) (.int .i64 1)).setCell (p:=⟨N,1,none⟩) (by simp) (.int .i64 a1)).setCell (p:=⟨N,2,none⟩) (by simp) (.int .i64 a2)).setCell (p:=⟨N,3,none⟩) (by simp) (.int .i64 a3)).setCell (p:=⟨N,4,none⟩) (by simp) (.int .i64 a4)).setCell (p:=⟨N,5,none⟩) (by simp) (.int .i64 0)).setCell (p:=⟨N,6,none⟩) (by simp) (.int .i64 0)).setCell (p:=⟨N,7,none⟩) (by simp) (.string ⟨#[]⟩)).setCell (p:=⟨N,8,none⟩) (by simp) (.string ⟨#[]⟩))⟩
  have HG:Kept (getV st=(⟨1,a1,a2,a3,a4,0,0,[],[]⟩,s5)):=⟨by unfold getV;simp[E0.out,E1.out,E2.out,E3.out,E4.out]⟩
  clear X Y
  go_wp2
  (try simp only[Exit.inBlock,Exit.then])
  refine bodyPost_ret (results_cell_row rfl _ _ N 71 #[.int .i64 1,.int .i64 a1,.int .i64 a2,.int .i64 a3,.int .i64 a4,.int .i64 0,.int .i64 0,.string ⟨#[]⟩,.string ⟨#[]⟩] (0,0) _ rfl P8.out Tryz.underlying71 rfl ev_size) rfl ?_
  unfold getVPost
  rw[HG.out]
  exact⟨rfl,⟨n0,n0⟩,HE.out.keep PB.out (by rw[List.mem_singleton];omega) (fun k hk hm=>by rw[List.mem_singleton] at hm;have:=HM2.out k hk;omega),BR.out.trans PB.out (by intro z hz;rw[List.mem_singleton] at hz;omega)⟩
 ·have d1:(a0 == 1)=false:=beq_eq_false_iff_ne.2 h1
  by_cases h2:a0=2
  ·subst h2
   have x0:=X.out.cell 0
   have KC:=rdnum_any w2 d G 1 s1 HE.out hd
   have hL2:=decNum_left s1 1
   obtain⟨a1,s2,e1⟩:∃ a s,decNum s1 1=(a,s):=⟨_,_,rfl⟩
   rw[e1] at KC hL2
   have E1:=Kept.mk e1
   dsimp only at hL2
   replace hL:=Nat.le_trans hL2 hL
   clear e1 hL2
   go_wp2_with fail
   refine KC.mono ?_
   rintro x w3 ⟨rfl,he,b⟩
   have hMl:=X.out.lt
   replace HE:=Kept.mk he;replace BR:=Kept.mk (BR.out.trans b (by simp));replace Y:=Kept.mk (Y.out.bar b (by rw[List.mem_singleton];omega));replace X:=Kept.mk (X.out.bar b (by rw[List.mem_singleton];omega))
   clear he b KC hMl x0
   have x0:=X.out.cell 0
   have KC:=rdnum_any w3 d G 1 s2 HE.out hd
   have hL2:=decNum_left s2 1
   obtain⟨a2,s3,e2⟩:∃ a s,decNum s2 1=(a,s):=⟨_,_,rfl⟩
   rw[e2] at KC hL2
   have E2:=Kept.mk e2
   dsimp only at hL2
   replace hL:=Nat.le_trans hL2 hL
   clear e2 hL2
   go_wp2_with fail
   refine KC.mono ?_
   rintro x w4 ⟨rfl,he,b⟩
   have hMl:=X.out.lt
   replace HE:=Kept.mk he;replace BR:=Kept.mk (BR.out.trans b (by simp));replace Y:=Kept.mk (Y.out.bar b (by rw[List.mem_singleton];omega));replace X:=Kept.mk (X.out.bar b (by rw[List.mem_singleton];omega))
   clear he b KC hMl x0
   have x0:=X.out.cell 0
   have KC:=rdnum_any w4 d G 1 s3 HE.out hd
   have hL2:=decNum_left s3 1
   obtain⟨a3,s4,e3⟩:∃ a s,decNum s3 1=(a,s):=⟨_,_,rfl⟩
   rw[e3] at KC hL2
   have E3:=Kept.mk e3
   dsimp only at hL2
   replace hL:=Nat.le_trans hL2 hL
   clear e3 hL2
   go_wp2_with fail
   refine KC.mono ?_
   rintro x w5 ⟨rfl,he,b⟩
   have hMl:=X.out.lt
   replace HE:=Kept.mk he;replace BR:=Kept.mk (BR.out.trans b (by simp));replace Y:=Kept.mk (Y.out.bar b (by rw[List.mem_singleton];omega));replace X:=Kept.mk (X.out.bar b (by rw[List.mem_singleton];omega))
   clear he b KC hMl x0
   have x0:=X.out.cell 0
   have KC:=rdnum_any w5 d G 8 s4 HE.out hd
   have hL2:=decNum_left s4 8
   obtain⟨a4,s5,e4⟩:∃ a s,decNum s4 8=(a,s):=⟨_,_,rfl⟩
   rw[e4] at KC hL2
   have E4:=Kept.mk e4
   dsimp only at hL2
   replace hL:=Nat.le_trans hL2 hL
   clear e4 hL2
   go_wp2_with fail
   refine KC.mono ?_
   rintro x w6 ⟨rfl,he,b⟩
   have hMl:=X.out.lt
   replace HE:=Kept.mk he;replace BR:=Kept.mk (BR.out.trans b (by simp));replace Y:=Kept.mk (Y.out.bar b (by rw[List.mem_singleton];omega));replace X:=Kept.mk (X.out.bar b (by rw[List.mem_singleton];omega))
   clear he b KC hMl x0
   have y1:=X.out.cell 1;have z1:=X.out.frozen 1;have y2:=X.out.cell 2;have z2:=X.out.frozen 2;have y3:=X.out.cell 3;have z3:=X.out.frozen 3;have y4:=X.out.cell 4;have z4:=X.out.frozen 4
   go_upto_region 4 with(fail)
   have X2:Kept (Blk ((((w6.setCell ⟨M,1,none⟩ (.int .i64 a1)).setCell ⟨M,2,none⟩ (.int .i64 a2)).setCell ⟨M,3,none⟩ (.int .i64 a3)).setCell ⟨M,4,none⟩ (.int .i64 a4)) M 71 #[.int .i64 2,.int .i64 a1,.int .i64 a2,.int .i64 a3,.int .i64 a4,.int .i64 0,.int .i64 0,.string ⟨#[]⟩,.string ⟨#[]⟩]):=⟨((((X.out.set_ 1 (.int .i64 a1)).set_ 2 (.int .i64 a2)).set_ 3 (.int .i64 a3)).set_ 4 (.int .i64 a4))⟩
   have bb:Bar [M] w6 ((((w6.setCell ⟨M,1,none⟩ (.int .i64 a1)).setCell ⟨M,2,none⟩ (.int .i64 a2)).setCell ⟨M,3,none⟩ (.int .i64 a3)).setCell ⟨M,4,none⟩ (.int .i64 a4)):=(((((Bar.refl [M] w6).setCell (p:=⟨M,1,none⟩) (by simp) (.int .i64 a1)).setCell (p:=⟨M,2,none⟩) (by simp) (.int .i64 a2)).setCell (p:=⟨M,3,none⟩) (by simp) (.int .i64 a3)).setCell (p:=⟨M,4,none⟩) (by simp) (.int .i64 a4))
   replace HE:=Kept.mk (HE.out.keep bb (by rw[List.mem_singleton];omega) (fun k hk hm=>by rw[List.mem_singleton] at hm;have:=HM.out k hk;omega))
   replace BR:=Kept.mk (BR.out.trans bb (by intro z hz;rw[List.mem_singleton] at hz;omega));replace Y:=Kept.mk (Y.out.bar bb (by rw[List.mem_singleton];omega))
   replace X:=X2
   clear X2 bb y1 z1 y2 z2 y3 z3 y4 z4
   generalize ((((w6.setCell ⟨M,1,none⟩ (.int .i64 a1)).setCell ⟨M,2,none⟩ (.int .i64 a2)).setCell ⟨M,3,none⟩ (.int .i64 a3)).setCell ⟨M,4,none⟩ (.int .i64 a4))=w7 at *
   have x0:=X.out.cell 0
   have KC:=rdnum_any w7 d G 2 s5 HE.out hd
   have hL2:=decNum_left s5 2
   obtain⟨a5,s6,e5⟩:∃ a s,decNum s5 2=(a,s):=⟨_,_,rfl⟩
   rw[e5] at KC hL2
   have E5:=Kept.mk e5
   dsimp only at hL2
   replace hL:=Nat.le_trans hL2 hL
   clear e5 hL2
   go_wp2_with fail
   refine KC.mono ?_
   rintro x w8 ⟨rfl,he,b⟩
   have hMl:=X.out.lt
   replace HE:=Kept.mk he;replace BR:=Kept.mk (BR.out.trans b (by simp));replace Y:=Kept.mk (Y.out.bar b (by rw[List.mem_singleton];omega));replace X:=Kept.mk (X.out.bar b (by rw[List.mem_singleton];omega))
   clear he b KC hMl x0
   have y5:=X.out.cell 5;have z5:=X.out.frozen 5
   go_upto_region 6 with(fail)
   have X2:Kept (Blk (w8.setCell ⟨M,5,none⟩ (.int .i64 a5)) M 71 #[.int .i64 2,.int .i64 a1,.int .i64 a2,.int .i64 a3,.int .i64 a4,.int .i64 a5,.int .i64 0,.string ⟨#[]⟩,.string ⟨#[]⟩]):=⟨(X.out.set_ 5 (.int .i64 a5))⟩
   have bb:Bar [M] w8 (w8.setCell ⟨M,5,none⟩ (.int .i64 a5)):=((Bar.refl [M] w8).setCell (p:=⟨M,5,none⟩) (by simp) (.int .i64 a5))
   replace HE:=Kept.mk (HE.out.keep bb (by rw[List.mem_singleton];omega) (fun k hk hm=>by rw[List.mem_singleton] at hm;have:=HM.out k hk;omega))
   replace BR:=Kept.mk (BR.out.trans bb (by intro z hz;rw[List.mem_singleton] at hz;omega));replace Y:=Kept.mk (Y.out.bar bb (by rw[List.mem_singleton];omega))
   replace X:=X2
   clear X2 bb y5 z5
   generalize (w8.setCell ⟨M,5,none⟩ (.int .i64 a5))=w9 at *
   have x0:=X.out.cell 0
   have KC:=rdraw_any w9 d G 32 s6 HE.out hd (by omega)
   unfold RawPost at KC
   have hL2:=rawD_len s6 32;have hB:=rawD_bytes HE.out.bytes 32
   obtain⟨a6,s7,e6⟩:∃ a s,rawD s6 32=(a,s):=⟨_,_,rfl⟩
   rw[e6] at hB
   rw[e6] at KC hL2
   have E6:=Kept.mk e6
   dsimp only at hL2 hB
   replace hL:=Nat.le_trans hL2 hL
   clear e6 hL2
   go_wp2_with fail
   refine KC.mono ?_
   rintro x w10 ⟨v,rfl,ho,he,b⟩
   obtain⟨A5,c5,rfl,-,-,hr⟩:=own_rd ho hB
   have hcv:=conv_same (cap:=c5) hr
   clear ho hr
   have hMl:=X.out.lt
   replace HE:=Kept.mk he;replace BR:=Kept.mk (BR.out.trans b (by simp));replace Y:=Kept.mk (Y.out.bar b (by rw[List.mem_singleton];omega));replace X:=Kept.mk (X.out.bar b (by rw[List.mem_singleton];omega))
   clear he b KC hMl x0
   have Bhash:=Kept.mk hB;clear hB
   have y7:=X.out.cell 7;have z7:=X.out.frozen 7
   go_upto_region 8 with(fail)
   have X2:Kept (Blk (w10.setCell ⟨M,7,none⟩ (.string (strOfNums a6))) M 71 #[.int .i64 2,.int .i64 a1,.int .i64 a2,.int .i64 a3,.int .i64 a4,.int .i64 a5,.int .i64 0,.string (strOfNums a6),.string ⟨#[]⟩]):=⟨(X.out.set_ 7 (.string (strOfNums a6)))⟩
   have bb:Bar [M] w10 (w10.setCell ⟨M,7,none⟩ (.string (strOfNums a6))):=((Bar.refl [M] w10).setCell (p:=⟨M,7,none⟩) (by simp) (.string (strOfNums a6)))
   replace HE:=Kept.mk (HE.out.keep bb (by rw[List.mem_singleton];omega) (fun k hk hm=>by rw[List.mem_singleton] at hm;have:=HM.out k hk;omega))
   replace BR:=Kept.mk (BR.out.trans bb (by intro z hz;rw[List.mem_singleton] at hz;omega));replace Y:=Kept.mk (Y.out.bar bb (by rw[List.mem_singleton];omega))
   replace X:=X2
   clear X2 bb y7 z7 hcv
   generalize (w10.setCell ⟨M,7,none⟩ (.string (strOfNums a6)))=w11 at *
   have x0:=X.out.cell 0
   have KC:=rdnum_any w11 d G 8 s7 HE.out hd
   have hL2:=decNum_left s7 8
   obtain⟨a7,s8,e7⟩:∃ a s,decNum s7 8=(a,s):=⟨_,_,rfl⟩
   rw[e7] at KC hL2
   have E7:=Kept.mk e7
   dsimp only at hL2
   replace hL:=Nat.le_trans hL2 hL
   clear e7 hL2
   go_wp2_with fail
   refine KC.mono ?_
   rintro x w12 ⟨rfl,he,b⟩
   have hMl:=X.out.lt
   replace HE:=Kept.mk he;replace BR:=Kept.mk (BR.out.trans b (by simp));replace Y:=Kept.mk (Y.out.bar b (by rw[List.mem_singleton];omega));replace X:=Kept.mk (X.out.bar b (by rw[List.mem_singleton];omega))
   clear he b KC hMl x0
   have y6:=X.out.cell 6;have z6:=X.out.frozen 6
   go_upto_region 9 with(fail)
   have X2:Kept (Blk (w12.setCell ⟨M,6,none⟩ (.int .i64 a7)) M 71 #[.int .i64 2,.int .i64 a1,.int .i64 a2,.int .i64 a3,.int .i64 a4,.int .i64 a5,.int .i64 a7,.string (strOfNums a6),.string ⟨#[]⟩]):=⟨(X.out.set_ 6 (.int .i64 a7))⟩
   have bb:Bar [M] w12 (w12.setCell ⟨M,6,none⟩ (.int .i64 a7)):=((Bar.refl [M] w12).setCell (p:=⟨M,6,none⟩) (by simp) (.int .i64 a7))
   replace HE:=Kept.mk (HE.out.keep bb (by rw[List.mem_singleton];omega) (fun k hk hm=>by rw[List.mem_singleton] at hm;have:=HM.out k hk;omega))
   replace BR:=Kept.mk (BR.out.trans bb (by intro z hz;rw[List.mem_singleton] at hz;omega));replace Y:=Kept.mk (Y.out.bar bb (by rw[List.mem_singleton];omega))
   replace X:=X2
   clear X2 bb y6 z6
   generalize (w12.setCell ⟨M,6,none⟩ (.int .i64 a7))=w13 at *
   have x0:=X.out.cell 0;have x1:=X.out.cell 1;have x2:=X.out.cell 2;have x3:=X.out.cell 3;have x4:=X.out.cell 4;have x5:=X.out.cell 5;have x6:=X.out.cell 6;have x7:=X.out.cell 7;have x8:=X.out.cell 8;have y0:=Y.out.cell 0;have z0:=Y.out.frozen 0;have y1:=Y.out.cell 1;have z1:=Y.out.frozen 1;have y2:=Y.out.cell 2;have z2:=Y.out.frozen 2;have y3:=Y.out.cell 3;have z3:=Y.out.frozen 3;have y4:=Y.out.cell 4;have z4:=Y.out.frozen 4;have y5:=Y.out.cell 5;have z5:=Y.out.frozen 5;have y6:=Y.out.cell 6;have z6:=Y.out.frozen 6;have y7:=Y.out.cell 7;have z7:=Y.out.frozen 7;have y8:=Y.out.cell 8;have z8:=Y.out.frozen 8
   have P8:Kept (Blk (((((((((w13.setCell ⟨N,0,none⟩ (.int .i64 2)).setCell ⟨N,1,none⟩ (.int .i64 a1)).setCell ⟨N,2,none⟩ (.int .i64 a2)).setCell ⟨N,3,none⟩ (.int .i64 a3)).setCell ⟨N,4,none⟩ (.int .i64 a4)).setCell ⟨N,5,none⟩ (.int .i64 a5)).setCell ⟨N,6,none⟩ (.int .i64 a7)).setCell ⟨N,7,none⟩ (.string (strOfNums a6))).setCell ⟨N,8,none⟩ (.string ⟨#[]⟩)) N 71 #[.int .i64 2,.int .i64 a1,.int .i64 a2,.int .i64 a3,.int .i64 a4,.int .i64 a5,.int .i64 a7,.string (strOfNums a6),.string ⟨#[]⟩]):=⟨(((((((((Y.out.set_ 0 (.int .i64 2)).set_ 1 (.int .i64 a1)).set_ 2 (.int .i64 a2)).set_ 3 (.int .i64 a3)).set_ 4 (.int .i64 a4)).set_ 5 (.int .i64 a5)).set_ 6 (.int .i64 a7)).set_ 7 (.string (strOfNums a6))).set_ 8 (.string ⟨#[]⟩))⟩
   have PB:Kept (Bar [N] w13 (((((((((w13.setCell ⟨N,0,none⟩ (.int .i64 2)).setCell ⟨N,1,none⟩ (.int .i64 a1)).setCell ⟨N,2,none⟩ (.int .i64 a2)).setCell ⟨N,3,none⟩ (.int .i64 a3)).setCell ⟨N,4,none⟩ (.int .i64 a4)).setCell ⟨N,5,none⟩ (.int .i64 a5)).setCell ⟨N,6,none⟩ (.int .i64 a7)).setCell ⟨N,7,none⟩ (.string (strOfNums a6))).setCell ⟨N,8,none⟩ (.string ⟨#[]⟩))):=⟨((((((((((Bar.refl [N] w13).setCell (p:=⟨N,0,none⟩) (by simp) (.int .i64 2)).setCell (p:=⟨N,1,none⟩) (by simp) (.int .i64 a1)).setCell (p:=⟨N,2,none⟩) (by simp) (.int .i64 a2)).setCell (p:=⟨N,3,none⟩) (by simp) (.int .i64 a3)).setCell (p:=⟨N,4,none⟩) (by simp) (.int .i64 a4)).setCell (p:=⟨N,5,none⟩) (by simp) (.int .i64 a5)).setCell (p:=⟨N,6,none⟩) (by simp) (.int .i64 a7)).setCell (p:=⟨N,7,none⟩) (by simp) (.string (strOfNums a6))).setCell (p:=⟨N,8,none⟩) (by simp) (.string ⟨#[]⟩))⟩
   have HG:Kept (getV st=(⟨2,a1,a2,a3,a4,a5,a7,a6,[]⟩,s8)):=⟨by unfold getV;simp[E0.out,E1.out,E2.out,E3.out,E4.out,E5.out,E6.out,E7.out]⟩
   clear X Y
   go_wp2
   (try simp only[Exit.inBlock,Exit.then])
   refine bodyPost_ret (results_cell_row rfl _ _ N 71 #[.int .i64 2,.int .i64 a1,.int .i64 a2,.int .i64 a3,.int .i64 a4,.int .i64 a5,.int .i64 a7,.string (strOfNums a6),.string ⟨#[]⟩] (0,0) _ rfl P8.out Tryz.underlying71 rfl ev_size) rfl ?_
   unfold getVPost
   rw[HG.out]
   exact⟨rfl,⟨Bhash.out,n0⟩,HE.out.keep PB.out (by rw[List.mem_singleton];omega) (fun k hk hm=>by rw[List.mem_singleton] at hm;have:=HM2.out k hk;omega),BR.out.trans PB.out (by intro z hz;rw[List.mem_singleton] at hz;omega)⟩
  ·have d2:(a0 == 2)=false:=beq_eq_false_iff_ne.2 h2
   by_cases h3:a0=3
   ·subst h3
    have x0:=X.out.cell 0
    have KC:=rdnum_any w2 d G 2 s1 HE.out hd
    have hL2:=decNum_left s1 2
    obtain⟨a1,s2,e1⟩:∃ a s,decNum s1 2=(a,s):=⟨_,_,rfl⟩
    rw[e1] at KC hL2
    have E1:=Kept.mk e1
    dsimp only at hL2
    replace hL:=Nat.le_trans hL2 hL
    clear e1 hL2
    go_wp2_with fail
    refine KC.mono ?_
    rintro x w3 ⟨rfl,he,b⟩
    have hMl:=X.out.lt
    replace HE:=Kept.mk he;replace BR:=Kept.mk (BR.out.trans b (by simp));replace Y:=Kept.mk (Y.out.bar b (by rw[List.mem_singleton];omega));replace X:=Kept.mk (X.out.bar b (by rw[List.mem_singleton];omega))
    clear he b KC hMl x0
    have y5:=X.out.cell 5;have z5:=X.out.frozen 5
    go_upto_region 6 with(fail)
    have X2:Kept (Blk (w3.setCell ⟨M,5,none⟩ (.int .i64 a1)) M 71 #[.int .i64 3,.int .i64 0,.int .i64 0,.int .i64 0,.int .i64 0,.int .i64 a1,.int .i64 0,.string ⟨#[]⟩,.string ⟨#[]⟩]):=⟨(X.out.set_ 5 (.int .i64 a1))⟩
    have bb:Bar [M] w3 (w3.setCell ⟨M,5,none⟩ (.int .i64 a1)):=((Bar.refl [M] w3).setCell (p:=⟨M,5,none⟩) (by simp) (.int .i64 a1))
    replace HE:=Kept.mk (HE.out.keep bb (by rw[List.mem_singleton];omega) (fun k hk hm=>by rw[List.mem_singleton] at hm;have:=HM.out k hk;omega))
    replace BR:=Kept.mk (BR.out.trans bb (by intro z hz;rw[List.mem_singleton] at hz;omega));replace Y:=Kept.mk (Y.out.bar bb (by rw[List.mem_singleton];omega))
    replace X:=X2
    clear X2 bb y5 z5
    generalize (w3.setCell ⟨M,5,none⟩ (.int .i64 a1))=w4 at *
    have x0:=X.out.cell 0
    have KC:=rdraw_any w4 d G 32 s2 HE.out hd (by omega)
    unfold RawPost at KC
    have hL2:=rawD_len s2 32;have hB:=rawD_bytes HE.out.bytes 32
    obtain⟨a2,s3,e2⟩:∃ a s,rawD s2 32=(a,s):=⟨_,_,rfl⟩
    rw[e2] at hB
    rw[e2] at KC hL2
    have E2:=Kept.mk e2
    dsimp only at hL2 hB
    replace hL:=Nat.le_trans hL2 hL
    clear e2 hL2
    go_wp2_with fail
    refine KC.mono ?_
    rintro x w5 ⟨v,rfl,ho,he,b⟩
    obtain⟨A1,c1,rfl,-,-,hr⟩:=own_rd ho hB
    have hcv:=conv_same (cap:=c1) hr
    clear ho hr
    have hMl:=X.out.lt
    replace HE:=Kept.mk he;replace BR:=Kept.mk (BR.out.trans b (by simp));replace Y:=Kept.mk (Y.out.bar b (by rw[List.mem_singleton];omega));replace X:=Kept.mk (X.out.bar b (by rw[List.mem_singleton];omega))
    clear he b KC hMl x0
    have Bsec:=Kept.mk hB;clear hB
    have y8:=X.out.cell 8;have z8:=X.out.frozen 8
    go_upto_region 11 with(fail)
    have X2:Kept (Blk (w5.setCell ⟨M,8,none⟩ (.string (strOfNums a2))) M 71 #[.int .i64 3,.int .i64 0,.int .i64 0,.int .i64 0,.int .i64 0,.int .i64 a1,.int .i64 0,.string ⟨#[]⟩,.string (strOfNums a2)]):=⟨(X.out.set_ 8 (.string (strOfNums a2)))⟩
    have bb:Bar [M] w5 (w5.setCell ⟨M,8,none⟩ (.string (strOfNums a2))):=((Bar.refl [M] w5).setCell (p:=⟨M,8,none⟩) (by simp) (.string (strOfNums a2)))
    replace HE:=Kept.mk (HE.out.keep bb (by rw[List.mem_singleton];omega) (fun k hk hm=>by rw[List.mem_singleton] at hm;have:=HM.out k hk;omega))
    replace BR:=Kept.mk (BR.out.trans bb (by intro z hz;rw[List.mem_singleton] at hz;omega));replace Y:=Kept.mk (Y.out.bar bb (by rw[List.mem_singleton];omega))
    replace X:=X2
    clear X2 bb y8 z8 hcv
    generalize (w5.setCell ⟨M,8,none⟩ (.string (strOfNums a2)))=w6 at *
    have x0:=X.out.cell 0;have x1:=X.out.cell 1;have x2:=X.out.cell 2;have x3:=X.out.cell 3;have x4:=X.out.cell 4;have x5:=X.out.cell 5;have x6:=X.out.cell 6;have x7:=X.out.cell 7;have x8:=X.out.cell 8;have y0:=Y.out.cell 0;have z0:=Y.out.frozen 0;have y1:=Y.out.cell 1;have z1:=Y.out.frozen 1;have y2:=Y.out.cell 2;have z2:=Y.out.frozen 2;have y3:=Y.out.cell 3;have z3:=Y.out.frozen 3;have y4:=Y.out.cell 4;have z4:=Y.out.frozen 4;have y5:=Y.out.cell 5;have z5:=Y.out.frozen 5;have y6:=Y.out.cell 6;have z6:=Y.out.frozen 6;have y7:=Y.out.cell 7;have z7:=Y.out.frozen 7;have y8:=Y.out.cell 8;have z8:=Y.out.frozen 8
    have P8:Kept (Blk (((((((((w6.setCell ⟨N,0,none⟩ (.int .i64 3)).setCell ⟨N,1,none⟩ (.int .i64 0)).setCell ⟨N,2,none⟩ (.int .i64 0)).setCell ⟨N,3,none⟩ (.int .i64 0)).setCell ⟨N,4,none⟩ (.int .i64 0)).setCell ⟨N,5,none⟩ (.int .i64 a1)).setCell ⟨N,6,none⟩ (.int .i64 0)).setCell ⟨N,7,none⟩ (.string ⟨#[]⟩)).setCell ⟨N,8,none⟩ (.string (strOfNums a2))) N 71 #[.int .i64 3,.int .i64 0,.int .i64 0,.int .i64 0,.int .i64 0,.int .i64 a1,.int .i64 0,.string ⟨#[]⟩,.string (strOfNums a2)]):=⟨(((((((((Y.out.set_ 0 (.int .i64 3)).set_ 1 (.int .i64 0)).set_ 2 (.int .i64 0)).set_ 3 (.int .i64 0)).set_ 4 (.int .i64 0)).set_ 5 (.int .i64 a1)).set_ 6 (.int .i64 0)).set_ 7 (.string ⟨#[]⟩)).set_ 8 (.string (strOfNums a2)))⟩
    have PB:Kept (Bar [N] w6 (((((((((w6.setCell ⟨N,0,none⟩ (.int .i64 3)).setCell ⟨N,1,none⟩ (.int .i64 0)).setCell ⟨N,2,none⟩ (.int .i64 0)).setCell ⟨N,3,none⟩ (.int .i64 0)).setCell ⟨N,4,none⟩ (.int .i64 0)).setCell ⟨N,5,none⟩ (.int .i64 a1)).setCell ⟨N,6,none⟩ (.int .i64 0)).setCell ⟨N,7,none⟩ (.string ⟨#[]⟩)).setCell ⟨N,8,none⟩ (.string (strOfNums a2)))):=⟨((((((((((Bar.refl [N] w6).setCell (p:=⟨N,0,none⟩) (by simp) (.int .i64 3)).setCell (p:=⟨N,1,none⟩) (by simp) (.int .i64 0)).setCell (p:=⟨N,2,none⟩) (by simp) (.int .i64 0)).setCell (p:=⟨N,3,none⟩) (by simp) (.int .i64 0)).setCell (p:=⟨N,4,none⟩) (by simp) (.int .i64 0)).setCell (p:=⟨N,5,none⟩) (by simp) (.int .i64 a1)).setCell (p:=⟨N,6,none⟩) (by simp) (.int .i64 0)).setCell (p:=⟨N,7,none⟩) (by simp) (.string ⟨#[]⟩)).setCell (p:=⟨N,8,none⟩) (by simp) (.string (strOfNums a2)))⟩
    have HG:Kept (getV st=(⟨3,0,0,0,0,a1,0,[],a2⟩,s3)):=⟨by unfold getV;simp[E0.out,E1.out,E2.out]⟩
    clear X Y
    go_wp2
    (try simp only[Exit.inBlock,Exit.then])
    refine bodyPost_ret (results_cell_row rfl _ _ N 71 #[.int .i64 3,.int .i64 0,.int .i64 0,.int .i64 0,.int .i64 0,.int .i64 a1,.int .i64 0,.string ⟨#[]⟩,.string (strOfNums a2)] (0,0) _ rfl P8.out Tryz.underlying71 rfl ev_size) rfl ?_
    unfold getVPost
    rw[HG.out]
    exact⟨rfl,⟨n0,Bsec.out⟩,HE.out.keep PB.out (by rw[List.mem_singleton];omega) (fun k hk hm=>by rw[List.mem_singleton] at hm;have:=HM2.out k hk;omega),BR.out.trans PB.out (by intro z hz;rw[List.mem_singleton] at hz;omega)⟩
   ·have d3:(a0 == 3)=false:=beq_eq_false_iff_ne.2 h3
    by_cases h4:1 < a0
    ·have h5:¬ a0 < 3:=by omega
     have x0:=X.out.cell 0
     have KC:=rdnum_any w2 d G 2 s1 HE.out hd
     have hL2:=decNum_left s1 2
     obtain⟨a1,s2,e1⟩:∃ a s,decNum s1 2=(a,s):=⟨_,_,rfl⟩
     rw[e1] at KC hL2
     have E1:=Kept.mk e1
     dsimp only at hL2
     replace hL:=Nat.le_trans hL2 hL
     clear e1 hL2
     go_wp2_with fail
     refine KC.mono ?_
     rintro x w3 ⟨rfl,he,b⟩
     have hMl:=X.out.lt
     replace HE:=Kept.mk he;replace BR:=Kept.mk (BR.out.trans b (by simp));replace Y:=Kept.mk (Y.out.bar b (by rw[List.mem_singleton];omega));replace X:=Kept.mk (X.out.bar b (by rw[List.mem_singleton];omega))
     clear he b KC hMl x0
     have y5:=X.out.cell 5;have z5:=X.out.frozen 5
     go_upto_region 6 with(fail)
     have X2:Kept (Blk (w3.setCell ⟨M,5,none⟩ (.int .i64 a1)) M 71 #[.int .i64 a0,.int .i64 0,.int .i64 0,.int .i64 0,.int .i64 0,.int .i64 a1,.int .i64 0,.string ⟨#[]⟩,.string ⟨#[]⟩]):=⟨(X.out.set_ 5 (.int .i64 a1))⟩
     have bb:Bar [M] w3 (w3.setCell ⟨M,5,none⟩ (.int .i64 a1)):=((Bar.refl [M] w3).setCell (p:=⟨M,5,none⟩) (by simp) (.int .i64 a1))
     replace HE:=Kept.mk (HE.out.keep bb (by rw[List.mem_singleton];omega) (fun k hk hm=>by rw[List.mem_singleton] at hm;have:=HM.out k hk;omega))
     replace BR:=Kept.mk (BR.out.trans bb (by intro z hz;rw[List.mem_singleton] at hz;omega));replace Y:=Kept.mk (Y.out.bar bb (by rw[List.mem_singleton];omega))
     replace X:=X2
     clear X2 bb y5 z5
     generalize (w3.setCell ⟨M,5,none⟩ (.int .i64 a1))=w4 at *
     have x0:=X.out.cell 0;have x1:=X.out.cell 1;have x2:=X.out.cell 2;have x3:=X.out.cell 3;have x4:=X.out.cell 4;have x5:=X.out.cell 5;have x6:=X.out.cell 6;have x7:=X.out.cell 7;have x8:=X.out.cell 8;have y0:=Y.out.cell 0;have z0:=Y.out.frozen 0;have y1:=Y.out.cell 1;have z1:=Y.out.frozen 1;have y2:=Y.out.cell 2;have z2:=Y.out.frozen 2;have y3:=Y.out.cell 3;have z3:=Y.out.frozen 3;have y4:=Y.out.cell 4;have z4:=Y.out.frozen 4;have y5:=Y.out.cell 5;have z5:=Y.out.frozen 5;have y6:=Y.out.cell 6;have z6:=Y.out.frozen 6;have y7:=Y.out.cell 7;have z7:=Y.out.frozen 7;have y8:=Y.out.cell 8;have z8:=Y.out.frozen 8
     have P8:Kept (Blk (((((((((w4.setCell ⟨N,0,none⟩ (.int .i64 a0)).setCell ⟨N,1,none⟩ (.int .i64 0)).setCell ⟨N,2,none⟩ (.int .i64 0)).setCell ⟨N,3,none⟩ (.int .i64 0)).setCell ⟨N,4,none⟩ (.int .i64 0)).setCell ⟨N,5,none⟩ (.int .i64 a1)).setCell ⟨N,6,none⟩ (.int .i64 0)).setCell ⟨N,7,none⟩ (.string ⟨#[]⟩)).setCell ⟨N,8,none⟩ (.string ⟨#[]⟩)) N 71 #[.int .i64 a0,.int .i64 0,.int .i64 0,.int .i64 0,.int .i64 0,.int .i64 a1,.int .i64 0,.string ⟨#[]⟩,.string ⟨#[]⟩]):=⟨(((((((((Y.out.set_ 0 (.int .i64 a0)).set_ 1 (.int .i64 0)).set_ 2 (.int .i64 0)).set_ 3 (.int .i64 0)).set_ 4 (.int .i64 0)).set_ 5 (.int .i64 a1)).set_ 6 (.int .i64 0)).set_ 7 (.string ⟨#[]⟩)).set_ 8 (.string ⟨#[]⟩))⟩
     have PB:Kept (Bar [N] w4 (((((((((w4.setCell ⟨N,0,none⟩ (.int .i64 a0)).setCell ⟨N,1,none⟩ (.int .i64 0)).setCell ⟨N,2,none⟩ (.int .i64 0)).setCell ⟨N,3,none⟩ (.int .i64 0)).setCell ⟨N,4,none⟩ (.int .i64 0)).setCell ⟨N,5,none⟩ (.int .i64 a1)).setCell ⟨N,6,none⟩ (.int .i64 0)).setCell ⟨N,7,none⟩ (.string ⟨#[]⟩)).setCell ⟨N,8,none⟩ (.string ⟨#[]⟩))):=⟨((((((((((Bar.refl [N] w4).setCell (p:=⟨N,0,none⟩) (by simp) (.int .i64 a0)).setCell (p:=⟨N,1,none⟩) (by simp) (.int .i64 0)).setCell (p:=⟨N,2,none⟩) (by simp) (.int .i64 0)).setCell (p:=⟨N,3,none⟩) (by simp) (.int .i64 0)).setCell (p:=⟨N,4,none⟩) (by simp) (.int .i64 0)).setCell (p:=⟨N,5,none⟩) (by simp) (.int .i64 a1)).setCell (p:=⟨N,6,none⟩) (by simp) (.int .i64 0)).setCell (p:=⟨N,7,none⟩) (by simp) (.string ⟨#[]⟩)).setCell (p:=⟨N,8,none⟩) (by simp) (.string ⟨#[]⟩))⟩
     have HG:Kept (getV st=(⟨a0,0,0,0,0,a1,0,[],[]⟩,s2)):=⟨by unfold getV;simp[E0.out,E1.out,h2,h3,(show 1 < a0 by omega),(show ¬ a0 < 3 by omega)]⟩
     clear X Y
     go_wp2
     (try simp only[Exit.inBlock,Exit.then])
     refine bodyPost_ret (results_cell_row rfl _ _ N 71 #[.int .i64 a0,.int .i64 0,.int .i64 0,.int .i64 0,.int .i64 0,.int .i64 a1,.int .i64 0,.string ⟨#[]⟩,.string ⟨#[]⟩] (0,0) _ rfl P8.out Tryz.underlying71 rfl ev_size) rfl ?_
     unfold getVPost
     rw[HG.out]
     exact⟨rfl,⟨n0,n0⟩,HE.out.keep PB.out (by rw[List.mem_singleton];omega) (fun k hk hm=>by rw[List.mem_singleton] at hm;have:=HM2.out k hk;omega),BR.out.trans PB.out (by intro z hz;rw[List.mem_singleton] at hz;omega)⟩
    ·have h5:a0 < 3:=by omega
     have x0:=X.out.cell 0
     have KC:=rdnum_any w2 d G 1 s1 HE.out hd
     have hL2:=decNum_left s1 1
     obtain⟨a1,s2,e1⟩:∃ a s,decNum s1 1=(a,s):=⟨_,_,rfl⟩
     rw[e1] at KC hL2
     have E1:=Kept.mk e1
     dsimp only at hL2
     replace hL:=Nat.le_trans hL2 hL
     clear e1 hL2
     go_wp2_with fail
     refine KC.mono ?_
     rintro x w3 ⟨rfl,he,b⟩
     have hMl:=X.out.lt
     replace HE:=Kept.mk he;replace BR:=Kept.mk (BR.out.trans b (by simp));replace Y:=Kept.mk (Y.out.bar b (by rw[List.mem_singleton];omega));replace X:=Kept.mk (X.out.bar b (by rw[List.mem_singleton];omega))
     clear he b KC hMl x0
     have x0:=X.out.cell 0
     have KC:=rdnum_any w3 d G 1 s2 HE.out hd
     have hL2:=decNum_left s2 1
     obtain⟨a2,s3,e2⟩:∃ a s,decNum s2 1=(a,s):=⟨_,_,rfl⟩
     rw[e2] at KC hL2
     have E2:=Kept.mk e2
     dsimp only at hL2
     replace hL:=Nat.le_trans hL2 hL
     clear e2 hL2
     go_wp2_with fail
     refine KC.mono ?_
     rintro x w4 ⟨rfl,he,b⟩
     have hMl:=X.out.lt
     replace HE:=Kept.mk he;replace BR:=Kept.mk (BR.out.trans b (by simp));replace Y:=Kept.mk (Y.out.bar b (by rw[List.mem_singleton];omega));replace X:=Kept.mk (X.out.bar b (by rw[List.mem_singleton];omega))
     clear he b KC hMl x0
     have x0:=X.out.cell 0
     have KC:=rdnum_any w4 d G 1 s3 HE.out hd
     have hL2:=decNum_left s3 1
     obtain⟨a3,s4,e3⟩:∃ a s,decNum s3 1=(a,s):=⟨_,_,rfl⟩
     rw[e3] at KC hL2
     have E3:=Kept.mk e3
     dsimp only at hL2
     replace hL:=Nat.le_trans hL2 hL
     clear e3 hL2
     go_wp2_with fail
     refine KC.mono ?_
     rintro x w5 ⟨rfl,he,b⟩
     have hMl:=X.out.lt
     replace HE:=Kept.mk he;replace BR:=Kept.mk (BR.out.trans b (by simp));replace Y:=Kept.mk (Y.out.bar b (by rw[List.mem_singleton];omega));replace X:=Kept.mk (X.out.bar b (by rw[List.mem_singleton];omega))
     clear he b KC hMl x0
     have x0:=X.out.cell 0
     have KC:=rdnum_any w5 d G 8 s4 HE.out hd
     have hL2:=decNum_left s4 8
     obtain⟨a4,s5,e4⟩:∃ a s,decNum s4 8=(a,s):=⟨_,_,rfl⟩
     rw[e4] at KC hL2
     have E4:=Kept.mk e4
     dsimp only at hL2
     replace hL:=Nat.le_trans hL2 hL
     clear e4 hL2
     go_wp2_with fail
     refine KC.mono ?_
     rintro x w6 ⟨rfl,he,b⟩
     have hMl:=X.out.lt
     replace HE:=Kept.mk he;replace BR:=Kept.mk (BR.out.trans b (by simp));replace Y:=Kept.mk (Y.out.bar b (by rw[List.mem_singleton];omega));replace X:=Kept.mk (X.out.bar b (by rw[List.mem_singleton];omega))
     clear he b KC hMl x0
     have y1:=X.out.cell 1;have z1:=X.out.frozen 1;have y2:=X.out.cell 2;have z2:=X.out.frozen 2;have y3:=X.out.cell 3;have z3:=X.out.frozen 3;have y4:=X.out.cell 4;have z4:=X.out.frozen 4
     go_upto_region 4 with(fail)
     have X2:Kept (Blk ((((w6.setCell ⟨M,1,none⟩ (.int .i64 a1)).setCell ⟨M,2,none⟩ (.int .i64 a2)).setCell ⟨M,3,none⟩ (.int .i64 a3)).setCell ⟨M,4,none⟩ (.int .i64 a4)) M 71 #[.int .i64 a0,.int .i64 a1,.int .i64 a2,.int .i64 a3,.int .i64 a4,.int .i64 0,.int .i64 0,.string ⟨#[]⟩,.string ⟨#[]⟩]):=⟨((((X.out.set_ 1 (.int .i64 a1)).set_ 2 (.int .i64 a2)).set_ 3 (.int .i64 a3)).set_ 4 (.int .i64 a4))⟩
     have bb:Bar [M] w6 ((((w6.setCell ⟨M,1,none⟩ (.int .i64 a1)).setCell ⟨M,2,none⟩ (.int .i64 a2)).setCell ⟨M,3,none⟩ (.int .i64 a3)).setCell ⟨M,4,none⟩ (.int .i64 a4)):=(((((Bar.refl [M] w6).setCell (p:=⟨M,1,none⟩) (by simp) (.int .i64 a1)).setCell (p:=⟨M,2,none⟩) (by simp) (.int .i64 a2)).setCell (p:=⟨M,3,none⟩) (by simp) (.int .i64 a3)).setCell (p:=⟨M,4,none⟩) (by simp) (.int .i64 a4))
     replace HE:=Kept.mk (HE.out.keep bb (by rw[List.mem_singleton];omega) (fun k hk hm=>by rw[List.mem_singleton] at hm;have:=HM.out k hk;omega))
     replace BR:=Kept.mk (BR.out.trans bb (by intro z hz;rw[List.mem_singleton] at hz;omega));replace Y:=Kept.mk (Y.out.bar bb (by rw[List.mem_singleton];omega))
     replace X:=X2
     clear X2 bb y1 z1 y2 z2 y3 z3 y4 z4
     generalize ((((w6.setCell ⟨M,1,none⟩ (.int .i64 a1)).setCell ⟨M,2,none⟩ (.int .i64 a2)).setCell ⟨M,3,none⟩ (.int .i64 a3)).setCell ⟨M,4,none⟩ (.int .i64 a4))=w7 at *
     have x0:=X.out.cell 0;have x1:=X.out.cell 1;have x2:=X.out.cell 2;have x3:=X.out.cell 3;have x4:=X.out.cell 4;have x5:=X.out.cell 5;have x6:=X.out.cell 6;have x7:=X.out.cell 7;have x8:=X.out.cell 8;have y0:=Y.out.cell 0;have z0:=Y.out.frozen 0;have y1:=Y.out.cell 1;have z1:=Y.out.frozen 1;have y2:=Y.out.cell 2;have z2:=Y.out.frozen 2;have y3:=Y.out.cell 3;have z3:=Y.out.frozen 3;have y4:=Y.out.cell 4;have z4:=Y.out.frozen 4;have y5:=Y.out.cell 5;have z5:=Y.out.frozen 5;have y6:=Y.out.cell 6;have z6:=Y.out.frozen 6;have y7:=Y.out.cell 7;have z7:=Y.out.frozen 7;have y8:=Y.out.cell 8;have z8:=Y.out.frozen 8
     have P8:Kept (Blk (((((((((w7.setCell ⟨N,0,none⟩ (.int .i64 a0)).setCell ⟨N,1,none⟩ (.int .i64 a1)).setCell ⟨N,2,none⟩ (.int .i64 a2)).setCell ⟨N,3,none⟩ (.int .i64 a3)).setCell ⟨N,4,none⟩ (.int .i64 a4)).setCell ⟨N,5,none⟩ (.int .i64 0)).setCell ⟨N,6,none⟩ (.int .i64 0)).setCell ⟨N,7,none⟩ (.string ⟨#[]⟩)).setCell ⟨N,8,none⟩ (.string ⟨#[]⟩)) N 71 #[.int .i64 a0,.int .i64 a1,.int .i64 a2,.int .i64 a3,.int .i64 a4,.int .i64 0,.int .i64 0,.string ⟨#[]⟩,.string ⟨#[]⟩]):=⟨(((((((((Y.out.set_ 0 (.int .i64 a0)).set_ 1 (.int .i64 a1)).set_ 2 (.int .i64 a2)).set_ 3 (.int .i64 a3)).set_ 4 (.int .i64 a4)).set_ 5 (.int .i64 0)).set_ 6 (.int .i64 0)).set_ 7 (.string ⟨#[]⟩)).set_ 8 (.string ⟨#[]⟩))⟩
     have PB:Kept (Bar [N] w7 (((((((((w7.setCell ⟨N,0,none⟩ (.int .i64 a0)).setCell ⟨N,1,none⟩ (.int .i64 a1)).setCell ⟨N,2,none⟩ (.int .i64 a2)).setCell ⟨N,3,none⟩ (.int .i64 a3)).setCell ⟨N,4,none⟩ (.int .i64 a4)).setCell ⟨N,5,none⟩ (.int .i64 0)).setCell ⟨N,6,none⟩ (.int .i64 0)).setCell ⟨N,7,none⟩ (.string ⟨#[]⟩)).setCell ⟨N,8,none⟩ (.string ⟨#[]⟩))):=⟨((((((((((Bar.refl [N] w7).setCell (p:=⟨N,0,none⟩) (by simp) (.int .i64 a0)).setCell (p:=⟨N,1,none⟩) (by simp) (.int .i64 a1)).setCell (p:=⟨N,2,none⟩) (by simp) (.int .i64 a2)).setCell (p:=⟨N,3,none⟩) (by simp) (.int .i64 a3)).setCell (p:=⟨N,4,none⟩) (by simp) (.int .i64 a4)).setCell (p:=⟨N,5,none⟩) (by simp) (.int .i64 0)).setCell (p:=⟨N,6,none⟩) (by simp) (.int .i64 0)).setCell (p:=⟨N,7,none⟩) (by simp) (.string ⟨#[]⟩)).setCell (p:=⟨N,8,none⟩) (by simp) (.string ⟨#[]⟩))⟩
     have HG:Kept (getV st=(⟨a0,a1,a2,a3,a4,0,0,[],[]⟩,s5)):=⟨by unfold getV;simp[E0.out,E1.out,E2.out,E3.out,E4.out,h2,h3,(show ¬ 1 < a0 by omega),(show a0 < 3 by omega)]⟩
     clear X Y
     go_wp2
     (try simp only[Exit.inBlock,Exit.then])
     refine bodyPost_ret (results_cell_row rfl _ _ N 71 #[.int .i64 a0,.int .i64 a1,.int .i64 a2,.int .i64 a3,.int .i64 a4,.int .i64 0,.int .i64 0,.string ⟨#[]⟩,.string ⟨#[]⟩] (0,0) _ rfl P8.out Tryz.underlying71 rfl ev_size) rfl ?_
     unfold getVPost
     rw[HG.out]
     exact⟨rfl,⟨n0,n0⟩,HE.out.keep PB.out (by rw[List.mem_singleton];omega) (fun k hk hm=>by rw[List.mem_singleton] at hm;have:=HM2.out k hk;omega),BR.out.trans PB.out (by intro z hz;rw[List.mem_singleton] at hz;omega)⟩
set_option maxRecDepth 100000 in
set_option maxHeartbeats 1000000 in
theorem putmove_any {w:World}{F:List Nat}{e:Nat}(a b c:Int) {st:St}(h:En 143 w F e st) (hl:st.2.length≤1000000000):Calls Tryz.prog 115 #[.pointer (some ⟨e,0,none⟩),.int .i64 a,.int .i64 b,.int .i64 c] w fun x w'=>x=.returned (.tuple #[])∧∃ F',En 143 w' F' e (wMove st a b c)∧Fp F F' w w':=by
 have l1:=encNum_len st a 1
 have l2:=encNum_len (encNum st a 1) b 1
 have KC:=num_any w F e a 1 st h (by omega)
 clear h
 go_enter Tryz.func115,Tryz.ntmps115
 go_wp2_with fail
 refine KC.mono ?_
 rintro x w1 ⟨rfl,F1,he,fp⟩
 have FP:=Kept.mk fp
 have KC2:=num_any w1 F1 e b 1 _ he (by omega)
 clear he fp KC
 go_wp2_with fail
 refine KC2.mono ?_
 rintro x w2 ⟨rfl,F2,he,fp⟩
 replace FP:=Kept.mk (FP.out.trans fp)
 have KC:=num_any w2 F2 e c 8 _ he (by omega)
 clear he fp KC2
 go_wp2_with fail
 refine KC.mono ?_
 rintro x w3 ⟨rfl,F3,he,fp⟩
 replace FP:=Kept.mk (FP.out.trans fp)
 have HE:=Kept.mk he
 clear he fp KC
 go_wp2
 go_end0
 exact⟨rfl,F3,HE.out,FP.out⟩
set_option maxRecDepth 100000 in
set_option maxHeartbeats 1000000 in
theorem puttext_any {w:World}{F:List Nat}{e:Nat}(b:List Int) (hb:Bytes b) (hbl:b.length≤100000) {st:St}(h:En 143 w F e st) (hl:st.2.length≤1000000000):Calls Tryz.prog 116 #[.pointer (some ⟨e,0,none⟩),.string (strOfNums b)] w fun x w'=>x=.returned (.tuple #[])∧∃ F',En 143 w' F' e (wText st b)∧Fp F F' w w':=by
 obtain⟨w1,c,hcv,r1,b1⟩:=to_bytes w b hb
 have HE:Kept (En 143 w1 F e (wText st (b.take 0))):=⟨by rw[List.take_zero,wText,wr_nil];exact h.below b1⟩
 have FP:Kept (Fp F F w w1):=⟨⟨barOf b1 F,fun _ hk=>.inl hk⟩⟩
 obtain⟨M,hM⟩:∃ M,w.heap.size=M:=⟨_,rfl⟩
 rw[hM] at hcv r1
 have OF:Kept (Off (some ⟨M,0,none⟩) b.length F):=⟨.inr ⟨M,0,rfl,fun hm=>by have:=h.lt M hm;omega⟩⟩
 have R:=Kept.mk r1
 have LB:=Kept.mk (show ∀ k,k≤b.length→(wText st (b.take k)).2.length≤1000100000 from fun k hk=>by
  have:=wr_len st True (b.take k)
  rw[List.length_take] at this
  unfold wText;omega)
 have HB:=Kept.mk hb
 clear r1 b1 h hb hM
 obtain⟨n,hn⟩:∃ n,b.length=n:=⟨_,rfl⟩
 have HN:=Kept.mk hn
 rw[hn] at hcv R OF LB hbl
 clear hn
 go_enter Tryz.func116,Tryz.ntmps116
 go_wp2
 clear hcv
 go_loopw [9] (fun i wr=>∃ (k:Nat) (F':List Nat),k≤n∧i=.int .i64 k∧Kept (En 143 wr F' e (wText st (b.take k)))∧Kept (Fp F F' w wr)∧Kept (Off (some ⟨M,0,none⟩) n F')∧Kept (Rd wr (some ⟨M,0,none⟩) n b)) (fun i _=>n - (Go.RowKit.intOf i).toNat)
 case atStart=>exact⟨0,F,by omega,rfl,HE,FP,OF,R⟩
 case round =>
  clear HE FP OF R
  obtain⟨k,F',hk,rfl,HE,FP,OF,R⟩:=hrel
  by_cases hkn:k < n
  ·have hkn':(k:Int) < n:=by omega
   have hkb:k < b.length:=by have:=HN.out;omega
   have hc:wr.cell? ⟨M,k,none⟩=some (.int .u8 (at_ b k)):=by
    obtain⟨-,-,h3⟩:=R.out
    rcases h3 with h3|⟨g,o,hg,hc⟩
    ·omega
    ·have:=hc k hkn
     simp only[Option.some.injEq,Addr.mk.injEq] at hg
     obtain⟨rfl,rfl,-⟩:=hg
     simpa using this
   have hx:=HB.out.at_ k
   have KC:=num_any wr F' e (at_ b k) 1 _ HE.out (by have:=LB.out k hk;omega)
   rw[wText_snoc _ _ _ hx,show b.take k++[at_ b k]=b.take (k+1) by rw[List.take_succ_eq_append_getElem hkb];simp[at_,hkb]] at KC
   obtain⟨z,hz⟩:∃ z,at_ b k=z:=⟨_,rfl⟩
   rw[hz] at KC hc hx
   have KK:=Kept.mk KC
   clear KC hz hkb
   go_wp2_with fail
   refine KK.out.mono ?_
   rintro x w2 ⟨rfl,F2,he,fp⟩
   have OF2:=Kept.mk (OF.out.step R.out fp)
   replace R:=Kept.mk (R.out.far fp.1 OF.out)
   replace OF:=OF2
   replace FP:=Kept.mk (FP.out.trans fp)
   replace HE:=Kept.mk he
   clear he fp KK OF2 hc hx
   go_wp2
   go_roundw
   case rel=>exact⟨k+1,F2,by omega,by go_num,HE,FP,OF,R⟩
   case measure=>simp[Go.RowKit.intOf];omega
  ·have hkn':¬ (k:Int) < n:=by omega
   obtain rfl:k=n:=by omega
   have hh:b.take k=b:=by rw[← HN.out];exact List.take_length
   rw[hh] at HE
   go_wp2
   go_end0
   exact⟨rfl,F',HE.out,FP.out⟩
theorem cnotin_step {F F':List Nat}{w w':World}{N:Nat}(fp:Fp F F' w w') (h:N∉F) (hlt:N < w.heap.size):N∉F':=fun hm=>by
 rcases fp.2 N hm with h1|h1
 ·exact h h1
 ·omega
theorem wMove_len (st:St) (a b c:Int):(wMove st a b c).2.length≤st.2.length+24:=by
 have l1:=encNum_len st a 1
 have l2:=encNum_len (encNum st a 1) b 1
 have l3:=encNum_len (encNum (encNum st a 1) b 1) c 8
 unfold wMove;omega
theorem wText_len (st:St) (b:List Int):(wText st b).2.length≤st.2.length+b.length:=wr_len st True b
set_option maxRecDepth 100000 in
set_option maxHeartbeats 4000000 in
theorem cputr_any {w:World}{F:List Nat}{e:Nat}{st:St}{r:RV}(h:En 143 w F e st) (hr:r.ok) (hl:st.2.length≤900000000):Calls Tryz.prog 118 #[.pointer (some ⟨e,0,none⟩),rqv r] w fun x w'=>x=.returned (.bool (decide (HoldR r)))∧∃ F',En 143 w' F' e (if HoldR r then wReq st r else st)∧Fp F F' w w':=by
 have KH0:=fun w=>holdR_any r hr w
 have LE:=encNum_len
 obtain⟨kind,dst,asset,amount,id,due,hash,sec⟩:=r
 obtain⟨hb1,hb2⟩:=hr
 unfold rqv at *
 dsimp only at KH0 hb1 hb2 ⊢
 have hN:w.heap.size∉F:=fun hm=>by have:=h.lt _ hm;omega
 have bz:∀ o,Below w.heap.size w (w.alloc o):=fun o=>(Below.refl _ _).alloc (Nat.le_refl _) o
 have NF:=Kept.mk hN
 have HE0:=Kept.mk (fun o=>h.below (bz o))
 have FP0:Kept (∀ o,Fp F F w (w.alloc o)):=⟨fun o=>⟨barOf (bz o) F,fun _ hk=>.inl hk⟩⟩
 have X0:=Kept.mk (fun cs=>Blk.new w 65 cs)
 obtain⟨N,hN2⟩:∃ N,w.heap.size=N:=⟨_,rfl⟩
 rw[hN2] at NF X0
 clear hN bz h
 by_cases hh:HoldR ⟨kind,dst,asset,amount,id,due,hash,sec⟩
 ·rw[if_pos hh,decide_eq_true hh]
  rw[decide_eq_true hh] at KH0
  rcases hh with⟨h_kind,h_id,h_due,h_hash,h_sec⟩|⟨h_kind,h_id,h_due,h_hash,h_sec⟩|⟨h_kind,h_dst,h_asset,h_amount,h_due,h_hash,h_sec⟩|⟨h_kind,h_dst,h_asset,h_amount,h_due,h_hash,h_sec⟩
  ·dsimp only at h_kind h_id h_due h_hash h_sec
   subst h_kind h_id h_due h_hash h_sec
   have HE:=Kept.mk (HE0.out (.cells #[.int .i64 1,.int .i64 dst,.int .i64 asset,.int .i64 amount,.int .i64 0,.int .i64 0,.string (strOfNums []),.string (strOfNums [])] 65));have FP:=Kept.mk (FP0.out (.cells #[.int .i64 1,.int .i64 dst,.int .i64 asset,.int .i64 amount,.int .i64 0,.int .i64 0,.string (strOfNums []),.string (strOfNums [])] 65));have X:=Kept.mk (X0.out #[.int .i64 1,.int .i64 dst,.int .i64 asset,.int .i64 amount,.int .i64 0,.int .i64 0,.string (strOfNums []),.string (strOfNums [])])
   have KH:=Kept.mk KH0
   clear KH0
   go_enter Tryz.func118,Tryz.ntmps118
   go_upto_region 1 with(fail)
   generalize w.alloc (.cells #[.int .i64 1,.int .i64 dst,.int .i64 asset,.int .i64 amount,.int .i64 0,.int .i64 0,.string (strOfNums []),.string (strOfNums [])] 65)=w0 at *
   clear HE0 FP0 X0
   have x0:=X.out.cell 0;have x1:=X.out.cell 1;have x2:=X.out.cell 2;have x3:=X.out.cell 3;have x4:=X.out.cell 4;have x5:=X.out.cell 5;have x6:=X.out.cell 6;have x7:=X.out.cell 7
   go_wp2_with fail
   refine(KH.out _).mono ?_
   rintro x w1 ⟨rfl,b1⟩
   replace X:=Kept.mk (X.out.below b1 X.out.lt);replace HE:=Kept.mk (HE.out.below b1);replace FP:=Kept.mk (FP.out.trans (F'':=F) ⟨barOf b1 _,fun _ hk=>.inl hk⟩)
   clear b1 KH x0 x1 x2 x3 x4 x5 x6 x7
   have x0:=X.out.cell 0
   have KC:=num_any w1 F e 1 1 _ HE.out (by have:=hl;omega)
   go_wp2_with fail
   refine KC.mono ?_
   rintro x w2 ⟨rfl,F2,he,fp⟩
   have hlt:=X.out.lt
   have LB2:Kept ((encNum st 1 1).2.length≤900000000+8):=⟨by
    have a1:=encNum_len st 1 1
    omega⟩
   replace X:=Kept.mk (X.out.bar fp.1 NF.out);replace NF:=Kept.mk (cnotin_step fp NF.out hlt);replace FP:=Kept.mk (FP.out.trans fp);replace HE:=Kept.mk he
   clear he fp KC hlt x0
   have x0:=X.out.cell 0;have x1:=X.out.cell 1;have x2:=X.out.cell 2;have x3:=X.out.cell 3
   have KC:=putmove_any dst asset amount HE.out (by have:=hl;have:=LB2.out;omega)
   go_wp2_with fail
   refine KC.mono ?_
   rintro x w3 ⟨rfl,F3,he,fp⟩
   have hlt:=X.out.lt
   have LB3:Kept ((wMove (encNum st 1 1) dst asset amount).2.length≤900000000+32):=⟨by
    have a1:=wMove_len (encNum st 1 1) dst asset amount
    have:=LB2.out;omega⟩
   replace X:=Kept.mk (X.out.bar fp.1 NF.out);replace NF:=Kept.mk (cnotin_step fp NF.out hlt);replace FP:=Kept.mk (FP.out.trans fp);replace HE:=Kept.mk he
   clear he fp KC hlt x0 x1 x2 x3
   go_wp2
   go_ret
   refine⟨rfl,_,?_,FP.out⟩
   rw[← wReq1 st dst asset amount];exact HE.out
  ·dsimp only at h_kind h_id h_due h_hash h_sec
   subst h_kind h_id h_sec
   have HE:=Kept.mk (HE0.out (.cells #[.int .i64 2,.int .i64 dst,.int .i64 asset,.int .i64 amount,.int .i64 0,.int .i64 due,.string (strOfNums hash),.string (strOfNums [])] 65));have FP:=Kept.mk (FP0.out (.cells #[.int .i64 2,.int .i64 dst,.int .i64 asset,.int .i64 amount,.int .i64 0,.int .i64 due,.string (strOfNums hash),.string (strOfNums [])] 65));have X:=Kept.mk (X0.out #[.int .i64 2,.int .i64 dst,.int .i64 asset,.int .i64 amount,.int .i64 0,.int .i64 due,.string (strOfNums hash),.string (strOfNums [])])
   have KH:=Kept.mk KH0
   clear KH0
   go_enter Tryz.func118,Tryz.ntmps118
   go_upto_region 1 with(fail)
   generalize w.alloc (.cells #[.int .i64 2,.int .i64 dst,.int .i64 asset,.int .i64 amount,.int .i64 0,.int .i64 due,.string (strOfNums hash),.string (strOfNums [])] 65)=w0 at *
   clear HE0 FP0 X0
   have x0:=X.out.cell 0;have x1:=X.out.cell 1;have x2:=X.out.cell 2;have x3:=X.out.cell 3;have x4:=X.out.cell 4;have x5:=X.out.cell 5;have x6:=X.out.cell 6;have x7:=X.out.cell 7
   go_wp2_with fail
   refine(KH.out _).mono ?_
   rintro x w1 ⟨rfl,b1⟩
   replace X:=Kept.mk (X.out.below b1 X.out.lt);replace HE:=Kept.mk (HE.out.below b1);replace FP:=Kept.mk (FP.out.trans (F'':=F) ⟨barOf b1 _,fun _ hk=>.inl hk⟩)
   clear b1 KH x0 x1 x2 x3 x4 x5 x6 x7
   have x0:=X.out.cell 0
   have KC:=num_any w1 F e 2 1 _ HE.out (by have:=hl;omega)
   go_wp2_with fail
   refine KC.mono ?_
   rintro x w2 ⟨rfl,F2,he,fp⟩
   have hlt:=X.out.lt
   have LB2:Kept ((encNum st 2 1).2.length≤900000000+8):=⟨by
    have a1:=encNum_len st 2 1
    omega⟩
   replace X:=Kept.mk (X.out.bar fp.1 NF.out);replace NF:=Kept.mk (cnotin_step fp NF.out hlt);replace FP:=Kept.mk (FP.out.trans fp);replace HE:=Kept.mk he
   clear he fp KC hlt x0
   have x0:=X.out.cell 0;have x1:=X.out.cell 1;have x2:=X.out.cell 2;have x3:=X.out.cell 3
   have KC:=putmove_any dst asset amount HE.out (by have:=hl;have:=LB2.out;omega)
   go_wp2_with fail
   refine KC.mono ?_
   rintro x w3 ⟨rfl,F3,he,fp⟩
   have hlt:=X.out.lt
   have LB3:Kept ((wMove (encNum st 2 1) dst asset amount).2.length≤900000000+32):=⟨by
    have a1:=wMove_len (encNum st 2 1) dst asset amount
    have:=LB2.out;omega⟩
   replace X:=Kept.mk (X.out.bar fp.1 NF.out);replace NF:=Kept.mk (cnotin_step fp NF.out hlt);replace FP:=Kept.mk (FP.out.trans fp);replace HE:=Kept.mk he
   clear he fp KC hlt x0 x1 x2 x3
   have x0:=X.out.cell 0;have x6:=X.out.cell 6
   have KC:=puttext_any hash hb1 (by omega) HE.out (by have:=hl;have:=LB2.out;have:=LB3.out;omega)
   go_wp2_with fail
   refine KC.mono ?_
   rintro x w4 ⟨rfl,F4,he,fp⟩
   have hlt:=X.out.lt
   have LB4:Kept ((wText (wMove (encNum st 2 1) dst asset amount) hash).2.length≤900000000+64):=⟨by
    have a1:=wText_len (wMove (encNum st 2 1) dst asset amount) hash
    have:=LB3.out;omega⟩
   replace X:=Kept.mk (X.out.bar fp.1 NF.out);replace NF:=Kept.mk (cnotin_step fp NF.out hlt);replace FP:=Kept.mk (FP.out.trans fp);replace HE:=Kept.mk he
   clear he fp KC hlt x0 x6
   have x0:=X.out.cell 0;have x5:=X.out.cell 5
   have KC:=num_any w4 F4 e due 8 _ HE.out (by have:=hl;have:=LB2.out;have:=LB3.out;have:=LB4.out;omega)
   go_wp2_with fail
   refine KC.mono ?_
   rintro x w5 ⟨rfl,F5,he,fp⟩
   have hlt:=X.out.lt
   have LB5:Kept ((encNum (wText (wMove (encNum st 2 1) dst asset amount) hash) due 8).2.length≤900000000+72):=⟨by
    have a1:=encNum_len (wText (wMove (encNum st 2 1) dst asset amount) hash) due 8
    have:=LB4.out;omega⟩
   replace X:=Kept.mk (X.out.bar fp.1 NF.out);replace NF:=Kept.mk (cnotin_step fp NF.out hlt);replace FP:=Kept.mk (FP.out.trans fp);replace HE:=Kept.mk he
   clear he fp KC hlt x0 x5
   go_wp2
   go_ret
   refine⟨rfl,_,?_,FP.out⟩
   rw[← wReq2 st dst asset amount due hash h_due];exact HE.out
  ·dsimp only at h_kind h_dst h_asset h_amount h_due h_hash h_sec
   subst h_kind h_dst h_asset h_amount h_due h_hash
   have HE:=Kept.mk (HE0.out (.cells #[.int .i64 3,.int .i64 0,.int .i64 0,.int .i64 0,.int .i64 id,.int .i64 0,.string (strOfNums []),.string (strOfNums sec)] 65));have FP:=Kept.mk (FP0.out (.cells #[.int .i64 3,.int .i64 0,.int .i64 0,.int .i64 0,.int .i64 id,.int .i64 0,.string (strOfNums []),.string (strOfNums sec)] 65));have X:=Kept.mk (X0.out #[.int .i64 3,.int .i64 0,.int .i64 0,.int .i64 0,.int .i64 id,.int .i64 0,.string (strOfNums []),.string (strOfNums sec)])
   have KH:=Kept.mk KH0
   clear KH0
   go_enter Tryz.func118,Tryz.ntmps118
   go_upto_region 1 with(fail)
   generalize w.alloc (.cells #[.int .i64 3,.int .i64 0,.int .i64 0,.int .i64 0,.int .i64 id,.int .i64 0,.string (strOfNums []),.string (strOfNums sec)] 65)=w0 at *
   clear HE0 FP0 X0
   have x0:=X.out.cell 0;have x1:=X.out.cell 1;have x2:=X.out.cell 2;have x3:=X.out.cell 3;have x4:=X.out.cell 4;have x5:=X.out.cell 5;have x6:=X.out.cell 6;have x7:=X.out.cell 7
   go_wp2_with fail
   refine(KH.out _).mono ?_
   rintro x w1 ⟨rfl,b1⟩
   replace X:=Kept.mk (X.out.below b1 X.out.lt);replace HE:=Kept.mk (HE.out.below b1);replace FP:=Kept.mk (FP.out.trans (F'':=F) ⟨barOf b1 _,fun _ hk=>.inl hk⟩)
   clear b1 KH x0 x1 x2 x3 x4 x5 x6 x7
   have x0:=X.out.cell 0
   have KC:=num_any w1 F e 3 1 _ HE.out (by have:=hl;omega)
   go_wp2_with fail
   refine KC.mono ?_
   rintro x w2 ⟨rfl,F2,he,fp⟩
   have hlt:=X.out.lt
   have LB2:Kept ((encNum st 3 1).2.length≤900000000+8):=⟨by
    have a1:=encNum_len st 3 1
    omega⟩
   replace X:=Kept.mk (X.out.bar fp.1 NF.out);replace NF:=Kept.mk (cnotin_step fp NF.out hlt);replace FP:=Kept.mk (FP.out.trans fp);replace HE:=Kept.mk he
   clear he fp KC hlt x0
   have x0:=X.out.cell 0;have x4:=X.out.cell 4
   have KC:=num_any w2 F2 e id 2 _ HE.out (by have:=hl;have:=LB2.out;omega)
   go_wp2_with fail
   refine KC.mono ?_
   rintro x w3 ⟨rfl,F3,he,fp⟩
   have hlt:=X.out.lt
   have LB3:Kept ((encNum (encNum st 3 1) id 2).2.length≤900000000+16):=⟨by
    have a1:=encNum_len (encNum st 3 1) id 2
    have:=LB2.out;omega⟩
   replace X:=Kept.mk (X.out.bar fp.1 NF.out);replace NF:=Kept.mk (cnotin_step fp NF.out hlt);replace FP:=Kept.mk (FP.out.trans fp);replace HE:=Kept.mk he
   clear he fp KC hlt x0 x4
   have x0:=X.out.cell 0;have x7:=X.out.cell 7
   have KC:=puttext_any sec hb2 (by omega) HE.out (by have:=hl;have:=LB2.out;have:=LB3.out;omega)
   go_wp2_with fail
   refine KC.mono ?_
   rintro x w4 ⟨rfl,F4,he,fp⟩
   have hlt:=X.out.lt
   have LB4:Kept ((wText (encNum (encNum st 3 1) id 2) sec).2.length≤900000000+48):=⟨by
    have a1:=wText_len (encNum (encNum st 3 1) id 2) sec
    have:=LB3.out;omega⟩
   replace X:=Kept.mk (X.out.bar fp.1 NF.out);replace NF:=Kept.mk (cnotin_step fp NF.out hlt);replace FP:=Kept.mk (FP.out.trans fp);replace HE:=Kept.mk he
   clear he fp KC hlt x0 x7
   go_wp2
   go_ret
   refine⟨rfl,_,?_,FP.out⟩
   rw[← wReq3 st id sec];exact HE.out
  ·dsimp only at h_kind h_dst h_asset h_amount h_due h_hash h_sec
   subst h_kind h_dst h_asset h_amount h_due h_hash h_sec
   have HE:=Kept.mk (HE0.out (.cells #[.int .i64 4,.int .i64 0,.int .i64 0,.int .i64 0,.int .i64 id,.int .i64 0,.string (strOfNums []),.string (strOfNums [])] 65));have FP:=Kept.mk (FP0.out (.cells #[.int .i64 4,.int .i64 0,.int .i64 0,.int .i64 0,.int .i64 id,.int .i64 0,.string (strOfNums []),.string (strOfNums [])] 65));have X:=Kept.mk (X0.out #[.int .i64 4,.int .i64 0,.int .i64 0,.int .i64 0,.int .i64 id,.int .i64 0,.string (strOfNums []),.string (strOfNums [])])
   have KH:=Kept.mk KH0
   clear KH0
   go_enter Tryz.func118,Tryz.ntmps118
   go_upto_region 1 with(fail)
   generalize w.alloc (.cells #[.int .i64 4,.int .i64 0,.int .i64 0,.int .i64 0,.int .i64 id,.int .i64 0,.string (strOfNums []),.string (strOfNums [])] 65)=w0 at *
   clear HE0 FP0 X0
   have x0:=X.out.cell 0;have x1:=X.out.cell 1;have x2:=X.out.cell 2;have x3:=X.out.cell 3;have x4:=X.out.cell 4;have x5:=X.out.cell 5;have x6:=X.out.cell 6;have x7:=X.out.cell 7
   go_wp2_with fail
   refine(KH.out _).mono ?_
   rintro x w1 ⟨rfl,b1⟩
   replace X:=Kept.mk (X.out.below b1 X.out.lt);replace HE:=Kept.mk (HE.out.below b1);replace FP:=Kept.mk (FP.out.trans (F'':=F) ⟨barOf b1 _,fun _ hk=>.inl hk⟩)
   clear b1 KH x0 x1 x2 x3 x4 x5 x6 x7
   have x0:=X.out.cell 0
   have KC:=num_any w1 F e 4 1 _ HE.out (by have:=hl;omega)
   go_wp2_with fail
   refine KC.mono ?_
   rintro x w2 ⟨rfl,F2,he,fp⟩
   have hlt:=X.out.lt
   have LB2:Kept ((encNum st 4 1).2.length≤900000000+8):=⟨by
    have a1:=encNum_len st 4 1
    omega⟩
   replace X:=Kept.mk (X.out.bar fp.1 NF.out);replace NF:=Kept.mk (cnotin_step fp NF.out hlt);replace FP:=Kept.mk (FP.out.trans fp);replace HE:=Kept.mk he
   clear he fp KC hlt x0
   have x0:=X.out.cell 0;have x4:=X.out.cell 4
   have KC:=num_any w2 F2 e id 2 _ HE.out (by have:=hl;have:=LB2.out;omega)
   go_wp2_with fail
   refine KC.mono ?_
   rintro x w3 ⟨rfl,F3,he,fp⟩
   have hlt:=X.out.lt
   have LB3:Kept ((encNum (encNum st 4 1) id 2).2.length≤900000000+16):=⟨by
    have a1:=encNum_len (encNum st 4 1) id 2
    have:=LB2.out;omega⟩
   replace X:=Kept.mk (X.out.bar fp.1 NF.out);replace NF:=Kept.mk (cnotin_step fp NF.out hlt);replace FP:=Kept.mk (FP.out.trans fp);replace HE:=Kept.mk he
   clear he fp KC hlt x0 x4
   go_wp2
   go_ret
   refine⟨rfl,_,?_,FP.out⟩
   rw[← wReq4 st id];exact HE.out
 ·rw[if_neg hh,decide_eq_false hh]
  rw[decide_eq_false hh] at KH0
  have HE:=Kept.mk (HE0.out (.cells #[.int .i64 kind,.int .i64 dst,.int .i64 asset,.int .i64 amount,.int .i64 id,.int .i64 due,.string (strOfNums hash),.string (strOfNums sec)] 65));have FP:=Kept.mk (FP0.out (.cells #[.int .i64 kind,.int .i64 dst,.int .i64 asset,.int .i64 amount,.int .i64 id,.int .i64 due,.string (strOfNums hash),.string (strOfNums sec)] 65));have X:=Kept.mk (X0.out #[.int .i64 kind,.int .i64 dst,.int .i64 asset,.int .i64 amount,.int .i64 id,.int .i64 due,.string (strOfNums hash),.string (strOfNums sec)])
  have KH:=Kept.mk KH0
  clear KH0
  go_enter Tryz.func118,Tryz.ntmps118
  go_upto_region 1 with(fail)
  generalize w.alloc (.cells #[.int .i64 kind,.int .i64 dst,.int .i64 asset,.int .i64 amount,.int .i64 id,.int .i64 due,.string (strOfNums hash),.string (strOfNums sec)] 65)=w0 at *
  clear HE0 FP0 X0
  have x0:=X.out.cell 0;have x1:=X.out.cell 1;have x2:=X.out.cell 2;have x3:=X.out.cell 3;have x4:=X.out.cell 4;have x5:=X.out.cell 5;have x6:=X.out.cell 6;have x7:=X.out.cell 7
  go_wp2_with fail
  refine(KH.out _).mono ?_
  rintro x w1 ⟨rfl,b1⟩
  replace X:=Kept.mk (X.out.below b1 X.out.lt);replace HE:=Kept.mk (HE.out.below b1);replace FP:=Kept.mk (FP.out.trans (F'':=F) ⟨barOf b1 _,fun _ hk=>.inl hk⟩)
  clear b1 KH x0 x1 x2 x3 x4 x5 x6 x7
  go_wp2
  go_ret
  exact⟨rfl,F,HE.out,FP.out⟩
set_option maxRecDepth 100000 in
set_option maxHeartbeats 4000000 in
theorem cputv_any {w:World}{F:List Nat}{e:Nat}{st:St}{r:VV}(h:En 143 w F e st) (hr:r.ok) (hl:st.2.length≤900000000):Calls Tryz.prog 92 #[.pointer (some ⟨e,0,none⟩),vqv r] w fun x w'=>x=.returned (.bool (decide (HoldV r)))∧∃ F',En 143 w' F' e (if HoldV r then wEv st r else st)∧Fp F F' w w':=by
 have KH0:=fun w=>holdV_any r hr w
 have LE:=encNum_len
 obtain⟨kind,src,dst,asset,amount,id,due,hash,sec⟩:=r
 obtain⟨hb1,hb2⟩:=hr
 unfold vqv at *
 dsimp only at KH0 hb1 hb2 ⊢
 have hN:w.heap.size∉F:=fun hm=>by have:=h.lt _ hm;omega
 have bz:∀ o,Below w.heap.size w (w.alloc o):=fun o=>(Below.refl _ _).alloc (Nat.le_refl _) o
 have NF:=Kept.mk hN
 have HE0:=Kept.mk (fun o=>h.below (bz o))
 have FP0:Kept (∀ o,Fp F F w (w.alloc o)):=⟨fun o=>⟨barOf (bz o) F,fun _ hk=>.inl hk⟩⟩
 have X0:=Kept.mk (fun cs=>Blk.new w 71 cs)
 obtain⟨N,hN2⟩:∃ N,w.heap.size=N:=⟨_,rfl⟩
 rw[hN2] at NF X0
 clear hN bz h
 by_cases hh:HoldV ⟨kind,src,dst,asset,amount,id,due,hash,sec⟩
 ·rw[if_pos hh,decide_eq_true hh]
  rw[decide_eq_true hh] at KH0
  rcases hh with⟨h_kind,h_id,h_due,h_hash,h_sec⟩|⟨h_kind,h_due,h_hash,h_sec⟩|⟨h_kind,h_src,h_dst,h_asset,h_amount,h_due,h_hash,h_sec⟩|⟨h_kind,h_src,h_dst,h_asset,h_amount,h_due,h_hash,h_sec⟩
  ·dsimp only at h_kind h_id h_due h_hash h_sec
   subst h_kind h_id h_due h_hash h_sec
   have HE:=Kept.mk (HE0.out (.cells #[.int .i64 1,.int .i64 src,.int .i64 dst,.int .i64 asset,.int .i64 amount,.int .i64 0,.int .i64 0,.string (strOfNums []),.string (strOfNums [])] 71));have FP:=Kept.mk (FP0.out (.cells #[.int .i64 1,.int .i64 src,.int .i64 dst,.int .i64 asset,.int .i64 amount,.int .i64 0,.int .i64 0,.string (strOfNums []),.string (strOfNums [])] 71));have X:=Kept.mk (X0.out #[.int .i64 1,.int .i64 src,.int .i64 dst,.int .i64 asset,.int .i64 amount,.int .i64 0,.int .i64 0,.string (strOfNums []),.string (strOfNums [])])
   have KH:=Kept.mk KH0
   clear KH0
   go_enter Tryz.func92,Tryz.ntmps92
   go_upto_region 1 with(fail)
   generalize w.alloc (.cells #[.int .i64 1,.int .i64 src,.int .i64 dst,.int .i64 asset,.int .i64 amount,.int .i64 0,.int .i64 0,.string (strOfNums []),.string (strOfNums [])] 71)=w0 at *
   clear HE0 FP0 X0
   have x0:=X.out.cell 0;have x1:=X.out.cell 1;have x2:=X.out.cell 2;have x3:=X.out.cell 3;have x4:=X.out.cell 4;have x5:=X.out.cell 5;have x6:=X.out.cell 6;have x7:=X.out.cell 7;have x8:=X.out.cell 8
   go_wp2_with fail
   refine(KH.out _).mono ?_
   rintro x w1 ⟨rfl,b1⟩
   replace X:=Kept.mk (X.out.below b1 X.out.lt);replace HE:=Kept.mk (HE.out.below b1);replace FP:=Kept.mk (FP.out.trans (F'':=F) ⟨barOf b1 _,fun _ hk=>.inl hk⟩)
   clear b1 KH x0 x1 x2 x3 x4 x5 x6 x7 x8
   have x0:=X.out.cell 0
   have KC:=num_any w1 F e 1 1 _ HE.out (by have:=hl;omega)
   go_wp2_with fail
   refine KC.mono ?_
   rintro x w2 ⟨rfl,F2,he,fp⟩
   have hlt:=X.out.lt
   have LB2:Kept ((encNum st 1 1).2.length≤900000000+8):=⟨by
    have a1:=encNum_len st 1 1
    omega⟩
   replace X:=Kept.mk (X.out.bar fp.1 NF.out);replace NF:=Kept.mk (cnotin_step fp NF.out hlt);replace FP:=Kept.mk (FP.out.trans fp);replace HE:=Kept.mk he
   clear he fp KC hlt x0
   have x0:=X.out.cell 0;have x1:=X.out.cell 1
   have KC:=num_any w2 F2 e src 1 _ HE.out (by have:=hl;have:=LB2.out;omega)
   go_wp2_with fail
   refine KC.mono ?_
   rintro x w3 ⟨rfl,F3,he,fp⟩
   have hlt:=X.out.lt
   have LB3:Kept ((encNum (encNum st 1 1) src 1).2.length≤900000000+16):=⟨by
    have a1:=encNum_len (encNum st 1 1) src 1
    have:=LB2.out;omega⟩
   replace X:=Kept.mk (X.out.bar fp.1 NF.out);replace NF:=Kept.mk (cnotin_step fp NF.out hlt);replace FP:=Kept.mk (FP.out.trans fp);replace HE:=Kept.mk he
   clear he fp KC hlt x0 x1
   have x0:=X.out.cell 0;have x2:=X.out.cell 2;have x3:=X.out.cell 3;have x4:=X.out.cell 4
   have KC:=putmove_any dst asset amount HE.out (by have:=hl;have:=LB2.out;have:=LB3.out;omega)
   go_wp2_with fail
   refine KC.mono ?_
   rintro x w4 ⟨rfl,F4,he,fp⟩
   have hlt:=X.out.lt
   have LB4:Kept ((wMove (encNum (encNum st 1 1) src 1) dst asset amount).2.length≤900000000+40):=⟨by
    have a1:=wMove_len (encNum (encNum st 1 1) src 1) dst asset amount
    have:=LB3.out;omega⟩
   replace X:=Kept.mk (X.out.bar fp.1 NF.out);replace NF:=Kept.mk (cnotin_step fp NF.out hlt);replace FP:=Kept.mk (FP.out.trans fp);replace HE:=Kept.mk he
   clear he fp KC hlt x0 x2 x3 x4
   go_wp2
   go_ret
   refine⟨rfl,_,?_,FP.out⟩
   rw[← wEv1 st src dst asset amount];exact HE.out
  ·dsimp only at h_kind h_due h_hash h_sec
   subst h_kind h_sec
   have HE:=Kept.mk (HE0.out (.cells #[.int .i64 2,.int .i64 src,.int .i64 dst,.int .i64 asset,.int .i64 amount,.int .i64 id,.int .i64 due,.string (strOfNums hash),.string (strOfNums [])] 71));have FP:=Kept.mk (FP0.out (.cells #[.int .i64 2,.int .i64 src,.int .i64 dst,.int .i64 asset,.int .i64 amount,.int .i64 id,.int .i64 due,.string (strOfNums hash),.string (strOfNums [])] 71));have X:=Kept.mk (X0.out #[.int .i64 2,.int .i64 src,.int .i64 dst,.int .i64 asset,.int .i64 amount,.int .i64 id,.int .i64 due,.string (strOfNums hash),.string (strOfNums [])])
   have KH:=Kept.mk KH0
   clear KH0
   go_enter Tryz.func92,Tryz.ntmps92
   go_upto_region 1 with(fail)
   generalize w.alloc (.cells #[.int .i64 2,.int .i64 src,.int .i64 dst,.int .i64 asset,.int .i64 amount,.int .i64 id,.int .i64 due,.string (strOfNums hash),.string (strOfNums [])] 71)=w0 at *
   clear HE0 FP0 X0
   have x0:=X.out.cell 0;have x1:=X.out.cell 1;have x2:=X.out.cell 2;have x3:=X.out.cell 3;have x4:=X.out.cell 4;have x5:=X.out.cell 5;have x6:=X.out.cell 6;have x7:=X.out.cell 7;have x8:=X.out.cell 8
   go_wp2_with fail
   refine(KH.out _).mono ?_
   rintro x w1 ⟨rfl,b1⟩
   replace X:=Kept.mk (X.out.below b1 X.out.lt);replace HE:=Kept.mk (HE.out.below b1);replace FP:=Kept.mk (FP.out.trans (F'':=F) ⟨barOf b1 _,fun _ hk=>.inl hk⟩)
   clear b1 KH x0 x1 x2 x3 x4 x5 x6 x7 x8
   have x0:=X.out.cell 0
   have KC:=num_any w1 F e 2 1 _ HE.out (by have:=hl;omega)
   go_wp2_with fail
   refine KC.mono ?_
   rintro x w2 ⟨rfl,F2,he,fp⟩
   have hlt:=X.out.lt
   have LB2:Kept ((encNum st 2 1).2.length≤900000000+8):=⟨by
    have a1:=encNum_len st 2 1
    omega⟩
   replace X:=Kept.mk (X.out.bar fp.1 NF.out);replace NF:=Kept.mk (cnotin_step fp NF.out hlt);replace FP:=Kept.mk (FP.out.trans fp);replace HE:=Kept.mk he
   clear he fp KC hlt x0
   have x0:=X.out.cell 0;have x1:=X.out.cell 1
   have KC:=num_any w2 F2 e src 1 _ HE.out (by have:=hl;have:=LB2.out;omega)
   go_wp2_with fail
   refine KC.mono ?_
   rintro x w3 ⟨rfl,F3,he,fp⟩
   have hlt:=X.out.lt
   have LB3:Kept ((encNum (encNum st 2 1) src 1).2.length≤900000000+16):=⟨by
    have a1:=encNum_len (encNum st 2 1) src 1
    have:=LB2.out;omega⟩
   replace X:=Kept.mk (X.out.bar fp.1 NF.out);replace NF:=Kept.mk (cnotin_step fp NF.out hlt);replace FP:=Kept.mk (FP.out.trans fp);replace HE:=Kept.mk he
   clear he fp KC hlt x0 x1
   have x0:=X.out.cell 0;have x2:=X.out.cell 2;have x3:=X.out.cell 3;have x4:=X.out.cell 4
   have KC:=putmove_any dst asset amount HE.out (by have:=hl;have:=LB2.out;have:=LB3.out;omega)
   go_wp2_with fail
   refine KC.mono ?_
   rintro x w4 ⟨rfl,F4,he,fp⟩
   have hlt:=X.out.lt
   have LB4:Kept ((wMove (encNum (encNum st 2 1) src 1) dst asset amount).2.length≤900000000+40):=⟨by
    have a1:=wMove_len (encNum (encNum st 2 1) src 1) dst asset amount
    have:=LB3.out;omega⟩
   replace X:=Kept.mk (X.out.bar fp.1 NF.out);replace NF:=Kept.mk (cnotin_step fp NF.out hlt);replace FP:=Kept.mk (FP.out.trans fp);replace HE:=Kept.mk he
   clear he fp KC hlt x0 x2 x3 x4
   have x0:=X.out.cell 0;have x5:=X.out.cell 5
   have KC:=num_any w4 F4 e id 2 _ HE.out (by have:=hl;have:=LB2.out;have:=LB3.out;have:=LB4.out;omega)
   go_wp2_with fail
   refine KC.mono ?_
   rintro x w5 ⟨rfl,F5,he,fp⟩
   have hlt:=X.out.lt
   have LB5:Kept ((encNum (wMove (encNum (encNum st 2 1) src 1) dst asset amount) id 2).2.length≤900000000+48):=⟨by
    have a1:=encNum_len (wMove (encNum (encNum st 2 1) src 1) dst asset amount) id 2
    have:=LB4.out;omega⟩
   replace X:=Kept.mk (X.out.bar fp.1 NF.out);replace NF:=Kept.mk (cnotin_step fp NF.out hlt);replace FP:=Kept.mk (FP.out.trans fp);replace HE:=Kept.mk he
   clear he fp KC hlt x0 x5
   have x0:=X.out.cell 0;have x7:=X.out.cell 7
   have KC:=puttext_any hash hb1 (by omega) HE.out (by have:=hl;have:=LB2.out;have:=LB3.out;have:=LB4.out;have:=LB5.out;omega)
   go_wp2_with fail
   refine KC.mono ?_
   rintro x w6 ⟨rfl,F6,he,fp⟩
   have hlt:=X.out.lt
   have LB6:Kept ((wText (encNum (wMove (encNum (encNum st 2 1) src 1) dst asset amount) id 2) hash).2.length≤900000000+80):=⟨by
    have a1:=wText_len (encNum (wMove (encNum (encNum st 2 1) src 1) dst asset amount) id 2) hash
    have:=LB5.out;omega⟩
   replace X:=Kept.mk (X.out.bar fp.1 NF.out);replace NF:=Kept.mk (cnotin_step fp NF.out hlt);replace FP:=Kept.mk (FP.out.trans fp);replace HE:=Kept.mk he
   clear he fp KC hlt x0 x7
   have x0:=X.out.cell 0;have x6:=X.out.cell 6
   have KC:=num_any w6 F6 e due 8 _ HE.out (by have:=hl;have:=LB2.out;have:=LB3.out;have:=LB4.out;have:=LB5.out;have:=LB6.out;omega)
   go_wp2_with fail
   refine KC.mono ?_
   rintro x w7 ⟨rfl,F7,he,fp⟩
   have hlt:=X.out.lt
   have LB7:Kept ((encNum (wText (encNum (wMove (encNum (encNum st 2 1) src 1) dst asset amount) id 2) hash) due 8).2.length≤900000000+88):=⟨by
    have a1:=encNum_len (wText (encNum (wMove (encNum (encNum st 2 1) src 1) dst asset amount) id 2) hash) due 8
    have:=LB6.out;omega⟩
   replace X:=Kept.mk (X.out.bar fp.1 NF.out);replace NF:=Kept.mk (cnotin_step fp NF.out hlt);replace FP:=Kept.mk (FP.out.trans fp);replace HE:=Kept.mk he
   clear he fp KC hlt x0 x6
   go_wp2
   go_ret
   refine⟨rfl,_,?_,FP.out⟩
   rw[← wEv2 st src dst asset amount id due hash h_due];exact HE.out
  ·dsimp only at h_kind h_src h_dst h_asset h_amount h_due h_hash h_sec
   subst h_kind h_src h_dst h_asset h_amount h_due h_hash
   have HE:=Kept.mk (HE0.out (.cells #[.int .i64 3,.int .i64 0,.int .i64 0,.int .i64 0,.int .i64 0,.int .i64 id,.int .i64 0,.string (strOfNums []),.string (strOfNums sec)] 71));have FP:=Kept.mk (FP0.out (.cells #[.int .i64 3,.int .i64 0,.int .i64 0,.int .i64 0,.int .i64 0,.int .i64 id,.int .i64 0,.string (strOfNums []),.string (strOfNums sec)] 71));have X:=Kept.mk (X0.out #[.int .i64 3,.int .i64 0,.int .i64 0,.int .i64 0,.int .i64 0,.int .i64 id,.int .i64 0,.string (strOfNums []),.string (strOfNums sec)])
   have KH:=Kept.mk KH0
   clear KH0
   go_enter Tryz.func92,Tryz.ntmps92
   go_upto_region 1 with(fail)
   generalize w.alloc (.cells #[.int .i64 3,.int .i64 0,.int .i64 0,.int .i64 0,.int .i64 0,.int .i64 id,.int .i64 0,.string (strOfNums []),.string (strOfNums sec)] 71)=w0 at *
   clear HE0 FP0 X0
   have x0:=X.out.cell 0;have x1:=X.out.cell 1;have x2:=X.out.cell 2;have x3:=X.out.cell 3;have x4:=X.out.cell 4;have x5:=X.out.cell 5;have x6:=X.out.cell 6;have x7:=X.out.cell 7;have x8:=X.out.cell 8
   go_wp2_with fail
   refine(KH.out _).mono ?_
   rintro x w1 ⟨rfl,b1⟩
   replace X:=Kept.mk (X.out.below b1 X.out.lt);replace HE:=Kept.mk (HE.out.below b1);replace FP:=Kept.mk (FP.out.trans (F'':=F) ⟨barOf b1 _,fun _ hk=>.inl hk⟩)
   clear b1 KH x0 x1 x2 x3 x4 x5 x6 x7 x8
   have x0:=X.out.cell 0
   have KC:=num_any w1 F e 3 1 _ HE.out (by have:=hl;omega)
   go_wp2_with fail
   refine KC.mono ?_
   rintro x w2 ⟨rfl,F2,he,fp⟩
   have hlt:=X.out.lt
   have LB2:Kept ((encNum st 3 1).2.length≤900000000+8):=⟨by
    have a1:=encNum_len st 3 1
    omega⟩
   replace X:=Kept.mk (X.out.bar fp.1 NF.out);replace NF:=Kept.mk (cnotin_step fp NF.out hlt);replace FP:=Kept.mk (FP.out.trans fp);replace HE:=Kept.mk he
   clear he fp KC hlt x0
   have x0:=X.out.cell 0;have x5:=X.out.cell 5
   have KC:=num_any w2 F2 e id 2 _ HE.out (by have:=hl;have:=LB2.out;omega)
   go_wp2_with fail
   refine KC.mono ?_
   rintro x w3 ⟨rfl,F3,he,fp⟩
   have hlt:=X.out.lt
   have LB3:Kept ((encNum (encNum st 3 1) id 2).2.length≤900000000+16):=⟨by
    have a1:=encNum_len (encNum st 3 1) id 2
    have:=LB2.out;omega⟩
   replace X:=Kept.mk (X.out.bar fp.1 NF.out);replace NF:=Kept.mk (cnotin_step fp NF.out hlt);replace FP:=Kept.mk (FP.out.trans fp);replace HE:=Kept.mk he
   clear he fp KC hlt x0 x5
   have x0:=X.out.cell 0;have x8:=X.out.cell 8
   have KC:=puttext_any sec hb2 (by omega) HE.out (by have:=hl;have:=LB2.out;have:=LB3.out;omega)
   go_wp2_with fail
   refine KC.mono ?_
   rintro x w4 ⟨rfl,F4,he,fp⟩
   have hlt:=X.out.lt
   have LB4:Kept ((wText (encNum (encNum st 3 1) id 2) sec).2.length≤900000000+48):=⟨by
    have a1:=wText_len (encNum (encNum st 3 1) id 2) sec
    have:=LB3.out;omega⟩
   replace X:=Kept.mk (X.out.bar fp.1 NF.out);replace NF:=Kept.mk (cnotin_step fp NF.out hlt);replace FP:=Kept.mk (FP.out.trans fp);replace HE:=Kept.mk he
   clear he fp KC hlt x0 x8
   go_wp2
   go_ret
   refine⟨rfl,_,?_,FP.out⟩
   rw[← wEv3 st id sec];exact HE.out
  ·dsimp only at h_kind h_src h_dst h_asset h_amount h_due h_hash h_sec
   subst h_kind h_src h_dst h_asset h_amount h_due h_hash h_sec
   have HE:=Kept.mk (HE0.out (.cells #[.int .i64 4,.int .i64 0,.int .i64 0,.int .i64 0,.int .i64 0,.int .i64 id,.int .i64 0,.string (strOfNums []),.string (strOfNums [])] 71));have FP:=Kept.mk (FP0.out (.cells #[.int .i64 4,.int .i64 0,.int .i64 0,.int .i64 0,.int .i64 0,.int .i64 id,.int .i64 0,.string (strOfNums []),.string (strOfNums [])] 71));have X:=Kept.mk (X0.out #[.int .i64 4,.int .i64 0,.int .i64 0,.int .i64 0,.int .i64 0,.int .i64 id,.int .i64 0,.string (strOfNums []),.string (strOfNums [])])
   have KH:=Kept.mk KH0
   clear KH0
   go_enter Tryz.func92,Tryz.ntmps92
   go_upto_region 1 with(fail)
   generalize w.alloc (.cells #[.int .i64 4,.int .i64 0,.int .i64 0,.int .i64 0,.int .i64 0,.int .i64 id,.int .i64 0,.string (strOfNums []),.string (strOfNums [])] 71)=w0 at *
   clear HE0 FP0 X0
   have x0:=X.out.cell 0;have x1:=X.out.cell 1;have x2:=X.out.cell 2;have x3:=X.out.cell 3;have x4:=X.out.cell 4;have x5:=X.out.cell 5;have x6:=X.out.cell 6;have x7:=X.out.cell 7;have x8:=X.out.cell 8
   go_wp2_with fail
   refine(KH.out _).mono ?_
   rintro x w1 ⟨rfl,b1⟩
   replace X:=Kept.mk (X.out.below b1 X.out.lt);replace HE:=Kept.mk (HE.out.below b1);replace FP:=Kept.mk (FP.out.trans (F'':=F) ⟨barOf b1 _,fun _ hk=>.inl hk⟩)
   clear b1 KH x0 x1 x2 x3 x4 x5 x6 x7 x8
   have x0:=X.out.cell 0
   have KC:=num_any w1 F e 4 1 _ HE.out (by have:=hl;omega)
   go_wp2_with fail
   refine KC.mono ?_
   rintro x w2 ⟨rfl,F2,he,fp⟩
   have hlt:=X.out.lt
   have LB2:Kept ((encNum st 4 1).2.length≤900000000+8):=⟨by
    have a1:=encNum_len st 4 1
    omega⟩
   replace X:=Kept.mk (X.out.bar fp.1 NF.out);replace NF:=Kept.mk (cnotin_step fp NF.out hlt);replace FP:=Kept.mk (FP.out.trans fp);replace HE:=Kept.mk he
   clear he fp KC hlt x0
   have x0:=X.out.cell 0;have x5:=X.out.cell 5
   have KC:=num_any w2 F2 e id 2 _ HE.out (by have:=hl;have:=LB2.out;omega)
   go_wp2_with fail
   refine KC.mono ?_
   rintro x w3 ⟨rfl,F3,he,fp⟩
   have hlt:=X.out.lt
   have LB3:Kept ((encNum (encNum st 4 1) id 2).2.length≤900000000+16):=⟨by
    have a1:=encNum_len (encNum st 4 1) id 2
    have:=LB2.out;omega⟩
   replace X:=Kept.mk (X.out.bar fp.1 NF.out);replace NF:=Kept.mk (cnotin_step fp NF.out hlt);replace FP:=Kept.mk (FP.out.trans fp);replace HE:=Kept.mk he
   clear he fp KC hlt x0 x5
   go_wp2
   go_ret
   refine⟨rfl,_,?_,FP.out⟩
   rw[← wEv4 st id];exact HE.out
 ·rw[if_neg hh,decide_eq_false hh]
  rw[decide_eq_false hh] at KH0
  have HE:=Kept.mk (HE0.out (.cells #[.int .i64 kind,.int .i64 src,.int .i64 dst,.int .i64 asset,.int .i64 amount,.int .i64 id,.int .i64 due,.string (strOfNums hash),.string (strOfNums sec)] 71));have FP:=Kept.mk (FP0.out (.cells #[.int .i64 kind,.int .i64 src,.int .i64 dst,.int .i64 asset,.int .i64 amount,.int .i64 id,.int .i64 due,.string (strOfNums hash),.string (strOfNums sec)] 71));have X:=Kept.mk (X0.out #[.int .i64 kind,.int .i64 src,.int .i64 dst,.int .i64 asset,.int .i64 amount,.int .i64 id,.int .i64 due,.string (strOfNums hash),.string (strOfNums sec)])
  have KH:=Kept.mk KH0
  clear KH0
  go_enter Tryz.func92,Tryz.ntmps92
  go_upto_region 1 with(fail)
  generalize w.alloc (.cells #[.int .i64 kind,.int .i64 src,.int .i64 dst,.int .i64 asset,.int .i64 amount,.int .i64 id,.int .i64 due,.string (strOfNums hash),.string (strOfNums sec)] 71)=w0 at *
  clear HE0 FP0 X0
  have x0:=X.out.cell 0;have x1:=X.out.cell 1;have x2:=X.out.cell 2;have x3:=X.out.cell 3;have x4:=X.out.cell 4;have x5:=X.out.cell 5;have x6:=X.out.cell 6;have x7:=X.out.cell 7;have x8:=X.out.cell 8
  go_wp2_with fail
  refine(KH.out _).mono ?_
  rintro x w1 ⟨rfl,b1⟩
  replace X:=Kept.mk (X.out.below b1 X.out.lt);replace HE:=Kept.mk (HE.out.below b1);replace FP:=Kept.mk (FP.out.trans (F'':=F) ⟨barOf b1 _,fun _ hk=>.inl hk⟩)
  clear b1 KH x0 x1 x2 x3 x4 x5 x6 x7 x8
  go_wp2
  go_ret
  exact⟨rfl,F,HE.out,FP.out⟩
end Go.Proofs.YtchcgoabogcabaaGreat.Req
