/-
  Parts laid together: LedgerC3.
-/
import Derived.Test.YtidjkhpekhpffaaGreatPart1
import Derived.Test.YtidjkhpekhpffaaGreatPart17
import Derived.Test.YtidjkhpekhpffaaGreatPart8
import Derived.Test.YtidjkhpekhpffaaGreatPart28
import Derived.Test.YtidjkhpekhpffaaGreatPart15
import Derived.Test.YtidjkhpekhpffaaGreatPart30
namespace Go.Proofs.YtidjkhpekhpffaaGreat.Ledger
open Go.RowKit Go.Proofs.YtidjkhpekhpffaaGreat.Num Go.Proofs.YtidjkhpekhpffaaGreat.Sha Go.Proofs.YtidjkhpekhpffaaGreat.Purse Go.Proofs.YtidjkhpekhpffaaGreat.Escrow Go.Proofs.YtidjkhpekhpffaaGreat.Wire Go.Proofs.YtidjkhpekhpffaaGreat.Req
section
variable {w : World} {t x b q : Nat} {F G : List Nat} {v d : Value} {s : LS}
theorem move_same {s:PS}{i j a n:Int}(h:(moveP s i j a n).1≠0):(moveP s i j a n).2=s:=by
 unfold moveP at h ⊢
 split
 ·rename_i h4
  rw[if_pos h4] at h
  split
  ·rfl
  ·rename_i h5
   rw[if_neg h5] at h
   split
   ·rfl
   ·rename_i h6
    rw[if_neg h6] at h
    exact absurd rfl h
 ·rfl
theorem Lk.purse {w0 w1 w2:World}{G':List Nat}{p':PS}(h:Lp w1 t x b q G v d s) (B:Below w0.heap.size w0 w1) (hp:Pc w2 G' q p') (fp:Fp G G' w1 w2) :
  ∃ F',Lk w2 t F' x ⟨s.cap,⟨p',s.b.l⟩,s.clock,s.e⟩∧Fp (t :: lf x b G v d) (t :: F') w0 w2:=by
 obtain⟨k1,k2⟩:=h.pk.purse hp fp
 obtain⟨k3,k4⟩:=h.book (b':=⟨p',s.b.l⟩) k1 k2
 exact⟨_,⟨b,q,G',v,d,k3,rfl⟩,Fp.trans ⟨barOf B _,fun _ hk=>.inl hk⟩ k4⟩
theorem Lk.booked {w0 w1 w2:World}{F':List Nat}{b':BS}(h:Lp w1 t x b q G v d s) (B:Below w0.heap.size w0 w1) (hk:Ct t w2 F' b q b') (fp:Fp (fk t b G v) F' w1 w2) :
  ∃ F',Lk w2 t F' x ⟨s.cap,b',s.clock,s.e⟩∧Fp (t :: lf x b G v d) (t :: F') w0 w2:=by
 obtain⟨G',v',k1,rfl⟩:=hk
 obtain⟨k3,k4⟩:=h.book (b':=b') k1 fp
 exact⟨_,⟨b,q,G',v',d,k3,rfl⟩,Fp.trans ⟨barOf B _,fun _ hk=>.inl hk⟩ k4⟩
set_option maxRecDepth 100000 in
set_option maxHeartbeats 2000000 in
theorem transfer_any (party:Int) (r:RV) (h:Lp w t x b q G v d s):Calls Tryz.prog 236 #[.pointer (some ⟨x,0,none⟩),.int .i64 party,rqv r] w (StepPost w t (lf x b G v d) x (.int .i64 (transL s party r).1) ⟨s.cap,(transL s party r).2,s.clock,s.e⟩):=by
 obtain⟨kind,dst,asset,amount,id,due,hash,sec⟩:=r
 unfold rqv
 dsimp only
 obtain⟨N,hN⟩:∃ N,w.heap.size=N:=⟨_,rfl⟩
 have b0:Below w.heap.size w (w.alloc (.cells #[.int .i64 kind,.int .i64 dst,.int .i64 asset,.int .i64 amount,.int .i64 id,.int .i64 due,.string (strOfNums hash),.string (strOfNums sec)] 88)):=(Below.refl _ _).alloc (Nat.le_refl _) _
 have X:Kept (Blk (w.alloc (.cells #[.int .i64 kind,.int .i64 dst,.int .i64 asset,.int .i64 amount,.int .i64 id,.int .i64 due,.string (strOfNums hash),.string (strOfNums sec)] 88)) N 88 #[.int .i64 kind,.int .i64 dst,.int .i64 asset,.int .i64 amount,.int .i64 id,.int .i64 due,.string (strOfNums hash),.string (strOfNums sec)]):=⟨Blk.new_at w _ _ N hN.symm⟩
 have B:=Kept.mk b0
 have NX:Kept (N∉t :: lf x b G v d):=⟨fun hm=>by have:=h.lts N hm;omega⟩
 have L:=Kept.mk (h.below b0)
 by_cases h0:amount=0
 ·subst h0
  rw[show transL s party ⟨kind,dst,asset,0,id,due,hash,sec⟩=(1,s.b) from if_pos rfl]
  clear h b0
  go_enter Tryz.func236,Tryz.ntmps236
  go_upto_region 1 with(fail)
  generalize (w.alloc (.cells #[.int .i64 kind,.int .i64 dst,.int .i64 asset,.int .i64 0,.int .i64 id,.int .i64 due,.string (strOfNums hash),.string (strOfNums sec)] 88))=w1 at *
  have x3:=X.out.cell 3
  go_wp2
  go_ret
  exact⟨rfl,_,⟨b,q,G,v,d,L.out,rfl⟩,barOf B.out _,fun _ hk=>.inl hk⟩
 ·have h0':(amount == 0)=false:=beq_eq_false_iff_ne.2 h0
  rw[show transL s party ⟨kind,dst,asset,amount,id,due,hash,sec⟩=((moveP s.b.p party dst asset amount).1,⟨(moveP s.b.p party dst asset amount).2,s.b.l⟩) from if_neg h0]
  clear h b0
  dsimp only
  go_enter Tryz.func236,Tryz.ntmps236
  go_upto_region 1 with(fail)
  generalize (w.alloc (.cells #[.int .i64 kind,.int .i64 dst,.int .i64 asset,.int .i64 amount,.int .i64 id,.int .i64 due,.string (strOfNums hash),.string (strOfNums sec)] 88))=w1 at *
  have x3:=X.out.cell 3
  go_upto_region 3 with(fail)
  clear x3
  have CS:∀ {u:World},Lp u t x b q G v d s→Blk u N 88 #[.int .i64 kind,.int .i64 dst,.int .i64 asset,.int .i64 amount,.int .i64 id,.int .i64 due,.string (strOfNums hash),.string (strOfNums sec)]→u.cell? ⟨x,0,none⟩=some (.pointer (some ⟨b,0,none⟩))∧u.cell? ⟨N,1,none⟩=some (.int .i64 dst)∧u.cell? ⟨N,2,none⟩=some (.int .i64 asset)∧u.cell? ⟨N,3,none⟩=some (.int .i64 amount):=fun h k=>⟨h.c0,k.cell 1,k.cell 2,k.cell 3⟩
  refine wp_region_noPanic ?_
  refine wp_region_held_drew (S:=fun u:World=>u.cell? ⟨x,0,none⟩=some (.pointer (some ⟨b,0,none⟩))∧u.cell? ⟨N,1,none⟩=some (.int .i64 dst)∧u.cell? ⟨N,2,none⟩=some (.int .i64 asset)∧u.cell? ⟨N,3,none⟩=some (.int .i64 amount)) (by kernel_rfl) (CS (L.out.below (Below.refl _ _).drew) X.out.drew) (fun _=>?_)
  replace L:=Kept.mk (L.out.below (Below.refl _ w1).drew);replace X:=Kept.mk X.out.drew;replace B:=Kept.mk B.out.drew
  generalize w1.drew=w2 at *
  have KP:=Kept.mk (cpurse_any L.out.pk)
  refine tk 0 (by assumption) ?_
  simp only[Act.put,zA,zB,zC]
  refine tk 1 (by assumption) ?_
  simp only[Act.put,zA,zB,zC]
  refine tk 2 (by assumption) ?_
  simp only[Act.put,zA,zB,zC]
  refine tk 3 (by assumption) ?_
  simp only[Act.put,zA,zB,zC]
  refine tk 5 (by assumption) ?_
  simp only[Act.put,zA,zB,zC]
  refine tk 6 (by assumption) ?_
  simp only[Act.put,zA,zB,zC]
  refine tk 7 (by assumption) ?_
  simp only[Act.put,zA,zB,zC]
  refine tk 8 (by assumption) ?_
  simp only[Act.put,zA,zB,zC]
  refine tk 9 (by assumption) ?_
  simp only[Act.put,zA,zB,zC]
  refine tk 10 (by assumption) ?_
  simp only[Act.put,zA,zB,zC]
  refine tk 11 (by assumption) ?_
  simp only[Act.put,zA,zB,zC]
  refine ld 4 (fun K hK=>?_)
  go_simp
  go_at_call 89
  refine KP.out.mono ?_
  rintro e w3 ⟨rfl,rfl⟩
  refine hK.out _ _ (CS L.out X.out) (fun _=>?_)
  have KM:=Kept.mk (move_any party dst asset amount L.out.pk.pc)
  unfold Purse.StepPost at KM
  clear hK K KP
  refine ld 12 (fun K hK=>?_)
  go_simp
  go_at_call 259
  refine KM.out.mono ?_
  rintro e w4 ⟨rfl,G',hp,fp⟩
  have XG:Kept (N∉G):=⟨fun hm=>NX.out (by simp[lf,hm])⟩
  have XX:Kept (x∉G):=⟨fun hm=>L.out.xB (fk_mem.2 (.inr (.inr (.inr hm))))⟩
  have LK:=Kept.mk (Lk.purse L.out B.out hp fp)
  have L4:w4.cell? ⟨x,0,none⟩=some (.pointer (some ⟨b,0,none⟩)):=(L.out.blk.bar fp.1 XX.out).cell 0
  have X4:=X.out.bar fp.1 XG.out
  refine hK.out _ _ ⟨L4,X4.cell 1,X4.cell 2,X4.cell 3⟩ (fun _=>?_)
  clear hK K KM hp fp L4 X4 CS
  refine tk 13 (by assumption) ?_
  simp only[Act.put,zA,zB,zC]
  refine wpAnyH_done (by kernel_rfl) ?_ _
  refine NoPanic.normal ?_
  go_wp2
  go_ret
  exact⟨rfl,LK.out⟩
set_option maxRecDepth 100000 in
set_option maxHeartbeats 2000000 in
theorem do_any (party:Int) (r:RV) (W:WL s) (hr:r.ok) (hk:r.kind=1∨r.kind=2∨r.kind=3∨r.kind=4) (h:Lp w t x b q G v d s):Calls Tryz.prog 207 #[.pointer (some ⟨x,0,none⟩),.int .i64 party,rqv r] w (StepPost w t (lf x b G v d) x (.tuple #[.int .i64 (doL s party r).1.1,.int .i64 (doL s party r).1.2]) ⟨s.cap,(doL s party r).2,s.clock,s.e⟩):=by
 obtain⟨kind,dst,asset,amount,id,due,hash,sec⟩:=r
 unfold rqv
 dsimp only
 obtain⟨N,hN⟩:∃ N,w.heap.size=N:=⟨_,rfl⟩
 have b0:Below w.heap.size w (w.alloc (.cells #[.int .i64 kind,.int .i64 dst,.int .i64 asset,.int .i64 amount,.int .i64 id,.int .i64 due,.string (strOfNums hash),.string (strOfNums sec)] 88)):=(Below.refl _ _).alloc (Nat.le_refl _) _
 have X:Kept (Blk (w.alloc (.cells #[.int .i64 kind,.int .i64 dst,.int .i64 asset,.int .i64 amount,.int .i64 id,.int .i64 due,.string (strOfNums hash),.string (strOfNums sec)] 88)) N 88 #[.int .i64 kind,.int .i64 dst,.int .i64 asset,.int .i64 amount,.int .i64 id,.int .i64 due,.string (strOfNums hash),.string (strOfNums sec)]):=⟨Blk.new_at w _ _ N hN.symm⟩
 have B:=Kept.mk b0
 have NX:Kept (N∉t :: lf x b G v d):=⟨fun hm=>by have:=h.lts N hm;omega⟩
 have L:=Kept.mk (h.below b0)
 dsimp only at hk hr
 have HB:Kept (Bytes hash∧Bytes sec):=⟨hr⟩
 have HL:Kept (s.b.l.length≤100000):=⟨by have:=W.locks;have:=W.len;omega⟩
 have HH:Kept (∀ k,k < s.b.l.length→Bytes (atE s.b.l k).hash):=⟨fun k hk=>(W.wb.each k hk).2.2.2.2.2.1⟩
 rcases hk with rfl|rfl|rfl|rfl
 ·clear h b0
  rw[show doL s party ⟨1,dst,asset,amount,id,due,hash,sec⟩=((0,(transL s party ⟨1,dst,asset,amount,id,due,hash,sec⟩).1),(transL s party ⟨1,dst,asset,amount,id,due,hash,sec⟩).2) from if_pos rfl]
  dsimp only
  go_enter Tryz.func207,Tryz.ntmps207
  go_upto_region 1 with(fail)
  generalize (w.alloc (.cells #[.int .i64 1,.int .i64 dst,.int .i64 asset,.int .i64 amount,.int .i64 id,.int .i64 due,.string (strOfNums hash),.string (strOfNums sec)] 88))=w1 at *
  have x0:=X.out.cell 0;have x1:=X.out.cell 1;have x2:=X.out.cell 2;have x3:=X.out.cell 3;have x4:=X.out.cell 4;have x5:=X.out.cell 5;have x6:=X.out.cell 6;have x7:=X.out.cell 7
  have KT:=transfer_any party ⟨1,dst,asset,amount,id,due,hash,sec⟩ L.out
  unfold StepPost rqv at KT
  dsimp only at KT
  have KT2:=Kept.mk KT
  clear KT
  go_wp2_with fail
  refine KT2.out.mono ?_
  rintro e w2 ⟨rfl,F',hk,fp⟩
  have LK:=Kept.mk hk;have FP:=Kept.mk (Fp.trans (F:=t :: lf x b G v d) (F':=t :: lf x b G v d) ⟨barOf B.out _,fun _ hk=>.inl hk⟩ fp)
  clear KT2 hk fp x0 x1 x2 x3 x4 x5 x6 x7
  go_wp2
  go_ret2
  exact⟨rfl,F',LK.out,FP.out⟩
 ·clear h b0
  rw[show doL s party ⟨2,dst,asset,amount,id,due,hash,sec⟩=lockB s.b party dst asset amount hash due s.clock from by simp[doL]]
  go_enter Tryz.func207,Tryz.ntmps207
  go_upto_region 1 with(fail)
  generalize (w.alloc (.cells #[.int .i64 2,.int .i64 dst,.int .i64 asset,.int .i64 amount,.int .i64 id,.int .i64 due,.string (strOfNums hash),.string (strOfNums sec)] 88))=w1 at *
  have x0:=X.out.cell 0;have x1:=X.out.cell 1;have x2:=X.out.cell 2;have x3:=X.out.cell 3;have x4:=X.out.cell 4;have x5:=X.out.cell 5;have x6:=X.out.cell 6;have x7:=X.out.cell 7
  go_upto_region 5 with(fail)
  clear x0 x1 x2 x3 x4 x5 x6 x7
  have CS:∀ {u:World},Lp u t x b q G v d s→Blk u N 88 #[.int .i64 2,.int .i64 dst,.int .i64 asset,.int .i64 amount,.int .i64 id,.int .i64 due,.string (strOfNums hash),.string (strOfNums sec)]→u.cell? ⟨x,0,none⟩=some (.pointer (some ⟨b,0,none⟩))∧u.cell? ⟨x,2,none⟩=some (.int .i64 s.clock)∧u.cell? ⟨N,1,none⟩=some (.int .i64 dst)∧u.cell? ⟨N,2,none⟩=some (.int .i64 asset)∧u.cell? ⟨N,3,none⟩=some (.int .i64 amount)∧u.cell? ⟨N,5,none⟩=some (.int .i64 due)∧u.cell? ⟨N,6,none⟩=some (.string (strOfNums hash)):=fun h k=>⟨h.c0,h.c2,k.cell 1,k.cell 2,k.cell 3,k.cell 5,k.cell 6⟩
  refine wp_region_noPanic ?_
  refine wp_region_held_drew (S:=fun u:World=>u.cell? ⟨x,0,none⟩=some (.pointer (some ⟨b,0,none⟩))∧u.cell? ⟨x,2,none⟩=some (.int .i64 s.clock)∧u.cell? ⟨N,1,none⟩=some (.int .i64 dst)∧u.cell? ⟨N,2,none⟩=some (.int .i64 asset)∧u.cell? ⟨N,3,none⟩=some (.int .i64 amount)∧u.cell? ⟨N,5,none⟩=some (.int .i64 due)∧u.cell? ⟨N,6,none⟩=some (.string (strOfNums hash))) (by kernel_rfl) (CS (L.out.below (Below.refl _ _).drew) X.out.drew) (fun _=>?_)
  replace L:=Kept.mk (L.out.below (Below.refl _ w1).drew);replace X:=Kept.mk X.out.drew;replace B:=Kept.mk B.out.drew
  generalize w1.drew=w2 at *
  have KM:=Kept.mk (clock_any ⟨G,v,L.out.pk,rfl⟩ party dst asset amount hash due s.clock HL.out)
  unfold LockPost at KM
  refine tk 0 (by assumption) ?_
  simp only[Act.put,zA,zB,zC]
  refine tk 1 (by assumption) ?_
  simp only[Act.put,zA,zB,zC]
  refine tk 2 (by assumption) ?_
  simp only[Act.put,zA,zB,zC]
  refine tk 3 (by assumption) ?_
  simp only[Act.put,zA,zB,zC]
  refine tk 4 (by assumption) ?_
  simp only[Act.put,zA,zB,zC]
  refine tk 5 (by assumption) ?_
  simp only[Act.put,zA,zB,zC]
  refine tk 6 (by assumption) ?_
  simp only[Act.put,zA,zB,zC]
  refine tk 7 (by assumption) ?_
  simp only[Act.put,zA,zB,zC]
  refine tk 8 (by assumption) ?_
  simp only[Act.put,zA,zB,zC]
  refine tk 9 (by assumption) ?_
  simp only[Act.put,zA,zB,zC]
  refine tk 10 (by assumption) ?_
  simp only[Act.put,zA,zB,zC]
  refine tk 11 (by assumption) ?_
  simp only[Act.put,zA,zB,zC]
  refine tk 12 (by assumption) ?_
  simp only[Act.put,zA,zB,zC]
  refine tk 13 (by assumption) ?_
  simp only[Act.put,zA,zB,zC]
  refine tk 14 (by assumption) ?_
  simp only[Act.put,zA,zB,zC]
  refine tk 15 (by assumption) ?_
  simp only[Act.put,zA,zB,zC]
  refine tk 16 (by assumption) ?_
  simp only[Act.put,zA,zB,zC]
  refine tk 17 (by assumption) ?_
  simp only[Act.put,zA,zB,zC]
  refine tk 18 (by assumption) ?_
  simp only[Act.put,zA,zB,zC]
  refine ld 19 (fun K hK=>?_)
  go_simp
  go_at_call 237
  refine KM.out.mono ?_
  rintro e w4 ⟨rfl,F',hp,fp⟩
  have XG:Kept (N∉fk t b G v):=⟨fun hm=>NX.out (lf_mem.2 (.inr (.inr hm)))⟩
  have LK:=Kept.mk (Lk.booked L.out B.out hp fp)
  have L4:=L.out.blk.bar fp.1 L.out.xB
  have X4:=X.out.bar fp.1 XG.out
  refine hK.out _ _ ⟨L4.cell 0,L4.cell 2,X4.cell 1,X4.cell 2,X4.cell 3,X4.cell 5,X4.cell 6⟩ (fun _=>?_)
  clear hK K KM hp fp L4 X4 CS
  refine tk 20 (by assumption) ?_
  simp only[Act.put,zA,zB,zC]
  refine tk 21 (by assumption) ?_
  simp only[Act.put,zA,zB,zC]
  refine tk 22 (by assumption) ?_
  simp only[Act.put,zA,zB,zC]
  refine tk 23 (by assumption) ?_
  simp only[Act.put,zA,zB,zC]
  refine wpAnyH_done (by kernel_rfl) ?_ _
  refine NoPanic.normal ?_
  go_wp2
  go_ret2
  exact⟨rfl,LK.out⟩
 ·clear h b0
  rw[show doL s party ⟨3,dst,asset,amount,id,due,hash,sec⟩=((0,(claimB s.b party id sec s.clock).1),(claimB s.b party id sec s.clock).2) from by simp[doL]]
  go_enter Tryz.func207,Tryz.ntmps207
  go_upto_region 1 with(fail)
  generalize (w.alloc (.cells #[.int .i64 3,.int .i64 dst,.int .i64 asset,.int .i64 amount,.int .i64 id,.int .i64 due,.string (strOfNums hash),.string (strOfNums sec)] 88))=w1 at *
  have x0:=X.out.cell 0;have x1:=X.out.cell 1;have x2:=X.out.cell 2;have x3:=X.out.cell 3;have x4:=X.out.cell 4;have x5:=X.out.cell 5;have x6:=X.out.cell 6;have x7:=X.out.cell 7
  go_upto_region 7 with(fail)
  clear x0 x1 x2 x3 x4 x5 x6 x7
  have CS:∀ {u:World},Lp u t x b q G v d s→Blk u N 88 #[.int .i64 3,.int .i64 dst,.int .i64 asset,.int .i64 amount,.int .i64 id,.int .i64 due,.string (strOfNums hash),.string (strOfNums sec)]→u.cell? ⟨x,0,none⟩=some (.pointer (some ⟨b,0,none⟩))∧u.cell? ⟨x,2,none⟩=some (.int .i64 s.clock)∧u.cell? ⟨N,4,none⟩=some (.int .i64 id)∧u.cell? ⟨N,7,none⟩=some (.string (strOfNums sec)):=fun h k=>⟨h.c0,h.c2,k.cell 4,k.cell 7⟩
  refine wp_region_noPanic ?_
  refine wp_region_held_drew (S:=fun u:World=>u.cell? ⟨x,0,none⟩=some (.pointer (some ⟨b,0,none⟩))∧u.cell? ⟨x,2,none⟩=some (.int .i64 s.clock)∧u.cell? ⟨N,4,none⟩=some (.int .i64 id)∧u.cell? ⟨N,7,none⟩=some (.string (strOfNums sec))) (by kernel_rfl) (CS (L.out.below (Below.refl _ _).drew) X.out.drew) (fun _=>?_)
  replace L:=Kept.mk (L.out.below (Below.refl _ w1).drew);replace X:=Kept.mk X.out.drew;replace B:=Kept.mk B.out.drew
  generalize w1.drew=w2 at *
  have KM:=Kept.mk (cclaim_any ⟨G,v,L.out.pk,rfl⟩ party id sec s.clock HB.out.2 HH.out)
  unfold BookPost at KM
  refine tk 0 (by assumption) ?_
  simp only[Act.put,zA,zB,zC]
  refine tk 1 (by assumption) ?_
  simp only[Act.put,zA,zB,zC]
  refine tk 2 (by assumption) ?_
  simp only[Act.put,zA,zB,zC]
  refine tk 3 (by assumption) ?_
  simp only[Act.put,zA,zB,zC]
  refine tk 4 (by assumption) ?_
  simp only[Act.put,zA,zB,zC]
  refine tk 5 (by assumption) ?_
  simp only[Act.put,zA,zB,zC]
  refine tk 6 (by assumption) ?_
  simp only[Act.put,zA,zB,zC]
  refine tk 7 (by assumption) ?_
  simp only[Act.put,zA,zB,zC]
  refine tk 8 (by assumption) ?_
  simp only[Act.put,zA,zB,zC]
  refine tk 9 (by assumption) ?_
  simp only[Act.put,zA,zB,zC]
  refine tk 10 (by assumption) ?_
  simp only[Act.put,zA,zB,zC]
  refine tk 11 (by assumption) ?_
  simp only[Act.put,zA,zB,zC]
  refine tk 12 (by assumption) ?_
  simp only[Act.put,zA,zB,zC]
  refine ld 13 (fun K hK=>?_)
  go_simp
  go_at_call 238
  refine KM.out.mono ?_
  rintro e w4 ⟨rfl,F',hp,fp⟩
  have XG:Kept (N∉fk t b G v):=⟨fun hm=>NX.out (lf_mem.2 (.inr (.inr hm)))⟩
  have LK:=Kept.mk (Lk.booked L.out B.out hp fp)
  have L4:=L.out.blk.bar fp.1 L.out.xB
  have X4:=X.out.bar fp.1 XG.out
  refine hK.out _ _ ⟨L4.cell 0,L4.cell 2,X4.cell 4,X4.cell 7⟩ (fun _=>?_)
  clear hK K KM hp fp L4 X4 CS
  refine tk 14 (by assumption) ?_
  simp only[Act.put,zA,zB,zC]
  refine tk 15 (by assumption) ?_
  simp only[Act.put,zA,zB,zC]
  refine wpAnyH_done (by kernel_rfl) ?_ _
  refine NoPanic.normal ?_
  go_wp2
  go_ret2
  exact⟨rfl,LK.out⟩
 ·clear h b0
  rw[show doL s party ⟨4,dst,asset,amount,id,due,hash,sec⟩=((0,(refundB s.b party id s.clock).1),(refundB s.b party id s.clock).2) from by simp[doL]]
  go_enter Tryz.func207,Tryz.ntmps207
  go_upto_region 1 with(fail)
  generalize (w.alloc (.cells #[.int .i64 4,.int .i64 dst,.int .i64 asset,.int .i64 amount,.int .i64 id,.int .i64 due,.string (strOfNums hash),.string (strOfNums sec)] 88))=w1 at *
  have x0:=X.out.cell 0;have x1:=X.out.cell 1;have x2:=X.out.cell 2;have x3:=X.out.cell 3;have x4:=X.out.cell 4;have x5:=X.out.cell 5;have x6:=X.out.cell 6;have x7:=X.out.cell 7
  go_upto_region 8 with(fail)
  clear x0 x1 x2 x3 x4 x5 x6 x7
  have CS:∀ {u:World},Lp u t x b q G v d s→Blk u N 88 #[.int .i64 4,.int .i64 dst,.int .i64 asset,.int .i64 amount,.int .i64 id,.int .i64 due,.string (strOfNums hash),.string (strOfNums sec)]→u.cell? ⟨x,0,none⟩=some (.pointer (some ⟨b,0,none⟩))∧u.cell? ⟨x,2,none⟩=some (.int .i64 s.clock)∧u.cell? ⟨N,4,none⟩=some (.int .i64 id):=fun h k=>⟨h.c0,h.c2,k.cell 4⟩
  refine wp_region_noPanic ?_
  refine wp_region_held_drew (S:=fun u:World=>u.cell? ⟨x,0,none⟩=some (.pointer (some ⟨b,0,none⟩))∧u.cell? ⟨x,2,none⟩=some (.int .i64 s.clock)∧u.cell? ⟨N,4,none⟩=some (.int .i64 id)) (by kernel_rfl) (CS (L.out.below (Below.refl _ _).drew) X.out.drew) (fun _=>?_)
  replace L:=Kept.mk (L.out.below (Below.refl _ w1).drew);replace X:=Kept.mk X.out.drew;replace B:=Kept.mk B.out.drew
  generalize w1.drew=w2 at *
  have KM:=Kept.mk (crefund_any ⟨G,v,L.out.pk,rfl⟩ party id s.clock)
  unfold BookPost at KM
  refine tk 0 (by assumption) ?_
  simp only[Act.put,zA,zB,zC]
  refine tk 1 (by assumption) ?_
  simp only[Act.put,zA,zB,zC]
  refine tk 2 (by assumption) ?_
  simp only[Act.put,zA,zB,zC]
  refine tk 3 (by assumption) ?_
  simp only[Act.put,zA,zB,zC]
  refine tk 4 (by assumption) ?_
  simp only[Act.put,zA,zB,zC]
  refine tk 5 (by assumption) ?_
  simp only[Act.put,zA,zB,zC]
  refine tk 6 (by assumption) ?_
  simp only[Act.put,zA,zB,zC]
  refine tk 7 (by assumption) ?_
  simp only[Act.put,zA,zB,zC]
  refine tk 8 (by assumption) ?_
  simp only[Act.put,zA,zB,zC]
  refine tk 9 (by assumption) ?_
  simp only[Act.put,zA,zB,zC]
  refine tk 10 (by assumption) ?_
  simp only[Act.put,zA,zB,zC]
  refine ld 11 (fun K hK=>?_)
  go_simp
  go_at_call 239
  refine KM.out.mono ?_
  rintro e w4 ⟨rfl,F',hp,fp⟩
  have XG:Kept (N∉fk t b G v):=⟨fun hm=>NX.out (lf_mem.2 (.inr (.inr hm)))⟩
  have LK:=Kept.mk (Lk.booked L.out B.out hp fp)
  have L4:=L.out.blk.bar fp.1 L.out.xB
  have X4:=X.out.bar fp.1 XG.out
  refine hK.out _ _ ⟨L4.cell 0,L4.cell 2,X4.cell 4⟩ (fun _=>?_)
  clear hK K KM hp fp L4 X4 CS
  refine tk 12 (by assumption) ?_
  simp only[Act.put,zA,zB,zC]
  refine tk 13 (by assumption) ?_
  simp only[Act.put,zA,zB,zC]
  refine wpAnyH_done (by kernel_rfl) ?_ _
  refine NoPanic.normal ?_
  go_wp2
  go_ret2
  exact⟨rfl,LK.out⟩
end
end Go.Proofs.YtidjkhpekhpffaaGreat.Ledger
