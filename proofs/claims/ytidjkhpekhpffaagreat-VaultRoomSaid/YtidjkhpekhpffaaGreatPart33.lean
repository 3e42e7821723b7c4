/-
  Parts laid together: LedgerC5 LedgerC8 LedgerC7.
-/
import Derived.Test.YtidjkhpekhpffaaGreatPart26
import Derived.Test.YtidjkhpekhpffaaGreatPart17
import Derived.Test.YtidjkhpekhpffaaGreatPart31
import Derived.Test.YtidjkhpekhpffaaGreatPart32
import Derived.Deep.AppendLies
import Derived.Test.YtidjkhpekhpffaaGreatPart3
import Derived.Test.YtidjkhpekhpffaaGreatPart12
import Derived.Test.YtidjkhpekhpffaaGreatPart11
import Derived.Test.YtidjkhpekhpffaaGreatPart8
import Derived.Test.YtidjkhpekhpffaaGreatPart1
import Derived.LoopN
import Derived.Deep.DeepCutAuto
namespace Go.Proofs.YtidjkhpekhpffaaGreat.Ledger
open Go.RowKit Go.Proofs.YtidjkhpekhpffaaGreat.Num Go.Proofs.YtidjkhpekhpffaaGreat.Sha Go.Proofs.YtidjkhpekhpffaaGreat.Purse Go.Proofs.YtidjkhpekhpffaaGreat.Escrow Go.Proofs.YtidjkhpekhpffaaGreat.Wire Go.Proofs.YtidjkhpekhpffaaGreat.Req
section
variable {w w1 w2 : World} {t x b q N R : Nat} {F F' G : List Nat} {v d : Value} {s : LS}
theorem off_step (h:N∉F) (lt:N < w.heap.size) (fp:Fp F F' w w1):N∉F':=fun hm=>by
 rcases fp.2 N hm with k|k
 ·exact h k
 ·omega
theorem fp_put (f:Fp F F' w w1) (b:Bar [R] w1 w2) (h:w.heap.size≤R):Fp F F' w w2:=⟨f.1.trans b (fun k hk=>.inr (by rw[List.mem_singleton] at hk;rw[hk];exact h)),f.2⟩
theorem Lk.put (h:Lk w1 t F x s) (b:Bar [R] w1 w2) (hR:R∉t :: F):Lk w2 t F x s:=h.keep b (fun k hk hm=>hR (by rw[List.mem_singleton] at hm;rw[← hm];exact List.mem_cons_of_mem _ hk)) (ctab_bar h.lts.2.2 b (fun hm=>hR (by rw[List.mem_singleton] at hm;rw[hm];exact List.mem_cons_self ..)))
theorem reply_size:(Tryz.prog.info? 167).map (·.size)=some 2:=by kernel_rfl
theorem info_deed:(Tryz.prog.info? 174).map (fun i=>(i.zero,i.size,i.bytes))=some (some (.agg #[.int .i64 0,.int .i64 0,.int .i64 0,.int .i64 0,.int .i64 0,.int .i64 0,.int .i64 0,.int .i64 0,.int .i64 0,.string ⟨#[]⟩,.string ⟨#[]⟩]),11,104):=by kernel_rfl
theorem leC_one (e:LE):∀ v∈leC e,v.oneCell'=true:=by
 intro v hv
 simp only[leC,List.mem_cons] at hv
 rcases hv with rfl|rfl|hv
 ·rfl
 ·rfl
 ·exact vvC_one _ v hv
set_option maxRecDepth 100000 in
set_option maxHeartbeats 2000000 in
theorem ask_any (party:Int) (r:RV) (W:WL s) (hr:r.ok) (h:Lp w t x b q G v d s):Calls Tryz.prog 168 #[.pointer (some ⟨x,0,none⟩),.int .i64 party,rqv r] w (StepPost w t (lf x b G v d) x (pqv (oneL s party r).1) (oneL s party r).2):=by
 have HR:=Kept.mk hr;have HW:=Kept.mk W
 clear W
 obtain⟨O,hO⟩:∃ O,oneL s party r=O:=⟨_,rfl⟩
 rw[hO]
 have HO:=Kept.mk hO
 clear hO
 obtain⟨kind,dst,asset,amount,id,due,hash,sec⟩:=r
 obtain⟨⟨oc,oi⟩,s2⟩:=O
 unfold rqv pqv
 dsimp only
 obtain⟨N,hN⟩:∃ N,w.heap.size=N:=⟨_,rfl⟩
 obtain⟨R,hR⟩:∃ R,(w.alloc (.cells #[.int .i64 kind,.int .i64 dst,.int .i64 asset,.int .i64 amount,.int .i64 id,.int .i64 due,.string (strOfNums hash),.string (strOfNums sec)] 88)).heap.size=R:=⟨_,rfl⟩
 have b0:Below w.heap.size w (w.alloc (.cells #[.int .i64 kind,.int .i64 dst,.int .i64 asset,.int .i64 amount,.int .i64 id,.int .i64 due,.string (strOfNums hash),.string (strOfNums sec)] 88)):=(Below.refl _ _).alloc (Nat.le_refl _) _
 have x0:Blk (w.alloc (.cells #[.int .i64 kind,.int .i64 dst,.int .i64 asset,.int .i64 amount,.int .i64 id,.int .i64 due,.string (strOfNums hash),.string (strOfNums sec)] 88)) N 88 #[.int .i64 kind,.int .i64 dst,.int .i64 asset,.int .i64 amount,.int .i64 id,.int .i64 due,.string (strOfNums hash),.string (strOfNums sec)]:=Blk.new_at w _ _ N hN.symm
 have b1:Below (w.alloc (.cells #[.int .i64 kind,.int .i64 dst,.int .i64 asset,.int .i64 amount,.int .i64 id,.int .i64 due,.string (strOfNums hash),.string (strOfNums sec)] 88)).heap.size (w.alloc (.cells #[.int .i64 kind,.int .i64 dst,.int .i64 asset,.int .i64 amount,.int .i64 id,.int .i64 due,.string (strOfNums hash),.string (strOfNums sec)] 88)) ((w.alloc (.cells #[.int .i64 kind,.int .i64 dst,.int .i64 asset,.int .i64 amount,.int .i64 id,.int .i64 due,.string (strOfNums hash),.string (strOfNums sec)] 88)).alloc (.cells #[.int .i64 0,.int .i64 0] 167)):=(Below.refl _ _).alloc (Nat.le_refl _) _
 have Y:Kept (Blk ((w.alloc (.cells #[.int .i64 kind,.int .i64 dst,.int .i64 asset,.int .i64 amount,.int .i64 id,.int .i64 due,.string (strOfNums hash),.string (strOfNums sec)] 88)).alloc (.cells #[.int .i64 0,.int .i64 0] 167)) R 167 #[.int .i64 0,.int .i64 0]):=⟨Blk.new_at _ _ _ R hR.symm⟩
 have X:Kept (Blk ((w.alloc (.cells #[.int .i64 kind,.int .i64 dst,.int .i64 asset,.int .i64 amount,.int .i64 id,.int .i64 due,.string (strOfNums hash),.string (strOfNums sec)] 88)).alloc (.cells #[.int .i64 0,.int .i64 0] 167)) N 88 #[.int .i64 kind,.int .i64 dst,.int .i64 asset,.int .i64 amount,.int .i64 id,.int .i64 due,.string (strOfNums hash),.string (strOfNums sec)]):=⟨x0.below b1 x0.lt⟩
 have B:Kept (Below w.heap.size w ((w.alloc (.cells #[.int .i64 kind,.int .i64 dst,.int .i64 asset,.int .i64 amount,.int .i64 id,.int .i64 due,.string (strOfNums hash),.string (strOfNums sec)] 88)).alloc (.cells #[.int .i64 0,.int .i64 0] 167))):=⟨b0.trans (b1.mono b0.size)⟩
 have NR:Kept (N < R∧w.heap.size≤N):=⟨by rw[← hR];exact x0.lt,by omega⟩
 have OF:Kept (N∉t :: lf x b G v d∧R∉t :: lf x b G v d):=⟨fun hm=>by have:=h.lts N hm;omega,fun hm=>by have:=h.lts R hm;have:=NR.out;omega⟩
 have L:=Kept.mk (h.below B.out)
 clear b0 b1 x0 h
 go_enter Tryz.func168,Tryz.ntmps168
 go_upto_region 1 with(fail)
 generalize ((w.alloc (.cells #[.int .i64 kind,.int .i64 dst,.int .i64 asset,.int .i64 amount,.int .i64 id,.int .i64 due,.string (strOfNums hash),.string (strOfNums sec)] 88)).alloc (.cells #[.int .i64 0,.int .i64 0] 167))=w1 at *
 have KW:=lwhole_any (w:=w1) ⟨kind,dst,asset,amount,id,due,hash,sec⟩ HR.out
 unfold TellB rqv at KW
 dsimp only at KW
 obtain⟨qw,hqw⟩:∃ qw,decide (MayR ⟨kind,dst,asset,amount,id,due,hash,sec⟩)=qw:=⟨_,rfl⟩
 rw[hqw] at KW
 have KW2:=Kept.mk KW;have HQ:=Kept.mk hqw
 clear KW hqw
 have h0:=X.out.cell 0;have h1:=X.out.cell 1;have h2:=X.out.cell 2;have h3:=X.out.cell 3;have h4:=X.out.cell 4;have h5:=X.out.cell 5;have h6:=X.out.cell 6;have h7:=X.out.cell 7
 go_wp2_with fail
 refine KW2.out.mono ?_
 rintro e w2 ⟨rfl,bb⟩
 replace X:=Kept.mk (X.out.below bb X.out.lt);replace Y:=Kept.mk (Y.out.below bb Y.out.lt);replace B:=Kept.mk (B.out.trans (bb.mono B.out.size));replace L:=Kept.mk (L.out.below bb)
 clear KW2 bb h0 h1 h2 h3 h4 h5 h6 h7
 cases qw with
 | false =>
  have HNM:=Kept.mk (of_decide_eq_false HQ.out)
  have he:=HO.out
  rw[oneL_range (fun k=>HNM.out k.1)] at he
  injection he with he1 he2
  injection he1 with he3 he4
  subst he2 he3 he4
  have LK:Kept (Lk w2 t _ x s):=⟨⟨b,q,G,v,d,L.out,rfl⟩⟩
  have FP:Kept (Fp (t :: lf x b G v d) (t :: _) w w2):=⟨⟨barOf B.out _,fun _ hk=>.inl hk⟩⟩
  have RO:Kept (R∉t :: _):=⟨OF.out.2⟩
  have y0:w2.cell? ⟨R,0,none⟩=some (.int .i64 0):=Y.out.cell 0;have y1:w2.cell? ⟨R,1,none⟩=some (.int .i64 0):=Y.out.cell 1
  have z0:=Y.out.frozen 0;have z1:=Y.out.frozen 1
  have PP:=Kept.mk (put2 Y.out (.int .i64 1) (.int .i64 0))
  have WR:Kept (w.heap.size≤R):=⟨by have:=NR.out;omega⟩
  go_wp2
  (try simp only[Exit.inBlock,Exit.then])
  refine bodyPost_ret (results_cell_row rfl _ _ R 167 #[.int .i64 1,.int .i64 0] (0,0) _ rfl PP.out.1 Tryz.underlying167 rfl reply_size) rfl ?_
  exact⟨rfl,_,LK.out.put PP.out.2 RO.out,fp_put FP.out PP.out.2 WR.out⟩
 | true =>
  have HM:=Kept.mk (of_decide_eq_true HQ.out)
  have KP:=lparty_any party L.out
  obtain⟨qp,hqp⟩:∃ qp,isP s.b.p party=qp:=⟨_,rfl⟩
  rw[hqp] at KP
  have KP2:=Kept.mk KP;have HP:=Kept.mk hqp
  clear KP hqp
  go_wp2_with fail
  refine KP2.out.mono ?_
  rintro e w3 ⟨rfl,rfl⟩
  clear KP2
  cases qp with
  | false =>
   have he:=HO.out
   rw[oneL_range (fun k=>by rw[HP.out] at k;cases k.2)] at he
   injection he with he1 he2
   injection he1 with he3 he4
   subst he2 he3 he4
   have LK:Kept (Lk w2 t _ x s):=⟨⟨b,q,G,v,d,L.out,rfl⟩⟩
   have FP:Kept (Fp (t :: lf x b G v d) (t :: _) w w2):=⟨⟨barOf B.out _,fun _ hk=>.inl hk⟩⟩
   have RO:Kept (R∉t :: _):=⟨OF.out.2⟩
   have y0:w2.cell? ⟨R,0,none⟩=some (.int .i64 0):=Y.out.cell 0;have y1:w2.cell? ⟨R,1,none⟩=some (.int .i64 0):=Y.out.cell 1
   have z0:=Y.out.frozen 0;have z1:=Y.out.frozen 1
   have PP:=Kept.mk (put2 Y.out (.int .i64 1) (.int .i64 0))
   have WR:Kept (w.heap.size≤R):=⟨by have:=NR.out;omega⟩
   go_wp2
   (try simp only[Exit.inBlock,Exit.then])
   refine bodyPost_ret (results_cell_row rfl _ _ R 167 #[.int .i64 1,.int .i64 0] (0,0) _ rfl PP.out.1 Tryz.underlying167 rfl reply_size) rfl ?_
   exact⟨rfl,_,LK.out.put PP.out.2 RO.out,fp_put FP.out PP.out.2 WR.out⟩
  | true =>
   have KR:=lroom_any kind HW.out L.out
   unfold TellB at KR
   obtain⟨qr,hqr⟩:∃ qr,roomK s kind=qr:=⟨_,rfl⟩
   rw[hqr] at KR
   have KR2:=Kept.mk KR;have HRM:=Kept.mk hqr
   clear KR hqr
   have h0:=X.out.cell 0
   go_wp2_with fail
   refine KR2.out.mono ?_
   rintro e w3 ⟨rfl,bb⟩
   replace X:=Kept.mk (X.out.below bb X.out.lt);replace Y:=Kept.mk (Y.out.below bb Y.out.lt);replace B:=Kept.mk (B.out.trans (bb.mono B.out.size));replace L:=Kept.mk (L.out.below bb)
   clear KR2 bb h0
   cases qr with
   | false =>
    have he:=HO.out
    rw[oneL_full ⟨HM.out,HP.out⟩ HRM.out] at he
    injection he with he1 he2
    injection he1 with he3 he4
    subst he2 he3 he4
    have LK:Kept (Lk w3 t _ x s):=⟨⟨b,q,G,v,d,L.out,rfl⟩⟩
    have FP:Kept (Fp (t :: lf x b G v d) (t :: _) w w3):=⟨⟨barOf B.out _,fun _ hk=>.inl hk⟩⟩
    have RO:Kept (R∉t :: _):=⟨OF.out.2⟩
    have y0:w3.cell? ⟨R,0,none⟩=some (.int .i64 0):=Y.out.cell 0;have y1:w3.cell? ⟨R,1,none⟩=some (.int .i64 0):=Y.out.cell 1
    have z0:=Y.out.frozen 0;have z1:=Y.out.frozen 1
    have PP:=Kept.mk (put2 Y.out (.int .i64 12) (.int .i64 0))
    have WR:Kept (w.heap.size≤R):=⟨by have:=NR.out;omega⟩
    go_wp2
    (try simp only[Exit.inBlock,Exit.then])
    refine bodyPost_ret (results_cell_row rfl _ _ R 167 #[.int .i64 12,.int .i64 0] (0,0) _ rfl PP.out.1 Tryz.underlying167 rfl reply_size) rfl ?_
    exact⟨rfl,_,LK.out.put PP.out.2 RO.out,fp_put FP.out PP.out.2 WR.out⟩
   | true =>
    have KD:=do_any party ⟨kind,dst,asset,amount,id,due,hash,sec⟩ HW.out HR.out (by
     rcases HM.out with⟨k,-⟩|⟨k,-⟩|⟨k,-⟩|⟨k,-⟩
     ·exact .inl k
     ·exact .inr (.inl k)
     ·exact .inr (.inr (.inl k))
     ·exact .inr (.inr (.inr k))) L.out
    unfold StepPost rqv at KD
    obtain⟨D,hD⟩:∃ D,doL s party ⟨kind,dst,asset,amount,id,due,hash,sec⟩=D:=⟨_,rfl⟩
    rw[hD] at KD
    obtain⟨⟨di,de⟩,db⟩:=D
    dsimp only at KD
    have KD2:=Kept.mk KD;have HD:=Kept.mk hD
    clear KD hD
    have h0:=X.out.cell 0;have h1:=X.out.cell 1;have h2:=X.out.cell 2;have h3:=X.out.cell 3;have h4:=X.out.cell 4;have h5:=X.out.cell 5;have h6:=X.out.cell 6;have h7:=X.out.cell 7
    go_wp2_with fail
    refine KD2.out.mono ?_
    rintro e w4 ⟨rfl,F2,hk,fp⟩
    have OF2:Kept (N∉t :: F2∧R∉t :: F2):=⟨off_step OF.out.1 X.out.lt fp,off_step OF.out.2 Y.out.lt fp⟩
    have FP2:=Kept.mk (Fp.trans (F:=t :: lf x b G v d) (F':=t :: lf x b G v d) ⟨barOf B.out _,fun _ hk=>.inl hk⟩ fp)
    replace X:=Kept.mk (X.out.bar fp.1 OF.out.1);replace Y:=Kept.mk (Y.out.bar fp.1 OF.out.2)
    have LK2:=Kept.mk hk
    clear KD2 hk fp h0 h1 h2 h3 h4 h5 h6 h7 L
    by_cases hde:de=0
    ·subst hde
     have hs2:=HO.out
     rw[oneL_yes ⟨HM.out,HP.out⟩ HRM.out (by rw[HD.out]),HD.out] at hs2
     injection hs2 with he1 he2
     injection he1 with he3 he4
     dsimp only at he2 he3 he4
     have HEI:Kept (di=oi∧(0:Int)=oc):=⟨he4,he3⟩
     have HS2:=Kept.mk he2
     clear he2 he3 he4
     obtain⟨b2,q2,G2,v2,d2,L,rfl⟩:=LK2.out
     clear LK2
     obtain⟨A2,c2,hd2,-,hc2,hcm2,-⟩:=L.list
     subst hd2
     have HLN:Kept (s.e.length≤400):=⟨HW.out.len⟩
     have L2:=Kept.mk L
     dsimp only at hc2 hcm2 L2
     clear L
     go_upto_region 8 with(fail)
     have CS:∀ {u:World},Lp u t x b2 q2 G2 v2 (.slice A2 s.e.length c2) ⟨s.cap,db,s.clock,s.e⟩→Blk u N 88 #[.int .i64 kind,.int .i64 dst,.int .i64 asset,.int .i64 amount,.int .i64 id,.int .i64 due,.string (strOfNums hash),.string (strOfNums sec)]→u.cell? ⟨x,2,none⟩=some (.int .i64 s.clock)∧u.cell? ⟨x,3,none⟩=some (.slice A2 s.e.length c2)∧u.cell? ⟨N,0,none⟩=some (.int .i64 kind)∧u.cell? ⟨N,1,none⟩=some (.int .i64 dst)∧u.cell? ⟨N,2,none⟩=some (.int .i64 asset)∧u.cell? ⟨N,3,none⟩=some (.int .i64 amount)∧u.cell? ⟨N,4,none⟩=some (.int .i64 id)∧u.cell? ⟨N,5,none⟩=some (.int .i64 due)∧u.cell? ⟨N,6,none⟩=some (.string (strOfNums hash))∧u.cell? ⟨N,7,none⟩=some (.string (strOfNums sec)):=fun h k=>⟨h.c2,h.blk.cell 3,k.cell 0,k.cell 1,k.cell 2,k.cell 3,k.cell 4,k.cell 5,k.cell 6,k.cell 7⟩
     refine wp_region_noPanic ?_
     have bb:Below w4.heap.size w4 w4.drew:=(Below.refl _ _).drew
     replace L2:=Kept.mk (L2.out.below bb);replace X:=Kept.mk X.out.drew;replace Y:=Kept.mk Y.out.drew
     replace FP2:Kept (Fp (t :: lf x b G v d) (t :: lf x b2 G2 v2 (.slice A2 s.e.length c2)) w w4.drew):=⟨FP2.out.1.trans (barOf bb []) (by simp),FP2.out.2⟩
     refine wp_region_U 19 (S:=fun u:World=>u.cell? ⟨x,2,none⟩=some (.int .i64 s.clock)∧u.cell? ⟨x,3,none⟩=some (.slice A2 s.e.length c2)∧u.cell? ⟨N,0,none⟩=some (.int .i64 kind)∧u.cell? ⟨N,1,none⟩=some (.int .i64 dst)∧u.cell? ⟨N,2,none⟩=some (.int .i64 asset)∧u.cell? ⟨N,3,none⟩=some (.int .i64 amount)∧u.cell? ⟨N,4,none⟩=some (.int .i64 id)∧u.cell? ⟨N,5,none⟩=some (.int .i64 due)∧u.cell? ⟨N,6,none⟩=some (.string (strOfNums hash))∧u.cell? ⟨N,7,none⟩=some (.string (strOfNums sec))) (by kernel_rfl) (CS L2.out X.out) (fun hS0=>?_)
     clear bb
     generalize w4.drew=w5 at *
     have EV:=event_any (w:=w5) party di ⟨kind,dst,asset,amount,id,due,hash,sec⟩ HM.out
     unfold TellB vqv rqv at EV
     obtain⟨V,hV⟩:∃ V,evOf party di ⟨kind,dst,asset,amount,id,due,hash,sec⟩=V:=⟨_,rfl⟩
     rw[hV] at EV
     have HV:=Kept.mk hV
     obtain⟨ek,es,ed,ea,en,ei,eu,eh,ec⟩:=V
     dsimp only at EV
     have EV2:=Kept.mk EV
     clear EV hV
     refine tkU 0 (by assumption) ?_
     simp only[Act.put,zA,zB,zC]
     refine tkU 1 (by assumption) ?_
     simp only[Act.put,zA,zB,zC]
     refine tkU 2 (by assumption) ?_
     simp only[Act.put,zA,zB,zC]
     refine tkU 3 (by assumption) ?_
     simp only[Act.put,zA,zB,zC]
     refine tkU 4 (by assumption) ?_
     simp only[Act.put,zA,zB,zC]
     refine tkU 5 (by assumption) ?_
     simp only[Act.put,zA,zB,zC]
     refine tkU 6 (by assumption) ?_
     simp only[Act.put,zA,zB,zC]
     refine tkU 7 (by assumption) ?_
     simp only[Act.put,zA,zB,zC]
     refine tkU 8 (by assumption) ?_
     simp only[Act.put,zA,zB,zC]
     refine tkU 9 (by assumption) ?_
     simp only[Act.put,zA,zB,zC]
     refine tkU 10 (by assumption) ?_
     simp only[Act.put,zA,zB,zC]
     refine tkU 11 (by assumption) ?_
     simp only[Act.put,zA,zB,zC]
     refine tkU 12 (by assumption) ?_
     simp only[Act.put,zA,zB,zC]
     refine ldU 13 (fun K hK=>?_)
     go_simp
     go_at_call 208
     refine EV2.out.mono ?_
     rintro e w6 ⟨rfl,bb⟩
     replace X:=Kept.mk (X.out.below bb X.out.lt);replace Y:=Kept.mk (Y.out.below bb Y.out.lt);replace L2:=Kept.mk (L2.out.below bb)
     replace FP2:=Kept.mk (Fp.trans FP2.out ⟨barOf bb _,fun _ hk=>.inl hk⟩)
     have hS1:=CS L2.out X.out
     refine hK.out _ _ (fun _=>hS1) (fun _=>?_)
     clear hK K hS0 EV2 bb
     try simp only[Act.put,zA,zB,zC]
     refine tkU 14 (by assumption) ?_
     simp only[Act.put,zA,zB,zC]
     refine ldU 15 (fun K hK=>?_)
     go_simp
     have bb:Below w6.heap.size w6 (w6.alloc (.cells #[.int .i64 party,.int .i64 s.clock,.int .i64 ek,.int .i64 es,.int .i64 ed,.int .i64 ea,.int .i64 en,.int .i64 ei,.int .i64 eu,.string (strOfNums eh),.string (strOfNums ec)] 174)):=(Below.refl _ _).alloc (Nat.le_refl _) _
     have NW:=Kept.mk (World.news_of_block (cs:=#[.int .i64 party,.int .i64 s.clock,.int .i64 ek,.int .i64 es,.int .i64 ed,.int .i64 ea,.int .i64 en,.int .i64 ei,.int .i64 eu,.string (strOfNums eh),.string (strOfNums ec)]) (t:=174) (fr:=(0,0)) (heap_alloc_new w6 _))
     replace X:=Kept.mk (X.out.below bb X.out.lt);replace Y:=Kept.mk (Y.out.below bb Y.out.lt);replace L2:=Kept.mk (L2.out.below bb)
     replace FP2:=Kept.mk (Fp.trans FP2.out ⟨barOf bb _,fun _ hk=>.inl hk⟩)
     have hS2:=CS L2.out X.out
     refine hK.out _ _ (fun _=>hS2) (fun _=>?_)
     clear hK K bb hS1
     try simp only[Act.put,zA,zB,zC]
     generalize (w6.alloc (.cells #[.int .i64 party,.int .i64 s.clock,.int .i64 ek,.int .i64 es,.int .i64 ed,.int .i64 ea,.int .i64 en,.int .i64 ei,.int .i64 eu,.string (strOfNums eh),.string (strOfNums ec)] 174))=w7 at *
     generalize w6.heap.size=gB at *
     obtain⟨iu,hi,hz0,hz1,hz2⟩:=info_parts info_deed
     refine ldU 16 (fun K hK=>?_)
     refine step_append_lies _ (by rfl) _ _ _ (by rfl) 0 174 iu (.agg #[.int .i64 0,.int .i64 0,.int .i64 0,.int .i64 0,.int .i64 0,.int .i64 0,.int .i64 0,.int .i64 0,.int .i64 0,.string ⟨#[]⟩,.string ⟨#[]⟩]) 11 104 Tryz.underlying153 hi hz0 hz1 hz2 rfl (by omega) (.slice A2 s.e.length c2) s.e.length (s.e.flatMap leC) (by rfl) L2.out.dl
      ⟨gB,0,none⟩ 1 1 (leC ⟨⟨ek,es,ed,ea,en,ei,eu,eh,ec⟩,party,s.clock⟩) (by rfl) (by rfl) NW.out (leC_one _) (by have:=HLN.out;omega) (by unfold maxLen;have:=HLN.out;omega) (by have:=HLN.out;omega) (Nat.zero_le _) w7.heap.size rfl ?_
     intro gg cg w8 hown hgrow hat hlt
     have PS:=Kept.mk (L2.out.push (d':=.slice (some ⟨gg,0,none⟩) (s.e.length+1) cg) (e:=⟨⟨ek,es,ed,ea,en,ei,eu,eh,ec⟩,party,s.clock⟩) hgrow hown (hat.imp (fun h=>h) (fun h1=>by rw[h1];rfl)))
     have BG:Kept (Bar (t :: lf x b2 G2 v2 (.slice A2 s.e.length c2)) w7 w8):=⟨(Bar.grownRow hgrow).mono (fun z hz=>.inl (lf_mem.2 (.inr (.inl hz))))⟩
     have y2:w8.cell? ⟨x,2,none⟩=some (.int .i64 s.clock):=PS.out.1.cell 2
     have y3:w8.cell? ⟨x,3,none⟩=some (.slice A2 s.e.length c2):=PS.out.1.cell 3
     have f3:=PS.out.1.frozen 3
     replace X:=Kept.mk (X.out.bar BG.out OF2.out.1)
     have hS8:w8.cell? ⟨x,2,none⟩=some (.int .i64 s.clock)∧w8.cell? ⟨x,3,none⟩=some (.slice A2 s.e.length c2)∧w8.cell? ⟨N,0,none⟩=some (.int .i64 kind)∧w8.cell? ⟨N,1,none⟩=some (.int .i64 dst)∧w8.cell? ⟨N,2,none⟩=some (.int .i64 asset)∧w8.cell? ⟨N,3,none⟩=some (.int .i64 amount)∧w8.cell? ⟨N,4,none⟩=some (.int .i64 id)∧w8.cell? ⟨N,5,none⟩=some (.int .i64 due)∧w8.cell? ⟨N,6,none⟩=some (.string (strOfNums hash))∧w8.cell? ⟨N,7,none⟩=some (.string (strOfNums sec)):=⟨y2,y3,X.out.cell 0,X.out.cell 1,X.out.cell 2,X.out.cell 3,X.out.cell 4,X.out.cell 5,X.out.cell 6,X.out.cell 7⟩
     have OF3:Kept (R∉t :: lf x b2 G2 v2 (.slice (some ⟨gg,0,none⟩) (s.e.length+1) cg)):=⟨off_step OF2.out.2 Y.out.lt PS.out.2.2⟩
     replace Y:=Kept.mk (Y.out.bar PS.out.2.2.1 OF2.out.2)
     replace FP2:=Kept.mk (Fp.trans FP2.out PS.out.2.2)
     clear hown hgrow hat hlt NW hi hz0 hz1 hz2 L2 BG y2
     refine hK.out _ _ (fun _=>hS8) (fun _=>?_)
     clear hK K
     try simp only[Act.put,zA,zB,zC]
     refine ldU 17 (fun K hK=>?_)
     go_simp
     refine hK.out _ _ (fun _=>hS8) (fun _=>?_)
     clear hK K
     try simp only[Act.put,zA,zB,zC]
     refine ldU 18 (fun K hK=>?_)
     go_simp
     refine hK.out _ _ (fun _=>hS8) (fun _=>?_)
     clear hK K
     try simp only[Act.put,zA,zB,zC]
     refine ldU 19 (fun K hK=>?_)
     go_simp
     refine hK.out _ _ (fun h=>absurd rfl h) (fun _=>?_)
     clear hK K
     try simp only[Act.put,zA,zB,zC]
     refine wpAnyU_done (by kernel_rfl) ?_ _
     refine NoPanic.normal ?_
     have L3:=Kept.mk PS.out.2.1
     clear PS y3 f3 hS8 hS2 X CS
     generalize (w8.setCell ⟨x,3,none⟩ (.slice (some ⟨gg,0,none⟩) (s.e.length+1) cg))=w9 at *
     have hL3:=L3.out
     rw[← HV.out,HS2.out] at hL3
     have L4:=Kept.mk hL3
     clear hL3 L3
     have y0:w9.cell? ⟨R,0,none⟩=some (.int .i64 0):=Y.out.cell 0;have y1:w9.cell? ⟨R,1,none⟩=some (.int .i64 0):=Y.out.cell 1
     have z0:=Y.out.frozen 0;have z1:=Y.out.frozen 1
     have PP:=Kept.mk (put2 Y.out (.int .i64 0) (.int .i64 di))
     have WR:Kept (w.heap.size≤R):=⟨by have:=NR.out;omega⟩
     go_wp2
     (try simp only[Exit.inBlock,Exit.then])
     refine bodyPost_ret (results_cell_row rfl _ _ R 167 #[.int .i64 0,.int .i64 di] (0,0) _ rfl PP.out.1 Tryz.underlying167 rfl reply_size) rfl ?_
     exact⟨by rw[← HEI.out.1,← HEI.out.2],_,Lk.put ⟨b2,q2,G2,v2,_,L4.out,rfl⟩ PP.out.2 OF3.out,fp_put FP2.out PP.out.2 WR.out⟩
    ·have hde':(de != 0)=true:=by simpa using hde
     have hdb:db=s.b:=by
      have:=doL_no HW.out HR.out HRM.out (party:=party) (by rw[HD.out];exact hde)
      rw[HD.out] at this
      exact this
     subst hdb
     have hde0:(de == 0)=false:=beq_eq_false_iff_ne.2 hde
     have he:=HO.out
     rw[oneL_no ⟨HM.out,HP.out⟩ HRM.out (by rw[HD.out];exact hde),HD.out] at he
     injection he with he1 he2
     injection he1 with he3 he4
     dsimp only at he3
     subst he2 he3 he4
     have y0:w4.cell? ⟨R,0,none⟩=some (.int .i64 0):=Y.out.cell 0;have y1:w4.cell? ⟨R,1,none⟩=some (.int .i64 0):=Y.out.cell 1
     have z0:=Y.out.frozen 0;have z1:=Y.out.frozen 1
     have PP:=Kept.mk (put2 Y.out (.int .i64 de) (.int .i64 0))
     have WR:Kept (w.heap.size≤R):=⟨by have:=NR.out;omega⟩
     go_wp2
     (try simp only[Exit.inBlock,Exit.then])
     refine bodyPost_ret (results_cell_row rfl _ _ R 167 #[.int .i64 de,.int .i64 0] (0,0) _ rfl PP.out.1 Tryz.underlying167 rfl reply_size) rfl ?_
     exact⟨rfl,_,LK2.out.put PP.out.2 OF2.out.2,fp_put FP2.out PP.out.2 WR.out⟩
end
section
variable {w : World} {t x b q : Nat} {F G : List Nat} {v d : Value} {s : LS}
theorem enc_byte (l:List Int) (z:Int) (h:B8 z):encNum (0,l) z 1=(0,l++[z]):=by
 rw[wr1]
 unfold wr
 rw[if_pos rfl,if_pos h,b8_be h]
theorem enc1 (l:List Int) {z:Int}(h:B8 z):encNum (0,l) z 1=(0,l++be z.toNat 1):=by
 rw[wr1];unfold wr;rw[if_pos rfl,if_pos h]
theorem enc2 (l:List Int) {z:Int}(h:I16 z):encNum (0,l) z 2=(0,l++be z.toNat 2):=by
 rw[wr2];unfold wr;rw[if_pos rfl,if_pos h]
theorem enc8 (l:List Int) {z:Int}(h:Amt z):encNum (0,l) z 8=(0,l++be z.toNat 8):=by
 rw[wr8];unfold wr;rw[if_pos rfl,if_pos h]
set_option maxRecDepth 100000 in
set_option maxHeartbeats 2000000 in
theorem putev_any {F:List Nat}{e:Nat}{l:List Int}(V:VV) (h:En 233 w F e (0,l)) (hl:l.length≤100000) (hm:MayV V) (hk:V.ok):Calls Tryz.prog 84 #[.pointer (some ⟨e,0,none⟩),vqv V] w fun y w'=>y=.returned (.int .i64 0)∧∃ F',En 233 w' F' e (0,l++putV V)∧Fp F F' w w':=by
 have HE:=encA_one hm
 have HPL:=putV_len hm
 have HPB:=putV_bytes hk
 have HP1:1≤(putV V).length:=by
  obtain⟨l,h1,-,-⟩:=putV_cons hm
  rw[h1,List.length_append,be_len];omega
 obtain⟨pv,hpv⟩:∃ pv,putV V=pv:=⟨_,rfl⟩
 rw[hpv] at HPL HPB HE HP1 ⊢
 have HEA:=Kept.mk HE
 have HB:=Kept.mk HPB
 have HOK:=Kept.mk hk
 obtain⟨ek,es,ed,ea,en,ei,eu,eh,ec⟩:=V
 unfold vqv
 dsimp only
 obtain⟨N,hN⟩:∃ N,w.heap.size=N:=⟨_,rfl⟩
 have b0:Below w.heap.size w (w.alloc (.cells #[.int .i64 ek,.int .i64 es,.int .i64 ed,.int .i64 ea,.int .i64 en,.int .i64 ei,.int .i64 eu,.string (strOfNums eh),.string (strOfNums ec)] 150)):=(Below.refl _ _).alloc (Nat.le_refl _) _
 have X:Kept (Blk (w.alloc (.cells #[.int .i64 ek,.int .i64 es,.int .i64 ed,.int .i64 ea,.int .i64 en,.int .i64 ei,.int .i64 eu,.string (strOfNums eh),.string (strOfNums ec)] 150)) N 150 #[.int .i64 ek,.int .i64 es,.int .i64 ed,.int .i64 ea,.int .i64 en,.int .i64 ei,.int .i64 eu,.string (strOfNums eh),.string (strOfNums ec)]):=⟨Blk.new_at w _ _ N hN.symm⟩
 have LF:=Kept.mk h.lt
 have L:=Kept.mk (h.below b0)
 have B:=Kept.mk b0
 clear h b0 hm hk HE hpv HPB
 go_enter Tryz.func84,Tryz.ntmps84
 go_upto_region 1 with(fail)
 generalize (w.alloc (.cells #[.int .i64 ek,.int .i64 es,.int .i64 ed,.int .i64 ea,.int .i64 en,.int .i64 ei,.int .i64 eu,.string (strOfNums eh),.string (strOfNums ec)] 150))=w1 at *
 have b1:Below w1.heap.size w1 (w1.alloc (.cells #[.int .i64 ek,.int .i64 es,.int .i64 ed,.int .i64 ea,.int .i64 en,.int .i64 ei,.int .i64 eu,.string (strOfNums eh),.string (strOfNums ec)] 150)):=(Below.refl _ _).alloc (Nat.le_refl _) _
 have RV:=rc_one (C:=vvC) (z:=9) ⟨ek,es,ed,ea,en,ei,eu,eh,ec⟩ (Blk.new w1 150 #[.int .i64 ek,.int .i64 es,.int .i64 ed,.int .i64 ea,.int .i64 en,.int .i64 ei,.int .i64 eu,.string (strOfNums eh),.string (strOfNums ec)]) rfl
 have KE:=cencan_any (A:=none) (n:=0) (c:=0) (l:=[]) (m:=1) (d:=1) (v:=[⟨ek,es,ed,ea,en,ei,eu,eh,ec⟩]) 0 0 Rc.nil RV (by intro r hr;rw[List.mem_singleton] at hr;exact hr▸HOK.out)
 rw[HEA.out] at KE
 unfold EncNPost at KE
 dsimp only at KE
 have KE2:=Kept.mk KE
 have y0:=X.out.cell 0;have y1:=X.out.cell 1;have y2:=X.out.cell 2;have y3:=X.out.cell 3;have y4:=X.out.cell 4;have y5:=X.out.cell 5;have y6:=X.out.cell 6;have y7:=X.out.cell 7;have y8:=X.out.cell 8
 replace L:=Kept.mk (L.out.below b1);replace B:=Kept.mk (B.out.trans (b1.mono B.out.size))
 clear KE RV b1
 go_wp2_with fail
 refine KE2.out.mono ?_
 rintro y w2 ⟨A,n,c,rfl,h1,h2,h3,bb,hnew⟩
 replace L:=Kept.mk (L.out.below bb)
 have hn:(hdr++pv).length=n:=h3.1
 have hn13:n=13+pv.length:=by rw[← hn,List.length_append];rfl
 obtain⟨m,hm⟩:∃ m,pv.length=m:=⟨_,rfl⟩
 rw[hm] at hn13 HPL HP1
 obtain⟨g,go,hA,hcell⟩:∃ g go,A=some ⟨g,go,none⟩∧∀ i,i < n→w2.cell? ⟨g,go+i,none⟩=some (.int .u8 (at_ (hdr++pv) i)):=h3.2.2.resolve_left (by omega)
 subst hA
 have hg:=hnew g go rfl
 have hg2:w.heap.size≤g:=by have:=B.out.size;omega
 replace B:=Kept.mk (B.out.trans (bb.mono B.out.size))
 have hgF:g∉F:=fun hm=>by have:=LF.out g hm;omega
 have RD:Kept (Rd w2 (some ⟨g,go+13,none⟩) m pv):=⟨hm,HB.out,.inr ⟨g,go+13,rfl,fun i hi=>by
  rw[show go+13+i=go+(13+i) by omega,hcell (13+i) (by omega)]
  congr 2
  unfold at_
  rw[List.getD_eq_getElem?_getD,List.getD_eq_getElem?_getD,List.getElem?_append_right (by show hdr.length≤_;exact Nat.le_add_right 13 i)]
  congr 2
  show 13+i - 13=i
  omega⟩⟩
 have OFF:Kept (Off (some ⟨g,go+13,none⟩) m F):=⟨.inr ⟨g,go+13,rfl,hgF⟩⟩
 have HSL:=slice_l_at g go n c 13 (by omega) (by omega) 13 rfl
 obtain⟨c2,hc2⟩:∃ c2,c - 13=c2:=⟨_,rfl⟩
 rw[show n - 13=m by omega,hc2] at HSL
 have L0:Kept (En 233 w2 F e (0,l++pv.take 0)):=⟨by rw[List.take_zero,List.append_nil];exact L.out⟩
 have FP:Kept (Fp F F w w2):=⟨barOf B.out _,fun _ hk=>.inl hk⟩
 have HM:=Kept.mk hm
 have hm54:m≤54:=HPL
 have hmc:m≤c2:=by omega
 have hcm:c2≤9223372036854775807:=by omega
 clear h3 hnew hcell hn hn13 hgF bb KE2 L B y0 y1 y2 y3 y4 y5 y6 y7 y8 hm hc2 HPL HP1
 go_wp2
 clear HSL
 go_loopw [22] (fun i wr=>∃ (k:Nat) (F2:List Nat),k≤m∧i=.int .i64 k∧Kept (En 233 wr F2 e (0,l++pv.take k))∧Kept (Fp F F2 w wr)∧Kept (Rd wr (some ⟨g,go+13,none⟩) m pv)∧Kept (Off (some ⟨g,go+13,none⟩) m F2)) (fun i _=>m - (Go.RowKit.intOf i).toNat)
 case atStart=>exact⟨0,F,by omega,rfl,L0,FP,RD,OFF⟩
 case round =>
  clear L0 FP RD OFF
  obtain⟨k,F2,hk,rfl,L,FP,RD,OFF⟩:=hrel
  by_cases hkm:k < m
  ·have hkm':(k:Int) < m:=by omega
   obtain⟨hl2,hb2,hc3⟩:=RD.out
   have hcell:wr.cell? ⟨g,go+13+k,none⟩=some (.int .u8 (at_ pv k)):=by
    rcases hc3 with h0|⟨b',o',hA,hc⟩
    ·omega
    ·injection hA with hA;injection hA with e1 e2;subst e1 e2;exact hc k hkm
   have hat:pv[k]?=some (at_ pv k):=by
    unfold at_
    rw[List.getD_eq_getElem?_getD,List.getElem?_eq_getElem (by omega)];rfl
   obtain⟨z,hz⟩:∃ z,at_ pv k=z:=⟨_,rfl⟩
   rw[hz] at hcell hat
   have hzb:0≤z∧z≤255:=by
    have:=HB.out z (List.mem_of_getElem? hat)
    exact⟨this.1,by omega⟩
   obtain⟨hz0,hz1⟩:=hzb
   have HT:=Kept.mk (ctake_next hat)
   have KN:=num_any wr F2 e z 1 (0,l++pv.take k) L.out (by simp only[List.length_append,List.length_take];omega)
   rw[enc_byte _ z ⟨hz0,hz1⟩,List.append_assoc,← HT.out] at KN
   have KN2:=Kept.mk KN
   clear KN hc3 hat hz hl2 hb2
   go_wp2_with fail
   refine KN2.out.mono ?_
   rintro y w3 ⟨rfl,F3,he,fp⟩
   replace L:=Kept.mk he
   have OFF3:=Kept.mk (OFF.out.step RD.out fp)
   replace RD:=Kept.mk (RD.out.far fp.1 OFF.out)
   replace FP:=Kept.mk (FP.out.trans fp)
   clear KN2 he fp OFF hcell hz0 hz1
   go_wp2
   go_roundw
   case rel=>exact⟨k+1,F3,by omega,by go_num,L,FP,RD,OFF3⟩
   case measure=>simp[Go.RowKit.intOf];omega
  ·have hkm':¬ (k:Int) < m:=by omega
   obtain rfl:k=m:=by omega
   go_wp2
   go_ret
   have:=L.out
   rw[← HM.out,List.take_length] at this
   exact⟨rfl,F2,this,FP.out⟩
set_option maxRecDepth 100000 in
set_option maxHeartbeats 2000000 in
theorem lsave_any (W:WL s) (h:Lp w t x b q G v d s):Calls Tryz.prog 35 #[.pointer (some ⟨x,0,none⟩)] w (SavePost s w):=by
 obtain⟨A,c,rfl,x3,hc,hcm,hrc⟩:=h.list
 have x2:=h.c2
 have hlen:=W.len
 have HSB:=Kept.mk (saveL_bytes W);have HSL:=Kept.mk (saveL_len W)
 have HW:=Kept.mk W;have HRC:=Kept.mk hrc
 have XL:Kept (x < w.heap.size):=⟨h.blk.lt⟩
 have CX:Kept (∀ w',Below w.heap.size w w'→w'.cell? ⟨x,2,none⟩=some (.int .i64 s.clock)∧w'.cell? ⟨x,3,none⟩=some (.slice A s.e.length c)):=⟨fun w' b=>⟨(h.below b).c2,(h.below b).blk.cell 3⟩⟩
 have HCK:=Kept.mk (enc8 [] W.clock.amt)
 have HLE:=Kept.mk (enc2 (be s.clock.toNat 8) (z:=(s.e.length:Nat)) ⟨by omega,by omega⟩)
 rw[List.nil_append] at HCK
 clear W h hrc x2 x3
 obtain⟨E,hE⟩:∃ E,w.heap.size=E:=⟨_,rfl⟩
 have KN:=Kept.mk (newenc_any w)
 go_enter Tryz.func35,Tryz.ntmps35
 go_wp2_with fail
 refine KN.out.mono ?_
 rintro y w1 ⟨rfl,he,fp⟩
 have BW:=Kept.mk (fp.below (B:=w.heap.size) (by simp) (Nat.le_refl _))
 have AF:=Kept.mk (fp.least (B:=w.heap.size) (by simp) (Nat.le_refl _))
 rw[hE] at he AF
 have KC:=num_any w1 [E] E s.clock 8 (0,[]) he (by simp)
 rw[HCK.out] at KC
 have KC2:=Kept.mk KC
 have x2:=(CX.out _ BW.out).1
 clear KN he fp KC
 go_wp2_with fail
 refine KC2.out.mono ?_
 rintro y w2 ⟨rfl,F2,he,fp⟩
 have SZ1:Kept (E≤w1.heap.size):=⟨by rw[← hE];exact BW.out.size⟩
 replace BW:=Kept.mk (BW.out.trans (fp.below (B:=w.heap.size) (by rw[hE];exact AF.out) BW.out.size))
 replace AF:=Kept.mk (fp.least (B:=E) AF.out SZ1.out)
 have KC:=num_any w2 F2 E (s.e.length:Nat) 2 (0,be s.clock.toNat 8) he (by simp[be_len])
 rw[HLE.out] at KC
 have KC3:=Kept.mk KC
 clear KC2 he fp KC x2
 have x3:=(CX.out _ BW.out).2
 go_wp2_with fail
 refine KC3.out.mono ?_
 rintro y w3 ⟨rfl,F3,he,fp⟩
 have SZ2:Kept (E≤w2.heap.size):=⟨by rw[← hE];exact BW.out.size⟩
 replace BW:=Kept.mk (BW.out.trans (fp.below (B:=w.heap.size) (by rw[hE];exact AF.out) BW.out.size))
 replace AF:=Kept.mk (fp.least (B:=E) AF.out SZ2.out)
 have L:Kept (En 233 w3 F3 E (0,be s.clock.toNat 8++(be s.e.length 2++(s.e.take 0).flatMap putLE))):=⟨by
  rw[List.take_zero,List.flatMap_nil,List.append_nil];exact he⟩
 clear KC3 he fp x3 SZ2
 have x3:=(CX.out _ BW.out).2
 obtain⟨n,hn⟩:∃ n,s.e.length=n:=⟨_,rfl⟩
 obtain⟨hd,hhd⟩:∃ hd,be s.clock.toNat 8++be n 2=hd:=⟨_,rfl⟩
 have HHD:Kept (∀ z,be s.clock.toNat 8++(be n 2++z)=hd++z):=⟨fun z=>by rw[← hhd,List.append_assoc]⟩
 have HDL:Kept (hd.length=10):=⟨by rw[← hhd,List.length_append,be_len,be_len]⟩
 rw[hn] at x3 hc hlen HRC L
 rw[HHD.out] at L
 have HN:=Kept.mk hn
 have HPL:Kept (∀ k,((s.e.take k).flatMap putLE).length≤63 * n):=⟨fun k=>by
  have h2:=flat_len (f:=putLE) (m:=63) (l:=s.e.take k) (fun y hy=>by
   have:=putV_len (HW.out.each y (List.mem_of_mem_take hy)).1
   simp only[putLE,List.length_append,be_len];omega)
  have h3:(s.e.take k).length≤n:=by rw[List.length_take,HN.out];omega
  have:63 * (s.e.take k).length≤63 * n:=Nat.mul_le_mul_left _ h3
  omega⟩
 clear hn hhd
 go_wp2
 clear x3
 go_loopw [27] (fun i wr=>∃ (k:Nat) (F4:List Nat),k≤n∧i=.int .i64 k∧Kept (En 233 wr F4 E (0,hd++(s.e.take k).flatMap putLE))∧Kept (Below w.heap.size w wr)∧Kept (∀ z∈F4,E≤z)) (fun i _=>n - (Go.RowKit.intOf i).toNat)
 case atStart=>exact⟨0,F3,by omega,rfl,L,BW,AF⟩
 case round =>
  clear L BW AF
  obtain⟨k,F4,hk,rfl,L,BW,AF⟩:=hrel
  by_cases hkn:k < n
  ·have hkn':(k:Int) < n:=by omega
   obtain⟨g,go,y,hA,hy,hyc⟩:=(HRC.out.below BW.out).at_ hkn
   subst hA
   have HT:=Kept.mk (ctake_next hy)
   have hmem:=List.mem_of_getElem? hy
   have HY:=Kept.mk (HW.out.each y hmem)
   have HWHO:=Kept.mk (HW.out.who hmem)
   have HLE2:Kept (putLE y=be y.who.toNat 1++(be y.at_.toNat 8++putV y.v)):=⟨rfl⟩
   obtain⟨V,who,at_⟩:=y
   dsimp only at HY HWHO HLE2
   obtain⟨ek,es,ed,ea,en,ei,eu,eh,ec⟩:=V
   have y0:wr.cell? ⟨g,go+k * 11,none⟩=some (.int .i64 who):=hyc 0 _ rfl;have y1:wr.cell? ⟨g,go+k * 11+1,none⟩=some (.int .i64 at_):=hyc 1 _ rfl;have y2:wr.cell? ⟨g,go+k * 11+2,none⟩=some (.int .i64 ek):=hyc 2 _ rfl;have y3:wr.cell? ⟨g,go+k * 11+3,none⟩=some (.int .i64 es):=hyc 3 _ rfl;have y4:wr.cell? ⟨g,go+k * 11+4,none⟩=some (.int .i64 ed):=hyc 4 _ rfl;have y5:wr.cell? ⟨g,go+k * 11+5,none⟩=some (.int .i64 ea):=hyc 5 _ rfl;have y6:wr.cell? ⟨g,go+k * 11+6,none⟩=some (.int .i64 en):=hyc 6 _ rfl;have y7:wr.cell? ⟨g,go+k * 11+7,none⟩=some (.int .i64 ei):=hyc 7 _ rfl;have y8:wr.cell? ⟨g,go+k * 11+8,none⟩=some (.int .i64 eu):=hyc 8 _ rfl;have y9:wr.cell? ⟨g,go+k * 11+9,none⟩=some (.string (strOfNums eh)):=hyc 9 _ rfl;have y10:wr.cell? ⟨g,go+k * 11+10,none⟩=some (.string (strOfNums ec)):=hyc 10 _ rfl
   clear hyc hy hmem
   have b1:Below wr.heap.size wr (wr.alloc (.cells #[.int .i64 who,.int .i64 at_,.int .i64 ek,.int .i64 es,.int .i64 ed,.int .i64 ea,.int .i64 en,.int .i64 ei,.int .i64 eu,.string (strOfNums eh),.string (strOfNums ec)] 174)):=(Below.refl _ _).alloc (Nat.le_refl _) _
   obtain⟨M,hM⟩:∃ M,wr.heap.size=M:=⟨_,rfl⟩
   have X:Kept (Blk (wr.alloc (.cells #[.int .i64 who,.int .i64 at_,.int .i64 ek,.int .i64 es,.int .i64 ed,.int .i64 ea,.int .i64 en,.int .i64 ei,.int .i64 eu,.string (strOfNums eh),.string (strOfNums ec)] 174)) M 174 #[.int .i64 who,.int .i64 at_,.int .i64 ek,.int .i64 es,.int .i64 ed,.int .i64 ea,.int .i64 en,.int .i64 ei,.int .i64 eu,.string (strOfNums eh),.string (strOfNums ec)]):=⟨Blk.new_at _ _ _ M hM.symm⟩
   have MF:Kept (M∉F4):=⟨fun hm=>by have:=L.out.lt M hm;omega⟩
   go_upto_region 7 with(fail)
   replace L:=Kept.mk (L.out.below b1);replace BW:=Kept.mk (BW.out.trans (b1.mono BW.out.size))
   clear y0 y1 y2 y3 y4 y5 y6 y7 y8 y9 y10 b1
   generalize wr.alloc (.cells #[.int .i64 who,.int .i64 at_,.int .i64 ek,.int .i64 es,.int .i64 ed,.int .i64 ea,.int .i64 en,.int .i64 ei,.int .i64 eu,.string (strOfNums eh),.string (strOfNums ec)] 174)=w4 at *
   obtain⟨L0,hL0⟩:∃ L0,hd++(s.e.take k).flatMap putLE=L0:=⟨_,rfl⟩
   have HL0:Kept (L0.length≤10+63 * 400):=⟨by rw[← hL0,List.length_append,HDL.out];have:=HPL.out k;omega⟩
   rw[hL0] at L
   have HLZ:=Kept.mk hL0
   clear hL0
   have KC:=num_any w4 F4 E who 1 (0,L0) L.out (by have:=HL0.out;simp only[];omega)
   rw[enc1 _ HWHO.out] at KC
   have KC2:=Kept.mk KC
   have y0:=X.out.cell 0
   clear KC
   go_wp2_with fail
   refine KC2.out.mono ?_
   rintro y w5 ⟨rfl,F5,he,fp⟩
   have SZ:Kept (E≤w4.heap.size):=⟨by rw[← hE];exact BW.out.size⟩
   replace BW:=Kept.mk (BW.out.trans (fp.below (B:=w.heap.size) (by rw[hE];exact AF.out) BW.out.size))
   replace AF:=Kept.mk (fp.least (B:=E) AF.out SZ.out)
   have MF5:=Kept.mk (off_step MF.out X.out.lt fp)
   replace X:=Kept.mk (X.out.bar fp.1 MF.out)
   replace L:=Kept.mk he
   clear KC2 he fp y0 MF SZ
   have KC:=num_any w5 F5 E at_ 8 (0,L0++be who.toNat 1) L.out (by have:=HL0.out;simp only[List.length_append,be_len];omega)
   rw[enc8 _ HY.out.2.2.2.amt] at KC
   have KC2:=Kept.mk KC
   have y1:=X.out.cell 1
   clear KC
   go_wp2_with fail
   refine KC2.out.mono ?_
   rintro y w6 ⟨rfl,F6,he,fp⟩
   have SZ:Kept (E≤w5.heap.size):=⟨by rw[← hE];exact BW.out.size⟩
   replace BW:=Kept.mk (BW.out.trans (fp.below (B:=w.heap.size) (by rw[hE];exact AF.out) BW.out.size))
   replace AF:=Kept.mk (fp.least (B:=E) AF.out SZ.out)
   have MF6:=Kept.mk (off_step MF5.out X.out.lt fp)
   replace X:=Kept.mk (X.out.bar fp.1 MF5.out)
   replace L:=Kept.mk he
   clear KC2 he fp y1 MF5 SZ
   have KP:=putev_any ⟨ek,es,ed,ea,en,ei,eu,eh,ec⟩ L.out (by have:=HL0.out;simp only[List.length_append,be_len];omega) HY.out.1 HY.out.2.1
   rw[List.append_assoc,List.append_assoc,← HLE2.out,← HLZ.out,List.append_assoc] at KP
   have HSN:Kept ((s.e.take k).flatMap putLE++putLE ⟨⟨ek,es,ed,ea,en,ei,eu,eh,ec⟩,who,at_⟩=(s.e.take (k+1)).flatMap putLE):=⟨by rw[HT.out,List.flatMap_append,List.flatMap_singleton]⟩
   rw[HSN.out] at KP
   unfold vqv at KP
   dsimp only at KP
   have KP2:=Kept.mk KP
   have y2:w6.cell? ⟨M,2,none⟩=some (.int .i64 ek):=X.out.cell 2;have y3:w6.cell? ⟨M,3,none⟩=some (.int .i64 es):=X.out.cell 3;have y4:w6.cell? ⟨M,4,none⟩=some (.int .i64 ed):=X.out.cell 4;have y5:w6.cell? ⟨M,5,none⟩=some (.int .i64 ea):=X.out.cell 5;have y6:w6.cell? ⟨M,6,none⟩=some (.int .i64 en):=X.out.cell 6;have y7:w6.cell? ⟨M,7,none⟩=some (.int .i64 ei):=X.out.cell 7;have y8:w6.cell? ⟨M,8,none⟩=some (.int .i64 eu):=X.out.cell 8;have y9:w6.cell? ⟨M,9,none⟩=some (.string (strOfNums eh)):=X.out.cell 9;have y10:w6.cell? ⟨M,10,none⟩=some (.string (strOfNums ec)):=X.out.cell 10
   clear KP
   go_wp2_with fail
   refine KP2.out.mono ?_
   rintro y w7 ⟨rfl,F7,he,fp⟩
   have SZ:Kept (E≤w6.heap.size):=⟨by rw[← hE];exact BW.out.size⟩
   replace BW:=Kept.mk (BW.out.trans (fp.below (B:=w.heap.size) (by rw[hE];exact AF.out) BW.out.size))
   replace AF:=Kept.mk (fp.least (B:=E) AF.out SZ.out)
   replace L:=Kept.mk he
   clear KP2 he fp X MF6 SZ y2 y3 y4 y5 y6 y7 y8 y9 y10
   go_wp2
   go_roundw
   case rel=>exact⟨k+1,F7,by omega,by go_num,L,BW,AF⟩
   case measure=>simp[Go.RowKit.intOf];omega
  ·have hkn':¬ (k:Int) < n:=by omega
   obtain rfl:k=n:=by omega
   have hL:=L.out
   rw[← HN.out,List.take_length,← HHD.out] at hL
   have hS:be s.clock.toNat 8++(be k 2++s.e.flatMap putLE)=saveL s:=by rw[← HN.out];rfl
   rw[hS] at hL
   have KD:=Kept.mk (done_any wr F4 E (0,saveL s) hL HSB.out (by have:=HSL.out;simp only[];omega))
   clear hL hS
   go_wp2_with fail
   refine KD.out.mono ?_
   rintro y w5 ⟨v5,rfl,own,b5⟩
   obtain⟨A5,c5,rfl,h1,h2,r5⟩:=own_rd own HSB.out
   have R5:=Kept.mk r5
   have NW5:Kept (∀ b o,A5=some ⟨b,o,none⟩→w.heap.size≤b):=⟨fun b o hh=>by subst hh;have h1:=BW.out.size;have h3:=(own.lt b rfl).1;omega⟩
   replace BW:=Kept.mk (BW.out.trans (b5.mono BW.out.size))
   clear KD own b5 r5
   go_wp2
   go_ret2
   exact⟨A5,_,c5,rfl,h1,h2,R5.out,fun b o hh=>⟨NW5.out b o hh,by simp⟩,BW.out⟩
end
theorem elem_reqs:Tryz.prog.elem 73=88:=by kernel_rfl
theorem und_reqs:Tryz.prog.underlying 73=some (.slice (Tryz.prog.elem 73)):=by rw[elem_reqs];exact Tryz.underlying73
theorem info_reqs:(Tryz.prog.info? 88).map (fun i=>(i.zero,i.size,i.bytes))=some (some (.agg #[.int .i64 0,.int .i64 0,.int .i64 0,.int .i64 0,.int .i64 0,.int .i64 0,.string ⟨#[]⟩,.string ⟨#[]⟩]),8,80):=by kernel_rfl
theorem info_reps:(Tryz.prog.info? 167).map (fun i=>(i.zero,i.size,i.bytes))=some (some (.agg #[.int .i64 0,.int .i64 0]),2,16):=by kernel_rfl
theorem pvC_len (x:PV):(pvC x).length=2:=rfl
theorem answer_size:(Tryz.prog.info? 81).map (·.size)=some 4:=by kernel_rfl
theorem size_reqs (w:World):(sizeOf (Tryz.prog.elem 73)).run Tryz.prog w=.ok 8 w:=by
 obtain⟨iu,hi,_,hz1,_⟩:=info_parts info_reqs
 rw[elem_reqs]
 simp[sizeOf,typeInfo,hi,hz1]
theorem reqs_h (A:Option Addr) (n c h:Nat) (h1:h≤n) (hc:n≤c) (hi:Int) (e1:hi=h) :
  (∀ w',(Instr.slice 73 (.slice A n c) none (some (.int .i64 hi)) none).run Tryz.prog w'=.ok (.slice A h c) w')∧∀ w xs,Rr w A n xs→Rr w A h (xs.take h):=by
 subst e1
 refine⟨fun w'=>?_,fun w xs r=>?_⟩
 ·rw[run_slice_h w' 73 A n c und_reqs .i64 h (by omega) (by omega),size_reqs]
  have ea:∀ a:Addr,a.add 0=a:=fun a=>by simp[Addr.add]
  cases A<;>simp[Result.andThen,sliced,ea]
 ·refine⟨by rw[List.length_take,r.1];omega,?_⟩
  rcases r.2 with h0|⟨b,o,rfl,hx⟩
  ·exact .inl (by omega)
  ·refine .inr ⟨b,o,rfl,fun k x hk j v hv=>?_⟩
   rw[List.getElem?_take] at hk
   split at hk
   ·exact hx k x hk j v hv
   ·cases hk
theorem rc_far {α:Type}{C:α→List Value}{z n:Nat}{w w':World}{A:Option Addr}{l:List α}{F:List Nat}(h:Rc C z w A n l) (o:Off A n F) (b:Bar F w w'):Rc C z w' A n l:=by
 rcases o with h0|⟨g,go,rfl,hg⟩
 ·exact⟨h.1,.inl h0⟩
 ·refine h.bar b (fun x hx=>.inr (fun o' ho=>?_))
  injection ho with ho;injection ho with ho
  exact hg (ho▸hx)
structure Ap (w wr:World) (t x N R:Nat) (F0 F:List Nat) (xc yc:Array Value) (s:LS):Prop where
 lk:Lk wr t F x s
 fp:Fp (t :: F0) (t :: F) w wr
 X:Blk wr N 75 xc
 Y:Blk wr R 81 yc
 nf:N∉t :: F
 rf:R∉t :: F
section
variable {w wr wr' : World} {t x N R : Nat} {F0 F F' : List Nat} {xc yc : Array Value} {s s' : LS}
theorem Ap.below (h:Ap w wr t x N R F0 F xc yc s) (b:Below wr.heap.size wr wr'):Ap w wr' t x N R F0 F xc yc s :=
 ⟨h.lk.below b,h.fp.trans ⟨barOf b _,fun _ hk=>.inl hk⟩,h.X.below b h.X.lt,h.Y.below b h.Y.lt,h.nf,h.rf⟩
theorem Ap.step (h:Ap w wr t x N R F0 F xc yc s) (k:Lk wr' t F' x s') (fp:Fp (t :: F) (t :: F') wr wr'):Ap w wr' t x N R F0 F' xc yc s' :=
 ⟨k,h.fp.trans fp,h.X.bar fp.1 h.nf,h.Y.bar fp.1 h.rf,off_step h.nf h.X.lt fp,off_step h.rf h.Y.lt fp⟩
theorem Ap.grown {ov:Value}{k:Nat}{T:TypeId}{z:Nat}{cs:List Value}(h:Ap w wr t x N R F0 F xc yc s) (ho:wr.ownsRow w.heap.size T z ov k cs) (hd:∀ g∈ov.ownBlock.toList,g∉t :: F) (hN:ov.ownBlock≠some N) (hR:ov.ownBlock≠some R) (hg:wr.grownBy wr' ov.ownBlock):Ap w wr' t x N R F0 F xc yc s:=by
 have b:=Bar.grownRow hg
 have nN:N∉ov.ownBlock.toList:=fun hm=>hN (by simpa using hm)
 have nR:R∉ov.ownBlock.toList:=fun hm=>hR (by simpa using hm)
 refine⟨h.lk.keep b (fun k hk hm=>hd k hm (List.mem_cons_of_mem _ hk)) (ctab_bar h.lk.lts.2.2 b (fun hm=>hd t hm (List.mem_cons_self ..))),⟨h.fp.1.trans b (fun g hg=>.inr ?_),h.fp.2⟩,h.X.bar b nN,h.Y.bar b nR,h.nf,h.rf⟩
 exact(ho.lt g (by simpa using hg)).1
theorem Ap.lt (h:Ap w wr t x N R F0 F xc yc s):∀ k∈t :: F,k < wr.heap.size:=by
 intro k hk
 rcases List.mem_cons.1 hk with rfl|hk
 ·exact ctab_lt h.lk.lts.2.2
 ·exact h.lk.lts.1 k hk
theorem row_step {ov:Value}{k:Nat}{T:TypeId}{z:Nat}{cs:List Value}(ho:wr.ownsRow w.heap.size T z ov k cs∧∀ g∈ov.ownBlock.toList,g∉t :: F) (fp:Fp (t :: F) (t :: F') wr wr'):wr'.ownsRow w.heap.size T z ov k cs∧∀ g∈ov.ownBlock.toList,g∉t :: F' :=
 ⟨own_keep ho.1 fp.1 ho.2,fun g hg=>off_step (ho.2 g hg) (ho.1.lt g (by simpa using hg)).2 fp⟩
end
section
variable {w : World} {t x : Nat} {F : List Nat} {s : LS}
set_option maxRecDepth 100000 in
set_option maxHeartbeats 4000000 in
theorem lapply_any {A:Option Addr}{n c:Nat}{l:List RV}(party clock seen:Int) (h:Lk w t F x s) (W:WL s) (WI_:WI s) (hr:Rr w A n l) (off:Off A n (t :: F)) (hok:∀ r∈l,r.ok) (hn:n≤100000) (hc:n≤c) (hcm:c≤9223372036854775807) :
  Calls Tryz.prog 124 #[.pointer (some ⟨x,0,none⟩),.int .i64 party,.int .i64 clock,.agg #[.int .i64 seen,.slice A n c]] w (ApplyPost Lk w t F x (applyL s party clock ⟨seen,l⟩)):=by
 obtain⟨N,hN⟩:∃ N,w.heap.size=N:=⟨_,rfl⟩
 obtain⟨R,hR⟩:∃ R,(w.alloc (.cells #[.int .i64 seen,.slice A n c] 75)).heap.size=R:=⟨_,rfl⟩
 have b0:Below w.heap.size w (w.alloc (.cells #[.int .i64 seen,.slice A n c] 75)):=(Below.refl _ _).alloc (Nat.le_refl _) _
 have x0:Blk (w.alloc (.cells #[.int .i64 seen,.slice A n c] 75)) N 75 #[.int .i64 seen,.slice A n c]:=Blk.new_at w _ _ N hN.symm
 have b1:Below (w.alloc (.cells #[.int .i64 seen,.slice A n c] 75)).heap.size (w.alloc (.cells #[.int .i64 seen,.slice A n c] 75)) ((w.alloc (.cells #[.int .i64 seen,.slice A n c] 75)).alloc (.cells #[.int .i64 0,.int .i64 0,.slice none 0 0,.slice none 0 0] 81)):=(Below.refl _ _).alloc (Nat.le_refl _) _
 have NR:Kept (w.heap.size≤N∧w.heap.size≤R∧N < R):=⟨by omega,by have:=x0.lt;omega,by have:=x0.lt;omega⟩
 have lts:=h.lts
 have P0:Kept (Ap w ((w.alloc (.cells #[.int .i64 seen,.slice A n c] 75)).alloc (.cells #[.int .i64 0,.int .i64 0,.slice none 0 0,.slice none 0 0] 81)) t x N R F F #[.int .i64 seen,.slice A n c] #[.int .i64 0,.int .i64 0,.slice none 0 0,.slice none 0 0] s):=⟨h.below (b0.trans (b1.mono b0.size)),⟨barOf (b0.trans (b1.mono b0.size)) _,fun _ hk=>.inl hk⟩,x0.below b1 x0.lt,Blk.new_at _ _ _ R hR.symm,
  fun hm=>by
   rcases List.mem_cons.1 hm with e|hm
   ·have:=ctab_lt lts.2.2;omega
   ·have:=lts.1 N hm;omega,fun hm=>by
   rcases List.mem_cons.1 hm with e|hm
   ·have:=ctab_lt lts.2.2;have:=NR.out;omega
   ·have:=lts.1 R hm;have:=NR.out;omega⟩
 have HR:=Kept.mk hr;have HOFF:=Kept.mk off;have HOK:=Kept.mk hok
 obtain⟨m,hm⟩:∃ m:Nat,min n 64=m:=⟨_,rfl⟩
 have hmin:min (n:Int) 64=(m:Int):=by omega
 have hmn:m≤n:=by omega
 have hm64:m≤64:=by omega
 have HTK:Kept (l.take m=l.take 64):=⟨by
  have hl:l.length=n:=hr.1
  by_cases h64:n≤64
  ·rw[List.take_of_length_le (by omega),List.take_of_length_le (by omega)]
  ·rw[show m=64 by omega]⟩
 obtain⟨hsl,hdr⟩:=reqs_h A n c m hmn hc (m:Int) rfl
 have HSL:=Kept.mk hsl
 have HRT:=Kept.mk (hdr w l HR.out)
 have HOT:Kept (Off A m (t :: F)):=⟨by
  rcases off with h0|h1
  ·exact .inl (by omega)
  ·exact .inr h1⟩
 have KK:=Kept.mk (clockL_keeps W WI_ clock)
 have HAP:Kept (applyL s party clock ⟨seen,l⟩=(⟨(manyL (clockL s clock) party (l.take m)).2.clock,((manyL (clockL s clock) party (l.take m)).2.e.length:Nat),(manyL (clockL s clock) party (l.take m)).1,fromL (manyL (clockL s clock) party (l.take m)).2 seen⟩,(manyL (clockL s clock) party (l.take m)).2)):=⟨by rw[HTK.out];rfl⟩
 rw[HAP.out]
 clear b0 b1 x0 h W WI_ hr off hok hsl hdr hm lts HAP HTK
 go_enter Tryz.func124,Tryz.ntmps124
 go_upto_region 1 with(fail)
 generalize ((w.alloc (.cells #[.int .i64 seen,.slice A n c] 75)).alloc (.cells #[.int .i64 0,.int .i64 0,.slice none 0 0,.slice none 0 0] 81))=w1 at *
 have KA:=Kept.mk (advance_any clock P0.out.lk)
 unfold StepPost at KA
 go_wp2_with fail
 refine KA.out.mono ?_
 rintro e w2 ⟨rfl,F2,hk,fp⟩
 have P1:=Kept.mk (P0.out.step hk fp)
 clear KA hk fp P0
 obtain⟨s1,hs1⟩:∃ s1,clockL s clock=s1:=⟨_,rfl⟩
 rw[hs1] at P1 KK
 have HS1:=Kept.mk hs1
 clear hs1
 have xs1:=P1.out.X.cell 1
 have hsl:=HSL.out
 have O:Kept (w2.ownsRow w.heap.size 167 2 (.slice none 0 0) 0 ((manyL s1 party ((l.take m).take 0)).1.flatMap pvC)∧∀ g∈(Value.slice none 0 0).ownBlock.toList,g∉t :: F2):=⟨World.ownsRow_nil _ _ _ _,fun g hg=>by simp[Value.ownBlock] at hg⟩
 have P2:Kept (Ap w w2 t x N R F F2 #[.int .i64 seen,.slice A n c] #[.int .i64 0,.int .i64 0,.slice none 0 0,.slice none 0 0] (manyL s1 party ((l.take m).take 0)).2):=⟨P1.out⟩
 clear P1
 go_upto_region 3 with(fail)
 go_cut [21,22,23] (fun a b i wx=>a=.slice A m c∧b=.int .i64 m∧i=.int .i64 0∧Kept (Ap w wx t x N R F F2 #[.int .i64 seen,.slice A n c] #[.int .i64 0,.int .i64 0,.slice none 0 0,.slice none 0 0] (manyL s1 party ((l.take m).take 0)).2)∧Kept (wx.ownsRow w.heap.size 167 2 (.slice none 0 0) 0 ((manyL s1 party ((l.take m).take 0)).1.flatMap pvC)∧∀ g∈(Value.slice none 0 0).ownBlock.toList,g∉t :: F2))
 case first =>
  by_cases h64:(n:Int)≤64
  ·obtain rfl:m=n:=by omega
   clear hmin
   go_wp2
   go_meet
   case rel=>exact⟨rfl,rfl,rfl,P2,O⟩
  ·obtain rfl:m=64:=by omega
   clear hmin
   go_wp2
   go_meet
   case rel=>exact⟨rfl,rfl,rfl,P2,O⟩
 case rest =>
 clear xs1 hsl P2 O
 obtain⟨rfl,rfl,rfl,P2,O⟩:=hcut
 generalize wc=w2 at *
 go_wp2
 go_loopw [9,23] (fun ov i wr=>∃ (k:Nat) (F3:List Nat) (oz:Value),k≤m∧i=.int .i64 k∧oz=ov∧Kept (Ap w wr t x N R F F3 #[.int .i64 seen,.slice A n c] #[.int .i64 0,.int .i64 0,.slice none 0 0,.slice none 0 0] (manyL s1 party ((l.take m).take k)).2)∧Kept (wr.ownsRow w.heap.size 167 2 oz k ((manyL s1 party ((l.take m).take k)).1.flatMap pvC)∧∀ g∈oz.ownBlock.toList,g∉t :: F3)) (fun _ i _=>m - (Go.RowKit.intOf i).toNat)
 case atStart=>exact⟨0,F2,_,by omega,rfl,rfl,P2,O⟩
 case round =>
  clear P2 O
  obtain⟨k,F3,oz,hk,rfl,rfl,Q,O⟩:=hrel
  by_cases hkm:k < m
  ·have hkm':(k:Int) < m:=by omega
   obtain⟨g,go,y,hA,hy,hyc⟩:=(rc_far HRT.out HOT.out Q.out.fp.1).at_ hkm
   subst hA
   have HY:=Kept.mk (ctake_next hy)
   have HYO:Kept y.ok:=⟨HOK.out y (List.mem_of_mem_take (List.mem_of_getElem? hy))⟩
   obtain⟨kind,dst,asset,amount,id,due,hash,sec⟩:=y
   have y0:wr.cell? ⟨g,go+k * 8,none⟩=some (.int .i64 kind):=hyc 0 _ rfl;have y1:wr.cell? ⟨g,go+k * 8+1,none⟩=some (.int .i64 dst):=hyc 1 _ rfl;have y2:wr.cell? ⟨g,go+k * 8+2,none⟩=some (.int .i64 asset):=hyc 2 _ rfl;have y3:wr.cell? ⟨g,go+k * 8+3,none⟩=some (.int .i64 amount):=hyc 3 _ rfl;have y4:wr.cell? ⟨g,go+k * 8+4,none⟩=some (.int .i64 id):=hyc 4 _ rfl;have y5:wr.cell? ⟨g,go+k * 8+5,none⟩=some (.int .i64 due):=hyc 5 _ rfl;have y6:wr.cell? ⟨g,go+k * 8+6,none⟩=some (.string (strOfNums hash)):=hyc 6 _ rfl;have y7:wr.cell? ⟨g,go+k * 8+7,none⟩=some (.string (strOfNums sec)):=hyc 7 _ rfl
   clear hyc hy
   have b1:Below wr.heap.size wr (wr.alloc (.cells #[.int .i64 kind,.int .i64 dst,.int .i64 asset,.int .i64 amount,.int .i64 id,.int .i64 due,.string (strOfNums hash),.string (strOfNums sec)] 88)):=(Below.refl _ _).alloc (Nat.le_refl _) _
   obtain⟨M,hM⟩:∃ M,wr.heap.size=M:=⟨_,rfl⟩
   have Z:Kept (Blk (wr.alloc (.cells #[.int .i64 kind,.int .i64 dst,.int .i64 asset,.int .i64 amount,.int .i64 id,.int .i64 due,.string (strOfNums hash),.string (strOfNums sec)] 88)) M 88 #[.int .i64 kind,.int .i64 dst,.int .i64 asset,.int .i64 amount,.int .i64 id,.int .i64 due,.string (strOfNums hash),.string (strOfNums sec)]):=⟨Blk.new_at _ _ _ M hM.symm⟩
   go_upto_region 6 with(fail)
   replace Q:=Kept.mk (Q.out.below b1)
   replace O:=Kept.mk (And.intro (own_keep O.out.1 (barOf b1 []) (fun _ _=>by simp)) O.out.2)
   clear y0 y1 y2 y3 y4 y5 y6 y7 b1
   generalize wr.alloc (.cells #[.int .i64 kind,.int .i64 dst,.int .i64 asset,.int .i64 amount,.int .i64 id,.int .i64 due,.string (strOfNums hash),.string (strOfNums sec)] 88)=w3 at *
   obtain⟨s3,hs3⟩:∃ s3,(manyL s1 party ((l.take m).take k)).2=s3:=⟨_,rfl⟩
   have HK3:Kept (Keeps s1 s3):=⟨by rw[← hs3];exact(manyL_keeps KK.out.wl KK.out.wi party _ (fun r hr=>HOK.out r (List.mem_of_mem_take (List.mem_of_mem_take hr)))).1⟩
   rw[hs3] at Q
   have KQ:Calls Tryz.prog 168 #[.pointer (some ⟨x,0,none⟩),.int .i64 party,rqv ⟨kind,dst,asset,amount,id,due,hash,sec⟩] w3 (StepPost w3 t F3 x (pqv (oneL s3 party ⟨kind,dst,asset,amount,id,due,hash,sec⟩).1) (oneL s3 party ⟨kind,dst,asset,amount,id,due,hash,sec⟩).2):=by
    obtain⟨b,q,G,v,d,hL,rfl⟩:=Q.out.lk
    exact ask_any party ⟨kind,dst,asset,amount,id,due,hash,sec⟩ HK3.out.wl HYO.out hL
   have HSN:Kept ((manyL s1 party ((l.take m).take (k+1))).2=(oneL s3 party ⟨kind,dst,asset,amount,id,due,hash,sec⟩).2∧(manyL s1 party ((l.take m).take (k+1))).1=(manyL s1 party ((l.take m).take k)).1++[(oneL s3 party ⟨kind,dst,asset,amount,id,due,hash,sec⟩).1]):=⟨by rw[HY.out,manyL_snoc,hs3];exact⟨rfl,rfl⟩⟩
   clear hs3
   obtain⟨⟨⟨pc,pi⟩,s4⟩,hO⟩:∃ O,oneL s3 party ⟨kind,dst,asset,amount,id,due,hash,sec⟩=O:=⟨_,rfl⟩
   rw[hO] at KQ HSN
   unfold StepPost rqv pqv at KQ
   dsimp only at KQ HSN
   have KQ2:=Kept.mk KQ
   clear KQ hO
   have y0:w3.cell? ⟨M,0,none⟩=some (.int .i64 kind):=Z.out.cell 0;have y1:w3.cell? ⟨M,1,none⟩=some (.int .i64 dst):=Z.out.cell 1;have y2:w3.cell? ⟨M,2,none⟩=some (.int .i64 asset):=Z.out.cell 2;have y3:w3.cell? ⟨M,3,none⟩=some (.int .i64 amount):=Z.out.cell 3;have y4:w3.cell? ⟨M,4,none⟩=some (.int .i64 id):=Z.out.cell 4;have y5:w3.cell? ⟨M,5,none⟩=some (.int .i64 due):=Z.out.cell 5;have y6:w3.cell? ⟨M,6,none⟩=some (.string (strOfNums hash)):=Z.out.cell 6;have y7:w3.cell? ⟨M,7,none⟩=some (.string (strOfNums sec)):=Z.out.cell 7
   go_wp2_with fail
   refine KQ2.out.mono ?_
   rintro e w4 ⟨rfl,F4,hk4,fp⟩
   replace Q:=Kept.mk (Q.out.step hk4 fp)
   replace O:=Kept.mk (row_step O.out fp)
   clear KQ2 hk4 fp Z y0 y1 y2 y3 y4 y5 y6 y7
   have ON:Kept (oz.ownBlock≠some N∧oz.ownBlock≠some R):=⟨own_far O.out.1 Q.out.X (by decide),own_far O.out.1 Q.out.Y (by decide)⟩
   obtain⟨vs,hov⟩:=own_shape O.out.1
   obtain⟨cs,rfl⟩:=hov
   have b2:Below w4.heap.size w4 (w4.alloc (.cells #[.int .i64 pc,.int .i64 pi] 167)):=(Below.refl _ _).alloc (Nat.le_refl _) _
   replace Q:=Kept.mk (Q.out.below b2)
   replace O:=Kept.mk (And.intro (own_keep O.out.1 (barOf b2 []) (fun _ _=>by simp)) O.out.2)
   have NC:=new_cells w4 167 [.int .i64 pc,.int .i64 pi]
   have HSZ:Kept (w.heap.size≤(w4.alloc (.cells #[.int .i64 pc,.int .i64 pi] 167)).heap.size):=⟨Q.out.fp.1.size⟩
   obtain⟨iu,hi,hz0,hz1,hz2⟩:=info_parts info_reps
   go_wp2_with ((with_reducible refine sel 33 ?_);refine wpList_append_own_at _ rfl (.tmp 27) (.tmp 32) 79 rfl w.heap.size 167 iu (.agg #[.int .i64 0,.int .i64 0]) 2 16 Tryz.underlying79 hi hz0 hz1 hz2 rfl (by omega) _ k _ rfl O.out.1 ⟨w4.heap.size,0,none⟩ 1 1 [.int .i64 pc,.int .i64 pi] rfl rfl NC (pvC_one ⟨pc,pi⟩) (by unfold maxLen;omega) (by omega) HSZ.out ?_;intro v' w' ho hg _ hat)
   have OD:∀ z∈v'.ownBlock.toList,z∉t :: F4:=fun z hz hm=>by
    rcases hat with e|e
    ·rw[e] at hz;exact O.out.2 z hz hm
    ·rw[e] at hz
     simp at hz
     have:=Q.out.lt z hm
     simp at this
     omega
   have O3:Kept (w'.ownsRow w.heap.size 167 2 v' (k+1) ((manyL s1 party ((l.take m).take (k+1))).1.flatMap pvC)∧∀ g∈v'.ownBlock.toList,g∉t :: F4):=⟨by
    rw[HSN.out.2,List.flatMap_append]
    refine⟨?_,OD⟩
    simpa [pvC] using ho⟩
   replace Q:=Kept.mk (Q.out.grown O.out.1 O.out.2 ON.out.1 ON.out.2 hg)
   rw[← HSN.out.1] at Q
   clear ho hg NC b2 hi hz0 hz1 hz2 hat OD
   go_roundw
   case rel=>exact⟨k+1,F4,_,by omega,by go_num,rfl,Q,O3⟩
   case measure=>simp[Go.RowKit.intOf];omega
  ·have hkm':¬ (k:Int) < m:=by omega
   obtain rfl:k=m:=by omega
   have HTT:(l.take k).take k=l.take k:=by rw[List.take_take,Nat.min_self]
   rw[HTT] at Q O
   obtain⟨r3,hr3⟩:∃ r3,manyL s1 party (l.take k)=r3:=⟨_,rfl⟩
   have HK3:Kept (Keeps s1 r3.2):=⟨by rw[← hr3];exact(manyL_keeps KK.out.wl KK.out.wi party _ (fun r hr=>HOK.out r (List.mem_of_mem_take hr))).1⟩
   have HR3:=Kept.mk hr3
   have HRL:Kept (r3.1.length=k):=⟨by rw[← hr3,manyL_len];exact HRT.out.1⟩
   rw[hr3] at Q O
   obtain⟨ps,s3⟩:=r3
   dsimp only at Q O HK3 HRL
   clear hr3 HTT
   obtain⟨Az,cz,hz,z1,z2,z3⟩:=Rc.own pvC_len O.out.1 HRL.out
   subst hz
   have HZ:=Kept.mk z3
   clear z3
   go_upto_region 8 with(fail)
   obtain⟨b,q,G,v,d,hL,hF3⟩:=Q.out.lk
   subst hF3
   obtain⟨Ad,cd,hd,-,hcd,hcdm,-⟩:=hL.list
   subst hd
   have HL:=Kept.mk hL
   have HLN:=Kept.mk HK3.out.wl.len
   clear hL
   have CS:∀ {u:World},Lp u t x b q G v (.slice Ad s3.e.length cd) s3→Blk u N 75 #[.int .i64 seen,.slice A n c]→u.cell? ⟨x,2,none⟩=some (.int .i64 s3.clock)∧u.cell? ⟨x,3,none⟩=some (.slice Ad s3.e.length cd)∧u.cell? ⟨N,0,none⟩=some (.int .i64 seen):=fun h k=>⟨h.c2,h.blk.cell 3,k.cell 0⟩
   refine wp_region_noPanic ?_
   have bb:Below wr.heap.size wr wr.drew:=(Below.refl _ _).drew
   replace HL:=Kept.mk (HL.out.below bb);replace Q:=Kept.mk (Q.out.below bb)
   replace HZ:Kept (Rp wr.drew Az k ps):=⟨HZ.out.below bb⟩
   replace O:=Kept.mk (And.intro (own_keep O.out.1 (barOf bb []) (fun _ _=>by simp)) O.out.2)
   refine wp_region_held_drew (S:=fun u:World=>u.cell? ⟨x,2,none⟩=some (.int .i64 s3.clock)∧u.cell? ⟨x,3,none⟩=some (.slice Ad s3.e.length cd)∧u.cell? ⟨N,0,none⟩=some (.int .i64 seen)) (by kernel_rfl) (CS HL.out Q.out.X) (fun _=>?_)
   clear bb
   generalize wr.drew=w3 at *
   have KF:=Kept.mk (from_any seen HK3.out.wl HL.out)
   unfold EventsPost at KF
   refine tk 0 (by assumption) ?_
   simp only[Act.put,zA,zB,zC]
   refine tk 1 (by assumption) ?_
   simp only[Act.put,zA,zB,zC]
   refine tk 2 (by assumption) ?_
   simp only[Act.put,zA,zB,zC]
   refine tk 3 (by assumption) ?_
   simp only[Act.put,zA,zB,zC]
   refine tk 4 (by assumption) ?_
   simp only[Act.put,zA,zB,zC]
   refine tk 5 (by assumption) ?_
   simp only[Act.put,zA,zB,zC]
   refine tk 6 (by assumption) ?_
   simp only[Act.put,zA,zB,zC]
   refine tk 7 (by assumption) ?_
   simp only[Act.put,zA,zB,zC]
   refine tk 8 (by assumption) ?_
   simp only[Act.put,zA,zB,zC]
   refine tk 9 (by assumption) ?_
   simp only[Act.put,zA,zB,zC]
   refine tk 10 (by assumption) ?_
   simp only[Act.put,zA,zB,zC]
   refine tk 11 (by assumption) ?_
   simp only[Act.put,zA,zB,zC]
   refine tk 12 (by assumption) ?_
   simp only[Act.put,zA,zB,zC]
   refine ld 13 (fun K hK=>?_)
   go_simp
   go_at_call 72
   refine KF.out.mono ?_
   rintro e w4 ⟨D,m2,d2,rfl,e1,e2,hv,hnew,bb⟩
   have HD:Kept (∀ b' o',D=some ⟨b',o',none⟩→w.heap.size≤b'∧b'∉t :: lf x b G v (.slice Ad s3.e.length cd)):=⟨fun b' o' hh=>⟨Nat.le_trans Q.out.fp.1.size (hnew b' o' hh).1,fun hm=>by have:=Q.out.lt b' hm;have:=(hnew b' o' hh).1;omega⟩⟩
   have HV:=Kept.mk hv
   have HDR:Kept (∀ o',D≠some ⟨R,o',none⟩):=⟨fun o' hh=>by have:=(hnew R o' hh).1;have:=Q.out.Y.lt;omega⟩
   replace HL:=Kept.mk (HL.out.below bb);replace Q:=Kept.mk (Q.out.below bb)
   replace HZ:=Kept.mk (HZ.out.below bb)
   replace O:=Kept.mk (And.intro (own_keep O.out.1 (barOf bb []) (fun _ _=>by simp)) O.out.2)
   refine hK.out _ _ (CS HL.out Q.out.X) (fun _=>?_)
   clear hK K KF hv hnew bb
   refine tk 14 (by assumption) ?_
   simp only[Act.put,zA,zB,zC]
   have y0:w4.cell? ⟨R,0,none⟩=some (.int .i64 0):=Q.out.Y.cell 0;have z0:=Q.out.Y.frozen 0;have y1:w4.cell? ⟨R,1,none⟩=some (.int .i64 0):=Q.out.Y.cell 1;have z1:=Q.out.Y.frozen 1;have y2:w4.cell? ⟨R,2,none⟩=some (.slice none 0 0):=Q.out.Y.cell 2;have z2:=Q.out.Y.frozen 2;have y3:w4.cell? ⟨R,3,none⟩=some (.slice none 0 0):=Q.out.Y.cell 3;have z3:=Q.out.Y.frozen 3
   have PP:=Kept.mk (put4 Q.out.Y (.int .i64 s3.clock) (.int .i64 (s3.e.length:Nat)) (.slice Az k cz) (.slice D m2 d2))
   have XR:Kept (x≠R):=⟨fun e=>Q.out.rf (lf_mem.2 (.inl e.symm))⟩
   have L5:=Kept.mk (Lk.put Q.out.lk PP.out.2 Q.out.rf)
   have F5:=Kept.mk (fp_put Q.out.fp PP.out.2 NR.out.2.1)
   have AR:Kept (∀ o',Az≠some ⟨R,o',none⟩):=⟨fun o' hh=>by
    subst hh
    have:=own_far O.out.1 Q.out.Y (by decide)
    simp[Value.ownBlock] at this⟩
   have RZ:=Kept.mk (HZ.out.bar PP.out.2 (fun z hz=>.inr (by rw[List.mem_singleton] at hz;rw[hz];exact AR.out)))
   have RV:=Kept.mk (HV.out.bar PP.out.2 (fun z hz=>.inr (by rw[List.mem_singleton] at hz;rw[hz];exact HDR.out)))
   have BX:=HL.out.blk.bar PP.out.2 (by simpa using XR.out)
   have BN:=Q.out.X.bar PP.out.2 (by have:=NR.out;simp;omega)
   have hS5:((((w4.setCell ⟨R,0,none⟩ (.int .i64 s3.clock)).setCell ⟨R,1,none⟩ (.int .i64 (s3.e.length:Nat))).setCell ⟨R,2,none⟩ (.slice Az k cz)).setCell ⟨R,3,none⟩ (.slice D m2 d2)).cell? ⟨x,2,none⟩=some (.int .i64 s3.clock)∧((((w4.setCell ⟨R,0,none⟩ (.int .i64 s3.clock)).setCell ⟨R,1,none⟩ (.int .i64 (s3.e.length:Nat))).setCell ⟨R,2,none⟩ (.slice Az k cz)).setCell ⟨R,3,none⟩ (.slice D m2 d2)).cell? ⟨x,3,none⟩=some (.slice Ad s3.e.length cd)∧((((w4.setCell ⟨R,0,none⟩ (.int .i64 s3.clock)).setCell ⟨R,1,none⟩ (.int .i64 (s3.e.length:Nat))).setCell ⟨R,2,none⟩ (.slice Az k cz)).setCell ⟨R,3,none⟩ (.slice D m2 d2)).cell? ⟨N,0,none⟩=some (.int .i64 seen):=⟨BX.cell 2,BX.cell 3,BN.cell 0⟩
   refine ld 15 (fun K hK=>?_)
   go_simp
   clear y0 z0 y1 z1 y2 z2 y3 z3 BX BN
   have P1:=Kept.mk PP.out.1
   clear PP
   generalize ((((w4.setCell ⟨R,0,none⟩ (.int .i64 s3.clock)).setCell ⟨R,1,none⟩ (.int .i64 (s3.e.length:Nat))).setCell ⟨R,2,none⟩ (.slice Az k cz)).setCell ⟨R,3,none⟩ (.slice D m2 d2))=w5 at *
   refine hK.out _ _ hS5 (fun _=>?_)
   clear hK K hS5 CS
   refine wpAnyH_done (by kernel_rfl) ?_ _
   refine NoPanic.normal ?_
   go_wp2
   (try simp only[Exit.inBlock,Exit.then])
   refine bodyPost_ret (results_cell_row rfl _ _ R 81 #[.int .i64 s3.clock,.int .i64 (s3.e.length:Nat),.slice Az k cz,.slice D m2 d2] (0,0) _ rfl P1.out Tryz.underlying81 rfl answer_size) rfl ?_
   rw[HS1.out,HR3.out]
   refine⟨lf x b G v (.slice Ad s3.e.length cd),Az,k,cz,D,m2,d2,rfl,z1,z2,e1,e2,RZ.out,RV.out,fun b' o' hh=>?_,HD.out,L5.out,F5.out.1,fun z hz=>?_⟩
   ·subst hh
    exact⟨(O.out.1.lt b' rfl).1,O.out.2 b' (by simp[Value.ownBlock])⟩
   ·rcases F5.out.2 z (List.mem_cons_of_mem _ hz) with h|h
    ·rcases List.mem_cons.1 h with h|h
     ·exact absurd (h▸hz) L5.out.lts.2.1
     ·exact .inl h
    ·exact .inr h
end
end Go.Proofs.YtidjkhpekhpffaaGreat.Ledger
