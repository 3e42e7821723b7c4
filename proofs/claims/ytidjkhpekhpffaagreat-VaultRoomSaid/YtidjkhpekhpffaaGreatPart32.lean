/-
  Parts laid together: LedgerC4.
-/
import Derived.Test.YtidjkhpekhpffaaGreatPart1
import Derived.Test.YtidjkhpekhpffaaGreatPart17
import Derived.Test.YtidjkhpekhpffaaGreatPart27
import Derived.Test.YtidjkhpekhpffaaGreatPart8
import Derived.Deep.DeepCutAuto
namespace Go.Proofs.YtidjkhpekhpffaaGreat.Ledger
open Go.RowKit Go.Proofs.YtidjkhpekhpffaaGreat.Num Go.Proofs.YtidjkhpekhpffaaGreat.Sha Go.Proofs.YtidjkhpekhpffaaGreat.Purse Go.Proofs.YtidjkhpekhpffaaGreat.Escrow Go.Proofs.YtidjkhpekhpffaaGreat.Wire Go.Proofs.YtidjkhpekhpffaaGreat.Req
set_option maxRecDepth 100000 in
set_option maxHeartbeats 1000000 in
theorem lclone0_any (w:World):Calls Tryz.prog 267 #[.string ⟨#[]⟩] w fun e w'=>e=.returned (.string ⟨#[]⟩)∧Below w.heap.size w w':=by
 go_enter Tryz.func267,Tryz.ntmps267
 go_wp2
 go_ret
 exact⟨rfl,Below.refl _ _⟩
theorem clonet_any (xs:List Int) (h:xs=[]∨xs.length=32) (w:World):Calls Tryz.prog 240 #[.string (strOfNums xs)] w fun e w'=>e=.returned (.string (strOfNums xs))∧Below w.heap.size w w':=by
 rcases h with rfl|h
 ·have C:=Kept.mk (lclone0_any w)
  rw[show strOfNums []=⟨#[]⟩ from rfl]
  go_enter Tryz.func240,Tryz.ntmps240
  go_wp2_with fail
  refine C.out.mono ?_
  rintro e w1 ⟨rfl,b1⟩
  go_wp2
  go_ret
  exact⟨rfl,b1⟩
 ·exact clone32_any xs h w
theorem event_size:(Tryz.prog.info? 150).map (·.size)=some 9:=by kernel_rfl
set_option maxRecDepth 100000 in
set_option maxHeartbeats 2000000 in
theorem event_any {w:World}(party id_:Int) (r:RV) (hm:MayR r):Calls Tryz.prog 208 #[.int .i64 party,.int .i64 id_,rqv r] w (TellB (vqv (evOf party id_ r)) w):=by
 rw[← evC_is hm]
 have HL:=Kept.mk (MayR.lens hm)
 have hk:r.kind=1∨r.kind=2∨r.kind=3∨r.kind=4:=by
  rcases hm with⟨h1,-⟩|⟨h1,-⟩|⟨h1,-⟩|⟨h1,-⟩
  ·exact .inl h1
  ·exact .inr (.inl h1)
  ·exact .inr (.inr (.inl h1))
  ·exact .inr (.inr (.inr h1))
 clear hm
 obtain⟨kind,dst,asset,amount,id,due,hash,sec⟩:=r
 unfold rqv vqv evC_
 dsimp only at HL hk ⊢
 have HK:=Kept.mk hk
 clear hk
 obtain⟨N,hN⟩:∃ N,w.heap.size=N:=⟨_,rfl⟩
 obtain⟨R,hR⟩:∃ R,(w.alloc (.cells #[.int .i64 kind,.int .i64 dst,.int .i64 asset,.int .i64 amount,.int .i64 id,.int .i64 due,.string (strOfNums hash),.string (strOfNums sec)] 88)).heap.size=R:=⟨_,rfl⟩
 have b0:Below w.heap.size w (w.alloc (.cells #[.int .i64 kind,.int .i64 dst,.int .i64 asset,.int .i64 amount,.int .i64 id,.int .i64 due,.string (strOfNums hash),.string (strOfNums sec)] 88)):=(Below.refl _ _).alloc (Nat.le_refl _) _
 have x0:Blk (w.alloc (.cells #[.int .i64 kind,.int .i64 dst,.int .i64 asset,.int .i64 amount,.int .i64 id,.int .i64 due,.string (strOfNums hash),.string (strOfNums sec)] 88)) N 88 #[.int .i64 kind,.int .i64 dst,.int .i64 asset,.int .i64 amount,.int .i64 id,.int .i64 due,.string (strOfNums hash),.string (strOfNums sec)]:=Blk.new_at w _ _ N hN.symm
 have b1:Below (w.alloc (.cells #[.int .i64 kind,.int .i64 dst,.int .i64 asset,.int .i64 amount,.int .i64 id,.int .i64 due,.string (strOfNums hash),.string (strOfNums sec)] 88)).heap.size (w.alloc (.cells #[.int .i64 kind,.int .i64 dst,.int .i64 asset,.int .i64 amount,.int .i64 id,.int .i64 due,.string (strOfNums hash),.string (strOfNums sec)] 88)) ((w.alloc (.cells #[.int .i64 kind,.int .i64 dst,.int .i64 asset,.int .i64 amount,.int .i64 id,.int .i64 due,.string (strOfNums hash),.string (strOfNums sec)] 88)).alloc (.cells #[.int .i64 0,.int .i64 0,.int .i64 0,.int .i64 0,.int .i64 0,.int .i64 0,.int .i64 0,.string ⟨#[]⟩,.string ⟨#[]⟩] 150)):=(Below.refl _ _).alloc (Nat.le_refl _) _
 have Y:Kept (Blk ((w.alloc (.cells #[.int .i64 kind,.int .i64 dst,.int .i64 asset,.int .i64 amount,.int .i64 id,.int .i64 due,.string (strOfNums hash),.string (strOfNums sec)] 88)).alloc (.cells #[.int .i64 0,.int .i64 0,.int .i64 0,.int .i64 0,.int .i64 0,.int .i64 0,.int .i64 0,.string ⟨#[]⟩,.string ⟨#[]⟩] 150)) R 150 #[.int .i64 0,.int .i64 0,.int .i64 0,.int .i64 0,.int .i64 0,.int .i64 0,.int .i64 0,.string ⟨#[]⟩,.string ⟨#[]⟩]):=⟨Blk.new_at _ _ _ R hR.symm⟩
 have X:Kept (Blk ((w.alloc (.cells #[.int .i64 kind,.int .i64 dst,.int .i64 asset,.int .i64 amount,.int .i64 id,.int .i64 due,.string (strOfNums hash),.string (strOfNums sec)] 88)).alloc (.cells #[.int .i64 0,.int .i64 0,.int .i64 0,.int .i64 0,.int .i64 0,.int .i64 0,.int .i64 0,.string ⟨#[]⟩,.string ⟨#[]⟩] 150)) N 88 #[.int .i64 kind,.int .i64 dst,.int .i64 asset,.int .i64 amount,.int .i64 id,.int .i64 due,.string (strOfNums hash),.string (strOfNums sec)]):=⟨x0.below b1 x0.lt⟩
 have B:Kept (Below w.heap.size w ((w.alloc (.cells #[.int .i64 kind,.int .i64 dst,.int .i64 asset,.int .i64 amount,.int .i64 id,.int .i64 due,.string (strOfNums hash),.string (strOfNums sec)] 88)).alloc (.cells #[.int .i64 0,.int .i64 0,.int .i64 0,.int .i64 0,.int .i64 0,.int .i64 0,.int .i64 0,.string ⟨#[]⟩,.string ⟨#[]⟩] 150))):=⟨b0.trans (b1.mono b0.size)⟩
 have NR:Kept (N < R∧w.heap.size≤N):=⟨by rw[← hR];exact x0.lt,by omega⟩
 clear b0 b1 x0
 go_enter Tryz.func208,Tryz.ntmps208
 go_upto_region 1 with(fail)
 generalize ((w.alloc (.cells #[.int .i64 kind,.int .i64 dst,.int .i64 asset,.int .i64 amount,.int .i64 id,.int .i64 due,.string (strOfNums hash),.string (strOfNums sec)] 88)).alloc (.cells #[.int .i64 0,.int .i64 0,.int .i64 0,.int .i64 0,.int .i64 0,.int .i64 0,.int .i64 0,.string ⟨#[]⟩,.string ⟨#[]⟩] 150))=w1 at *
 go_cut [7] (fun p wx=>∃ M:Nat,p=.pointer (some ⟨M,0,none⟩)∧R < M∧Kept (Blk wx M 150 #[.int .i64 kind,.int .i64 0,.int .i64 dst,.int .i64 asset,.int .i64 amount,.int .i64 id,.int .i64 due,.string (strOfNums hash),.string (strOfNums sec)])∧Kept (Blk wx N 88 #[.int .i64 kind,.int .i64 dst,.int .i64 asset,.int .i64 amount,.int .i64 id,.int .i64 due,.string (strOfNums hash),.string (strOfNums sec)])∧Kept (Blk wx R 150 #[.int .i64 0,.int .i64 0,.int .i64 0,.int .i64 0,.int .i64 0,.int .i64 0,.int .i64 0,.string ⟨#[]⟩,.string ⟨#[]⟩])∧Kept (Below w.heap.size w wx))
 case first =>
  have h0:=X.out.drew.cell 0;have h1:=X.out.drew.cell 1;have h2:=X.out.drew.cell 2;have h3:=X.out.drew.cell 3;have h4:=X.out.drew.cell 4;have h5:=X.out.drew.cell 5;have h6:=X.out.drew.cell 6;have h7:=X.out.drew.cell 7
  refine wp_region_noPanic ?_
  refine wp_region_held_drew (S:=fun u:World=>u.cell? ⟨N,0,none⟩=some (.int .i64 kind)∧u.cell? ⟨N,1,none⟩=some (.int .i64 dst)∧u.cell? ⟨N,2,none⟩=some (.int .i64 asset)∧u.cell? ⟨N,3,none⟩=some (.int .i64 amount)∧u.cell? ⟨N,4,none⟩=some (.int .i64 id)∧u.cell? ⟨N,5,none⟩=some (.int .i64 due)∧u.cell? ⟨N,6,none⟩=some (.string (strOfNums hash))∧u.cell? ⟨N,7,none⟩=some (.string (strOfNums sec))) (by kernel_rfl) ⟨h0,h1,h2,h3,h4,h5,h6,h7⟩ (fun _=>?_)
  clear h0 h1 h2 h3 h4 h5 h6 h7
  replace X:=Kept.mk X.out.drew;replace Y:=Kept.mk Y.out.drew;replace B:=Kept.mk B.out.drew
  generalize w1.drew=w2 at *
  refine tk 0 (by assumption) ?_
  simp only[Act.put,zA,zB,zC]
  refine tk 1 (by assumption) ?_
  simp only[Act.put,zA,zB,zC]
  refine tk 2 (by assumption) ?_
  simp only[Act.put,zA,zB,zC]
  refine tk 3 (by assumption) ?_
  simp only[Act.put,zA,zB,zC]
  refine tk 4 (by assumption) ?_
  simp only[Act.put,zA,zB,zC]
  refine tk 5 (by assumption) ?_
  simp only[Act.put,zA,zB,zC]
  refine tk 6 (by assumption) ?_
  simp only[Act.put,zA,zB,zC]
  refine tk 7 (by assumption) ?_
  simp only[Act.put,zA,zB,zC]
  refine tk 8 (by assumption) ?_
  simp only[Act.put,zA,zB,zC]
  refine tk 9 (by assumption) ?_
  simp only[Act.put,zA,zB,zC]
  refine tk 10 (by assumption) ?_
  simp only[Act.put,zA,zB,zC]
  refine tk 11 (by assumption) ?_
  simp only[Act.put,zA,zB,zC]
  refine tk 12 (by assumption) ?_
  simp only[Act.put,zA,zB,zC]
  refine tk 13 (by assumption) ?_
  simp only[Act.put,zA,zB,zC]
  refine tk 15 (by assumption) ?_
  simp only[Act.put,zA,zB,zC]
  refine tk 16 (by assumption) ?_
  simp only[Act.put,zA,zB,zC]
  refine ld2 14 19 (fun K hK=>?_) (fun K hK=>?_)
  ·go_simp
   go_at_call 240
   refine(clonet_any hash HL.out.1 w2).mono ?_
   rintro e w3 ⟨rfl,bb⟩
   replace X:=Kept.mk (X.out.below bb X.out.lt);replace Y:=Kept.mk (Y.out.below bb Y.out.lt);replace B:=Kept.mk (B.out.trans (bb.mono B.out.size))
   refine hK.out _ _ ⟨X.out.cell 0,X.out.cell 1,X.out.cell 2,X.out.cell 3,X.out.cell 4,X.out.cell 5,X.out.cell 6,X.out.cell 7⟩ (fun _=>?_)
   clear hK K bb
   try simp only[Act.put,zA,zB,zC]
   refine ld2 17 19 (fun K hK=>?_) (fun K hK=>?_)
   ·go_simp
    go_at_call 240
    refine(clonet_any sec HL.out.2 w3).mono ?_
    rintro e w4 ⟨rfl,bb⟩
    replace X:=Kept.mk (X.out.below bb X.out.lt);replace Y:=Kept.mk (Y.out.below bb Y.out.lt);replace B:=Kept.mk (B.out.trans (bb.mono B.out.size))
    refine hK.out _ _ ⟨X.out.cell 0,X.out.cell 1,X.out.cell 2,X.out.cell 3,X.out.cell 4,X.out.cell 5,X.out.cell 6,X.out.cell 7⟩ (fun _=>?_)
    clear hK K bb
    try simp only[Act.put,zA,zB,zC]
    refine tk 18 (by assumption) ?_
    simp only[Act.put,zA,zB,zC]
    refine ld 19 (fun K hK=>?_)
    go_simp
    have bb:Below w4.heap.size w4 (w4.alloc (.cells #[.int .i64 0,.int .i64 0,.int .i64 0,.int .i64 0,.int .i64 0,.int .i64 0,.int .i64 0,.string ⟨#[]⟩,.string ⟨#[]⟩] 150)):=(Below.refl _ _).alloc (Nat.le_refl _) _
    have Z:=Kept.mk (Blk.new w4 150 #[.int .i64 0,.int .i64 0,.int .i64 0,.int .i64 0,.int .i64 0,.int .i64 0,.int .i64 0,.string ⟨#[]⟩,.string ⟨#[]⟩])
    have RM:Kept (R < w4.heap.size):=⟨Y.out.lt⟩
    replace X:=Kept.mk (X.out.below bb X.out.lt);replace Y:=Kept.mk (Y.out.below bb Y.out.lt);replace B:=Kept.mk (B.out.trans (bb.mono B.out.size))
    refine hK.out _ _ ⟨X.out.cell 0,X.out.cell 1,X.out.cell 2,X.out.cell 3,X.out.cell 4,X.out.cell 5,X.out.cell 6,X.out.cell 7⟩ (fun _=>?_)
    clear hK K bb
    try simp only[Act.put,zA,zB,zC]
    generalize (w4.alloc (.cells #[.int .i64 0,.int .i64 0,.int .i64 0,.int .i64 0,.int .i64 0,.int .i64 0,.int .i64 0,.string ⟨#[]⟩,.string ⟨#[]⟩] 150))=w5 at *
    generalize w4.heap.size=M at *
    have y0:w5.cell? ⟨M,0,none⟩=some (.int .i64 0):=Z.out.cell 0;have z0:=Z.out.frozen 0;have y1:w5.cell? ⟨M,1,none⟩=some (.int .i64 0):=Z.out.cell 1;have z1:=Z.out.frozen 1;have y2:w5.cell? ⟨M,2,none⟩=some (.int .i64 0):=Z.out.cell 2;have z2:=Z.out.frozen 2;have y3:w5.cell? ⟨M,3,none⟩=some (.int .i64 0):=Z.out.cell 3;have z3:=Z.out.frozen 3;have y4:w5.cell? ⟨M,4,none⟩=some (.int .i64 0):=Z.out.cell 4;have z4:=Z.out.frozen 4;have y5:w5.cell? ⟨M,5,none⟩=some (.int .i64 0):=Z.out.cell 5;have z5:=Z.out.frozen 5;have y6:w5.cell? ⟨M,6,none⟩=some (.int .i64 0):=Z.out.cell 6;have z6:=Z.out.frozen 6;have y7:w5.cell? ⟨M,7,none⟩=some (.string ⟨#[]⟩):=Z.out.cell 7;have z7:=Z.out.frozen 7;have y8:w5.cell? ⟨M,8,none⟩=some (.string ⟨#[]⟩):=Z.out.cell 8;have z8:=Z.out.frozen 8
    refine ld 20 (fun K hK=>?_)
    go_simp
    have XP:Kept (Blk (((((((((w5.setCell ⟨M,0,none⟩ (.int .i64 kind)).setCell ⟨M,1,none⟩ (.int .i64 0)).setCell ⟨M,2,none⟩ (.int .i64 dst)).setCell ⟨M,3,none⟩ (.int .i64 asset)).setCell ⟨M,4,none⟩ (.int .i64 amount)).setCell ⟨M,5,none⟩ (.int .i64 id)).setCell ⟨M,6,none⟩ (.int .i64 due)).setCell ⟨M,7,none⟩ (.string (strOfNums hash))).setCell ⟨M,8,none⟩ (.string (strOfNums sec))) M 150 #[.int .i64 kind,.int .i64 0,.int .i64 dst,.int .i64 asset,.int .i64 amount,.int .i64 id,.int .i64 due,.string (strOfNums hash),.string (strOfNums sec)]):=⟨(put9 Z.out (.int .i64 kind) (.int .i64 0) (.int .i64 dst) (.int .i64 asset) (.int .i64 amount) (.int .i64 id) (.int .i64 due) (.string (strOfNums hash)) (.string (strOfNums sec))).1⟩
    have PB:Kept (Bar [M] w5 (((((((((w5.setCell ⟨M,0,none⟩ (.int .i64 kind)).setCell ⟨M,1,none⟩ (.int .i64 0)).setCell ⟨M,2,none⟩ (.int .i64 dst)).setCell ⟨M,3,none⟩ (.int .i64 asset)).setCell ⟨M,4,none⟩ (.int .i64 amount)).setCell ⟨M,5,none⟩ (.int .i64 id)).setCell ⟨M,6,none⟩ (.int .i64 due)).setCell ⟨M,7,none⟩ (.string (strOfNums hash))).setCell ⟨M,8,none⟩ (.string (strOfNums sec)))):=⟨(put9 Z.out (.int .i64 kind) (.int .i64 0) (.int .i64 dst) (.int .i64 asset) (.int .i64 amount) (.int .i64 id) (.int .i64 due) (.string (strOfNums hash)) (.string (strOfNums sec))).2⟩
    have NM:Kept (N≠M∧R≠M∧w.heap.size≤M):=⟨by have:=NR.out;have:=RM.out;omega,by have:=RM.out;omega,by have:=NR.out;have:=RM.out;omega⟩
    replace X:=Kept.mk (X.out.bar PB.out (by simpa using NM.out.1));replace Y:=Kept.mk (Y.out.bar PB.out (by simpa using NM.out.2.1))
    replace B:=Kept.mk (B.out.trans (PB.out.below B.out.size (by simpa using NM.out.2.2)))
    clear y0 z0 y1 z1 y2 z2 y3 z3 y4 z4 y5 z5 y6 z6 y7 z7 y8 z8
    generalize (((((((((w5.setCell ⟨M,0,none⟩ (.int .i64 kind)).setCell ⟨M,1,none⟩ (.int .i64 0)).setCell ⟨M,2,none⟩ (.int .i64 dst)).setCell ⟨M,3,none⟩ (.int .i64 asset)).setCell ⟨M,4,none⟩ (.int .i64 amount)).setCell ⟨M,5,none⟩ (.int .i64 id)).setCell ⟨M,6,none⟩ (.int .i64 due)).setCell ⟨M,7,none⟩ (.string (strOfNums hash))).setCell ⟨M,8,none⟩ (.string (strOfNums sec)))=wS at *
    refine hK.out _ _ ⟨X.out.cell 0,X.out.cell 1,X.out.cell 2,X.out.cell 3,X.out.cell 4,X.out.cell 5,X.out.cell 6,X.out.cell 7⟩ (fun _=>?_)
    clear hK K
    try simp only[Act.put,zA,zB,zC]
    refine wpAnyH_done (by kernel_rfl) ?_ _
    refine NoPanic.normal ?_
    go_wp2
    go_meet
    case rel=>exact⟨M,rfl,RM.out,XP,X,Y,B⟩
   ·go_simp
    have bb:Below w3.heap.size w3 (w3.alloc (.cells #[.int .i64 0,.int .i64 0,.int .i64 0,.int .i64 0,.int .i64 0,.int .i64 0,.int .i64 0,.string ⟨#[]⟩,.string ⟨#[]⟩] 150)):=(Below.refl _ _).alloc (Nat.le_refl _) _
    have Z:=Kept.mk (Blk.new w3 150 #[.int .i64 0,.int .i64 0,.int .i64 0,.int .i64 0,.int .i64 0,.int .i64 0,.int .i64 0,.string ⟨#[]⟩,.string ⟨#[]⟩])
    have RM:Kept (R < w3.heap.size):=⟨Y.out.lt⟩
    replace X:=Kept.mk (X.out.below bb X.out.lt);replace Y:=Kept.mk (Y.out.below bb Y.out.lt);replace B:=Kept.mk (B.out.trans (bb.mono B.out.size))
    refine hK.out _ _ ⟨X.out.cell 0,X.out.cell 1,X.out.cell 2,X.out.cell 3,X.out.cell 4,X.out.cell 5,X.out.cell 6,X.out.cell 7⟩ (fun _=>?_)
    clear hK K bb
    try simp only[Act.put,zA,zB,zC]
    generalize (w3.alloc (.cells #[.int .i64 0,.int .i64 0,.int .i64 0,.int .i64 0,.int .i64 0,.int .i64 0,.int .i64 0,.string ⟨#[]⟩,.string ⟨#[]⟩] 150))=w4 at *
    generalize w3.heap.size=M at *
    refine ld 17 (fun K hK=>?_)
    go_simp
    go_at_call 240
    refine(clonet_any sec HL.out.2 w4).mono ?_
    rintro e w5 ⟨rfl,bb⟩
    replace X:=Kept.mk (X.out.below bb X.out.lt);replace Y:=Kept.mk (Y.out.below bb Y.out.lt);replace B:=Kept.mk (B.out.trans (bb.mono B.out.size))
    replace Z:=Kept.mk (Z.out.below bb Z.out.lt)
    refine hK.out _ _ ⟨X.out.cell 0,X.out.cell 1,X.out.cell 2,X.out.cell 3,X.out.cell 4,X.out.cell 5,X.out.cell 6,X.out.cell 7⟩ (fun _=>?_)
    clear hK K bb
    try simp only[Act.put,zA,zB,zC]
    refine tk 18 (by assumption) ?_
    simp only[Act.put,zA,zB,zC]
    have y0:w5.cell? ⟨M,0,none⟩=some (.int .i64 0):=Z.out.cell 0;have z0:=Z.out.frozen 0;have y1:w5.cell? ⟨M,1,none⟩=some (.int .i64 0):=Z.out.cell 1;have z1:=Z.out.frozen 1;have y2:w5.cell? ⟨M,2,none⟩=some (.int .i64 0):=Z.out.cell 2;have z2:=Z.out.frozen 2;have y3:w5.cell? ⟨M,3,none⟩=some (.int .i64 0):=Z.out.cell 3;have z3:=Z.out.frozen 3;have y4:w5.cell? ⟨M,4,none⟩=some (.int .i64 0):=Z.out.cell 4;have z4:=Z.out.frozen 4;have y5:w5.cell? ⟨M,5,none⟩=some (.int .i64 0):=Z.out.cell 5;have z5:=Z.out.frozen 5;have y6:w5.cell? ⟨M,6,none⟩=some (.int .i64 0):=Z.out.cell 6;have z6:=Z.out.frozen 6;have y7:w5.cell? ⟨M,7,none⟩=some (.string ⟨#[]⟩):=Z.out.cell 7;have z7:=Z.out.frozen 7;have y8:w5.cell? ⟨M,8,none⟩=some (.string ⟨#[]⟩):=Z.out.cell 8;have z8:=Z.out.frozen 8
    refine ld 20 (fun K hK=>?_)
    go_simp
    have XP:Kept (Blk (((((((((w5.setCell ⟨M,0,none⟩ (.int .i64 kind)).setCell ⟨M,1,none⟩ (.int .i64 0)).setCell ⟨M,2,none⟩ (.int .i64 dst)).setCell ⟨M,3,none⟩ (.int .i64 asset)).setCell ⟨M,4,none⟩ (.int .i64 amount)).setCell ⟨M,5,none⟩ (.int .i64 id)).setCell ⟨M,6,none⟩ (.int .i64 due)).setCell ⟨M,7,none⟩ (.string (strOfNums hash))).setCell ⟨M,8,none⟩ (.string (strOfNums sec))) M 150 #[.int .i64 kind,.int .i64 0,.int .i64 dst,.int .i64 asset,.int .i64 amount,.int .i64 id,.int .i64 due,.string (strOfNums hash),.string (strOfNums sec)]):=⟨(put9 Z.out (.int .i64 kind) (.int .i64 0) (.int .i64 dst) (.int .i64 asset) (.int .i64 amount) (.int .i64 id) (.int .i64 due) (.string (strOfNums hash)) (.string (strOfNums sec))).1⟩
    have PB:Kept (Bar [M] w5 (((((((((w5.setCell ⟨M,0,none⟩ (.int .i64 kind)).setCell ⟨M,1,none⟩ (.int .i64 0)).setCell ⟨M,2,none⟩ (.int .i64 dst)).setCell ⟨M,3,none⟩ (.int .i64 asset)).setCell ⟨M,4,none⟩ (.int .i64 amount)).setCell ⟨M,5,none⟩ (.int .i64 id)).setCell ⟨M,6,none⟩ (.int .i64 due)).setCell ⟨M,7,none⟩ (.string (strOfNums hash))).setCell ⟨M,8,none⟩ (.string (strOfNums sec)))):=⟨(put9 Z.out (.int .i64 kind) (.int .i64 0) (.int .i64 dst) (.int .i64 asset) (.int .i64 amount) (.int .i64 id) (.int .i64 due) (.string (strOfNums hash)) (.string (strOfNums sec))).2⟩
    have NM:Kept (N≠M∧R≠M∧w.heap.size≤M):=⟨by have:=NR.out;have:=RM.out;omega,by have:=RM.out;omega,by have:=NR.out;have:=RM.out;omega⟩
    replace X:=Kept.mk (X.out.bar PB.out (by simpa using NM.out.1));replace Y:=Kept.mk (Y.out.bar PB.out (by simpa using NM.out.2.1))
    replace B:=Kept.mk (B.out.trans (PB.out.below B.out.size (by simpa using NM.out.2.2)))
    clear y0 z0 y1 z1 y2 z2 y3 z3 y4 z4 y5 z5 y6 z6 y7 z7 y8 z8
    generalize (((((((((w5.setCell ⟨M,0,none⟩ (.int .i64 kind)).setCell ⟨M,1,none⟩ (.int .i64 0)).setCell ⟨M,2,none⟩ (.int .i64 dst)).setCell ⟨M,3,none⟩ (.int .i64 asset)).setCell ⟨M,4,none⟩ (.int .i64 amount)).setCell ⟨M,5,none⟩ (.int .i64 id)).setCell ⟨M,6,none⟩ (.int .i64 due)).setCell ⟨M,7,none⟩ (.string (strOfNums hash))).setCell ⟨M,8,none⟩ (.string (strOfNums sec)))=wS at *
    refine hK.out _ _ ⟨X.out.cell 0,X.out.cell 1,X.out.cell 2,X.out.cell 3,X.out.cell 4,X.out.cell 5,X.out.cell 6,X.out.cell 7⟩ (fun _=>?_)
    clear hK K
    try simp only[Act.put,zA,zB,zC]
    refine wpAnyH_done (by kernel_rfl) ?_ _
    refine NoPanic.normal ?_
    go_wp2
    go_meet
    case rel=>exact⟨M,rfl,RM.out,XP,X,Y,B⟩
  ·go_simp
   have bb:Below w2.heap.size w2 (w2.alloc (.cells #[.int .i64 0,.int .i64 0,.int .i64 0,.int .i64 0,.int .i64 0,.int .i64 0,.int .i64 0,.string ⟨#[]⟩,.string ⟨#[]⟩] 150)):=(Below.refl _ _).alloc (Nat.le_refl _) _
   have Z:=Kept.mk (Blk.new w2 150 #[.int .i64 0,.int .i64 0,.int .i64 0,.int .i64 0,.int .i64 0,.int .i64 0,.int .i64 0,.string ⟨#[]⟩,.string ⟨#[]⟩])
   have RM:Kept (R < w2.heap.size):=⟨Y.out.lt⟩
   replace X:=Kept.mk (X.out.below bb X.out.lt);replace Y:=Kept.mk (Y.out.below bb Y.out.lt);replace B:=Kept.mk (B.out.trans (bb.mono B.out.size))
   refine hK.out _ _ ⟨X.out.cell 0,X.out.cell 1,X.out.cell 2,X.out.cell 3,X.out.cell 4,X.out.cell 5,X.out.cell 6,X.out.cell 7⟩ (fun _=>?_)
   clear hK K bb
   try simp only[Act.put,zA,zB,zC]
   generalize (w2.alloc (.cells #[.int .i64 0,.int .i64 0,.int .i64 0,.int .i64 0,.int .i64 0,.int .i64 0,.int .i64 0,.string ⟨#[]⟩,.string ⟨#[]⟩] 150))=w3 at *
   generalize w2.heap.size=M at *
   refine ld 14 (fun K hK=>?_)
   go_simp
   go_at_call 240
   refine(clonet_any hash HL.out.1 w3).mono ?_
   rintro e w4 ⟨rfl,bb⟩
   replace X:=Kept.mk (X.out.below bb X.out.lt);replace Y:=Kept.mk (Y.out.below bb Y.out.lt);replace B:=Kept.mk (B.out.trans (bb.mono B.out.size))
   replace Z:=Kept.mk (Z.out.below bb Z.out.lt)
   refine hK.out _ _ ⟨X.out.cell 0,X.out.cell 1,X.out.cell 2,X.out.cell 3,X.out.cell 4,X.out.cell 5,X.out.cell 6,X.out.cell 7⟩ (fun _=>?_)
   clear hK K bb
   try simp only[Act.put,zA,zB,zC]
   refine ld 17 (fun K hK=>?_)
   go_simp
   go_at_call 240
   refine(clonet_any sec HL.out.2 w4).mono ?_
   rintro e w5 ⟨rfl,bb⟩
   replace X:=Kept.mk (X.out.below bb X.out.lt);replace Y:=Kept.mk (Y.out.below bb Y.out.lt);replace B:=Kept.mk (B.out.trans (bb.mono B.out.size))
   replace Z:=Kept.mk (Z.out.below bb Z.out.lt)
   refine hK.out _ _ ⟨X.out.cell 0,X.out.cell 1,X.out.cell 2,X.out.cell 3,X.out.cell 4,X.out.cell 5,X.out.cell 6,X.out.cell 7⟩ (fun _=>?_)
   clear hK K bb
   try simp only[Act.put,zA,zB,zC]
   refine tk 18 (by assumption) ?_
   simp only[Act.put,zA,zB,zC]
   have y0:w5.cell? ⟨M,0,none⟩=some (.int .i64 0):=Z.out.cell 0;have z0:=Z.out.frozen 0;have y1:w5.cell? ⟨M,1,none⟩=some (.int .i64 0):=Z.out.cell 1;have z1:=Z.out.frozen 1;have y2:w5.cell? ⟨M,2,none⟩=some (.int .i64 0):=Z.out.cell 2;have z2:=Z.out.frozen 2;have y3:w5.cell? ⟨M,3,none⟩=some (.int .i64 0):=Z.out.cell 3;have z3:=Z.out.frozen 3;have y4:w5.cell? ⟨M,4,none⟩=some (.int .i64 0):=Z.out.cell 4;have z4:=Z.out.frozen 4;have y5:w5.cell? ⟨M,5,none⟩=some (.int .i64 0):=Z.out.cell 5;have z5:=Z.out.frozen 5;have y6:w5.cell? ⟨M,6,none⟩=some (.int .i64 0):=Z.out.cell 6;have z6:=Z.out.frozen 6;have y7:w5.cell? ⟨M,7,none⟩=some (.string ⟨#[]⟩):=Z.out.cell 7;have z7:=Z.out.frozen 7;have y8:w5.cell? ⟨M,8,none⟩=some (.string ⟨#[]⟩):=Z.out.cell 8;have z8:=Z.out.frozen 8
   refine ld 20 (fun K hK=>?_)
   go_simp
   have XP:Kept (Blk (((((((((w5.setCell ⟨M,0,none⟩ (.int .i64 kind)).setCell ⟨M,1,none⟩ (.int .i64 0)).setCell ⟨M,2,none⟩ (.int .i64 dst)).setCell ⟨M,3,none⟩ (.int .i64 asset)).setCell ⟨M,4,none⟩ (.int .i64 amount)).setCell ⟨M,5,none⟩ (.int .i64 id)).setCell ⟨M,6,none⟩ (.int .i64 due)).setCell ⟨M,7,none⟩ (.string (strOfNums hash))).setCell ⟨M,8,none⟩ (.string (strOfNums sec))) M 150 #[.int .i64 kind,.int .i64 0,.int .i64 dst,.int .i64 asset,.int .i64 amount,.int .i64 id,.int .i64 due,.string (strOfNums hash),.string (strOfNums sec)]):=⟨(put9 Z.out (.int .i64 kind) (.int .i64 0) (.int .i64 dst) (.int .i64 asset) (.int .i64 amount) (.int .i64 id) (.int .i64 due) (.string (strOfNums hash)) (.string (strOfNums sec))).1⟩
   have PB:Kept (Bar [M] w5 (((((((((w5.setCell ⟨M,0,none⟩ (.int .i64 kind)).setCell ⟨M,1,none⟩ (.int .i64 0)).setCell ⟨M,2,none⟩ (.int .i64 dst)).setCell ⟨M,3,none⟩ (.int .i64 asset)).setCell ⟨M,4,none⟩ (.int .i64 amount)).setCell ⟨M,5,none⟩ (.int .i64 id)).setCell ⟨M,6,none⟩ (.int .i64 due)).setCell ⟨M,7,none⟩ (.string (strOfNums hash))).setCell ⟨M,8,none⟩ (.string (strOfNums sec)))):=⟨(put9 Z.out (.int .i64 kind) (.int .i64 0) (.int .i64 dst) (.int .i64 asset) (.int .i64 amount) (.int .i64 id) (.int .i64 due) (.string (strOfNums hash)) (.string (strOfNums sec))).2⟩
   have NM:Kept (N≠M∧R≠M∧w.heap.size≤M):=⟨by have:=NR.out;have:=RM.out;omega,by have:=RM.out;omega,by have:=NR.out;have:=RM.out;omega⟩
   replace X:=Kept.mk (X.out.bar PB.out (by simpa using NM.out.1));replace Y:=Kept.mk (Y.out.bar PB.out (by simpa using NM.out.2.1))
   replace B:=Kept.mk (B.out.trans (PB.out.below B.out.size (by simpa using NM.out.2.2)))
   clear y0 z0 y1 z1 y2 z2 y3 z3 y4 z4 y5 z5 y6 z6 y7 z7 y8 z8
   generalize (((((((((w5.setCell ⟨M,0,none⟩ (.int .i64 kind)).setCell ⟨M,1,none⟩ (.int .i64 0)).setCell ⟨M,2,none⟩ (.int .i64 dst)).setCell ⟨M,3,none⟩ (.int .i64 asset)).setCell ⟨M,4,none⟩ (.int .i64 amount)).setCell ⟨M,5,none⟩ (.int .i64 id)).setCell ⟨M,6,none⟩ (.int .i64 due)).setCell ⟨M,7,none⟩ (.string (strOfNums hash))).setCell ⟨M,8,none⟩ (.string (strOfNums sec)))=wS at *
   refine hK.out _ _ ⟨X.out.cell 0,X.out.cell 1,X.out.cell 2,X.out.cell 3,X.out.cell 4,X.out.cell 5,X.out.cell 6,X.out.cell 7⟩ (fun _=>?_)
   clear hK K
   try simp only[Act.put,zA,zB,zC]
   refine wpAnyH_done (by kernel_rfl) ?_ _
   refine NoPanic.normal ?_
   go_wp2
   go_meet
   case rel=>exact⟨M,rfl,RM.out,XP,X,Y,B⟩
 case rest =>
  clear X Y B
  obtain⟨M,rfl,HM,XM,X,Y,B⟩:=hcut
  generalize wc=w2 at *
  have hRM:R≠M:=by omega
  have hMR:M≠R:=by omega
  have WM:Kept (w.heap.size≤M∧w.heap.size≤R):=⟨by have:=NR.out;omega,by have:=NR.out;omega⟩
  rcases HK.out with rfl|rfl|rfl|rfl
  ·have h0:=X.out.cell 0
   have y1:w2.cell? ⟨M,1,none⟩=some (.int .i64 0):=XM.out.cell 1;have z1:=XM.out.frozen 1
   go_upto_region 7 with(fail)
   clear h0 y1 z1
   have PB:Kept (Bar [M] w2 (w2.setCell ⟨M,1,none⟩ (.int .i64 party))):=⟨(Bar.setCell (Bar.refl [M] w2) (p:=⟨M,1,none⟩) (.inl (by simp)) (.int .i64 party))⟩
   replace XM:Kept (Blk (w2.setCell ⟨M,1,none⟩ (.int .i64 party)) M 150 #[.int .i64 1,.int .i64 party,.int .i64 dst,.int .i64 asset,.int .i64 amount,.int .i64 id,.int .i64 due,.string (strOfNums hash),.string (strOfNums sec)]):=⟨(Blk.set_ XM.out 1 (.int .i64 party))⟩
   replace Y:=Kept.mk (Y.out.bar PB.out (by simpa using hRM));replace B:=Kept.mk (B.out.trans (PB.out.below B.out.size (by simpa using WM.out.1)))
   clear PB
   generalize (w2.setCell ⟨M,1,none⟩ (.int .i64 party))=w3 at *
   have m0:w3.cell? ⟨M,0,none⟩=some (.int .i64 1):=XM.out.cell 0;have m1:w3.cell? ⟨M,1,none⟩=some (.int .i64 party):=XM.out.cell 1;have m2:w3.cell? ⟨M,2,none⟩=some (.int .i64 dst):=XM.out.cell 2;have m3:w3.cell? ⟨M,3,none⟩=some (.int .i64 asset):=XM.out.cell 3;have m4:w3.cell? ⟨M,4,none⟩=some (.int .i64 amount):=XM.out.cell 4;have m5:w3.cell? ⟨M,5,none⟩=some (.int .i64 id):=XM.out.cell 5;have m6:w3.cell? ⟨M,6,none⟩=some (.int .i64 due):=XM.out.cell 6;have m7:w3.cell? ⟨M,7,none⟩=some (.string (strOfNums hash)):=XM.out.cell 7;have m8:w3.cell? ⟨M,8,none⟩=some (.string (strOfNums sec)):=XM.out.cell 8
   have y0:w3.cell? ⟨R,0,none⟩=some (.int .i64 0):=Y.out.cell 0;have z0:=Y.out.frozen 0;have y1:w3.cell? ⟨R,1,none⟩=some (.int .i64 0):=Y.out.cell 1;have z1:=Y.out.frozen 1;have y2:w3.cell? ⟨R,2,none⟩=some (.int .i64 0):=Y.out.cell 2;have z2:=Y.out.frozen 2;have y3:w3.cell? ⟨R,3,none⟩=some (.int .i64 0):=Y.out.cell 3;have z3:=Y.out.frozen 3;have y4:w3.cell? ⟨R,4,none⟩=some (.int .i64 0):=Y.out.cell 4;have z4:=Y.out.frozen 4;have y5:w3.cell? ⟨R,5,none⟩=some (.int .i64 0):=Y.out.cell 5;have z5:=Y.out.frozen 5;have y6:w3.cell? ⟨R,6,none⟩=some (.int .i64 0):=Y.out.cell 6;have z6:=Y.out.frozen 6;have y7:w3.cell? ⟨R,7,none⟩=some (.string ⟨#[]⟩):=Y.out.cell 7;have z7:=Y.out.frozen 7;have y8:w3.cell? ⟨R,8,none⟩=some (.string ⟨#[]⟩):=Y.out.cell 8;have z8:=Y.out.frozen 8
   have PP:=Kept.mk (put9 Y.out (.int .i64 1) (.int .i64 party) (.int .i64 dst) (.int .i64 asset) (.int .i64 amount) (.int .i64 id) (.int .i64 due) (.string (strOfNums hash)) (.string (strOfNums sec)))
   clear X XM Y
   go_wp2
   (try simp only[Exit.inBlock,Exit.then])
   refine bodyPost_ret (results_cell_row rfl _ _ R 150 #[.int .i64 1,.int .i64 party,.int .i64 dst,.int .i64 asset,.int .i64 amount,.int .i64 id,.int .i64 due,.string (strOfNums hash),.string (strOfNums sec)] (0,0) _ rfl PP.out.1 Tryz.underlying150 rfl event_size) rfl ?_
   exact⟨rfl,B.out.trans (PP.out.2.below B.out.size (by simpa using WM.out.2))⟩
  ·have h0:=X.out.cell 0
   have y1:w2.cell? ⟨M,1,none⟩=some (.int .i64 0):=XM.out.cell 1;have z1:=XM.out.frozen 1
   have y5:w2.cell? ⟨M,5,none⟩=some (.int .i64 id):=XM.out.cell 5;have z5:=XM.out.frozen 5
   go_upto_region 7 with(fail)
   clear h0 y1 z1 y5 z5
   have PB:Kept (Bar [M] w2 ((w2.setCell ⟨M,1,none⟩ (.int .i64 party)).setCell ⟨M,5,none⟩ (.int .i64 id_))):=⟨(Bar.setCell (Bar.setCell (Bar.refl [M] w2) (p:=⟨M,1,none⟩) (.inl (by simp)) (.int .i64 party)) (p:=⟨M,5,none⟩) (.inl (by simp)) (.int .i64 id_))⟩
   replace XM:Kept (Blk ((w2.setCell ⟨M,1,none⟩ (.int .i64 party)).setCell ⟨M,5,none⟩ (.int .i64 id_)) M 150 #[.int .i64 2,.int .i64 party,.int .i64 dst,.int .i64 asset,.int .i64 amount,.int .i64 id_,.int .i64 due,.string (strOfNums hash),.string (strOfNums sec)]):=⟨(Blk.set_ (Blk.set_ XM.out 1 (.int .i64 party)) 5 (.int .i64 id_))⟩
   replace Y:=Kept.mk (Y.out.bar PB.out (by simpa using hRM));replace B:=Kept.mk (B.out.trans (PB.out.below B.out.size (by simpa using WM.out.1)))
   clear PB
   generalize ((w2.setCell ⟨M,1,none⟩ (.int .i64 party)).setCell ⟨M,5,none⟩ (.int .i64 id_))=w3 at *
   have m0:w3.cell? ⟨M,0,none⟩=some (.int .i64 2):=XM.out.cell 0;have m1:w3.cell? ⟨M,1,none⟩=some (.int .i64 party):=XM.out.cell 1;have m2:w3.cell? ⟨M,2,none⟩=some (.int .i64 dst):=XM.out.cell 2;have m3:w3.cell? ⟨M,3,none⟩=some (.int .i64 asset):=XM.out.cell 3;have m4:w3.cell? ⟨M,4,none⟩=some (.int .i64 amount):=XM.out.cell 4;have m5:w3.cell? ⟨M,5,none⟩=some (.int .i64 id_):=XM.out.cell 5;have m6:w3.cell? ⟨M,6,none⟩=some (.int .i64 due):=XM.out.cell 6;have m7:w3.cell? ⟨M,7,none⟩=some (.string (strOfNums hash)):=XM.out.cell 7;have m8:w3.cell? ⟨M,8,none⟩=some (.string (strOfNums sec)):=XM.out.cell 8
   have y0:w3.cell? ⟨R,0,none⟩=some (.int .i64 0):=Y.out.cell 0;have z0:=Y.out.frozen 0;have y1:w3.cell? ⟨R,1,none⟩=some (.int .i64 0):=Y.out.cell 1;have z1:=Y.out.frozen 1;have y2:w3.cell? ⟨R,2,none⟩=some (.int .i64 0):=Y.out.cell 2;have z2:=Y.out.frozen 2;have y3:w3.cell? ⟨R,3,none⟩=some (.int .i64 0):=Y.out.cell 3;have z3:=Y.out.frozen 3;have y4:w3.cell? ⟨R,4,none⟩=some (.int .i64 0):=Y.out.cell 4;have z4:=Y.out.frozen 4;have y5:w3.cell? ⟨R,5,none⟩=some (.int .i64 0):=Y.out.cell 5;have z5:=Y.out.frozen 5;have y6:w3.cell? ⟨R,6,none⟩=some (.int .i64 0):=Y.out.cell 6;have z6:=Y.out.frozen 6;have y7:w3.cell? ⟨R,7,none⟩=some (.string ⟨#[]⟩):=Y.out.cell 7;have z7:=Y.out.frozen 7;have y8:w3.cell? ⟨R,8,none⟩=some (.string ⟨#[]⟩):=Y.out.cell 8;have z8:=Y.out.frozen 8
   have PP:=Kept.mk (put9 Y.out (.int .i64 2) (.int .i64 party) (.int .i64 dst) (.int .i64 asset) (.int .i64 amount) (.int .i64 id_) (.int .i64 due) (.string (strOfNums hash)) (.string (strOfNums sec)))
   clear X XM Y
   go_wp2
   (try simp only[Exit.inBlock,Exit.then])
   refine bodyPost_ret (results_cell_row rfl _ _ R 150 #[.int .i64 2,.int .i64 party,.int .i64 dst,.int .i64 asset,.int .i64 amount,.int .i64 id_,.int .i64 due,.string (strOfNums hash),.string (strOfNums sec)] (0,0) _ rfl PP.out.1 Tryz.underlying150 rfl event_size) rfl ?_
   exact⟨rfl,B.out.trans (PP.out.2.below B.out.size (by simpa using WM.out.2))⟩
  ·have h0:=X.out.cell 0
   go_upto_region 7 with(fail)
   clear h0
   have m0:w2.cell? ⟨M,0,none⟩=some (.int .i64 3):=XM.out.cell 0;have m1:w2.cell? ⟨M,1,none⟩=some (.int .i64 0):=XM.out.cell 1;have m2:w2.cell? ⟨M,2,none⟩=some (.int .i64 dst):=XM.out.cell 2;have m3:w2.cell? ⟨M,3,none⟩=some (.int .i64 asset):=XM.out.cell 3;have m4:w2.cell? ⟨M,4,none⟩=some (.int .i64 amount):=XM.out.cell 4;have m5:w2.cell? ⟨M,5,none⟩=some (.int .i64 id):=XM.out.cell 5;have m6:w2.cell? ⟨M,6,none⟩=some (.int .i64 due):=XM.out.cell 6;have m7:w2.cell? ⟨M,7,none⟩=some (.string (strOfNums hash)):=XM.out.cell 7;have m8:w2.cell? ⟨M,8,none⟩=some (.string (strOfNums sec)):=XM.out.cell 8
   have y0:w2.cell? ⟨R,0,none⟩=some (.int .i64 0):=Y.out.cell 0;have z0:=Y.out.frozen 0;have y1:w2.cell? ⟨R,1,none⟩=some (.int .i64 0):=Y.out.cell 1;have z1:=Y.out.frozen 1;have y2:w2.cell? ⟨R,2,none⟩=some (.int .i64 0):=Y.out.cell 2;have z2:=Y.out.frozen 2;have y3:w2.cell? ⟨R,3,none⟩=some (.int .i64 0):=Y.out.cell 3;have z3:=Y.out.frozen 3;have y4:w2.cell? ⟨R,4,none⟩=some (.int .i64 0):=Y.out.cell 4;have z4:=Y.out.frozen 4;have y5:w2.cell? ⟨R,5,none⟩=some (.int .i64 0):=Y.out.cell 5;have z5:=Y.out.frozen 5;have y6:w2.cell? ⟨R,6,none⟩=some (.int .i64 0):=Y.out.cell 6;have z6:=Y.out.frozen 6;have y7:w2.cell? ⟨R,7,none⟩=some (.string ⟨#[]⟩):=Y.out.cell 7;have z7:=Y.out.frozen 7;have y8:w2.cell? ⟨R,8,none⟩=some (.string ⟨#[]⟩):=Y.out.cell 8;have z8:=Y.out.frozen 8
   have PP:=Kept.mk (put9 Y.out (.int .i64 3) (.int .i64 0) (.int .i64 dst) (.int .i64 asset) (.int .i64 amount) (.int .i64 id) (.int .i64 due) (.string (strOfNums hash)) (.string (strOfNums sec)))
   clear X XM Y
   go_wp2
   (try simp only[Exit.inBlock,Exit.then])
   refine bodyPost_ret (results_cell_row rfl _ _ R 150 #[.int .i64 3,.int .i64 0,.int .i64 dst,.int .i64 asset,.int .i64 amount,.int .i64 id,.int .i64 due,.string (strOfNums hash),.string (strOfNums sec)] (0,0) _ rfl PP.out.1 Tryz.underlying150 rfl event_size) rfl ?_
   exact⟨rfl,B.out.trans (PP.out.2.below B.out.size (by simpa using WM.out.2))⟩
  ·have h0:=X.out.cell 0
   go_upto_region 7 with(fail)
   clear h0
   have m0:w2.cell? ⟨M,0,none⟩=some (.int .i64 4):=XM.out.cell 0;have m1:w2.cell? ⟨M,1,none⟩=some (.int .i64 0):=XM.out.cell 1;have m2:w2.cell? ⟨M,2,none⟩=some (.int .i64 dst):=XM.out.cell 2;have m3:w2.cell? ⟨M,3,none⟩=some (.int .i64 asset):=XM.out.cell 3;have m4:w2.cell? ⟨M,4,none⟩=some (.int .i64 amount):=XM.out.cell 4;have m5:w2.cell? ⟨M,5,none⟩=some (.int .i64 id):=XM.out.cell 5;have m6:w2.cell? ⟨M,6,none⟩=some (.int .i64 due):=XM.out.cell 6;have m7:w2.cell? ⟨M,7,none⟩=some (.string (strOfNums hash)):=XM.out.cell 7;have m8:w2.cell? ⟨M,8,none⟩=some (.string (strOfNums sec)):=XM.out.cell 8
   have y0:w2.cell? ⟨R,0,none⟩=some (.int .i64 0):=Y.out.cell 0;have z0:=Y.out.frozen 0;have y1:w2.cell? ⟨R,1,none⟩=some (.int .i64 0):=Y.out.cell 1;have z1:=Y.out.frozen 1;have y2:w2.cell? ⟨R,2,none⟩=some (.int .i64 0):=Y.out.cell 2;have z2:=Y.out.frozen 2;have y3:w2.cell? ⟨R,3,none⟩=some (.int .i64 0):=Y.out.cell 3;have z3:=Y.out.frozen 3;have y4:w2.cell? ⟨R,4,none⟩=some (.int .i64 0):=Y.out.cell 4;have z4:=Y.out.frozen 4;have y5:w2.cell? ⟨R,5,none⟩=some (.int .i64 0):=Y.out.cell 5;have z5:=Y.out.frozen 5;have y6:w2.cell? ⟨R,6,none⟩=some (.int .i64 0):=Y.out.cell 6;have z6:=Y.out.frozen 6;have y7:w2.cell? ⟨R,7,none⟩=some (.string ⟨#[]⟩):=Y.out.cell 7;have z7:=Y.out.frozen 7;have y8:w2.cell? ⟨R,8,none⟩=some (.string ⟨#[]⟩):=Y.out.cell 8;have z8:=Y.out.frozen 8
   have PP:=Kept.mk (put9 Y.out (.int .i64 4) (.int .i64 0) (.int .i64 dst) (.int .i64 asset) (.int .i64 amount) (.int .i64 id) (.int .i64 due) (.string (strOfNums hash)) (.string (strOfNums sec)))
   clear X XM Y
   go_wp2
   (try simp only[Exit.inBlock,Exit.then])
   refine bodyPost_ret (results_cell_row rfl _ _ R 150 #[.int .i64 4,.int .i64 0,.int .i64 dst,.int .i64 asset,.int .i64 amount,.int .i64 id,.int .i64 due,.string (strOfNums hash),.string (strOfNums sec)] (0,0) _ rfl PP.out.1 Tryz.underlying150 rfl event_size) rfl ?_
   exact⟨rfl,B.out.trans (PP.out.2.below B.out.size (by simpa using WM.out.2))⟩
end Go.Proofs.YtidjkhpekhpffaaGreat.Ledger
