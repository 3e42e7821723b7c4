/-
  Parts laid together: ReqRMay.
-/
import Derived.Test.YtidjkhpekhpffaaGreatPart1
import Derived.Test.YtidjkhpekhpffaaGreatPart10
import Derived.Test.YtidjkhpekhpffaaGreatPart7
import Derived.Deep.CutBlock
import Derived.Deep.CutRange
import Derived.Deep.RegionHeld3
namespace Go.Proofs.YtidjkhpekhpffaaGreat.Req
open Go.RowKit Go.Proofs.YtidjkhpekhpffaaGreat.Sha Go.Proofs.YtidjkhpekhpffaaGreat.Wire Go.Proofs.YtidjkhpekhpffaaGreat.Num
def normR (r:RV):RV :=
 if r.kind=1 then ⟨1,r.dst,r.asset,r.amount,0,0,[],[]⟩ else if r.kind=2 then ⟨2,r.dst,r.asset,r.amount,0,r.due,r.hash,[]⟩ else if r.kind=3 then ⟨3,0,0,0,r.id,0,[],r.sec⟩ else ⟨r.kind,0,0,0,r.id,0,[],[]⟩
theorem mayR_norm (r:RV):MayR r ↔ (1≤r.kind∧r.kind≤4∧r=normR r∧B8 r.dst∧B8 r.asset∧Amt r.amount∧I16 r.id∧Tck r.due∧(r.kind=2→r.hash.length=32)∧(r.kind=3→r.sec.length=32)):=by
 have z8:B8 0:=⟨by omega,by omega⟩
 have za:Amt 0:=⟨by omega,by omega⟩
 have zi:I16 0:=⟨by omega,by omega⟩
 have zt:Tck 0:=⟨by omega,by omega⟩
 obtain⟨kind,dst,asset,amount,id,due,hash,sec⟩:=r
 constructor
 ·rintro (h|h|h|h)
  all_goals
   obtain⟨h1,h2,h3,h4,h5,h6,h7,h8⟩:=h
   dsimp only at h1 h2 h3 h4 h5 h6 h7 h8
   subst h1
   simp_all [normR]
 ·rintro ⟨h1,h2,h3,h4,h5,h6,h7,h8,h9,h10⟩
  dsimp only at h1 h2 h4 h5 h6 h7 h8 h9 h10
  have hk:kind=1∨kind=2∨kind=3∨kind=4:=by omega
  unfold MayR
  rcases hk with rfl|rfl|rfl|rfl<;>simp[normR] at h3<;>simp_all
def b8B (n:Int):Bool:=decide (0≤n∧n≤255)
set_option maxRecDepth 100000 in
theorem rbyte8_any (n:Int) (w:World):Calls Tryz.prog 77 #[.int .i64 n] w fun e w'=>e=.returned (.bool (b8B n))∧w=w':=by
 by_cases h0:0≤n
 ·by_cases h1:n≤255
  ·have:b8B n=true:=decide_eq_true ⟨h0,h1⟩
   rw[this]
   go_enter Tryz.func77,Tryz.ntmps77
   go_wp2
   go_ret
   exact⟨rfl,rfl⟩
  ·have:b8B n=false:=decide_eq_false (fun h=>h1 h.2)
   rw[this]
   go_enter Tryz.func77,Tryz.ntmps77
   go_wp2
   go_ret
   exact⟨rfl,rfl⟩
 ·have:b8B n=false:=decide_eq_false (fun h=>h0 h.1)
  rw[this]
  go_enter Tryz.func77,Tryz.ntmps77
  go_wp2
  go_ret
  exact⟨rfl,rfl⟩
set_option maxRecDepth 100000 in
set_option maxHeartbeats 4000000 in
theorem rmay_any (r:RV) (hr:r.ok) (w:World):Calls Tryz.prog 87 #[rqv r] w fun e w'=>e=.returned (.bool (decide (MayR r)))∧Below w.heap.size w w':=by
 have hn:=mayR_norm r
 obtain⟨N,hN⟩:∃ N,w.heap.size=N:=⟨_,rfl⟩
 rw[hN]
 have HE:=Kept.mk (fun w=>req_eql r (normR r) hr (by
  unfold normR
  have n0:Bytes []:=by intro x hx;simp at hx
  split
  ·exact⟨n0,n0⟩
  ·split
   ·exact⟨hr.1,n0⟩
   ·split
    ·exact⟨n0,hr.2⟩
    ·exact⟨n0,n0⟩) w)
 obtain⟨D,hD⟩:∃ D,decide (MayR r)=D:=⟨_,rfl⟩
 rw[hD]
 have HD:=Kept.mk hD
 obtain⟨kind,dst,asset,amount,id,due,hash,sec⟩:=r
 unfold rqv
 dsimp only at hn ⊢
 have HN:=Kept.mk hn
 clear hr hn hD
 go_enter Tryz.func87,Tryz.ntmps87
 go_upto_block 0 with(fail)
 have X1:Kept (Blk ((w.alloc (.cells #[.int .i64 kind,.int .i64 dst,.int .i64 asset,.int .i64 amount,.int .i64 id,.int .i64 due,.string (strOfNums hash),.string (strOfNums sec)] 88)).alloc (.cells #[.int .i64 kind,.int .i64 0,.int .i64 0,.int .i64 0,.int .i64 0,.int .i64 0,.string ⟨#[]⟩,.string ⟨#[]⟩] 88)) N 88 #[.int .i64 kind,.int .i64 dst,.int .i64 asset,.int .i64 amount,.int .i64 id,.int .i64 due,.string (strOfNums hash),.string (strOfNums sec)]):=⟨(Blk.new_at w _ _ N hN.symm).alloc _⟩
 have X2:Kept (Blk ((w.alloc (.cells #[.int .i64 kind,.int .i64 dst,.int .i64 asset,.int .i64 amount,.int .i64 id,.int .i64 due,.string (strOfNums hash),.string (strOfNums sec)] 88)).alloc (.cells #[.int .i64 kind,.int .i64 0,.int .i64 0,.int .i64 0,.int .i64 0,.int .i64 0,.string ⟨#[]⟩,.string ⟨#[]⟩] 88)) (N+1) 88 #[.int .i64 kind,.int .i64 0,.int .i64 0,.int .i64 0,.int .i64 0,.int .i64 0,.string ⟨#[]⟩,.string ⟨#[]⟩]):=⟨Blk.new_at _ _ _ (N+1) (by simp[hN])⟩
 have B:Kept (Below N w ((w.alloc (.cells #[.int .i64 kind,.int .i64 dst,.int .i64 asset,.int .i64 amount,.int .i64 id,.int .i64 due,.string (strOfNums hash),.string (strOfNums sec)] 88)).alloc (.cells #[.int .i64 kind,.int .i64 0,.int .i64 0,.int .i64 0,.int .i64 0,.int .i64 0,.string ⟨#[]⟩,.string ⟨#[]⟩] 88))):=⟨((Below.refl _ _).alloc (by omega) _).alloc (by simp;omega) _⟩
 generalize ((w.alloc (.cells #[.int .i64 kind,.int .i64 dst,.int .i64 asset,.int .i64 amount,.int .i64 id,.int .i64 due,.string (strOfNums hash),.string (strOfNums sec)] 88)).alloc (.cells #[.int .i64 kind,.int .i64 0,.int .i64 0,.int .i64 0,.int .i64 0,.int .i64 0,.string ⟨#[]⟩,.string ⟨#[]⟩] 88))=w1 at *
 go_cut [9] from 10 to 105 (fun _ wx=>Kept (1≤kind∧kind≤4)∧Kept (Blk wx N 88 #[.int .i64 kind,.int .i64 dst,.int .i64 asset,.int .i64 amount,.int .i64 id,.int .i64 due,.string (strOfNums hash),.string (strOfNums sec)])∧Kept (Blk wx (N+1) 88 (rvC (normR ⟨kind,dst,asset,amount,id,due,hash,sec⟩)).toArray)∧Kept (Below N w wx))
 case first =>
  by_cases hk:kind=1
  ·subst hk
   have x0:=X1.out.cell 0
   have x1:=X1.out.cell 1;have y1:=X2.out.cell 1;have z1:=X2.out.frozen 1
   have x2:=X1.out.cell 2;have y2:=X2.out.cell 2;have z2:=X2.out.frozen 2
   have x3:=X1.out.cell 3;have y3:=X2.out.cell 3;have z3:=X2.out.frozen 3
   go_upto_region 5 with(fail)
   have CS:∀ {u:World},Blk u N 88 #[.int .i64 1,.int .i64 dst,.int .i64 asset,.int .i64 amount,.int .i64 id,.int .i64 due,.string (strOfNums hash),.string (strOfNums sec)]→u.cell? ⟨N,1,none⟩=some (.int .i64 dst)∧u.cell? ⟨N,2,none⟩=some (.int .i64 asset)∧u.cell? ⟨N,3,none⟩=some (.int .i64 amount):=fun h=>⟨h.cell 1,h.cell 2,h.cell 3⟩
   refine wp_region_noPanic ?_
   refine wp_region_held_drew (S:=fun w':World=>w'.cell? ⟨N,1,none⟩=some (.int .i64 dst)∧w'.cell? ⟨N,2,none⟩=some (.int .i64 asset)∧w'.cell? ⟨N,3,none⟩=some (.int .i64 amount)) (by kernel_rfl) (CS X1.out.drew) (fun _=>?_)
   replace X1:=Kept.mk X1.out.drew;replace X2:=Kept.mk X2.out.drew;replace B:=Kept.mk B.out.drew
   clear x1 y1 z1 x2 y2 z2 x3 y3 z3 x0
   generalize w1.drew=w2 at *
   refine tk 0 (by assumption) ?_
   simp only[Act.put,zA,zB,zC]
   refine tk 1 (by assumption) ?_
   simp only[Act.put,zA,zB,zC]
   refine tk 2 (by assumption) ?_
   simp only[Act.put,zA,zB,zC]
   refine tk 3 (by assumption) ?_
   simp only[Act.put,zA,zB,zC]
   refine tk 4 (by assumption) ?_
   simp only[Act.put,zA,zB,zC]
   refine tk 5 (by assumption) ?_
   simp only[Act.put,zA,zB,zC]
   refine tk 6 (by assumption) ?_
   simp only[Act.put,zA,zB,zC]
   have y1:=X2.out.cell 1;have z1:=X2.out.frozen 1
   refine ld 7 (fun K hK=>?_)
   go_simp
   have X3:Kept (Blk (w2.setCell ⟨N+1,1,none⟩ (.int .i64 dst)) N 88 #[.int .i64 1,.int .i64 dst,.int .i64 asset,.int .i64 amount,.int .i64 id,.int .i64 due,.string (strOfNums hash),.string (strOfNums sec)]):=⟨X1.out.far (by simp) _⟩
   refine hK.out _ _ (CS X3.out) (fun _=>?_)
   clear hK K y1 z1
   try simp only[Act.put,zA,zB,zC]
   replace X2:Kept (Blk (w2.setCell ⟨N+1,1,none⟩ (.int .i64 dst)) (N+1) 88 #[.int .i64 1,.int .i64 dst,.int .i64 0,.int .i64 0,.int .i64 0,.int .i64 0,.string ⟨#[]⟩,.string ⟨#[]⟩]):=⟨X2.out.set_ 1 _⟩
   replace B:=Kept.mk (B.out.setCell (p:=⟨N+1,1,none⟩) (by simp) (.int .i64 dst))
   generalize w2.setCell ⟨N+1,1,none⟩ (.int .i64 dst)=w3 at *
   replace X1:=X3;clear X3
   refine tk 8 (by assumption) ?_
   simp only[Act.put,zA,zB,zC]
   have y2:=X2.out.cell 2;have z2:=X2.out.frozen 2
   refine ld 9 (fun K hK=>?_)
   go_simp
   have X3:Kept (Blk (w3.setCell ⟨N+1,2,none⟩ (.int .i64 asset)) N 88 #[.int .i64 1,.int .i64 dst,.int .i64 asset,.int .i64 amount,.int .i64 id,.int .i64 due,.string (strOfNums hash),.string (strOfNums sec)]):=⟨X1.out.far (by simp) _⟩
   refine hK.out _ _ (CS X3.out) (fun _=>?_)
   clear hK K y2 z2
   try simp only[Act.put,zA,zB,zC]
   replace X2:Kept (Blk (w3.setCell ⟨N+1,2,none⟩ (.int .i64 asset)) (N+1) 88 #[.int .i64 1,.int .i64 dst,.int .i64 asset,.int .i64 0,.int .i64 0,.int .i64 0,.string ⟨#[]⟩,.string ⟨#[]⟩]):=⟨X2.out.set_ 2 _⟩
   replace B:=Kept.mk (B.out.setCell (p:=⟨N+1,2,none⟩) (by simp) (.int .i64 asset))
   generalize w3.setCell ⟨N+1,2,none⟩ (.int .i64 asset)=w4 at *
   replace X1:=X3;clear X3
   refine tk 10 (by assumption) ?_
   simp only[Act.put,zA,zB,zC]
   have y3:=X2.out.cell 3;have z3:=X2.out.frozen 3
   refine ld 11 (fun K hK=>?_)
   go_simp
   have X3:Kept (Blk (w4.setCell ⟨N+1,3,none⟩ (.int .i64 amount)) N 88 #[.int .i64 1,.int .i64 dst,.int .i64 asset,.int .i64 amount,.int .i64 id,.int .i64 due,.string (strOfNums hash),.string (strOfNums sec)]):=⟨X1.out.far (by simp) _⟩
   refine hK.out _ _ (CS X3.out) (fun _=>?_)
   clear hK K y3 z3
   try simp only[Act.put,zA,zB,zC]
   replace X2:Kept (Blk (w4.setCell ⟨N+1,3,none⟩ (.int .i64 amount)) (N+1) 88 #[.int .i64 1,.int .i64 dst,.int .i64 asset,.int .i64 amount,.int .i64 0,.int .i64 0,.string ⟨#[]⟩,.string ⟨#[]⟩]):=⟨X2.out.set_ 3 _⟩
   replace B:=Kept.mk (B.out.setCell (p:=⟨N+1,3,none⟩) (by simp) (.int .i64 amount))
   generalize w4.setCell ⟨N+1,3,none⟩ (.int .i64 amount)=w5 at *
   replace X1:=X3;clear X3
   refine wpAnyH_done (by kernel_rfl) ?_ _
   refine NoPanic.normal ?_
   go_wp2
   go_meet
   case rel=>exact⟨⟨by omega,by omega⟩,X1,⟨X2.out⟩,B⟩
  ·have hd1:(kind == 1)=false:=beq_eq_false_iff_ne.2 hk
   by_cases hk:kind=2
   ·subst hk
    have x0:=X1.out.cell 0
    have x1:=X1.out.cell 1;have y1:=X2.out.cell 1;have z1:=X2.out.frozen 1
    have x2:=X1.out.cell 2;have y2:=X2.out.cell 2;have z2:=X2.out.frozen 2
    have x3:=X1.out.cell 3;have y3:=X2.out.cell 3;have z3:=X2.out.frozen 3
    have x6:=X1.out.cell 6;have y6:=X2.out.cell 6;have z6:=X2.out.frozen 6
    have x5:=X1.out.cell 5;have y5:=X2.out.cell 5;have z5:=X2.out.frozen 5
    go_upto_region 7 with(fail)
    have CS:∀ {u:World},Blk u N 88 #[.int .i64 2,.int .i64 dst,.int .i64 asset,.int .i64 amount,.int .i64 id,.int .i64 due,.string (strOfNums hash),.string (strOfNums sec)]→u.cell? ⟨N,1,none⟩=some (.int .i64 dst)∧u.cell? ⟨N,2,none⟩=some (.int .i64 asset)∧u.cell? ⟨N,3,none⟩=some (.int .i64 amount)∧u.cell? ⟨N,6,none⟩=some (.string (strOfNums hash))∧u.cell? ⟨N,5,none⟩=some (.int .i64 due):=fun h=>⟨h.cell 1,h.cell 2,h.cell 3,h.cell 6,h.cell 5⟩
    refine wp_region_noPanic ?_
    refine wp_region_held_drew (S:=fun w':World=>w'.cell? ⟨N,1,none⟩=some (.int .i64 dst)∧w'.cell? ⟨N,2,none⟩=some (.int .i64 asset)∧w'.cell? ⟨N,3,none⟩=some (.int .i64 amount)∧w'.cell? ⟨N,6,none⟩=some (.string (strOfNums hash))∧w'.cell? ⟨N,5,none⟩=some (.int .i64 due)) (by kernel_rfl) (CS X1.out.drew) (fun _=>?_)
    replace X1:=Kept.mk X1.out.drew;replace X2:=Kept.mk X2.out.drew;replace B:=Kept.mk B.out.drew
    clear x1 y1 z1 x2 y2 z2 x3 y3 z3 x6 y6 z6 x5 y5 z5 x0
    generalize w1.drew=w2 at *
    refine tk 0 (by assumption) ?_
    simp only[Act.put,zA,zB,zC]
    refine tk 1 (by assumption) ?_
    simp only[Act.put,zA,zB,zC]
    refine tk 2 (by assumption) ?_
    simp only[Act.put,zA,zB,zC]
    refine tk 3 (by assumption) ?_
    simp only[Act.put,zA,zB,zC]
    refine tk 4 (by assumption) ?_
    simp only[Act.put,zA,zB,zC]
    refine tk 5 (by assumption) ?_
    simp only[Act.put,zA,zB,zC]
    refine tk 6 (by assumption) ?_
    simp only[Act.put,zA,zB,zC]
    refine tk 7 (by assumption) ?_
    simp only[Act.put,zA,zB,zC]
    refine tk 8 (by assumption) ?_
    simp only[Act.put,zA,zB,zC]
    refine tk 9 (by assumption) ?_
    simp only[Act.put,zA,zB,zC]
    refine tk 10 (by assumption) ?_
    simp only[Act.put,zA,zB,zC]
    have y1:=X2.out.cell 1;have z1:=X2.out.frozen 1
    refine ld 11 (fun K hK=>?_)
    go_simp
    have X3:Kept (Blk (w2.setCell ⟨N+1,1,none⟩ (.int .i64 dst)) N 88 #[.int .i64 2,.int .i64 dst,.int .i64 asset,.int .i64 amount,.int .i64 id,.int .i64 due,.string (strOfNums hash),.string (strOfNums sec)]):=⟨X1.out.far (by simp) _⟩
    refine hK.out _ _ (CS X3.out) (fun _=>?_)
    clear hK K y1 z1
    try simp only[Act.put,zA,zB,zC]
    replace X2:Kept (Blk (w2.setCell ⟨N+1,1,none⟩ (.int .i64 dst)) (N+1) 88 #[.int .i64 2,.int .i64 dst,.int .i64 0,.int .i64 0,.int .i64 0,.int .i64 0,.string ⟨#[]⟩,.string ⟨#[]⟩]):=⟨X2.out.set_ 1 _⟩
    replace B:=Kept.mk (B.out.setCell (p:=⟨N+1,1,none⟩) (by simp) (.int .i64 dst))
    generalize w2.setCell ⟨N+1,1,none⟩ (.int .i64 dst)=w3 at *
    replace X1:=X3;clear X3
    refine tk 12 (by assumption) ?_
    simp only[Act.put,zA,zB,zC]
    have y2:=X2.out.cell 2;have z2:=X2.out.frozen 2
    refine ld 13 (fun K hK=>?_)
    go_simp
    have X3:Kept (Blk (w3.setCell ⟨N+1,2,none⟩ (.int .i64 asset)) N 88 #[.int .i64 2,.int .i64 dst,.int .i64 asset,.int .i64 amount,.int .i64 id,.int .i64 due,.string (strOfNums hash),.string (strOfNums sec)]):=⟨X1.out.far (by simp) _⟩
    refine hK.out _ _ (CS X3.out) (fun _=>?_)
    clear hK K y2 z2
    try simp only[Act.put,zA,zB,zC]
    replace X2:Kept (Blk (w3.setCell ⟨N+1,2,none⟩ (.int .i64 asset)) (N+1) 88 #[.int .i64 2,.int .i64 dst,.int .i64 asset,.int .i64 0,.int .i64 0,.int .i64 0,.string ⟨#[]⟩,.string ⟨#[]⟩]):=⟨X2.out.set_ 2 _⟩
    replace B:=Kept.mk (B.out.setCell (p:=⟨N+1,2,none⟩) (by simp) (.int .i64 asset))
    generalize w3.setCell ⟨N+1,2,none⟩ (.int .i64 asset)=w4 at *
    replace X1:=X3;clear X3
    refine tk 14 (by assumption) ?_
    simp only[Act.put,zA,zB,zC]
    have y3:=X2.out.cell 3;have z3:=X2.out.frozen 3
    refine ld 15 (fun K hK=>?_)
    go_simp
    have X3:Kept (Blk (w4.setCell ⟨N+1,3,none⟩ (.int .i64 amount)) N 88 #[.int .i64 2,.int .i64 dst,.int .i64 asset,.int .i64 amount,.int .i64 id,.int .i64 due,.string (strOfNums hash),.string (strOfNums sec)]):=⟨X1.out.far (by simp) _⟩
    refine hK.out _ _ (CS X3.out) (fun _=>?_)
    clear hK K y3 z3
    try simp only[Act.put,zA,zB,zC]
    replace X2:Kept (Blk (w4.setCell ⟨N+1,3,none⟩ (.int .i64 amount)) (N+1) 88 #[.int .i64 2,.int .i64 dst,.int .i64 asset,.int .i64 amount,.int .i64 0,.int .i64 0,.string ⟨#[]⟩,.string ⟨#[]⟩]):=⟨X2.out.set_ 3 _⟩
    replace B:=Kept.mk (B.out.setCell (p:=⟨N+1,3,none⟩) (by simp) (.int .i64 amount))
    generalize w4.setCell ⟨N+1,3,none⟩ (.int .i64 amount)=w5 at *
    replace X1:=X3;clear X3
    refine tk 16 (by assumption) ?_
    simp only[Act.put,zA,zB,zC]
    have y6:=X2.out.cell 6;have z6:=X2.out.frozen 6
    refine ld 17 (fun K hK=>?_)
    go_simp
    have X3:Kept (Blk (w5.setCell ⟨N+1,6,none⟩ (.string (strOfNums hash))) N 88 #[.int .i64 2,.int .i64 dst,.int .i64 asset,.int .i64 amount,.int .i64 id,.int .i64 due,.string (strOfNums hash),.string (strOfNums sec)]):=⟨X1.out.far (by simp) _⟩
    refine hK.out _ _ (CS X3.out) (fun _=>?_)
    clear hK K y6 z6
    try simp only[Act.put,zA,zB,zC]
    replace X2:Kept (Blk (w5.setCell ⟨N+1,6,none⟩ (.string (strOfNums hash))) (N+1) 88 #[.int .i64 2,.int .i64 dst,.int .i64 asset,.int .i64 amount,.int .i64 0,.int .i64 0,.string (strOfNums hash),.string ⟨#[]⟩]):=⟨X2.out.set_ 6 _⟩
    replace B:=Kept.mk (B.out.setCell (p:=⟨N+1,6,none⟩) (by simp) (.string (strOfNums hash)))
    generalize w5.setCell ⟨N+1,6,none⟩ (.string (strOfNums hash))=w6 at *
    replace X1:=X3;clear X3
    refine tk 18 (by assumption) ?_
    simp only[Act.put,zA,zB,zC]
    have y5:=X2.out.cell 5;have z5:=X2.out.frozen 5
    refine ld 19 (fun K hK=>?_)
    go_simp
    have X3:Kept (Blk (w6.setCell ⟨N+1,5,none⟩ (.int .i64 due)) N 88 #[.int .i64 2,.int .i64 dst,.int .i64 asset,.int .i64 amount,.int .i64 id,.int .i64 due,.string (strOfNums hash),.string (strOfNums sec)]):=⟨X1.out.far (by simp) _⟩
    refine hK.out _ _ (CS X3.out) (fun _=>?_)
    clear hK K y5 z5
    try simp only[Act.put,zA,zB,zC]
    replace X2:Kept (Blk (w6.setCell ⟨N+1,5,none⟩ (.int .i64 due)) (N+1) 88 #[.int .i64 2,.int .i64 dst,.int .i64 asset,.int .i64 amount,.int .i64 0,.int .i64 due,.string (strOfNums hash),.string ⟨#[]⟩]):=⟨X2.out.set_ 5 _⟩
    replace B:=Kept.mk (B.out.setCell (p:=⟨N+1,5,none⟩) (by simp) (.int .i64 due))
    generalize w6.setCell ⟨N+1,5,none⟩ (.int .i64 due)=w7 at *
    replace X1:=X3;clear X3
    refine wpAnyH_done (by kernel_rfl) ?_ _
    refine NoPanic.normal ?_
    go_wp2
    go_meet
    case rel=>exact⟨⟨by omega,by omega⟩,X1,⟨X2.out⟩,B⟩
   ·have hd2:(kind == 2)=false:=beq_eq_false_iff_ne.2 hk
    by_cases hk:kind=3
    ·subst hk
     have x0:=X1.out.cell 0
     have x4:=X1.out.cell 4;have y4:=X2.out.cell 4;have z4:=X2.out.frozen 4
     have x7:=X1.out.cell 7;have y7:=X2.out.cell 7;have z7:=X2.out.frozen 7
     go_upto_region 9 with(fail)
     have CS:∀ {u:World},Blk u N 88 #[.int .i64 3,.int .i64 dst,.int .i64 asset,.int .i64 amount,.int .i64 id,.int .i64 due,.string (strOfNums hash),.string (strOfNums sec)]→u.cell? ⟨N,4,none⟩=some (.int .i64 id)∧u.cell? ⟨N,7,none⟩=some (.string (strOfNums sec)):=fun h=>⟨h.cell 4,h.cell 7⟩
     refine wp_region_noPanic ?_
     refine wp_region_held_drew (S:=fun w':World=>w'.cell? ⟨N,4,none⟩=some (.int .i64 id)∧w'.cell? ⟨N,7,none⟩=some (.string (strOfNums sec))) (by kernel_rfl) (CS X1.out.drew) (fun _=>?_)
     replace X1:=Kept.mk X1.out.drew;replace X2:=Kept.mk X2.out.drew;replace B:=Kept.mk B.out.drew
     clear x4 y4 z4 x7 y7 z7 x0
     generalize w1.drew=w2 at *
     refine tk 0 (by assumption) ?_
     simp only[Act.put,zA,zB,zC]
     refine tk 1 (by assumption) ?_
     simp only[Act.put,zA,zB,zC]
     refine tk 2 (by assumption) ?_
     simp only[Act.put,zA,zB,zC]
     refine tk 3 (by assumption) ?_
     simp only[Act.put,zA,zB,zC]
     refine tk 4 (by assumption) ?_
     simp only[Act.put,zA,zB,zC]
     have y4:=X2.out.cell 4;have z4:=X2.out.frozen 4
     refine ld 5 (fun K hK=>?_)
     go_simp
     have X3:Kept (Blk (w2.setCell ⟨N+1,4,none⟩ (.int .i64 id)) N 88 #[.int .i64 3,.int .i64 dst,.int .i64 asset,.int .i64 amount,.int .i64 id,.int .i64 due,.string (strOfNums hash),.string (strOfNums sec)]):=⟨X1.out.far (by simp) _⟩
     refine hK.out _ _ (CS X3.out) (fun _=>?_)
     clear hK K y4 z4
     try simp only[Act.put,zA,zB,zC]
     replace X2:Kept (Blk (w2.setCell ⟨N+1,4,none⟩ (.int .i64 id)) (N+1) 88 #[.int .i64 3,.int .i64 0,.int .i64 0,.int .i64 0,.int .i64 id,.int .i64 0,.string ⟨#[]⟩,.string ⟨#[]⟩]):=⟨X2.out.set_ 4 _⟩
     replace B:=Kept.mk (B.out.setCell (p:=⟨N+1,4,none⟩) (by simp) (.int .i64 id))
     generalize w2.setCell ⟨N+1,4,none⟩ (.int .i64 id)=w3 at *
     replace X1:=X3;clear X3
     refine tk 6 (by assumption) ?_
     simp only[Act.put,zA,zB,zC]
     have y7:=X2.out.cell 7;have z7:=X2.out.frozen 7
     refine ld 7 (fun K hK=>?_)
     go_simp
     have X3:Kept (Blk (w3.setCell ⟨N+1,7,none⟩ (.string (strOfNums sec))) N 88 #[.int .i64 3,.int .i64 dst,.int .i64 asset,.int .i64 amount,.int .i64 id,.int .i64 due,.string (strOfNums hash),.string (strOfNums sec)]):=⟨X1.out.far (by simp) _⟩
     refine hK.out _ _ (CS X3.out) (fun _=>?_)
     clear hK K y7 z7
     try simp only[Act.put,zA,zB,zC]
     replace X2:Kept (Blk (w3.setCell ⟨N+1,7,none⟩ (.string (strOfNums sec))) (N+1) 88 #[.int .i64 3,.int .i64 0,.int .i64 0,.int .i64 0,.int .i64 id,.int .i64 0,.string ⟨#[]⟩,.string (strOfNums sec)]):=⟨X2.out.set_ 7 _⟩
     replace B:=Kept.mk (B.out.setCell (p:=⟨N+1,7,none⟩) (by simp) (.string (strOfNums sec)))
     generalize w3.setCell ⟨N+1,7,none⟩ (.string (strOfNums sec))=w4 at *
     replace X1:=X3;clear X3
     refine wpAnyH_done (by kernel_rfl) ?_ _
     refine NoPanic.normal ?_
     go_wp2
     go_meet
     case rel=>exact⟨⟨by omega,by omega⟩,X1,⟨X2.out⟩,B⟩
    ·have hd3:(kind == 3)=false:=beq_eq_false_iff_ne.2 hk
     by_cases hk4:kind=4
     ·subst hk4
      have x4:=X1.out.cell 4;have y4:=X2.out.cell 4;have z4:=X2.out.frozen 4
      go_wp2
      go_meet
      case rel=>exact⟨⟨by omega,by omega⟩,⟨X1.out.far (p:=⟨N+1,4,none⟩) (by simp) _⟩,⟨X2.out.set_ 4 _⟩,⟨B.out.setCell (p:=⟨N+1,4,none⟩) (by simp) _⟩⟩
     ·have hd4:(kind == 4)=false:=beq_eq_false_iff_ne.2 hk4
      rename_i hk1 hk2
      obtain rfl:false=D:=by
       rw[← HD.out]
       exact(decide_eq_false (fun h=>by have:=HN.out.1 h;omega)).symm
      go_wp2
      go_ret
      exact⟨rfl,B.out⟩
 case rest =>
  clear X1 X2 B
  obtain⟨K1,X1,X2,B⟩:=hcut
  generalize wc=w2 at *
  obtain⟨n0,n1,n2,n3,n4,n5,n6,n7,hm⟩:∃ n0 n1 n2 n3 n4 n5 n6 n7,normR ⟨kind,dst,asset,amount,id,due,hash,sec⟩=⟨n0,n1,n2,n3,n4,n5,n6,n7⟩:=⟨_,_,_,_,_,_,_,_,rfl⟩
  rw[hm] at HE X2
  have HE2:=HE.out
  unfold rqv at HE2
  dsimp only at HE2
  replace X2:Kept (Blk w2 (N+1) 88 #[.int .i64 n0,.int .i64 n1,.int .i64 n2,.int .i64 n3,.int .i64 n4,.int .i64 n5,.string (strOfNums n6),.string (strOfNums n7)]):=⟨X2.out⟩
  obtain⟨q,hq⟩:∃ q,sameR ⟨kind,dst,asset,amount,id,due,hash,sec⟩ ⟨n0,n1,n2,n3,n4,n5,n6,n7⟩=q:=⟨_,rfl⟩
  rw[hq] at HE2
  have HQ:=Kept.mk hq
  have HM:=Kept.mk hm
  clear HE hq hm
  have cdst:=Kept.mk (fun w=>rbyte8_any dst w)
  have casset:=Kept.mk (fun w=>rbyte8_any asset w)
  have cA:=Kept.mk (fun w=>ramount_any amount w)
  have cT:=Kept.mk (fun w=>rtick_any due w)
  have x0:=X1.out.cell 0;have y0:=X2.out.cell 0
  have x1:=X1.out.cell 1;have y1:=X2.out.cell 1
  have x2:=X1.out.cell 2;have y2:=X2.out.cell 2
  have x3:=X1.out.cell 3;have y3:=X2.out.cell 3
  have x4:=X1.out.cell 4;have y4:=X2.out.cell 4
  have x5:=X1.out.cell 5;have y5:=X2.out.cell 5
  have x6:=X1.out.cell 6;have y6:=X2.out.cell 6
  have x7:=X1.out.cell 7;have y7:=X2.out.cell 7
  clear X1 X2
  cases q with
  | false =>
   obtain rfl:false=D:=by
    rw[← HD.out]
    exact(decide_eq_false (fun h=>by replace h:=HN.out.1 h;replace h:=h.2.2.1;rw[HM.out] at h;rw[h] at HQ;have:=sameR_iff.2 (rfl:(⟨n0,n1,n2,n3,n4,n5,n6,n7⟩:RV)=_);rw[HQ.out] at this;cases this)).symm
   go_wp2_with (first|(go_at_call 77;(with_reducible refine(cdst.out _).mono ?_);rintro e w' ⟨rfl,rfl⟩)|(go_at_call 77;(with_reducible refine(casset.out _).mono ?_);rintro e w' ⟨rfl,rfl⟩)|(go_at_call 134;(with_reducible refine(cA.out _).mono ?_);rintro e w' ⟨rfl,rfl⟩)|(go_at_call 65;(with_reducible refine(cT.out _).mono ?_);rintro e w' ⟨rfl,rfl⟩))
   go_ret
   exact⟨rfl,B.out⟩
  | true =>
   cases hbdst:b8B dst with
   | false =>
    rw[hbdst] at cdst
    obtain rfl:false=D:=by
     rw[← HD.out]
     exact(decide_eq_false (fun h=>by replace h:=HN.out.1 h;replace h:=h.2.2.2.1;exact(of_decide_eq_false hbdst) h)).symm
    go_wp2_with (first|(go_at_call 77;(with_reducible refine(cdst.out _).mono ?_);rintro e w' ⟨rfl,rfl⟩)|(go_at_call 77;(with_reducible refine(casset.out _).mono ?_);rintro e w' ⟨rfl,rfl⟩)|(go_at_call 134;(with_reducible refine(cA.out _).mono ?_);rintro e w' ⟨rfl,rfl⟩)|(go_at_call 65;(with_reducible refine(cT.out _).mono ?_);rintro e w' ⟨rfl,rfl⟩))
    go_ret
    exact⟨rfl,B.out⟩
   | true =>
    rw[hbdst] at cdst
    cases hbasset:b8B asset with
    | false =>
     rw[hbasset] at casset
     obtain rfl:false=D:=by
      rw[← HD.out]
      exact(decide_eq_false (fun h=>by replace h:=HN.out.1 h;replace h:=h.2.2.2.2.1;exact(of_decide_eq_false hbasset) h)).symm
     go_wp2_with (first|(go_at_call 77;(with_reducible refine(cdst.out _).mono ?_);rintro e w' ⟨rfl,rfl⟩)|(go_at_call 77;(with_reducible refine(casset.out _).mono ?_);rintro e w' ⟨rfl,rfl⟩)|(go_at_call 134;(with_reducible refine(cA.out _).mono ?_);rintro e w' ⟨rfl,rfl⟩)|(go_at_call 65;(with_reducible refine(cT.out _).mono ?_);rintro e w' ⟨rfl,rfl⟩))
     go_ret
     exact⟨rfl,B.out⟩
    | true =>
     rw[hbasset] at casset
     cases hbA:amtB amount with
     | false =>
      rw[hbA] at cA
      obtain rfl:false=D:=by
       rw[← HD.out]
       exact(decide_eq_false (fun h=>by replace h:=HN.out.1 h;replace h:=h.2.2.2.2.2.1;exact(of_decide_eq_false hbA) h)).symm
      go_wp2_with (first|(go_at_call 77;(with_reducible refine(cdst.out _).mono ?_);rintro e w' ⟨rfl,rfl⟩)|(go_at_call 77;(with_reducible refine(casset.out _).mono ?_);rintro e w' ⟨rfl,rfl⟩)|(go_at_call 134;(with_reducible refine(cA.out _).mono ?_);rintro e w' ⟨rfl,rfl⟩)|(go_at_call 65;(with_reducible refine(cT.out _).mono ?_);rintro e w' ⟨rfl,rfl⟩))
      go_ret
      exact⟨rfl,B.out⟩
     | true =>
      rw[hbA] at cA
      by_cases hi0:0≤id
      ·skip
       by_cases hi1:id≤65535
       ·skip
        cases hbT:tickB due with
        | false =>
         rw[hbT] at cT
         obtain rfl:false=D:=by
          rw[← HD.out]
          exact(decide_eq_false (fun h=>by replace h:=HN.out.1 h;replace h:=h.2.2.2.2.2.2.2.1;exact(of_decide_eq_false hbT) h)).symm
         go_wp2_with (first|(go_at_call 77;(with_reducible refine(cdst.out _).mono ?_);rintro e w' ⟨rfl,rfl⟩)|(go_at_call 77;(with_reducible refine(casset.out _).mono ?_);rintro e w' ⟨rfl,rfl⟩)|(go_at_call 134;(with_reducible refine(cA.out _).mono ?_);rintro e w' ⟨rfl,rfl⟩)|(go_at_call 65;(with_reducible refine(cT.out _).mono ?_);rintro e w' ⟨rfl,rfl⟩))
         go_ret
         exact⟨rfl,B.out⟩
        | true =>
         rw[hbT] at cT
         by_cases h2:kind=2
         ·subst h2
          by_cases hl:hash.length=32
          ·have hL:(strOfNums hash).size=32:=by rw[strOfNums_size];exact hl
           obtain rfl:true=D:=by
            rw[← HD.out]
            refine(decide_eq_true (HN.out.2 ⟨by have:=K1.out;omega,by have:=K1.out;omega,?_,of_decide_eq_true hbdst,of_decide_eq_true hbasset,of_decide_eq_true hbA,⟨hi0,hi1⟩,of_decide_eq_true hbT,fun _=>hl,fun h=>by omega⟩)).symm
            rw[HM.out];exact sameR_iff.1 HQ.out
           go_wp2_with (first|(go_at_call 77;(with_reducible refine(cdst.out _).mono ?_);rintro e w' ⟨rfl,rfl⟩)|(go_at_call 77;(with_reducible refine(casset.out _).mono ?_);rintro e w' ⟨rfl,rfl⟩)|(go_at_call 134;(with_reducible refine(cA.out _).mono ?_);rintro e w' ⟨rfl,rfl⟩)|(go_at_call 65;(with_reducible refine(cT.out _).mono ?_);rintro e w' ⟨rfl,rfl⟩))
           go_ret
           exact⟨rfl,B.out⟩
          ·obtain⟨l,hL⟩:∃ l,(strOfNums hash).size=l:=⟨_,rfl⟩
           have hL2:l≠32:=by rw[← hL,strOfNums_size];exact hl
           have hL3:((l:Int) == 32)=false:=beq_eq_false_iff_ne.2 (by omega)
           obtain rfl:false=D:=by
            rw[← HD.out]
            exact(decide_eq_false (fun h=>by replace h:=HN.out.1 h;replace h:=h.2.2.2.2.2.2.2.2.1;exact hl (h rfl))).symm
           go_wp2_with (first|(go_at_call 77;(with_reducible refine(cdst.out _).mono ?_);rintro e w' ⟨rfl,rfl⟩)|(go_at_call 77;(with_reducible refine(casset.out _).mono ?_);rintro e w' ⟨rfl,rfl⟩)|(go_at_call 134;(with_reducible refine(cA.out _).mono ?_);rintro e w' ⟨rfl,rfl⟩)|(go_at_call 65;(with_reducible refine(cT.out _).mono ?_);rintro e w' ⟨rfl,rfl⟩))
           go_ret
           exact⟨rfl,B.out⟩
         ·have hd2:(kind == 2)=false:=beq_eq_false_iff_ne.2 h2
          by_cases h3:kind=3
          ·subst h3
           by_cases hl:sec.length=32
           ·have hL:(strOfNums sec).size=32:=by rw[strOfNums_size];exact hl
            obtain rfl:true=D:=by
             rw[← HD.out]
             refine(decide_eq_true (HN.out.2 ⟨by have:=K1.out;omega,by have:=K1.out;omega,?_,of_decide_eq_true hbdst,of_decide_eq_true hbasset,of_decide_eq_true hbA,⟨hi0,hi1⟩,of_decide_eq_true hbT,fun h=>by omega,fun _=>hl⟩)).symm
             rw[HM.out];exact sameR_iff.1 HQ.out
            go_wp2_with (first|(go_at_call 77;(with_reducible refine(cdst.out _).mono ?_);rintro e w' ⟨rfl,rfl⟩)|(go_at_call 77;(with_reducible refine(casset.out _).mono ?_);rintro e w' ⟨rfl,rfl⟩)|(go_at_call 134;(with_reducible refine(cA.out _).mono ?_);rintro e w' ⟨rfl,rfl⟩)|(go_at_call 65;(with_reducible refine(cT.out _).mono ?_);rintro e w' ⟨rfl,rfl⟩))
            go_ret
            exact⟨rfl,B.out⟩
           ·obtain⟨l,hL⟩:∃ l,(strOfNums sec).size=l:=⟨_,rfl⟩
            have hL2:l≠32:=by rw[← hL,strOfNums_size];exact hl
            have hL3:((l:Int) == 32)=false:=beq_eq_false_iff_ne.2 (by omega)
            obtain rfl:false=D:=by
             rw[← HD.out]
             exact(decide_eq_false (fun h=>by replace h:=HN.out.1 h;replace h:=h.2.2.2.2.2.2.2.2.2;exact hl (h rfl))).symm
            go_wp2_with (first|(go_at_call 77;(with_reducible refine(cdst.out _).mono ?_);rintro e w' ⟨rfl,rfl⟩)|(go_at_call 77;(with_reducible refine(casset.out _).mono ?_);rintro e w' ⟨rfl,rfl⟩)|(go_at_call 134;(with_reducible refine(cA.out _).mono ?_);rintro e w' ⟨rfl,rfl⟩)|(go_at_call 65;(with_reducible refine(cT.out _).mono ?_);rintro e w' ⟨rfl,rfl⟩))
            go_ret
            exact⟨rfl,B.out⟩
          ·have hd3:(kind == 3)=false:=beq_eq_false_iff_ne.2 h3
           obtain rfl:true=D:=by
            rw[← HD.out]
            refine(decide_eq_true (HN.out.2 ⟨by have:=K1.out;omega,by have:=K1.out;omega,?_,of_decide_eq_true hbdst,of_decide_eq_true hbasset,of_decide_eq_true hbA,⟨hi0,hi1⟩,of_decide_eq_true hbT,fun h=>absurd h h2,fun h=>absurd h h3⟩)).symm
            rw[HM.out];exact sameR_iff.1 HQ.out
           go_wp2_with (first|(go_at_call 77;(with_reducible refine(cdst.out _).mono ?_);rintro e w' ⟨rfl,rfl⟩)|(go_at_call 77;(with_reducible refine(casset.out _).mono ?_);rintro e w' ⟨rfl,rfl⟩)|(go_at_call 134;(with_reducible refine(cA.out _).mono ?_);rintro e w' ⟨rfl,rfl⟩)|(go_at_call 65;(with_reducible refine(cT.out _).mono ?_);rintro e w' ⟨rfl,rfl⟩))
           go_ret
           exact⟨rfl,B.out⟩
       ·skip
        obtain rfl:false=D:=by
         rw[← HD.out]
         exact(decide_eq_false (fun h=>by replace h:=HN.out.1 h;replace h:=h.2.2.2.2.2.2.1;exact hi1 h.2)).symm
        go_wp2_with (first|(go_at_call 77;(with_reducible refine(cdst.out _).mono ?_);rintro e w' ⟨rfl,rfl⟩)|(go_at_call 77;(with_reducible refine(casset.out _).mono ?_);rintro e w' ⟨rfl,rfl⟩)|(go_at_call 134;(with_reducible refine(cA.out _).mono ?_);rintro e w' ⟨rfl,rfl⟩)|(go_at_call 65;(with_reducible refine(cT.out _).mono ?_);rintro e w' ⟨rfl,rfl⟩))
        go_ret
        exact⟨rfl,B.out⟩
      ·skip
       obtain rfl:false=D:=by
        rw[← HD.out]
        exact(decide_eq_false (fun h=>by replace h:=HN.out.1 h;replace h:=h.2.2.2.2.2.2.1;exact hi0 h.1)).symm
       go_wp2_with (first|(go_at_call 77;(with_reducible refine(cdst.out _).mono ?_);rintro e w' ⟨rfl,rfl⟩)|(go_at_call 77;(with_reducible refine(casset.out _).mono ?_);rintro e w' ⟨rfl,rfl⟩)|(go_at_call 134;(with_reducible refine(cA.out _).mono ?_);rintro e w' ⟨rfl,rfl⟩)|(go_at_call 65;(with_reducible refine(cT.out _).mono ?_);rintro e w' ⟨rfl,rfl⟩))
       go_ret
       exact⟨rfl,B.out⟩
end Go.Proofs.YtidjkhpekhpffaaGreat.Req
