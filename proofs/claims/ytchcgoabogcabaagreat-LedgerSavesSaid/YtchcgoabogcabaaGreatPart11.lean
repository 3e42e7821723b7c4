/-
  Parts laid together: ReqCHold ToBytes2.
-/
import Derived.Test.YtchcgoabogcabaaGreatPart3
import Derived.Test.YtchcgoabogcabaaGreatPart10
import Derived.Test.YtchcgoabogcabaaGreatPart6
import Derived.Deep.QuietTactic
import Derived.BigQuiet
import Derived.Laws.AppendOwn
namespace Go.Proofs.YtchcgoabogcabaaGreat.Req
open Go.RowKit Go.Proofs.YtchcgoabogcabaaGreat.Sha Go.Proofs.YtchcgoabogcabaaGreat.Wire Go.Proofs.YtchcgoabogcabaaGreat.Num
theorem str_len {xs:List Int}:(strOfNums xs).size=xs.length:=by
 simp[strOfNums,ByteArray.size]
set_option maxRecDepth 100000 in
theorem istext_any (xs:List Int) (w:World):Calls Tryz.prog 135 #[.string (strOfNums xs)] w fun e w'=>e=.returned (.bool (decide (xs.length=32)))∧w=w':=by
 have hs:=str_len (xs:=xs)
 have hd:Kept (((xs.length:Int) == 32)=decide (xs.length=32)):=⟨by
  by_cases h:xs.length=32
  ·rw[h];rfl
  ·rw[decide_eq_false h];exact beq_eq_false_iff_ne.2 (by omega)⟩
 generalize xs.length=n at *
 go_enter Tryz.func135,Tryz.ntmps135
 go_wp2
 go_ret
 exact⟨by rw[← hd.out];rfl,rfl⟩
theorem ctick_iff (n:Int):tickB n=decide (Tck n):=by
 unfold tickB Tck;rfl
set_option maxRecDepth 100000 in
set_option maxHeartbeats 2000000 in
theorem hold1  (dst asset amount id due:Int) (hash sec:List Int) (w:World) (hb:Bytes hash) (hc:Bytes sec):Calls Tryz.prog 136 #[rqv ⟨1,dst,asset,amount,id,due,hash,sec⟩] w fun e w'=>e=.returned (.bool (decide (HoldR ⟨1,dst,asset,amount,id,due,hash,sec⟩)))∧Below w.heap.size w w':=by
 have HQ:∀ w:World,(binOp .eql 65 (.agg #[.int .i64 1,.int .i64 dst,.int .i64 asset,.int .i64 amount,.int .i64 id,.int .i64 due,.string (strOfNums hash),.string (strOfNums sec)]) (.agg #[.int .i64 1,.int .i64 dst,.int .i64 asset,.int .i64 amount,.int .i64 0,.int .i64 0,.string ⟨#[]⟩,.string ⟨#[]⟩])).run Tryz.prog w=.ok (.bool (sameR ⟨1,dst,asset,amount,id,due,hash,sec⟩ ⟨1,dst,asset,amount,0,0,[],[]⟩)) w:=fun w=>req_eql ⟨1,dst,asset,amount,id,due,hash,sec⟩ ⟨1,dst,asset,amount,0,0,[],[]⟩ ⟨hb,hc⟩ ⟨by intro x hx;simp at hx,by intro x hx;simp at hx⟩ w
 have HD:HoldR ⟨1,dst,asset,amount,id,due,hash,sec⟩ ↔ sameR ⟨1,dst,asset,amount,id,due,hash,sec⟩ ⟨1,dst,asset,amount,0,0,[],[]⟩=true:=by
  rw[sameR_iff]
  unfold HoldR
  simp only[RV.mk.injEq,true_and]
  constructor<;>(intro h;simp_all)
 obtain⟨D,hD⟩:∃ D,decide (HoldR ⟨1,dst,asset,amount,id,due,hash,sec⟩)=D:=⟨_,rfl⟩
 rw[hD]
 generalize sameR ⟨1,dst,asset,amount,id,due,hash,sec⟩ ⟨1,dst,asset,amount,0,0,[],[]⟩=q at *
 have KD:=Kept.mk HD;have KE:=Kept.mk hD
 clear HD hD
 unfold rqv
 dsimp only
 have B:Kept (Below w.heap.size w (w.alloc (.cells #[.int .i64 1,.int .i64 dst,.int .i64 asset,.int .i64 amount,.int .i64 id,.int .i64 due,.string (strOfNums hash),.string (strOfNums sec)] 65))):=⟨(Below.refl _ _).alloc (Nat.le_refl _) _⟩
 have X:Kept (Blk (w.alloc (.cells #[.int .i64 1,.int .i64 dst,.int .i64 asset,.int .i64 amount,.int .i64 id,.int .i64 due,.string (strOfNums hash),.string (strOfNums sec)] 65)) w.heap.size 65 #[.int .i64 1,.int .i64 dst,.int .i64 asset,.int .i64 amount,.int .i64 id,.int .i64 due,.string (strOfNums hash),.string (strOfNums sec)]):=⟨Blk.new w _ _⟩
 go_enter Tryz.func136,Tryz.ntmps136
 go_upto_region 1 with(fail)
 generalize w.alloc (.cells #[.int .i64 1,.int .i64 dst,.int .i64 asset,.int .i64 amount,.int .i64 id,.int .i64 due,.string (strOfNums hash),.string (strOfNums sec)] 65)=w1 at *
 have x0:=X.out.cell 0;have x1:=X.out.cell 1;have x2:=X.out.cell 2;have x3:=X.out.cell 3;have x4:=X.out.cell 4;have x5:=X.out.cell 5;have x6:=X.out.cell 6;have x7:=X.out.cell 7
 go_wp2
 go_ret
 refine⟨?_,B.out⟩
 have e:q=D:=by rw[← KE.out,Bool.eq_iff_iff,decide_eq_true_iff];exact KD.out.symm
 rw[← e]
 rfl
set_option maxRecDepth 100000 in
set_option maxHeartbeats 2000000 in
theorem hold2  (dst asset amount id due:Int) (hash sec:List Int) (w:World) (hb:Bytes hash) (hc:Bytes sec):Calls Tryz.prog 136 #[rqv ⟨2,dst,asset,amount,id,due,hash,sec⟩] w fun e w'=>e=.returned (.bool (decide (HoldR ⟨2,dst,asset,amount,id,due,hash,sec⟩)))∧Below w.heap.size w w':=by
 have HQ:∀ w:World,(binOp .eql 65 (.agg #[.int .i64 2,.int .i64 dst,.int .i64 asset,.int .i64 amount,.int .i64 id,.int .i64 due,.string (strOfNums hash),.string (strOfNums sec)]) (.agg #[.int .i64 2,.int .i64 dst,.int .i64 asset,.int .i64 amount,.int .i64 0,.int .i64 due,.string (strOfNums hash),.string ⟨#[]⟩])).run Tryz.prog w=.ok (.bool (sameR ⟨2,dst,asset,amount,id,due,hash,sec⟩ ⟨2,dst,asset,amount,0,due,hash,[]⟩)) w:=fun w=>req_eql ⟨2,dst,asset,amount,id,due,hash,sec⟩ ⟨2,dst,asset,amount,0,due,hash,[]⟩ ⟨hb,hc⟩ ⟨hb,by intro x hx;simp at hx⟩ w
 have HD:HoldR ⟨2,dst,asset,amount,id,due,hash,sec⟩ ↔ (hash.length=32∧Tck due)∧sameR ⟨2,dst,asset,amount,id,due,hash,sec⟩ ⟨2,dst,asset,amount,0,due,hash,[]⟩=true:=by
  rw[sameR_iff]
  unfold HoldR
  simp only[RV.mk.injEq,true_and]
  constructor<;>(intro h;simp_all)
 obtain⟨D,hD⟩:∃ D,decide (HoldR ⟨2,dst,asset,amount,id,due,hash,sec⟩)=D:=⟨_,rfl⟩
 rw[hD]
 generalize sameR ⟨2,dst,asset,amount,id,due,hash,sec⟩ ⟨2,dst,asset,amount,0,due,hash,[]⟩=q at *
 have KD:=Kept.mk HD;have KE:=Kept.mk hD
 clear HD hD
 unfold rqv
 dsimp only
 have B:Kept (Below w.heap.size w (w.alloc (.cells #[.int .i64 2,.int .i64 dst,.int .i64 asset,.int .i64 amount,.int .i64 id,.int .i64 due,.string (strOfNums hash),.string (strOfNums sec)] 65))):=⟨(Below.refl _ _).alloc (Nat.le_refl _) _⟩
 have X:Kept (Blk (w.alloc (.cells #[.int .i64 2,.int .i64 dst,.int .i64 asset,.int .i64 amount,.int .i64 id,.int .i64 due,.string (strOfNums hash),.string (strOfNums sec)] 65)) w.heap.size 65 #[.int .i64 2,.int .i64 dst,.int .i64 asset,.int .i64 amount,.int .i64 id,.int .i64 due,.string (strOfNums hash),.string (strOfNums sec)]):=⟨Blk.new w _ _⟩
 go_enter Tryz.func136,Tryz.ntmps136
 go_upto_region 1 with(fail)
 generalize w.alloc (.cells #[.int .i64 2,.int .i64 dst,.int .i64 asset,.int .i64 amount,.int .i64 id,.int .i64 due,.string (strOfNums hash),.string (strOfNums sec)] 65)=w1 at *
 have x0:=X.out.cell 0;have x1:=X.out.cell 1;have x2:=X.out.cell 2;have x3:=X.out.cell 3;have x4:=X.out.cell 4;have x5:=X.out.cell 5;have x6:=X.out.cell 6;have x7:=X.out.cell 7
 go_upto_region 5 with(fail)
 have KT:=Kept.mk (fun w=>istext_any hash w)
 have KI:=Kept.mk (fun w=>tick_any due w)
 rw[ctick_iff] at KI
 by_cases h1:hash.length=32
 ·rw[decide_eq_true h1] at KT
  by_cases h2:Tck due
  ·rw[decide_eq_true h2] at KI
   go_wp2_with (first|(go_at_call 135;refine(KT.out _).mono ?_;rintro x w' ⟨rfl,rfl⟩)|(go_at_call 69;refine(KI.out _).mono ?_;rintro x w' ⟨rfl,rfl⟩))
   go_ret
   refine⟨?_,B.out⟩
   have e:q=D:=by rw[← KE.out,Bool.eq_iff_iff,decide_eq_true_iff];exact⟨fun h=>KD.out.2 ⟨⟨h1,h2⟩,h⟩,fun h=>(KD.out.1 h).2⟩
   rw[← e]
   rfl
  ·rw[decide_eq_false h2] at KI
   go_wp2_with (first|(go_at_call 135;refine(KT.out _).mono ?_;rintro x w' ⟨rfl,rfl⟩)|(go_at_call 69;refine(KI.out _).mono ?_;rintro x w' ⟨rfl,rfl⟩))
   go_ret
   refine⟨?_,B.out⟩
   have e:false=D:=by rw[← KE.out];exact(decide_eq_false (fun h=>h2 (KD.out.1 h).1.2)).symm
   rw[← e]
   rfl
 ·rw[decide_eq_false h1] at KT
  go_wp2_with (first|(go_at_call 135;refine(KT.out _).mono ?_;rintro x w' ⟨rfl,rfl⟩)|(go_at_call 69;refine(KI.out _).mono ?_;rintro x w' ⟨rfl,rfl⟩))
  go_ret
  refine⟨?_,B.out⟩
  have e:false=D:=by rw[← KE.out];exact(decide_eq_false (fun h=>h1 (KD.out.1 h).1.1)).symm
  rw[← e]
  rfl
set_option maxRecDepth 100000 in
set_option maxHeartbeats 2000000 in
theorem hold3  (dst asset amount id due:Int) (hash sec:List Int) (w:World) (hb:Bytes hash) (hc:Bytes sec):Calls Tryz.prog 136 #[rqv ⟨3,dst,asset,amount,id,due,hash,sec⟩] w fun e w'=>e=.returned (.bool (decide (HoldR ⟨3,dst,asset,amount,id,due,hash,sec⟩)))∧Below w.heap.size w w':=by
 have HQ:∀ w:World,(binOp .eql 65 (.agg #[.int .i64 3,.int .i64 dst,.int .i64 asset,.int .i64 amount,.int .i64 id,.int .i64 due,.string (strOfNums hash),.string (strOfNums sec)]) (.agg #[.int .i64 3,.int .i64 0,.int .i64 0,.int .i64 0,.int .i64 id,.int .i64 0,.string ⟨#[]⟩,.string (strOfNums sec)])).run Tryz.prog w=.ok (.bool (sameR ⟨3,dst,asset,amount,id,due,hash,sec⟩ ⟨3,0,0,0,id,0,[],sec⟩)) w:=fun w=>req_eql ⟨3,dst,asset,amount,id,due,hash,sec⟩ ⟨3,0,0,0,id,0,[],sec⟩ ⟨hb,hc⟩ ⟨by intro x hx;simp at hx,hc⟩ w
 have HD:HoldR ⟨3,dst,asset,amount,id,due,hash,sec⟩ ↔ sec.length=32∧sameR ⟨3,dst,asset,amount,id,due,hash,sec⟩ ⟨3,0,0,0,id,0,[],sec⟩=true:=by
  rw[sameR_iff]
  unfold HoldR
  simp only[RV.mk.injEq,true_and]
  constructor<;>(intro h;simp_all)
 obtain⟨D,hD⟩:∃ D,decide (HoldR ⟨3,dst,asset,amount,id,due,hash,sec⟩)=D:=⟨_,rfl⟩
 rw[hD]
 generalize sameR ⟨3,dst,asset,amount,id,due,hash,sec⟩ ⟨3,0,0,0,id,0,[],sec⟩=q at *
 have KD:=Kept.mk HD;have KE:=Kept.mk hD
 clear HD hD
 unfold rqv
 dsimp only
 have B:Kept (Below w.heap.size w (w.alloc (.cells #[.int .i64 3,.int .i64 dst,.int .i64 asset,.int .i64 amount,.int .i64 id,.int .i64 due,.string (strOfNums hash),.string (strOfNums sec)] 65))):=⟨(Below.refl _ _).alloc (Nat.le_refl _) _⟩
 have X:Kept (Blk (w.alloc (.cells #[.int .i64 3,.int .i64 dst,.int .i64 asset,.int .i64 amount,.int .i64 id,.int .i64 due,.string (strOfNums hash),.string (strOfNums sec)] 65)) w.heap.size 65 #[.int .i64 3,.int .i64 dst,.int .i64 asset,.int .i64 amount,.int .i64 id,.int .i64 due,.string (strOfNums hash),.string (strOfNums sec)]):=⟨Blk.new w _ _⟩
 go_enter Tryz.func136,Tryz.ntmps136
 go_upto_region 1 with(fail)
 generalize w.alloc (.cells #[.int .i64 3,.int .i64 dst,.int .i64 asset,.int .i64 amount,.int .i64 id,.int .i64 due,.string (strOfNums hash),.string (strOfNums sec)] 65)=w1 at *
 have x0:=X.out.cell 0;have x1:=X.out.cell 1;have x2:=X.out.cell 2;have x3:=X.out.cell 3;have x4:=X.out.cell 4;have x5:=X.out.cell 5;have x6:=X.out.cell 6;have x7:=X.out.cell 7
 go_upto_region 7 with(fail)
 have KT:=Kept.mk (fun w=>istext_any sec w)
 by_cases h1:sec.length=32
 ·rw[decide_eq_true h1] at KT
  go_wp2_with (first|(go_at_call 135;refine(KT.out _).mono ?_;rintro x w' ⟨rfl,rfl⟩))
  go_ret
  refine⟨?_,B.out⟩
  have e:q=D:=by rw[← KE.out,Bool.eq_iff_iff,decide_eq_true_iff];exact⟨fun h=>KD.out.2 ⟨h1,h⟩,fun h=>(KD.out.1 h).2⟩
  rw[← e]
  rfl
 ·rw[decide_eq_false h1] at KT
  go_wp2_with (first|(go_at_call 135;refine(KT.out _).mono ?_;rintro x w' ⟨rfl,rfl⟩))
  go_ret
  refine⟨?_,B.out⟩
  have e:false=D:=by rw[← KE.out];exact(decide_eq_false (fun h=>h1 (KD.out.1 h).1)).symm
  rw[← e]
  rfl
set_option maxRecDepth 100000 in
set_option maxHeartbeats 2000000 in
theorem hold4  (dst asset amount id due:Int) (hash sec:List Int) (w:World) (hb:Bytes hash) (hc:Bytes sec):Calls Tryz.prog 136 #[rqv ⟨4,dst,asset,amount,id,due,hash,sec⟩] w fun e w'=>e=.returned (.bool (decide (HoldR ⟨4,dst,asset,amount,id,due,hash,sec⟩)))∧Below w.heap.size w w':=by
 have HQ:∀ w:World,(binOp .eql 65 (.agg #[.int .i64 4,.int .i64 dst,.int .i64 asset,.int .i64 amount,.int .i64 id,.int .i64 due,.string (strOfNums hash),.string (strOfNums sec)]) (.agg #[.int .i64 4,.int .i64 0,.int .i64 0,.int .i64 0,.int .i64 id,.int .i64 0,.string ⟨#[]⟩,.string ⟨#[]⟩])).run Tryz.prog w=.ok (.bool (sameR ⟨4,dst,asset,amount,id,due,hash,sec⟩ ⟨4,0,0,0,id,0,[],[]⟩)) w:=fun w=>req_eql ⟨4,dst,asset,amount,id,due,hash,sec⟩ ⟨4,0,0,0,id,0,[],[]⟩ ⟨hb,hc⟩ ⟨by intro x hx;simp at hx,by intro x hx;simp at hx⟩ w
 have HD:HoldR ⟨4,dst,asset,amount,id,due,hash,sec⟩ ↔ sameR ⟨4,dst,asset,amount,id,due,hash,sec⟩ ⟨4,0,0,0,id,0,[],[]⟩=true:=by
  rw[sameR_iff]
  unfold HoldR
  simp only[RV.mk.injEq,true_and]
  constructor<;>(intro h;simp_all)
 obtain⟨D,hD⟩:∃ D,decide (HoldR ⟨4,dst,asset,amount,id,due,hash,sec⟩)=D:=⟨_,rfl⟩
 rw[hD]
 generalize sameR ⟨4,dst,asset,amount,id,due,hash,sec⟩ ⟨4,0,0,0,id,0,[],[]⟩=q at *
 have KD:=Kept.mk HD;have KE:=Kept.mk hD
 clear HD hD
 unfold rqv
 dsimp only
 have B:Kept (Below w.heap.size w (w.alloc (.cells #[.int .i64 4,.int .i64 dst,.int .i64 asset,.int .i64 amount,.int .i64 id,.int .i64 due,.string (strOfNums hash),.string (strOfNums sec)] 65))):=⟨(Below.refl _ _).alloc (Nat.le_refl _) _⟩
 have X:Kept (Blk (w.alloc (.cells #[.int .i64 4,.int .i64 dst,.int .i64 asset,.int .i64 amount,.int .i64 id,.int .i64 due,.string (strOfNums hash),.string (strOfNums sec)] 65)) w.heap.size 65 #[.int .i64 4,.int .i64 dst,.int .i64 asset,.int .i64 amount,.int .i64 id,.int .i64 due,.string (strOfNums hash),.string (strOfNums sec)]):=⟨Blk.new w _ _⟩
 go_enter Tryz.func136,Tryz.ntmps136
 go_upto_region 1 with(fail)
 generalize w.alloc (.cells #[.int .i64 4,.int .i64 dst,.int .i64 asset,.int .i64 amount,.int .i64 id,.int .i64 due,.string (strOfNums hash),.string (strOfNums sec)] 65)=w1 at *
 have x0:=X.out.cell 0;have x1:=X.out.cell 1;have x2:=X.out.cell 2;have x3:=X.out.cell 3;have x4:=X.out.cell 4;have x5:=X.out.cell 5;have x6:=X.out.cell 6;have x7:=X.out.cell 7
 go_wp2
 go_ret
 refine⟨?_,B.out⟩
 have e:q=D:=by rw[← KE.out,Bool.eq_iff_iff,decide_eq_true_iff];exact KD.out.symm
 rw[← e]
 rfl
set_option maxRecDepth 100000 in
set_option maxHeartbeats 2000000 in
theorem hold5 (kind:Int) (k1:kind≠1) (k2:kind≠2) (k3:kind≠3) (k4:kind≠4) (dst asset amount id due:Int) (hash sec:List Int) (w:World):Calls Tryz.prog 136 #[rqv ⟨kind,dst,asset,amount,id,due,hash,sec⟩] w fun e w'=>e=.returned (.bool (decide (HoldR ⟨kind,dst,asset,amount,id,due,hash,sec⟩)))∧Below w.heap.size w w':=by
 have KD:Kept (decide (HoldR ⟨kind,dst,asset,amount,id,due,hash,sec⟩)=false):=⟨decide_eq_false (by
  rintro (h|h|h|h)
  ·exact k1 h.1
  ·exact k2 h.1
  ·exact k3 h.1
  ·exact k4 h.1
  )⟩
 rw[KD.out]
 have d1:(kind == 1)=false:=beq_eq_false_iff_ne.2 k1
 have d2:(kind == 2)=false:=beq_eq_false_iff_ne.2 k2
 have d3:(kind == 3)=false:=beq_eq_false_iff_ne.2 k3
 have d4:(kind == 4)=false:=beq_eq_false_iff_ne.2 k4
 unfold rqv
 dsimp only
 have B:Kept (Below w.heap.size w (w.alloc (.cells #[.int .i64 kind,.int .i64 dst,.int .i64 asset,.int .i64 amount,.int .i64 id,.int .i64 due,.string (strOfNums hash),.string (strOfNums sec)] 65))):=⟨(Below.refl _ _).alloc (Nat.le_refl _) _⟩
 have X:Kept (Blk (w.alloc (.cells #[.int .i64 kind,.int .i64 dst,.int .i64 asset,.int .i64 amount,.int .i64 id,.int .i64 due,.string (strOfNums hash),.string (strOfNums sec)] 65)) w.heap.size 65 #[.int .i64 kind,.int .i64 dst,.int .i64 asset,.int .i64 amount,.int .i64 id,.int .i64 due,.string (strOfNums hash),.string (strOfNums sec)]):=⟨Blk.new w _ _⟩
 go_enter Tryz.func136,Tryz.ntmps136
 go_upto_region 1 with(fail)
 generalize w.alloc (.cells #[.int .i64 kind,.int .i64 dst,.int .i64 asset,.int .i64 amount,.int .i64 id,.int .i64 due,.string (strOfNums hash),.string (strOfNums sec)] 65)=w1 at *
 have x0:=X.out.cell 0;have x1:=X.out.cell 1;have x2:=X.out.cell 2;have x3:=X.out.cell 3;have x4:=X.out.cell 4;have x5:=X.out.cell 5;have x6:=X.out.cell 6;have x7:=X.out.cell 7
 go_wp2
 go_ret
 exact⟨rfl,B.out⟩
theorem holdR_any (r:RV) (hr:r.ok) (w:World):Calls Tryz.prog 136 #[rqv r] w fun e w'=>e=.returned (.bool (decide (HoldR r)))∧Below w.heap.size w w':=by
 obtain⟨kind,dst,asset,amount,id,due,hash,sec⟩:=r
 obtain⟨hb,hc⟩:=hr
 by_cases k1:kind=1
 ·subst k1;exact hold1 dst asset amount id due hash sec w hb hc
 by_cases k2:kind=2
 ·subst k2;exact hold2 dst asset amount id due hash sec w hb hc
 by_cases k3:kind=3
 ·subst k3;exact hold3 dst asset amount id due hash sec w hb hc
 by_cases k4:kind=4
 ·subst k4;exact hold4 dst asset amount id due hash sec w hb hc
 exact hold5 kind k1 k2 k3 k4 dst asset amount id due hash sec w
set_option maxRecDepth 100000 in
set_option maxHeartbeats 2000000 in
theorem vhold1  (src dst asset amount id due:Int) (hash sec:List Int) (w:World) (hb:Bytes hash) (hc:Bytes sec):Calls Tryz.prog 114 #[vqv ⟨1,src,dst,asset,amount,id,due,hash,sec⟩] w fun e w'=>e=.returned (.bool (decide (HoldV ⟨1,src,dst,asset,amount,id,due,hash,sec⟩)))∧Below w.heap.size w w':=by
 have HQ:∀ w:World,(binOp .eql 71 (.agg #[.int .i64 1,.int .i64 src,.int .i64 dst,.int .i64 asset,.int .i64 amount,.int .i64 id,.int .i64 due,.string (strOfNums hash),.string (strOfNums sec)]) (.agg #[.int .i64 1,.int .i64 src,.int .i64 dst,.int .i64 asset,.int .i64 amount,.int .i64 0,.int .i64 0,.string ⟨#[]⟩,.string ⟨#[]⟩])).run Tryz.prog w=.ok (.bool (sameV ⟨1,src,dst,asset,amount,id,due,hash,sec⟩ ⟨1,src,dst,asset,amount,0,0,[],[]⟩)) w:=fun w=>ev_eql ⟨1,src,dst,asset,amount,id,due,hash,sec⟩ ⟨1,src,dst,asset,amount,0,0,[],[]⟩ ⟨hb,hc⟩ ⟨by intro x hx;simp at hx,by intro x hx;simp at hx⟩ w
 have HD:HoldV ⟨1,src,dst,asset,amount,id,due,hash,sec⟩ ↔ sameV ⟨1,src,dst,asset,amount,id,due,hash,sec⟩ ⟨1,src,dst,asset,amount,0,0,[],[]⟩=true:=by
  rw[sameV_iff]
  unfold HoldV
  simp only[VV.mk.injEq,true_and]
  constructor<;>(intro h;simp_all)
 obtain⟨D,hD⟩:∃ D,decide (HoldV ⟨1,src,dst,asset,amount,id,due,hash,sec⟩)=D:=⟨_,rfl⟩
 rw[hD]
 generalize sameV ⟨1,src,dst,asset,amount,id,due,hash,sec⟩ ⟨1,src,dst,asset,amount,0,0,[],[]⟩=q at *
 have KD:=Kept.mk HD;have KE:=Kept.mk hD
 clear HD hD
 unfold vqv
 dsimp only
 have B:Kept (Below w.heap.size w (w.alloc (.cells #[.int .i64 1,.int .i64 src,.int .i64 dst,.int .i64 asset,.int .i64 amount,.int .i64 id,.int .i64 due,.string (strOfNums hash),.string (strOfNums sec)] 71))):=⟨(Below.refl _ _).alloc (Nat.le_refl _) _⟩
 have X:Kept (Blk (w.alloc (.cells #[.int .i64 1,.int .i64 src,.int .i64 dst,.int .i64 asset,.int .i64 amount,.int .i64 id,.int .i64 due,.string (strOfNums hash),.string (strOfNums sec)] 71)) w.heap.size 71 #[.int .i64 1,.int .i64 src,.int .i64 dst,.int .i64 asset,.int .i64 amount,.int .i64 id,.int .i64 due,.string (strOfNums hash),.string (strOfNums sec)]):=⟨Blk.new w _ _⟩
 go_enter Tryz.func114,Tryz.ntmps114
 go_upto_region 1 with(fail)
 generalize w.alloc (.cells #[.int .i64 1,.int .i64 src,.int .i64 dst,.int .i64 asset,.int .i64 amount,.int .i64 id,.int .i64 due,.string (strOfNums hash),.string (strOfNums sec)] 71)=w1 at *
 have x0:=X.out.cell 0;have x1:=X.out.cell 1;have x2:=X.out.cell 2;have x3:=X.out.cell 3;have x4:=X.out.cell 4;have x5:=X.out.cell 5;have x6:=X.out.cell 6;have x7:=X.out.cell 7;have x8:=X.out.cell 8
 go_wp2
 go_ret
 refine⟨?_,B.out⟩
 have e:q=D:=by rw[← KE.out,Bool.eq_iff_iff,decide_eq_true_iff];exact KD.out.symm
 rw[← e]
 rfl
set_option maxRecDepth 100000 in
set_option maxHeartbeats 2000000 in
theorem vhold2  (src dst asset amount id due:Int) (hash sec:List Int) (w:World) (hb:Bytes hash) (hc:Bytes sec):Calls Tryz.prog 114 #[vqv ⟨2,src,dst,asset,amount,id,due,hash,sec⟩] w fun e w'=>e=.returned (.bool (decide (HoldV ⟨2,src,dst,asset,amount,id,due,hash,sec⟩)))∧Below w.heap.size w w':=by
 have HQ:∀ w:World,(binOp .eql 71 (.agg #[.int .i64 2,.int .i64 src,.int .i64 dst,.int .i64 asset,.int .i64 amount,.int .i64 id,.int .i64 due,.string (strOfNums hash),.string (strOfNums sec)]) (.agg #[.int .i64 2,.int .i64 src,.int .i64 dst,.int .i64 asset,.int .i64 amount,.int .i64 id,.int .i64 due,.string (strOfNums hash),.string ⟨#[]⟩])).run Tryz.prog w=.ok (.bool (sameV ⟨2,src,dst,asset,amount,id,due,hash,sec⟩ ⟨2,src,dst,asset,amount,id,due,hash,[]⟩)) w:=fun w=>ev_eql ⟨2,src,dst,asset,amount,id,due,hash,sec⟩ ⟨2,src,dst,asset,amount,id,due,hash,[]⟩ ⟨hb,hc⟩ ⟨hb,by intro x hx;simp at hx⟩ w
 have HD:HoldV ⟨2,src,dst,asset,amount,id,due,hash,sec⟩ ↔ (hash.length=32∧Tck due)∧sameV ⟨2,src,dst,asset,amount,id,due,hash,sec⟩ ⟨2,src,dst,asset,amount,id,due,hash,[]⟩=true:=by
  rw[sameV_iff]
  unfold HoldV
  simp only[VV.mk.injEq,true_and]
  constructor<;>(intro h;simp_all)
 obtain⟨D,hD⟩:∃ D,decide (HoldV ⟨2,src,dst,asset,amount,id,due,hash,sec⟩)=D:=⟨_,rfl⟩
 rw[hD]
 generalize sameV ⟨2,src,dst,asset,amount,id,due,hash,sec⟩ ⟨2,src,dst,asset,amount,id,due,hash,[]⟩=q at *
 have KD:=Kept.mk HD;have KE:=Kept.mk hD
 clear HD hD
 unfold vqv
 dsimp only
 have B:Kept (Below w.heap.size w (w.alloc (.cells #[.int .i64 2,.int .i64 src,.int .i64 dst,.int .i64 asset,.int .i64 amount,.int .i64 id,.int .i64 due,.string (strOfNums hash),.string (strOfNums sec)] 71))):=⟨(Below.refl _ _).alloc (Nat.le_refl _) _⟩
 have X:Kept (Blk (w.alloc (.cells #[.int .i64 2,.int .i64 src,.int .i64 dst,.int .i64 asset,.int .i64 amount,.int .i64 id,.int .i64 due,.string (strOfNums hash),.string (strOfNums sec)] 71)) w.heap.size 71 #[.int .i64 2,.int .i64 src,.int .i64 dst,.int .i64 asset,.int .i64 amount,.int .i64 id,.int .i64 due,.string (strOfNums hash),.string (strOfNums sec)]):=⟨Blk.new w _ _⟩
 go_enter Tryz.func114,Tryz.ntmps114
 go_upto_region 1 with(fail)
 generalize w.alloc (.cells #[.int .i64 2,.int .i64 src,.int .i64 dst,.int .i64 asset,.int .i64 amount,.int .i64 id,.int .i64 due,.string (strOfNums hash),.string (strOfNums sec)] 71)=w1 at *
 have x0:=X.out.cell 0;have x1:=X.out.cell 1;have x2:=X.out.cell 2;have x3:=X.out.cell 3;have x4:=X.out.cell 4;have x5:=X.out.cell 5;have x6:=X.out.cell 6;have x7:=X.out.cell 7;have x8:=X.out.cell 8
 go_upto_region 5 with(fail)
 have KT:=Kept.mk (fun w=>istext_any hash w)
 have KI:=Kept.mk (fun w=>tick_any due w)
 rw[ctick_iff] at KI
 by_cases h1:hash.length=32
 ·rw[decide_eq_true h1] at KT
  by_cases h2:Tck due
  ·rw[decide_eq_true h2] at KI
   go_wp2_with (first|(go_at_call 135;refine(KT.out _).mono ?_;rintro x w' ⟨rfl,rfl⟩)|(go_at_call 69;refine(KI.out _).mono ?_;rintro x w' ⟨rfl,rfl⟩))
   go_ret
   refine⟨?_,B.out⟩
   have e:q=D:=by rw[← KE.out,Bool.eq_iff_iff,decide_eq_true_iff];exact⟨fun h=>KD.out.2 ⟨⟨h1,h2⟩,h⟩,fun h=>(KD.out.1 h).2⟩
   rw[← e]
   rfl
  ·rw[decide_eq_false h2] at KI
   go_wp2_with (first|(go_at_call 135;refine(KT.out _).mono ?_;rintro x w' ⟨rfl,rfl⟩)|(go_at_call 69;refine(KI.out _).mono ?_;rintro x w' ⟨rfl,rfl⟩))
   go_ret
   refine⟨?_,B.out⟩
   have e:false=D:=by rw[← KE.out];exact(decide_eq_false (fun h=>h2 (KD.out.1 h).1.2)).symm
   rw[← e]
   rfl
 ·rw[decide_eq_false h1] at KT
  go_wp2_with (first|(go_at_call 135;refine(KT.out _).mono ?_;rintro x w' ⟨rfl,rfl⟩)|(go_at_call 69;refine(KI.out _).mono ?_;rintro x w' ⟨rfl,rfl⟩))
  go_ret
  refine⟨?_,B.out⟩
  have e:false=D:=by rw[← KE.out];exact(decide_eq_false (fun h=>h1 (KD.out.1 h).1.1)).symm
  rw[← e]
  rfl
set_option maxRecDepth 100000 in
set_option maxHeartbeats 2000000 in
theorem vhold3  (src dst asset amount id due:Int) (hash sec:List Int) (w:World) (hb:Bytes hash) (hc:Bytes sec):Calls Tryz.prog 114 #[vqv ⟨3,src,dst,asset,amount,id,due,hash,sec⟩] w fun e w'=>e=.returned (.bool (decide (HoldV ⟨3,src,dst,asset,amount,id,due,hash,sec⟩)))∧Below w.heap.size w w':=by
 have HQ:∀ w:World,(binOp .eql 71 (.agg #[.int .i64 3,.int .i64 src,.int .i64 dst,.int .i64 asset,.int .i64 amount,.int .i64 id,.int .i64 due,.string (strOfNums hash),.string (strOfNums sec)]) (.agg #[.int .i64 3,.int .i64 0,.int .i64 0,.int .i64 0,.int .i64 0,.int .i64 id,.int .i64 0,.string ⟨#[]⟩,.string (strOfNums sec)])).run Tryz.prog w=.ok (.bool (sameV ⟨3,src,dst,asset,amount,id,due,hash,sec⟩ ⟨3,0,0,0,0,id,0,[],sec⟩)) w:=fun w=>ev_eql ⟨3,src,dst,asset,amount,id,due,hash,sec⟩ ⟨3,0,0,0,0,id,0,[],sec⟩ ⟨hb,hc⟩ ⟨by intro x hx;simp at hx,hc⟩ w
 have HD:HoldV ⟨3,src,dst,asset,amount,id,due,hash,sec⟩ ↔ sec.length=32∧sameV ⟨3,src,dst,asset,amount,id,due,hash,sec⟩ ⟨3,0,0,0,0,id,0,[],sec⟩=true:=by
  rw[sameV_iff]
  unfold HoldV
  simp only[VV.mk.injEq,true_and]
  constructor<;>(intro h;simp_all)
 obtain⟨D,hD⟩:∃ D,decide (HoldV ⟨3,src,dst,asset,amount,id,due,hash,sec⟩)=D:=⟨_,rfl⟩
 rw[hD]
 generalize sameV ⟨3,src,dst,asset,amount,id,due,hash,sec⟩ ⟨3,0,0,0,0,id,0,[],sec⟩=q at *
 have KD:=Kept.mk HD;have KE:=Kept.mk hD
 clear HD hD
 unfold vqv
 dsimp only
 have B:Kept (Below w.heap.size w (w.alloc (.cells #[.int .i64 3,.int .i64 src,.int .i64 dst,.int .i64 asset,.int .i64 amount,.int .i64 id,.int .i64 due,.string (strOfNums hash),.string (strOfNums sec)] 71))):=⟨(Below.refl _ _).alloc (Nat.le_refl _) _⟩
 have X:Kept (Blk (w.alloc (.cells #[.int .i64 3,.int .i64 src,.int .i64 dst,.int .i64 asset,.int .i64 amount,.int .i64 id,.int .i64 due,.string (strOfNums hash),.string (strOfNums sec)] 71)) w.heap.size 71 #[.int .i64 3,.int .i64 src,.int .i64 dst,.int .i64 asset,.int .i64 amount,.int .i64 id,.int .i64 due,.string (strOfNums hash),.string (strOfNums sec)]):=⟨Blk.new w _ _⟩
 go_enter Tryz.func114,Tryz.ntmps114
 go_upto_region 1 with(fail)
 generalize w.alloc (.cells #[.int .i64 3,.int .i64 src,.int .i64 dst,.int .i64 asset,.int .i64 amount,.int .i64 id,.int .i64 due,.string (strOfNums hash),.string (strOfNums sec)] 71)=w1 at *
 have x0:=X.out.cell 0;have x1:=X.out.cell 1;have x2:=X.out.cell 2;have x3:=X.out.cell 3;have x4:=X.out.cell 4;have x5:=X.out.cell 5;have x6:=X.out.cell 6;have x7:=X.out.cell 7;have x8:=X.out.cell 8
 go_upto_region 7 with(fail)
 have KT:=Kept.mk (fun w=>istext_any sec w)
 by_cases h1:sec.length=32
 ·rw[decide_eq_true h1] at KT
  go_wp2_with (first|(go_at_call 135;refine(KT.out _).mono ?_;rintro x w' ⟨rfl,rfl⟩))
  go_ret
  refine⟨?_,B.out⟩
  have e:q=D:=by rw[← KE.out,Bool.eq_iff_iff,decide_eq_true_iff];exact⟨fun h=>KD.out.2 ⟨h1,h⟩,fun h=>(KD.out.1 h).2⟩
  rw[← e]
  rfl
 ·rw[decide_eq_false h1] at KT
  go_wp2_with (first|(go_at_call 135;refine(KT.out _).mono ?_;rintro x w' ⟨rfl,rfl⟩))
  go_ret
  refine⟨?_,B.out⟩
  have e:false=D:=by rw[← KE.out];exact(decide_eq_false (fun h=>h1 (KD.out.1 h).1)).symm
  rw[← e]
  rfl
set_option maxRecDepth 100000 in
set_option maxHeartbeats 2000000 in
theorem vhold4  (src dst asset amount id due:Int) (hash sec:List Int) (w:World) (hb:Bytes hash) (hc:Bytes sec):Calls Tryz.prog 114 #[vqv ⟨4,src,dst,asset,amount,id,due,hash,sec⟩] w fun e w'=>e=.returned (.bool (decide (HoldV ⟨4,src,dst,asset,amount,id,due,hash,sec⟩)))∧Below w.heap.size w w':=by
 have HQ:∀ w:World,(binOp .eql 71 (.agg #[.int .i64 4,.int .i64 src,.int .i64 dst,.int .i64 asset,.int .i64 amount,.int .i64 id,.int .i64 due,.string (strOfNums hash),.string (strOfNums sec)]) (.agg #[.int .i64 4,.int .i64 0,.int .i64 0,.int .i64 0,.int .i64 0,.int .i64 id,.int .i64 0,.string ⟨#[]⟩,.string ⟨#[]⟩])).run Tryz.prog w=.ok (.bool (sameV ⟨4,src,dst,asset,amount,id,due,hash,sec⟩ ⟨4,0,0,0,0,id,0,[],[]⟩)) w:=fun w=>ev_eql ⟨4,src,dst,asset,amount,id,due,hash,sec⟩ ⟨4,0,0,0,0,id,0,[],[]⟩ ⟨hb,hc⟩ ⟨by intro x hx;simp at hx,by intro x hx;simp at hx⟩ w
 have HD:HoldV ⟨4,src,dst,asset,amount,id,due,hash,sec⟩ ↔ sameV ⟨4,src,dst,asset,amount,id,due,hash,sec⟩ ⟨4,0,0,0,0,id,0,[],[]⟩=true:=by
  rw[sameV_iff]
  unfold HoldV
  simp only[VV.mk.injEq,true_and]
  constructor<;>(intro h;simp_all)
 obtain⟨D,hD⟩:∃ D,decide (HoldV ⟨4,src,dst,asset,amount,id,due,hash,sec⟩)=D:=⟨_,rfl⟩
 rw[hD]
 generalize sameV ⟨4,src,dst,asset,amount,id,due,hash,sec⟩ ⟨4,0,0,0,0,id,0,[],[]⟩=q at *
 have KD:=Kept.mk HD;have KE:=Kept.mk hD
 clear HD hD
 unfold vqv
 dsimp only
 have B:Kept (Below w.heap.size w (w.alloc (.cells #[.int .i64 4,.int .i64 src,.int .i64 dst,.int .i64 asset,.int .i64 amount,.int .i64 id,.int .i64 due,.string (strOfNums hash),.string (strOfNums sec)] 71))):=⟨(Below.refl _ _).alloc (Nat.le_refl _) _⟩
 have X:Kept (Blk (w.alloc (.cells #[.int .i64 4,.int .i64 src,.int .i64 dst,.int .i64 asset,.int .i64 amount,.int .i64 id,.int .i64 due,.string (strOfNums hash),.string (strOfNums sec)] 71)) w.heap.size 71 #[.int .i64 4,.int .i64 src,.int .i64 dst,.int .i64 asset,.int .i64 amount,.int .i64 id,.int .i64 due,.string (strOfNums hash),.string (strOfNums sec)]):=⟨Blk.new w _ _⟩
 go_enter Tryz.func114,Tryz.ntmps114
 go_upto_region 1 with(fail)
 generalize w.alloc (.cells #[.int .i64 4,.int .i64 src,.int .i64 dst,.int .i64 asset,.int .i64 amount,.int .i64 id,.int .i64 due,.string (strOfNums hash),.string (strOfNums sec)] 71)=w1 at *
 have x0:=X.out.cell 0;have x1:=X.out.cell 1;have x2:=X.out.cell 2;have x3:=X.out.cell 3;have x4:=X.out.cell 4;have x5:=X.out.cell 5;have x6:=X.out.cell 6;have x7:=X.out.cell 7;have x8:=X.out.cell 8
 go_wp2
 go_ret
 refine⟨?_,B.out⟩
 have e:q=D:=by rw[← KE.out,Bool.eq_iff_iff,decide_eq_true_iff];exact KD.out.symm
 rw[← e]
 rfl
set_option maxRecDepth 100000 in
set_option maxHeartbeats 2000000 in
theorem vhold5 (kind:Int) (k1:kind≠1) (k2:kind≠2) (k3:kind≠3) (k4:kind≠4) (src dst asset amount id due:Int) (hash sec:List Int) (w:World):Calls Tryz.prog 114 #[vqv ⟨kind,src,dst,asset,amount,id,due,hash,sec⟩] w fun e w'=>e=.returned (.bool (decide (HoldV ⟨kind,src,dst,asset,amount,id,due,hash,sec⟩)))∧Below w.heap.size w w':=by
 have KD:Kept (decide (HoldV ⟨kind,src,dst,asset,amount,id,due,hash,sec⟩)=false):=⟨decide_eq_false (by
  rintro (h|h|h|h)
  ·exact k1 h.1
  ·exact k2 h.1
  ·exact k3 h.1
  ·exact k4 h.1
  )⟩
 rw[KD.out]
 have d1:(kind == 1)=false:=beq_eq_false_iff_ne.2 k1
 have d2:(kind == 2)=false:=beq_eq_false_iff_ne.2 k2
 have d3:(kind == 3)=false:=beq_eq_false_iff_ne.2 k3
 have d4:(kind == 4)=false:=beq_eq_false_iff_ne.2 k4
 unfold vqv
 dsimp only
 have B:Kept (Below w.heap.size w (w.alloc (.cells #[.int .i64 kind,.int .i64 src,.int .i64 dst,.int .i64 asset,.int .i64 amount,.int .i64 id,.int .i64 due,.string (strOfNums hash),.string (strOfNums sec)] 71))):=⟨(Below.refl _ _).alloc (Nat.le_refl _) _⟩
 have X:Kept (Blk (w.alloc (.cells #[.int .i64 kind,.int .i64 src,.int .i64 dst,.int .i64 asset,.int .i64 amount,.int .i64 id,.int .i64 due,.string (strOfNums hash),.string (strOfNums sec)] 71)) w.heap.size 71 #[.int .i64 kind,.int .i64 src,.int .i64 dst,.int .i64 asset,.int .i64 amount,.int .i64 id,.int .i64 due,.string (strOfNums hash),.string (strOfNums sec)]):=⟨Blk.new w _ _⟩
 go_enter Tryz.func114,Tryz.ntmps114
 go_upto_region 1 with(fail)
 generalize w.alloc (.cells #[.int .i64 kind,.int .i64 src,.int .i64 dst,.int .i64 asset,.int .i64 amount,.int .i64 id,.int .i64 due,.string (strOfNums hash),.string (strOfNums sec)] 71)=w1 at *
 have x0:=X.out.cell 0;have x1:=X.out.cell 1;have x2:=X.out.cell 2;have x3:=X.out.cell 3;have x4:=X.out.cell 4;have x5:=X.out.cell 5;have x6:=X.out.cell 6;have x7:=X.out.cell 7;have x8:=X.out.cell 8
 go_wp2
 go_ret
 exact⟨rfl,B.out⟩
theorem holdV_any (r:VV) (hr:r.ok) (w:World):Calls Tryz.prog 114 #[vqv r] w fun e w'=>e=.returned (.bool (decide (HoldV r)))∧Below w.heap.size w w':=by
 obtain⟨kind,src,dst,asset,amount,id,due,hash,sec⟩:=r
 obtain⟨hb,hc⟩:=hr
 by_cases k1:kind=1
 ·subst k1;exact vhold1 src dst asset amount id due hash sec w hb hc
 by_cases k2:kind=2
 ·subst k2;exact vhold2 src dst asset amount id due hash sec w hb hc
 by_cases k3:kind=3
 ·subst k3;exact vhold3 src dst asset amount id due hash sec w hb hc
 by_cases k4:kind=4
 ·subst k4;exact vhold4 src dst asset amount id due hash sec w hb hc
 exact vhold5 kind k1 k2 k3 k4 src dst asset amount id due hash sec w
end Go.Proofs.YtchcgoabogcabaaGreat.Req
namespace Go.Proofs.YtchcgoabogcabaaGreat.Sha
open Go.RowKit
theorem to_bytes2 (w:World) (xs:List Int) (hb:Bytes xs) (hl:xs.length≤9223372036854775807):∃ w' c,(convert 9 26 (.string (strOfNums xs))).run Tryz.prog w=.ok (.slice (some ⟨w.heap.size,0,none⟩) xs.length c) w'∧xs.length≤c∧c≤9223372036854775807∧Rd w' (some ⟨w.heap.size,0,none⟩) xs.length xs∧Below w.heap.size w w':=by
 have h:=Lib.run_convert_string_bytes (P:=Tryz.prog) w _ _ 5 (strOfNums xs) Tryz.underlying9 Tryz.underlying26 Tryz.underlying5
 rw[strOfNums_size] at h
 refine⟨_,_,h,grownCap_ge _ _ _ _,grownCap_le_maxLen _ _ _ _ hl,⟨rfl,hb,.inr ⟨w.heap.size,0,rfl,fun i hi=>?_⟩⟩,?_⟩
 ·rw[Nat.zero_add,Lib.bytesWorld_cell w _ _ i (by rw[strOfNums_size];exact hi),str_at xs hb i hi]
 ·refine⟨?_,?_,?_,by rw[Lib.bytesWorld_size];omega,fun k hk=>Lib.bytesWorld_at_old w _ _ k hk⟩
  all_goals simp[Lib.bytesWorld,World.freeze,World.alloc,World.drew,-World.alloc_eq,-World.drew_eq]
end Go.Proofs.YtchcgoabogcabaaGreat.Sha
