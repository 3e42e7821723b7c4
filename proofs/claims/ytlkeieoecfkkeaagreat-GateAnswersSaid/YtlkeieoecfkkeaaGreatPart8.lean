/-
  Parts laid together: ToBytes EscrowMem EscrowPost ReqMem EscrowPc RcSlice ReqCHold ToBytes2 EscrowRef LedgerRMem.
-/
import Derived.Test.YtlkeieoecfkkeaaGreatPart7
import Derived.Lib.ConvBytes
import Derived.Test.YtlkeieoecfkkeaaGreatPart3
import Derived.Test.YtlkeieoecfkkeaaGreatPart6
import Derived.Test.YtlkeieoecfkkeaaGreatPart2
import Derived.Test.YtlkeieoecfkkeaaGreatPart5
import Derived.Deep.QuietTactic
import Derived.BigQuiet
import Derived.Laws.AppendOwn
set_option maxRecDepth 100000
set_option maxHeartbeats 2000000
namespace Go.Proofs.YtlkeieoecfkkeaaGreat
namespace Sha
open Go.RowKit
theorem Xw (xs:List Int) (hb:Bytes xs) (j:Nat) (hj:j < xs.length):(((strOfNums xs).data.toList.getD j 0).toNat:Int)=at_ xs j:=by
 have hx:=hb xs[j] (List.getElem_mem hj)
 rw[strOfNums_data]
 simp only[List.getD_eq_getElem?_getD,List.getElem?_map,List.getElem?_eq_getElem hj,Option.map_some,Option.getD_some,at_]
 simp only[UInt8.toNat_ofNat']
 omega
theorem Ry (w:World) (xs:List Int) (hb:Bytes xs):∃ w' c,(convert 9 22 (.string (strOfNums xs))).run Tryz.prog w=.ok (.slice (some ⟨w.heap.size,0,none⟩) xs.length c) w'∧Rd w' (some ⟨w.heap.size,0,none⟩) xs.length xs∧Below w.heap.size w w':=by
 have h:=Lib.run_convert_string_bytes (P:=Tryz.prog) w _ _ 5 (strOfNums xs) Tryz.underlying9 Tryz.underlying22 Tryz.underlying5
 rw[strOfNums_size] at h
 refine⟨_,_,h,⟨rfl,hb,.inr ⟨w.heap.size,0,rfl,fun i hi=>?_⟩⟩,?_⟩
 ·rw[Nat.zero_add,Lib.bytesWorld_cell w _ _ i (by rw[strOfNums_size];exact hi),Xw xs hb i hi]
 ·refine⟨?_,?_,?_,by rw[Lib.bytesWorld_size];omega,fun k hk=>Lib.bytesWorld_at_old w _ _ k hk⟩
  all_goals simp[Lib.bytesWorld,World.freeze,World.alloc,World.drew,-World.alloc_eq,-World.drew_eq]
end Sha
namespace Escrow
open Go.RowKit Sha Purse
def evC (e:EV):List Value:=[.int .i64 e.src,.int .i64 e.dst,.int .i64 e.asset,.int .i64 e.amount,.int .i64 e.due,.int .i64 e.state,.string (strOfNums e.hash),.string (strOfNums e.secret)]
theorem nO (e:EV):(evC e).length=8:=rfl
def evF (l:List EV):List Value:=l.flatMap evC
theorem Tu:∀ (l:List EV) (k j:Nat),k < l.length→j < 8→(evF l)[k * 8+j]?=(evC (atE l k))[j]?
  | e :: l,0,j,_,hj=>by
    show (evC e++evF l)[0 * 8+j]?=(evC e)[j]?
    rw[List.getElem?_append_left (by rw[nO];omega)]
    simp
  | e :: l,k+1,j,hk,hj=>by
    show (evC e++evF l)[(k+1) * 8+j]?=_
    rw[List.getElem?_append_right (by rw[nO];omega),nO,show (k+1) * 8+j - 8=k * 8+j by omega,Tu l k j (by simpa using hk) hj]
    rfl
theorem Oj:∀ (l:List EV) (k j:Nat) (u:Value) (x:EV),k < l.length→j < 8→evC x=(evC (atE l k)).set j u→(evF l).set (k * 8+j) u=evF (l.set k x)
  | e :: l,0,j,u,x,_,hj,hx=>by
    show (evC e++evF l).set (0 * 8+j) u=evC x++evF l
    rw[List.set_append_left _ _ (by rw[nO];omega),hx]
    simp[atE]
  | e :: l,k+1,j,u,x,hk,hj,hx=>by
    show (evC e++evF l).set ((k+1) * 8+j) u=evC e++evF (l.set k x)
    rw[List.set_append_right _ _ (by rw[nO];omega),nO,show (k+1) * 8+j - 8=k * 8+j by omega,Oj l k j u x (by simpa using hk) hj hx]
def El (w:World) (v:Value) (l:List EV):Prop:=w.ownsRow 0 253 8 v l.length (evF l)
section
variable {w w' : World} {v : Value} {l : List EV}
theorem El.keep {G:List Nat}(h:El w v l) (b:Bar G w w') (hd:∀ g∈v.ownBlock.toList,g∉G):El w' v l:=own_keep h b hd
theorem El.lt (h:El w v l):∀ g∈v.ownBlock.toList,g < w.heap.size:=NY h
theorem El.nil (w:World):El w (.slice none 0 0) []:=World.ownsRow_nil _ _ _ _
theorem El.shape (h:El w v l):∃ A c,v=.slice A l.length c∧l.length≤c∧c≤9223372036854775807:=by
 rcases h.2 with⟨hv,hx⟩|⟨g,c,cur,hv,-,-,h1,h2,-⟩
 ·exact⟨none,0,by rw[hv,hx],by omega,by omega⟩
 ·exact⟨_,c,hv,h1,by unfold maxLen at h2;omega⟩
theorem El.at_ (h:El w v l) {k:Nat}(hk:k < l.length):∃ g c,v=.slice (some ⟨g,0,none⟩) l.length c∧l.length≤c∧c≤9223372036854775807∧(∀ j,w.frozen? ⟨g,j,none⟩=false)∧∀ j u,j < 8→(evC (atE l k))[j]?=some u→w.cell? ⟨g,k * 8+j,none⟩=some u:=by
 have h0:=h
 rcases h.2 with⟨hv,hx⟩|⟨g,c,cur,hv,-,hb,h1,h2,-⟩
 ·omega
 ·unfold El at h0
  rw[hv] at h0
  refine⟨g,c,hv,h1,by unfold maxLen at h2;omega,fun j=>World.ownsRow.frozenAt h0 j,fun j u hj hu=>?_⟩
  rw[World.ownsRow.cellAt h0 (k * 8+j) (by omega),Tu l k j hk hj,hu]
theorem El.cells (h:El w v l) {k:Nat}(hk:k < l.length):∃ g c,v=.slice (some ⟨g,0,none⟩) l.length c∧l.length≤c∧c≤9223372036854775807∧(∀ j,w.frozen? ⟨g,j,none⟩=false) ∧
  w.cell? ⟨g,k * 8,none⟩=some (.int .i64 (atE l k).src)∧w.cell? ⟨g,k * 8+1,none⟩=some (.int .i64 (atE l k).dst)∧w.cell? ⟨g,k * 8+2,none⟩=some (.int .i64 (atE l k).asset)∧w.cell? ⟨g,k * 8+3,none⟩=some (.int .i64 (atE l k).amount) ∧
  w.cell? ⟨g,k * 8+4,none⟩=some (.int .i64 (atE l k).due)∧w.cell? ⟨g,k * 8+5,none⟩=some (.int .i64 (atE l k).state)∧w.cell? ⟨g,k * 8+6,none⟩=some (.string (strOfNums (atE l k).hash))∧w.cell? ⟨g,k * 8+7,none⟩=some (.string (strOfNums (atE l k).secret)):=by
 obtain⟨g,c,h1,h2,h3,h4,h5⟩:=h.at_ hk
 exact⟨g,c,h1,h2,h3,h4,h5 0 _ (by omega) rfl,h5 1 _ (by omega) rfl,h5 2 _ (by omega) rfl,h5 3 _ (by omega) rfl,h5 4 _ (by omega) rfl,h5 5 _ (by omega) rfl,h5 6 _ (by omega) rfl,h5 7 _ (by omega) rfl⟩
theorem El.set {g c:Nat}(h:El w (.slice (some ⟨g,0,none⟩) l.length c) l) {k j:Nat}(hk:k < l.length) (hj:j < 8) {u:Value}{x:EV}(hx:evC x=(evC (atE l k)).set j u):El (w.setCell ⟨g,k * 8+j,none⟩ u) (.slice (some ⟨g,0,none⟩) (l.set k x).length c) (l.set k x):=by
 have h1:=(World.ownsRow.stored h (k * 8+j) u).1
 rw[Oj l k j u x hk hj hx] at h1
 rw[List.length_set]
 unfold El
 rw[List.length_set]
 exact h1
end
end Escrow
namespace Escrow
open Go.RowKit Sha Purse Num
def evV (e:EV):Value:=.agg #[.int .i64 e.src,.int .i64 e.dst,.int .i64 e.asset,.int .i64 e.amount,.int .i64 e.due,.int .i64 e.state,.string (strOfNums e.hash),.string (strOfNums e.secret)]
def GetPost (r:EV × Bool) (w:World) (e:Ending) (w':World):Prop:=e=.returned (.tuple #[evV r.1,.bool r.2])∧Below w.heap.size w w'
def nP (v:Value) (w:World) (e:Ending) (w':World):Prop:=e=.returned v∧Below w.heap.size w w'
end Escrow
namespace Req
open Go.RowKit Sha Wire
def rvC (r:RV):List Value:=[.int .i64 r.kind,.int .i64 r.dst,.int .i64 r.asset,.int .i64 r.amount,.int .i64 r.id,.int .i64 r.due,.string (strOfNums r.hash),.string (strOfNums r.sec)]
def vvC (r:VV):List Value:=[.int .i64 r.kind,.int .i64 r.src,.int .i64 r.dst,.int .i64 r.asset,.int .i64 r.amount,.int .i64 r.id,.int .i64 r.due,.string (strOfNums r.hash),.string (strOfNums r.sec)]
def pvC (r:PV):List Value:=[.int .i64 r.code,.int .i64 r.id]
def rqv (r:RV):Value:=.agg #[.int .i64 r.kind,.int .i64 r.dst,.int .i64 r.asset,.int .i64 r.amount,.int .i64 r.id,.int .i64 r.due,.string (strOfNums r.hash),.string (strOfNums r.sec)]
def pqv (r:PV):Value:=.agg #[.int .i64 r.code,.int .i64 r.id]
theorem Ol (r:VV):∀ v∈vvC r,v.oneCell'=true:=by
 intro v hv
 simp only[vvC,List.mem_cons,List.not_mem_nil,or_false] at hv
 rcases hv with rfl|rfl|rfl|rfl|rfl|rfl|rfl|rfl|rfl<;>rfl
theorem VC (r:PV):∀ v∈pvC r,v.oneCell'=true:=by
 intro v hv
 simp only[pvC,List.mem_cons,List.not_mem_nil,or_false] at hv
 rcases hv with rfl|rfl<;>rfl
abbrev Rr:=Rc rvC 8
abbrev Rv:=Rc vvC 9
abbrev Rp:=Rc pvC 2
theorem str_eq {xs ys:List Int}(hx:Bytes xs) (hy:Bytes ys):((strOfNums xs).toList=(strOfNums ys).toList)=(xs=ys):=propext ⟨lT hx hy,fun h=>by rw[h]⟩
theorem xm (a b:RV) (ha:a.ok) (hb:b.ok) (w:World):(binOp .eql 164 (rqv a) (rqv b)).run Tryz.prog w=.ok (.bool (sameR a b)) w:=by
 unfold rqv
 rw[run_eql_struct,run_equalIn_agg w _ _ _ _ (by kernel_rfl) (by kernel_rfl)]
 go_simp
 simp only[str_eq ha.1 hb.1,str_eq ha.2 hb.2]
 unfold sameR sameB
 repeat' split
 all_goals simp[*]
end Req
namespace Escrow
open Go.RowKit Sha Purse Num
theorem Xx {w:World}{F:List Nat}{p:Nat}{s:PS}(h:Pc w F p s):∀ k∈F,k < w.heap.size:=h.2.lts
theorem Dt {w w':World}{F G:List Nat}{p:Nat}{s:PS}(h:Pc w F p s) (b:Bar G w w') (j:Disj F G):Pc w' F p s:=⟨h.1,h.2.keep b j⟩
end Escrow
namespace Req
open Go.RowKit Sha
theorem FI:(Tryz.prog.info? 156).map (fun i=>(i.zero,i.size,i.bytes))=some (some (.agg #[.int .i64 0,.int .i64 0,.int .i64 0,.int .i64 0,.int .i64 0,.int .i64 0,.int .i64 0,.string ⟨#[]⟩,.string ⟨#[]⟩]),9,88):=by kernel_rfl
theorem FK:Tryz.prog.elem 66=156:=by kernel_rfl
theorem VD:Tryz.prog.underlying 66=some (.slice (Tryz.prog.elem 66)):=by rw[FK];exact Tryz.underlying66
theorem Rz (w:World):(sizeOf (Tryz.prog.elem 66)).run Tryz.prog w=.ok 9 w:=by
 obtain⟨iu,hi,_,hz1,_⟩:=info_parts FI
 rw[FK]
 simp[sizeOf,typeInfo,hi,hz1]
theorem Yb (A:Option Addr) (n c l:Nat) (h:l≤n) (hc:n≤c) (li:Int) (e1:li=l) :
  ∃ A',(∀ w',(Instr.slice 66 (.slice A n c) (some (.int .i64 li)) none none).run Tryz.prog w'=.ok (.slice A' (n - l) (c - l)) w')∧∀ w xs,Rv w A n xs→Rv w A' (n - l) (xs.drop l):=by
 subst e1
 refine⟨if c=l then A else A.map (·.add (l * 9)),fun w'=>?_,fun w xs r=>?_⟩
 ·rw[run_slice_l w' 66 A n c VD .i64 l (by omega) (by omega),Rz]
  rfl
 ·refine⟨by rw[List.length_drop,r.1],?_⟩
  rcases r.2 with h0|⟨b,o,rfl,hx⟩
  ·exact .inl (by omega)
  ·by_cases hcl:c=l
   ·exact .inl (by omega)
   ·rw[if_neg hcl]
    refine .inr ⟨b,o+l * 9,?_,fun k x hk j v hv=>?_⟩
    ·have ea:(⟨b,o,none⟩:Addr).add (l * 9)=⟨b,o+l * 9,none⟩:=by cases l<;>simp[Addr.add]
     simp only[Option.map_some,ea]
    ·rw[List.getElem?_drop] at hk
     have:=hx (l+k) x hk j v hv
     rw[show o+l * 9+k * 9+j=o+(l+k) * 9+j by omega]
     exact this
end Req
namespace Req
open Go.RowKit Sha Wire Num
theorem VE {xs:List Int}:(strOfNums xs).size=xs.length:=by
 simp[strOfNums,ByteArray.size]
theorem uF (xs:List Int) (w:World):Calls Tryz.prog 206 #[.string (strOfNums xs)] w fun e w'=>e=.returned (.bool (decide (xs.length=32)))∧w=w':=by
 have hs:=VE (xs:=xs)
 have hd:ae (((xs.length:Int) == 32)=decide (xs.length=32)):=⟨by
  by_cases h:xs.length=32
  ·rw[h];rfl
  ·rw[decide_eq_false h];exact beq_eq_false_iff_ne.2 (by omega)⟩
 generalize xs.length=n at *
 go_enter Tryz.func206,Tryz.ntmps206
 go_wp2
 go_ret
 exact⟨by rw[← hd.out];rfl,rfl⟩
theorem Af (n:Int):tickB n=decide (Tck n):=by
 unfold tickB Tck;rfl
theorem Yc  (dst asset amount id due:Int) (hash sec:List Int) (w:World) (hb:Bytes hash) (hc:Bytes sec):Calls Tryz.prog 170 #[rqv ⟨1,dst,asset,amount,id,due,hash,sec⟩] w fun e w'=>e=.returned (.bool (decide (HoldR ⟨1,dst,asset,amount,id,due,hash,sec⟩)))∧Below w.heap.size w w':=by
 have HQ:∀ w:World,(binOp .eql 164 (.agg #[.int .i64 1,.int .i64 dst,.int .i64 asset,.int .i64 amount,.int .i64 id,.int .i64 due,.string (strOfNums hash),.string (strOfNums sec)]) (.agg #[.int .i64 1,.int .i64 dst,.int .i64 asset,.int .i64 amount,.int .i64 0,.int .i64 0,.string ⟨#[]⟩,.string ⟨#[]⟩])).run Tryz.prog w=.ok (.bool (sameR ⟨1,dst,asset,amount,id,due,hash,sec⟩ ⟨1,dst,asset,amount,0,0,[],[]⟩)) w:=fun w=>xm ⟨1,dst,asset,amount,id,due,hash,sec⟩ ⟨1,dst,asset,amount,0,0,[],[]⟩ ⟨hb,hc⟩ ⟨by intro x hx;simp at hx,by intro x hx;simp at hx⟩ w
 have HD:HoldR ⟨1,dst,asset,amount,id,due,hash,sec⟩ ↔ sameR ⟨1,dst,asset,amount,id,due,hash,sec⟩ ⟨1,dst,asset,amount,0,0,[],[]⟩=true:=by
  rw[kS]
  unfold HoldR
  simp only[RV.mk.injEq,true_and]
  constructor<;>(intro h;simp_all)
 obtain⟨D,hD⟩:∃ D,decide (HoldR ⟨1,dst,asset,amount,id,due,hash,sec⟩)=D:=⟨_,rfl⟩
 rw[hD]
 generalize sameR ⟨1,dst,asset,amount,id,due,hash,sec⟩ ⟨1,dst,asset,amount,0,0,[],[]⟩=q at *
 have KD:=ae.mk HD;have KE:=ae.mk hD
 clear HD hD
 unfold rqv
 dsimp only
 have B:ae (Below w.heap.size w (w.alloc (.cells #[.int .i64 1,.int .i64 dst,.int .i64 asset,.int .i64 amount,.int .i64 id,.int .i64 due,.string (strOfNums hash),.string (strOfNums sec)] 164))):=⟨(Below.refl _ _).alloc (Nat.le_refl _) _⟩
 have X:ae (Blk (w.alloc (.cells #[.int .i64 1,.int .i64 dst,.int .i64 asset,.int .i64 amount,.int .i64 id,.int .i64 due,.string (strOfNums hash),.string (strOfNums sec)] 164)) w.heap.size 164 #[.int .i64 1,.int .i64 dst,.int .i64 asset,.int .i64 amount,.int .i64 id,.int .i64 due,.string (strOfNums hash),.string (strOfNums sec)]):=⟨Blk.new w _ _⟩
 go_enter Tryz.func170,Tryz.ntmps170
 go_upto_region 1 with(fail)
 generalize w.alloc (.cells #[.int .i64 1,.int .i64 dst,.int .i64 asset,.int .i64 amount,.int .i64 id,.int .i64 due,.string (strOfNums hash),.string (strOfNums sec)] 164)=w1 at *
 have x0:=X.out.cell 0;have x1:=X.out.cell 1;have x2:=X.out.cell 2;have x3:=X.out.cell 3;have x4:=X.out.cell 4;have x5:=X.out.cell 5;have x6:=X.out.cell 6;have x7:=X.out.cell 7
 go_wp2
 go_ret
 refine⟨?_,B.out⟩
 have e:q=D:=by rw[← KE.out,Bool.eq_iff_iff,decide_eq_true_iff];exact KD.out.symm
 rw[← e]
 rfl
theorem Yd  (dst asset amount id due:Int) (hash sec:List Int) (w:World) (hb:Bytes hash) (hc:Bytes sec):Calls Tryz.prog 170 #[rqv ⟨2,dst,asset,amount,id,due,hash,sec⟩] w fun e w'=>e=.returned (.bool (decide (HoldR ⟨2,dst,asset,amount,id,due,hash,sec⟩)))∧Below w.heap.size w w':=by
 have HQ:∀ w:World,(binOp .eql 164 (.agg #[.int .i64 2,.int .i64 dst,.int .i64 asset,.int .i64 amount,.int .i64 id,.int .i64 due,.string (strOfNums hash),.string (strOfNums sec)]) (.agg #[.int .i64 2,.int .i64 dst,.int .i64 asset,.int .i64 amount,.int .i64 0,.int .i64 due,.string (strOfNums hash),.string ⟨#[]⟩])).run Tryz.prog w=.ok (.bool (sameR ⟨2,dst,asset,amount,id,due,hash,sec⟩ ⟨2,dst,asset,amount,0,due,hash,[]⟩)) w:=fun w=>xm ⟨2,dst,asset,amount,id,due,hash,sec⟩ ⟨2,dst,asset,amount,0,due,hash,[]⟩ ⟨hb,hc⟩ ⟨hb,by intro x hx;simp at hx⟩ w
 have HD:HoldR ⟨2,dst,asset,amount,id,due,hash,sec⟩ ↔ (hash.length=32∧Tck due)∧sameR ⟨2,dst,asset,amount,id,due,hash,sec⟩ ⟨2,dst,asset,amount,0,due,hash,[]⟩=true:=by
  rw[kS]
  unfold HoldR
  simp only[RV.mk.injEq,true_and]
  constructor<;>(intro h;simp_all)
 obtain⟨D,hD⟩:∃ D,decide (HoldR ⟨2,dst,asset,amount,id,due,hash,sec⟩)=D:=⟨_,rfl⟩
 rw[hD]
 generalize sameR ⟨2,dst,asset,amount,id,due,hash,sec⟩ ⟨2,dst,asset,amount,0,due,hash,[]⟩=q at *
 have KD:=ae.mk HD;have KE:=ae.mk hD
 clear HD hD
 unfold rqv
 dsimp only
 have B:ae (Below w.heap.size w (w.alloc (.cells #[.int .i64 2,.int .i64 dst,.int .i64 asset,.int .i64 amount,.int .i64 id,.int .i64 due,.string (strOfNums hash),.string (strOfNums sec)] 164))):=⟨(Below.refl _ _).alloc (Nat.le_refl _) _⟩
 have X:ae (Blk (w.alloc (.cells #[.int .i64 2,.int .i64 dst,.int .i64 asset,.int .i64 amount,.int .i64 id,.int .i64 due,.string (strOfNums hash),.string (strOfNums sec)] 164)) w.heap.size 164 #[.int .i64 2,.int .i64 dst,.int .i64 asset,.int .i64 amount,.int .i64 id,.int .i64 due,.string (strOfNums hash),.string (strOfNums sec)]):=⟨Blk.new w _ _⟩
 go_enter Tryz.func170,Tryz.ntmps170
 go_upto_region 1 with(fail)
 generalize w.alloc (.cells #[.int .i64 2,.int .i64 dst,.int .i64 asset,.int .i64 amount,.int .i64 id,.int .i64 due,.string (strOfNums hash),.string (strOfNums sec)] 164)=w1 at *
 have x0:=X.out.cell 0;have x1:=X.out.cell 1;have x2:=X.out.cell 2;have x3:=X.out.cell 3;have x4:=X.out.cell 4;have x5:=X.out.cell 5;have x6:=X.out.cell 6;have x7:=X.out.cell 7
 go_upto_region 5 with(fail)
 have KT:=ae.mk (fun w=>uF hash w)
 have KI:=ae.mk (fun w=>lM due w)
 rw[Af] at KI
 by_cases h1:hash.length=32
 ·rw[decide_eq_true h1] at KT
  by_cases h2:Tck due
  ·rw[decide_eq_true h2] at KI
   go_wp2_with (first|(go_at_call 206;refine(KT.out _).mono ?_;rintro x w' ⟨rfl,rfl⟩)|(go_at_call 129;refine(KI.out _).mono ?_;rintro x w' ⟨rfl,rfl⟩))
   go_ret
   refine⟨?_,B.out⟩
   have e:q=D:=by rw[← KE.out,Bool.eq_iff_iff,decide_eq_true_iff];exact⟨fun h=>KD.out.2 ⟨⟨h1,h2⟩,h⟩,fun h=>(KD.out.1 h).2⟩
   rw[← e]
   rfl
  ·rw[decide_eq_false h2] at KI
   go_wp2_with (first|(go_at_call 206;refine(KT.out _).mono ?_;rintro x w' ⟨rfl,rfl⟩)|(go_at_call 129;refine(KI.out _).mono ?_;rintro x w' ⟨rfl,rfl⟩))
   go_ret
   refine⟨?_,B.out⟩
   have e:false=D:=by rw[← KE.out];exact(decide_eq_false (fun h=>h2 (KD.out.1 h).1.2)).symm
   rw[← e]
   rfl
 ·rw[decide_eq_false h1] at KT
  go_wp2_with (first|(go_at_call 206;refine(KT.out _).mono ?_;rintro x w' ⟨rfl,rfl⟩)|(go_at_call 129;refine(KI.out _).mono ?_;rintro x w' ⟨rfl,rfl⟩))
  go_ret
  refine⟨?_,B.out⟩
  have e:false=D:=by rw[← KE.out];exact(decide_eq_false (fun h=>h1 (KD.out.1 h).1.1)).symm
  rw[← e]
  rfl
theorem Ye  (dst asset amount id due:Int) (hash sec:List Int) (w:World) (hb:Bytes hash) (hc:Bytes sec):Calls Tryz.prog 170 #[rqv ⟨3,dst,asset,amount,id,due,hash,sec⟩] w fun e w'=>e=.returned (.bool (decide (HoldR ⟨3,dst,asset,amount,id,due,hash,sec⟩)))∧Below w.heap.size w w':=by
 have HQ:∀ w:World,(binOp .eql 164 (.agg #[.int .i64 3,.int .i64 dst,.int .i64 asset,.int .i64 amount,.int .i64 id,.int .i64 due,.string (strOfNums hash),.string (strOfNums sec)]) (.agg #[.int .i64 3,.int .i64 0,.int .i64 0,.int .i64 0,.int .i64 id,.int .i64 0,.string ⟨#[]⟩,.string (strOfNums sec)])).run Tryz.prog w=.ok (.bool (sameR ⟨3,dst,asset,amount,id,due,hash,sec⟩ ⟨3,0,0,0,id,0,[],sec⟩)) w:=fun w=>xm ⟨3,dst,asset,amount,id,due,hash,sec⟩ ⟨3,0,0,0,id,0,[],sec⟩ ⟨hb,hc⟩ ⟨by intro x hx;simp at hx,hc⟩ w
 have HD:HoldR ⟨3,dst,asset,amount,id,due,hash,sec⟩ ↔ sec.length=32∧sameR ⟨3,dst,asset,amount,id,due,hash,sec⟩ ⟨3,0,0,0,id,0,[],sec⟩=true:=by
  rw[kS]
  unfold HoldR
  simp only[RV.mk.injEq,true_and]
  constructor<;>(intro h;simp_all)
 obtain⟨D,hD⟩:∃ D,decide (HoldR ⟨3,dst,asset,amount,id,due,hash,sec⟩)=D:=⟨_,rfl⟩
 rw[hD]
 generalize sameR ⟨3,dst,asset,amount,id,due,hash,sec⟩ ⟨3,0,0,0,id,0,[],sec⟩=q at *
 have KD:=ae.mk HD;have KE:=ae.mk hD
 clear HD hD
 unfold rqv
 dsimp only
 have B:ae (Below w.heap.size w (w.alloc (.cells #[.int .i64 3,.int .i64 dst,.int .i64 asset,.int .i64 amount,.int .i64 id,.int .i64 due,.string (strOfNums hash),.string (strOfNums sec)] 164))):=⟨(Below.refl _ _).alloc (Nat.le_refl _) _⟩
 have X:ae (Blk (w.alloc (.cells #[.int .i64 3,.int .i64 dst,.int .i64 asset,.int .i64 amount,.int .i64 id,.int .i64 due,.string (strOfNums hash),.string (strOfNums sec)] 164)) w.heap.size 164 #[.int .i64 3,.int .i64 dst,.int .i64 asset,.int .i64 amount,.int .i64 id,.int .i64 due,.string (strOfNums hash),.string (strOfNums sec)]):=⟨Blk.new w _ _⟩
 go_enter Tryz.func170,Tryz.ntmps170
 go_upto_region 1 with(fail)
 generalize w.alloc (.cells #[.int .i64 3,.int .i64 dst,.int .i64 asset,.int .i64 amount,.int .i64 id,.int .i64 due,.string (strOfNums hash),.string (strOfNums sec)] 164)=w1 at *
 have x0:=X.out.cell 0;have x1:=X.out.cell 1;have x2:=X.out.cell 2;have x3:=X.out.cell 3;have x4:=X.out.cell 4;have x5:=X.out.cell 5;have x6:=X.out.cell 6;have x7:=X.out.cell 7
 go_upto_region 7 with(fail)
 have KT:=ae.mk (fun w=>uF sec w)
 by_cases h1:sec.length=32
 ·rw[decide_eq_true h1] at KT
  go_wp2_with (first|(go_at_call 206;refine(KT.out _).mono ?_;rintro x w' ⟨rfl,rfl⟩))
  go_ret
  refine⟨?_,B.out⟩
  have e:q=D:=by rw[← KE.out,Bool.eq_iff_iff,decide_eq_true_iff];exact⟨fun h=>KD.out.2 ⟨h1,h⟩,fun h=>(KD.out.1 h).2⟩
  rw[← e]
  rfl
 ·rw[decide_eq_false h1] at KT
  go_wp2_with (first|(go_at_call 206;refine(KT.out _).mono ?_;rintro x w' ⟨rfl,rfl⟩))
  go_ret
  refine⟨?_,B.out⟩
  have e:false=D:=by rw[← KE.out];exact(decide_eq_false (fun h=>h1 (KD.out.1 h).1)).symm
  rw[← e]
  rfl
theorem Yf  (dst asset amount id due:Int) (hash sec:List Int) (w:World) (hb:Bytes hash) (hc:Bytes sec):Calls Tryz.prog 170 #[rqv ⟨4,dst,asset,amount,id,due,hash,sec⟩] w fun e w'=>e=.returned (.bool (decide (HoldR ⟨4,dst,asset,amount,id,due,hash,sec⟩)))∧Below w.heap.size w w':=by
 have HQ:∀ w:World,(binOp .eql 164 (.agg #[.int .i64 4,.int .i64 dst,.int .i64 asset,.int .i64 amount,.int .i64 id,.int .i64 due,.string (strOfNums hash),.string (strOfNums sec)]) (.agg #[.int .i64 4,.int .i64 0,.int .i64 0,.int .i64 0,.int .i64 id,.int .i64 0,.string ⟨#[]⟩,.string ⟨#[]⟩])).run Tryz.prog w=.ok (.bool (sameR ⟨4,dst,asset,amount,id,due,hash,sec⟩ ⟨4,0,0,0,id,0,[],[]⟩)) w:=fun w=>xm ⟨4,dst,asset,amount,id,due,hash,sec⟩ ⟨4,0,0,0,id,0,[],[]⟩ ⟨hb,hc⟩ ⟨by intro x hx;simp at hx,by intro x hx;simp at hx⟩ w
 have HD:HoldR ⟨4,dst,asset,amount,id,due,hash,sec⟩ ↔ sameR ⟨4,dst,asset,amount,id,due,hash,sec⟩ ⟨4,0,0,0,id,0,[],[]⟩=true:=by
  rw[kS]
  unfold HoldR
  simp only[RV.mk.injEq,true_and]
  constructor<;>(intro h;simp_all)
 obtain⟨D,hD⟩:∃ D,decide (HoldR ⟨4,dst,asset,amount,id,due,hash,sec⟩)=D:=⟨_,rfl⟩
 rw[hD]
 generalize sameR ⟨4,dst,asset,amount,id,due,hash,sec⟩ ⟨4,0,0,0,id,0,[],[]⟩=q at *
 have KD:=ae.mk HD;have KE:=ae.mk hD
 clear HD hD
 unfold rqv
 dsimp only
 have B:ae (Below w.heap.size w (w.alloc (.cells #[.int .i64 4,.int .i64 dst,.int .i64 asset,.int .i64 amount,.int .i64 id,.int .i64 due,.string (strOfNums hash),.string (strOfNums sec)] 164))):=⟨(Below.refl _ _).alloc (Nat.le_refl _) _⟩
 have X:ae (Blk (w.alloc (.cells #[.int .i64 4,.int .i64 dst,.int .i64 asset,.int .i64 amount,.int .i64 id,.int .i64 due,.string (strOfNums hash),.string (strOfNums sec)] 164)) w.heap.size 164 #[.int .i64 4,.int .i64 dst,.int .i64 asset,.int .i64 amount,.int .i64 id,.int .i64 due,.string (strOfNums hash),.string (strOfNums sec)]):=⟨Blk.new w _ _⟩
 go_enter Tryz.func170,Tryz.ntmps170
 go_upto_region 1 with(fail)
 generalize w.alloc (.cells #[.int .i64 4,.int .i64 dst,.int .i64 asset,.int .i64 amount,.int .i64 id,.int .i64 due,.string (strOfNums hash),.string (strOfNums sec)] 164)=w1 at *
 have x0:=X.out.cell 0;have x1:=X.out.cell 1;have x2:=X.out.cell 2;have x3:=X.out.cell 3;have x4:=X.out.cell 4;have x5:=X.out.cell 5;have x6:=X.out.cell 6;have x7:=X.out.cell 7
 go_wp2
 go_ret
 refine⟨?_,B.out⟩
 have e:q=D:=by rw[← KE.out,Bool.eq_iff_iff,decide_eq_true_iff];exact KD.out.symm
 rw[← e]
 rfl
theorem Yg (kind:Int) (k1:kind≠1) (k2:kind≠2) (k3:kind≠3) (k4:kind≠4) (dst asset amount id due:Int) (hash sec:List Int) (w:World):Calls Tryz.prog 170 #[rqv ⟨kind,dst,asset,amount,id,due,hash,sec⟩] w fun e w'=>e=.returned (.bool (decide (HoldR ⟨kind,dst,asset,amount,id,due,hash,sec⟩)))∧Below w.heap.size w w':=by
 have KD:ae (decide (HoldR ⟨kind,dst,asset,amount,id,due,hash,sec⟩)=false):=⟨decide_eq_false (by
  rintro (h|h|h|h)
  ·exact k1 h.1
  ·exact k2 h.1
  ·exact k3 h.1
  ·exact k4 h.1
  )⟩
 rw[KD.out]
 have d1:(kind == 1)=false:=beq_eq_false_iff_ne.2 k1
 have d2:(kind == 2)=false:=beq_eq_false_iff_ne.2 k2
 have d3:(kind == 3)=false:=beq_eq_false_iff_ne.2 k3
 have d4:(kind == 4)=false:=beq_eq_false_iff_ne.2 k4
 unfold rqv
 dsimp only
 have B:ae (Below w.heap.size w (w.alloc (.cells #[.int .i64 kind,.int .i64 dst,.int .i64 asset,.int .i64 amount,.int .i64 id,.int .i64 due,.string (strOfNums hash),.string (strOfNums sec)] 164))):=⟨(Below.refl _ _).alloc (Nat.le_refl _) _⟩
 have X:ae (Blk (w.alloc (.cells #[.int .i64 kind,.int .i64 dst,.int .i64 asset,.int .i64 amount,.int .i64 id,.int .i64 due,.string (strOfNums hash),.string (strOfNums sec)] 164)) w.heap.size 164 #[.int .i64 kind,.int .i64 dst,.int .i64 asset,.int .i64 amount,.int .i64 id,.int .i64 due,.string (strOfNums hash),.string (strOfNums sec)]):=⟨Blk.new w _ _⟩
 go_enter Tryz.func170,Tryz.ntmps170
 go_upto_region 1 with(fail)
 generalize w.alloc (.cells #[.int .i64 kind,.int .i64 dst,.int .i64 asset,.int .i64 amount,.int .i64 id,.int .i64 due,.string (strOfNums hash),.string (strOfNums sec)] 164)=w1 at *
 have x0:=X.out.cell 0;have x1:=X.out.cell 1;have x2:=X.out.cell 2;have x3:=X.out.cell 3;have x4:=X.out.cell 4;have x5:=X.out.cell 5;have x6:=X.out.cell 6;have x7:=X.out.cell 7
 go_wp2
 go_ret
 exact⟨rfl,B.out⟩
theorem Om (r:RV) (hr:r.ok) (w:World):Calls Tryz.prog 170 #[rqv r] w fun e w'=>e=.returned (.bool (decide (HoldR r)))∧Below w.heap.size w w':=by
 obtain⟨kind,dst,asset,amount,id,due,hash,sec⟩:=r
 obtain⟨hb,hc⟩:=hr
 by_cases k1:kind=1
 ·subst k1;exact Yc dst asset amount id due hash sec w hb hc
 by_cases k2:kind=2
 ·subst k2;exact Yd dst asset amount id due hash sec w hb hc
 by_cases k3:kind=3
 ·subst k3;exact Ye dst asset amount id due hash sec w hb hc
 by_cases k4:kind=4
 ·subst k4;exact Yf dst asset amount id due hash sec w hb hc
 exact Yg kind k1 k2 k3 k4 dst asset amount id due hash sec w
end Req
namespace Sha
open Go.RowKit
end Sha
namespace Escrow
open Go.RowKit Sha Purse Num
def Rk (w:World) (F:List Nat) (x q:Nat) (b:BS):Prop :=
 ∃ G v,Pr w G q b.p∧Blk w x 149 #[.pointer (some ⟨q,0,none⟩),v]∧El w v b.l∧(∀ g∈v.ownBlock.toList,g∉G∧g≠x)∧x∉G∧F=x :: (v.ownBlock.toList++G)
section
variable {w w' : World} {F K : List Nat} {x q : Nat} {b : BS}
theorem Rk.lts (h:Rk w F x q b):∀ k∈F,k < w.heap.size:=by
 obtain⟨G,v,h1,h2,h3,-,-,rfl⟩:=h
 intro k hk
 rcases List.mem_cons.1 hk with rfl|hk
 ·exact h2.lt
 ·rcases List.mem_append.1 hk with hk|hk
  ·exact h3.lt k hk
  ·exact h1.2.lts k hk
theorem Rk.keep (h:Rk w F x q b) (bb:Bar K w w') (j:Disj F K):Rk w' F x q b:=by
 obtain⟨G,v,h1,h2,h3,h4,h5,rfl⟩:=h
 exact⟨G,v,⟨h1.1,h1.2.keep bb (fun k hk=>j k (by simp[hk]))⟩,h2.bar bb (j x (by simp)),h3.keep bb (fun g hg=>j g (by simp[Option.mem_toList.1 hg])),h4,h5,rfl⟩
theorem Rk.below (h:Rk w F x q b) (bb:Below w.heap.size w w'):Rk w' F x q b:=h.keep (barOf bb []) (fun _ _=>by simp)
theorem Rk.list (h:Rk w F x q b):∃ A c,w.cell? ⟨x,1,none⟩=some (.slice A b.l.length c)∧b.l.length≤c∧c≤9223372036854775807:=by
 obtain⟨G,v,h1,h2,h3,-,-,-⟩:=h
 obtain⟨A,c,rfl,h4,h5⟩:=h3.shape
 exact⟨A,c,h2.cell 1,h4,h5⟩
theorem Rk.wf (h:Rk w F x q b):WF b.p:=by obtain⟨G,v,h1,-⟩:=h;exact h1.1
theorem zZ (h:Rk w F x q b):Calls Tryz.prog 143 #[.pointer (some ⟨x,0,none⟩)] w fun e w'=>e=.returned (.int .i64 (openB b))∧w=w':=by
 obtain⟨A,c,x1,hc,hcm⟩:=h.list
 have H:=ae.mk h
 clear h
 obtain⟨n,hn⟩:∃ n,b.l.length=n:=⟨_,rfl⟩
 rw[hn] at x1 hc
 have HN:=ae.mk hn
 unfold openB
 clear hn
 go_enter Tryz.func143,Tryz.ntmps143
 go_wp2
 go_loop [3,4] (fun s i=>∃ k z:Nat,k≤n∧z≤k∧i=.int .i64 k∧s=.int .i64 z∧ae (openN b.l k=z)) (fun _ i=>n - (Go.RowKit.intOf i).toNat)
 case atStart=>exact⟨0,0,by omega,by omega,rfl,rfl,⟨rfl⟩⟩
 case round =>
  obtain⟨k,z,hk,hz,rfl,rfl,HZ⟩:=hrel
  by_cases hkn:k < n
  ·have hkn':(k:Int) < n:=by omega
   obtain⟨G,v,-,h2,h3,-⟩:=H.out
   obtain⟨g,c',hv,-,-,-,-,-,-,-,-,y5,-,-⟩:=h3.cells (k:=k) (by rw[HN.out];exact hkn)
   have x1':=h2.cell 1
   rw[x1,hv] at x1'
   simp only[Array.getElem?_eq_getElem,List.size_toArray,List.length_cons,List.length_nil,Nat.lt_add_one,List.getElem_toArray,List.getElem_cons_succ,List.getElem_cons_zero,Option.some.injEq,Value.slice.injEq] at x1'
   obtain⟨rfl,-,-⟩:=x1'
   have hs:openN b.l (k+1)=z+if (atE b.l k).state=0 then 1 else 0:=by
    show openN b.l k+_=_
    rw[HZ.out]
   clear h2 h3 hv
   by_cases h0:(atE b.l k).state=0
   ·rw[if_pos h0] at hs
    rw[h0] at y5
    have HS:=ae.mk hs
    clear hs h0
    go_wp2
    go_round
    case rel=>exact⟨k+1,z+1,by omega,by omega,by go_num,by go_num,HS⟩
    case measure=>simp[Go.RowKit.intOf];omega
   ·rw[if_neg h0] at hs
    have HS:=ae.mk hs
    have hb0:((atE b.l k).state == 0)=false:=beq_eq_false_iff_ne.2 h0
    clear hs h0
    generalize (atE b.l k).state=st at *
    go_wp2
    go_round
    case rel=>exact⟨k+1,z,by omega,by omega,by go_num,rfl,HS⟩
    case measure=>simp[Go.RowKit.intOf];omega
  ·have hkn':¬ (k:Int) < n:=by omega
   obtain rfl:k=n:=by omega
   go_wp2
   go_ret
   exact⟨by rw[HN.out,HZ.out];rfl,rfl⟩
end
end Escrow
namespace Ledger
open Go.RowKit Num Sha Purse Escrow Wire Req
def iC (i:Int):List Value:=[.int .i64 i]
def who (s:LS):List Int:=s.e.map (·.who)
def Yh (s:LS):List Int:=s.e.map (·.at_)
def own3 (d d1 d2:Value):List Nat:=d.ownBlock.toList++(d1.ownBlock.toList++d2.ownBlock.toList)
theorem own3_mem {k:Nat}{d d1 d2:Value}:k∈own3 d d1 d2 ↔ k∈d.ownBlock.toList∨k∈d1.ownBlock.toList∨k∈d2.ownBlock.toList:=by simp only[own3,List.mem_append]
structure Dp (w:World) (F0:List Nat) (x b q:Nat) (st d d1 d2:Value) (s:LS):Prop where
 bk:Rk w F0 b q s.b
 blk:Blk w x 151 #[st,.int .i64 s.cap,.pointer (some ⟨b,0,none⟩),.int .i64 s.clock,d,d1,d2]
 re:Ow vvC 9 156 w d (evs s)
 rw_:Ow iC 1 3 w d1 (who s)
 rn:Ow iC 1 3 w d2 (Yh s)
 xF:x∉F0
 dF:∀ g∈own3 d d1 d2,g∉F0
 dx:∀ g∈own3 d d1 d2,g≠x
 e1:∀ g∈d.ownBlock.toList,g∉d1.ownBlock.toList
 e2:∀ g∈d.ownBlock.toList,g∉d2.ownBlock.toList
 e3:∀ g∈d1.ownBlock.toList,g∉d2.ownBlock.toList
def df (x:Nat) (F0:List Nat) (d d1 d2:Value):List Nat:=x :: (F0++own3 d d1 d2)
theorem df_mem {k x:Nat}{F0:List Nat}{d d1 d2:Value}:k∈df x F0 d d1 d2 ↔ k=x∨k∈F0∨k∈own3 d d1 d2:=by simp only[df,List.mem_cons,List.mem_append]
def Dk (w:World) (F:List Nat) (x:Nat) (s:LS):Prop:=∃ F0 b q st d d1 d2,Dp w F0 x b q st d d1 d2 s∧F=df x F0 d d1 d2
section
variable {w w' w2 : World} {F F0 F1 K : List Nat} {x b q : Nat} {st d d1 d2 d' : Value} {s : LS} {b' : BS}
theorem Dp.lts (h:Dp w F0 x b q st d d1 d2 s):∀ k∈df x F0 d d1 d2,k < w.heap.size:=by
 intro k hk
 rcases df_mem.1 hk with rfl|hk|hk
 ·exact h.blk.lt
 ·exact h.bk.lts k hk
 ·rcases own3_mem.1 hk with hk|hk|hk
  ·exact h.re.lt k hk
  ·exact h.rw_.lt k hk
  ·exact h.rn.lt k hk
theorem Dp.keep (h:Dp w F0 x b q st d d1 d2 s) (bb:Bar K w w') (j:Disj (df x F0 d d1 d2) K):Dp w' F0 x b q st d d1 d2 s :=
 ⟨h.bk.keep bb (fun k hk=>j k (df_mem.2 (.inr (.inl hk)))),h.blk.bar bb (j x (df_mem.2 (.inl rfl))),
  h.re.keep bb (fun g hg=>j g (df_mem.2 (.inr (.inr (own3_mem.2 (.inl hg)))))),
  h.rw_.keep bb (fun g hg=>j g (df_mem.2 (.inr (.inr (own3_mem.2 (.inr (.inl hg))))))),
  h.rn.keep bb (fun g hg=>j g (df_mem.2 (.inr (.inr (own3_mem.2 (.inr (.inr hg))))))),
  h.xF,h.dF,h.dx,h.e1,h.e2,h.e3⟩
theorem Dp.below (h:Dp w F0 x b q st d d1 d2 s) (bb:Below w.heap.size w w'):Dp w' F0 x b q st d d1 d2 s:=h.keep (barOf bb []) (fun _ _=>by simp)
theorem Dp.book (h:Dp w F0 x b q st d d1 d2 s) (hk:Rk w2 F1 b q b') (fp:Fp F0 F1 w w2):Dp w2 F1 x b q st d d1 d2 ⟨s.cap,b',s.clock,s.e⟩∧Fp (df x F0 d d1 d2) (df x F1 d d1 d2) w w2:=by
 have ho:∀ g∈own3 d d1 d2,g < w.heap.size:=fun g hg=>h.lts g (df_mem.2 (.inr (.inr hg)))
 refine⟨⟨hk,h.blk.bar fp.1 h.xF,h.re.keep fp.1 (fun g hg=>h.dF g (own3_mem.2 (.inl hg))),h.rw_.keep fp.1 (fun g hg=>h.dF g (own3_mem.2 (.inr (.inl hg)))),h.rn.keep fp.1 (fun g hg=>h.dF g (own3_mem.2 (.inr (.inr hg)))),fun hm=>?_,fun g hg hm=>?_,h.dx,h.e1,h.e2,h.e3⟩,fp.1.mono (fun k hk=>.inl (df_mem.2 (.inr (.inl hk)))),fun k hk=>?_⟩
 ·rcases fp.2 x hm with e|e
  ·exact h.xF e
  ·have:=h.blk.lt;omega
 ·rcases fp.2 g hm with e|e
  ·exact h.dF g hg e
  ·have:=ho g hg;omega
 ·rcases df_mem.1 hk with e|e|e
  ·exact .inl (df_mem.2 (.inl e))
  ·rcases fp.2 k e with e|e
   ·exact .inl (df_mem.2 (.inr (.inl e)))
   ·exact .inr e
  ·exact .inl (df_mem.2 (.inr (.inr e)))
theorem Dp.tick (h:Dp w F0 x b q st d d1 d2 s) (c:Int):Dp (w.setCell ⟨x,3,none⟩ (.int .i64 c)) F0 x b q st d d1 d2 ⟨s.cap,s.b,c,s.e⟩∧Fp (df x F0 d d1 d2) (df x F0 d d1 d2) w (w.setCell ⟨x,3,none⟩ (.int .i64 c)):=by
 have b2:Bar [x] w (w.setCell ⟨x,3,none⟩ (.int .i64 c)):=(Bar.refl _ w).setCell (by simp) _
 have ho:∀ g∈own3 d d1 d2,g∉[x]:=fun g hg hm=>h.dx g hg (by simpa using hm)
 refine⟨⟨h.bk.keep b2 (fun k hk hm=>h.xF (by rw[List.mem_singleton] at hm;exact hm▸hk)),by simpa using h.blk.set_ 3 (.int .i64 c),h.re.keep b2 (fun g hg=>ho g (own3_mem.2 (.inl hg))),h.rw_.keep b2 (fun g hg=>ho g (own3_mem.2 (.inr (.inl hg)))),h.rn.keep b2 (fun g hg=>ho g (own3_mem.2 (.inr (.inr hg)))),h.xF,h.dF,h.dx,h.e1,h.e2,h.e3⟩,b2.mono (fun k hk=>.inl (df_mem.2 (.inl (by simpa using hk)))),fun _ hk=>.inl hk⟩
theorem Dp.c1 (h:Dp w F0 x b q st d d1 d2 s):w.cell? ⟨x,1,none⟩=some (.int .i64 s.cap):=h.blk.cell 1
theorem Dp.c2 (h:Dp w F0 x b q st d d1 d2 s):w.cell? ⟨x,2,none⟩=some (.pointer (some ⟨b,0,none⟩)):=h.blk.cell 2
theorem Dp.c3 (h:Dp w F0 x b q st d d1 d2 s):w.cell? ⟨x,3,none⟩=some (.int .i64 s.clock):=h.blk.cell 3
theorem Dk.lts (h:Dk w F x s):∀ k∈F,k < w.heap.size:=by
 obtain⟨F0,b,q,st,d,d1,d2,h,rfl⟩:=h
 exact h.lts
theorem Dk.keep (h:Dk w F x s) (bb:Bar K w w') (j:Disj F K):Dk w' F x s:=by
 obtain⟨F0,b,q,st,d,d1,d2,h,rfl⟩:=h
 exact⟨F0,b,q,st,d,d1,d2,h.keep bb j,rfl⟩
theorem Dk.below (h:Dk w F x s) (bb:Below w.heap.size w w'):Dk w' F x s:=by
 obtain⟨F0,b,q,st,d,d1,d2,h,rfl⟩:=h
 exact⟨F0,b,q,st,d,d1,d2,h.below bb,rfl⟩
end
end Ledger
end Go.Proofs.YtlkeieoecfkkeaaGreat
