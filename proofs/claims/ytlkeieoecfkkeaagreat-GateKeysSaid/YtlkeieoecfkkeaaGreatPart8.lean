/-
  Parts laid together: ToBytes EscrowMem EscrowPost ReqMem EscrowPc RcSlice ReqCHold ToBytes2.
-/
import Derived.Test.YtlkeieoecfkkeaaGreatPart7
import Derived.Lib.ConvBytes
import Derived.Test.YtlkeieoecfkkeaaGreatPart3
import Derived.Test.YtlkeieoecfkkeaaGreatPart6
import Derived.Test.YtlkeieoecfkkeaaGreatPart2
import Derived.Test.YtlkeieoecfkkeaaGreatPart5
import Derived.Deep.QuietTactic
import Derived.BigQuiet
import Derived.Laws.AppendOwn
namespace Go.Proofs.YtlkeieoecfkkeaaGreat.Sha
open Go.RowKit
theorem str_at (xs:List Int) (hb:Bytes xs) (j:Nat) (hj:j < xs.length):(((strOfNums xs).data.toList.getD j 0).toNat:Int)=at_ xs j:=by
 have hx:=hb xs[j] (List.getElem_mem hj)
 rw[strOfNums_data]
 simp only[List.getD_eq_getElem?_getD,List.getElem?_map,List.getElem?_eq_getElem hj,Option.map_some,Option.getD_some,at_]
 simp only[UInt8.toNat_ofNat']
 omega
theorem to_bytes (w:World) (xs:List Int) (hb:Bytes xs):∃ w' c,(convert 9 22 (.string (strOfNums xs))).run Tryz.prog w=.ok (.slice (some ⟨w.heap.size,0,none⟩) xs.length c) w'∧Rd w' (some ⟨w.heap.size,0,none⟩) xs.length xs∧Below w.heap.size w w':=by
 have h:=Lib.run_convert_string_bytes (P:=Tryz.prog) w _ _ 5 (strOfNums xs) Tryz.underlying9 Tryz.underlying22 Tryz.underlying5
 rw[strOfNums_size] at h
 refine⟨_,_,h,⟨rfl,hb,.inr ⟨w.heap.size,0,rfl,fun i hi=>?_⟩⟩,?_⟩
 ·rw[Nat.zero_add,Lib.bytesWorld_cell w _ _ i (by rw[strOfNums_size];exact hi),str_at xs hb i hi]
 ·refine⟨?_,?_,?_,by rw[Lib.bytesWorld_size];omega,fun k hk=>Lib.bytesWorld_at_old w _ _ k hk⟩
  all_goals simp[Lib.bytesWorld,World.freeze,World.alloc,World.drew,-World.alloc_eq,-World.drew_eq]
end Go.Proofs.YtlkeieoecfkkeaaGreat.Sha
namespace Go.Proofs.YtlkeieoecfkkeaaGreat.Escrow
open Go.RowKit Go.Proofs.YtlkeieoecfkkeaaGreat.Sha Go.Proofs.YtlkeieoecfkkeaaGreat.Purse
def evC (e:EV):List Value:=[.int .i64 e.src,.int .i64 e.dst,.int .i64 e.asset,.int .i64 e.amount,.int .i64 e.due,.int .i64 e.state,.string (strOfNums e.hash),.string (strOfNums e.secret)]
theorem evC_len (e:EV):(evC e).length=8:=rfl
def evF (l:List EV):List Value:=l.flatMap evC
theorem evF_at:∀ (l:List EV) (k j:Nat),k < l.length→j < 8→(evF l)[k * 8+j]?=(evC (atE l k))[j]?
  | e :: l,0,j,_,hj=>by
    show (evC e++evF l)[0 * 8+j]?=(evC e)[j]?
    rw[List.getElem?_append_left (by rw[evC_len];omega)]
    simp
  | e :: l,k+1,j,hk,hj=>by
    show (evC e++evF l)[(k+1) * 8+j]?=_
    rw[List.getElem?_append_right (by rw[evC_len];omega),evC_len,show (k+1) * 8+j - 8=k * 8+j by omega,evF_at l k j (by simpa using hk) hj]
    rfl
theorem evF_set:∀ (l:List EV) (k j:Nat) (u:Value) (x:EV),k < l.length→j < 8→evC x=(evC (atE l k)).set j u→(evF l).set (k * 8+j) u=evF (l.set k x)
  | e :: l,0,j,u,x,_,hj,hx=>by
    show (evC e++evF l).set (0 * 8+j) u=evC x++evF l
    rw[List.set_append_left _ _ (by rw[evC_len];omega),hx]
    simp[atE]
  | e :: l,k+1,j,u,x,hk,hj,hx=>by
    show (evC e++evF l).set ((k+1) * 8+j) u=evC e++evF (l.set k x)
    rw[List.set_append_right _ _ (by rw[evC_len];omega),evC_len,show (k+1) * 8+j - 8=k * 8+j by omega,evF_set l k j u x (by simpa using hk) hj hx]
def El (w:World) (v:Value) (l:List EV):Prop:=w.ownsRow 0 253 8 v l.length (evF l)
section
variable {w w' : World} {v : Value} {l : List EV}
theorem El.keep {G:List Nat}(h:El w v l) (b:Bar G w w') (hd:∀ g∈v.ownBlock.toList,g∉G):El w' v l:=own_keep h b hd
theorem El.lt (h:El w v l):∀ g∈v.ownBlock.toList,g < w.heap.size:=own_lt h
theorem El.nil (w:World):El w (.slice none 0 0) []:=World.ownsRow_nil _ _ _ _
theorem El.shape (h:El w v l):∃ A c,v=.slice A l.length c∧l.length≤c∧c≤9223372036854775807:=by
 rcases h.2 with⟨hv,hx⟩|⟨g,c,cur,hv,-,-,h1,h2,-⟩
 ·exact⟨none,0,by rw[hv,hx],by omega,by omega⟩
 ·exact⟨_,c,hv,h1,by unfold maxLen at h2;omega⟩
theorem El.at_ (h:El w v l) {k:Nat}(hk:k < l.length):∃ g c,v=.slice (some ⟨g,0,none⟩) l.length c∧l.length≤c∧c≤9223372036854775807∧(∀ j,w.frozen? ⟨g,j,none⟩=false)∧∀ j u,j < 8→(evC (atE l k))[j]?=some u→w.cell? ⟨g,k * 8+j,none⟩=some u:=by
 have h0:=h
 rcases h.2 with⟨hv,hx⟩|⟨g,c,cur,hv,-,hb,h1,h2,-⟩
 ·omega
 ·unfold El at h0
  rw[hv] at h0
  refine⟨g,c,hv,h1,by unfold maxLen at h2;omega,fun j=>World.ownsRow.frozenAt h0 j,fun j u hj hu=>?_⟩
  rw[World.ownsRow.cellAt h0 (k * 8+j) (by omega),evF_at l k j hk hj,hu]
theorem El.cells (h:El w v l) {k:Nat}(hk:k < l.length):∃ g c,v=.slice (some ⟨g,0,none⟩) l.length c∧l.length≤c∧c≤9223372036854775807∧(∀ j,w.frozen? ⟨g,j,none⟩=false) ∧
  w.cell? ⟨g,k * 8,none⟩=some (.int .i64 (atE l k).src)∧w.cell? ⟨g,k * 8+1,none⟩=some (.int .i64 (atE l k).dst)∧w.cell? ⟨g,k * 8+2,none⟩=some (.int .i64 (atE l k).asset)∧w.cell? ⟨g,k * 8+3,none⟩=some (.int .i64 (atE l k).amount) ∧
  w.cell? ⟨g,k * 8+4,none⟩=some (.int .i64 (atE l k).due)∧w.cell? ⟨g,k * 8+5,none⟩=some (.int .i64 (atE l k).state)∧w.cell? ⟨g,k * 8+6,none⟩=some (.string (strOfNums (atE l k).hash))∧w.cell? ⟨g,k * 8+7,none⟩=some (.string (strOfNums (atE l k).secret)):=by
 obtain⟨g,c,h1,h2,h3,h4,h5⟩:=h.at_ hk
 exact⟨g,c,h1,h2,h3,h4,h5 0 _ (by omega) rfl,h5 1 _ (by omega) rfl,h5 2 _ (by omega) rfl,h5 3 _ (by omega) rfl,h5 4 _ (by omega) rfl,h5 5 _ (by omega) rfl,h5 6 _ (by omega) rfl,h5 7 _ (by omega) rfl⟩
theorem El.set {g c:Nat}(h:El w (.slice (some ⟨g,0,none⟩) l.length c) l) {k j:Nat}(hk:k < l.length) (hj:j < 8) {u:Value}{x:EV}(hx:evC x=(evC (atE l k)).set j u):El (w.setCell ⟨g,k * 8+j,none⟩ u) (.slice (some ⟨g,0,none⟩) (l.set k x).length c) (l.set k x):=by
 have h1:=(World.ownsRow.stored h (k * 8+j) u).1
 rw[evF_set l k j u x hk hj hx] at h1
 rw[List.length_set]
 unfold El
 rw[List.length_set]
 exact h1
end
end Go.Proofs.YtlkeieoecfkkeaaGreat.Escrow
namespace Go.Proofs.YtlkeieoecfkkeaaGreat.Escrow
open Go.RowKit Go.Proofs.YtlkeieoecfkkeaaGreat.Sha Go.Proofs.YtlkeieoecfkkeaaGreat.Purse Go.Proofs.YtlkeieoecfkkeaaGreat.Num
def evV (e:EV):Value:=.agg #[.int .i64 e.src,.int .i64 e.dst,.int .i64 e.asset,.int .i64 e.amount,.int .i64 e.due,.int .i64 e.state,.string (strOfNums e.hash),.string (strOfNums e.secret)]
def GetPost (r:EV × Bool) (w:World) (e:Ending) (w':World):Prop:=e=.returned (.tuple #[evV r.1,.bool r.2])∧Below w.heap.size w w'
def TellB (v:Value) (w:World) (e:Ending) (w':World):Prop:=e=.returned v∧Below w.heap.size w w'
end Go.Proofs.YtlkeieoecfkkeaaGreat.Escrow
namespace Go.Proofs.YtlkeieoecfkkeaaGreat.Req
open Go.RowKit Go.Proofs.YtlkeieoecfkkeaaGreat.Sha Go.Proofs.YtlkeieoecfkkeaaGreat.Wire
def rvC (r:RV):List Value:=[.int .i64 r.kind,.int .i64 r.dst,.int .i64 r.asset,.int .i64 r.amount,.int .i64 r.id,.int .i64 r.due,.string (strOfNums r.hash),.string (strOfNums r.sec)]
def vvC (r:VV):List Value:=[.int .i64 r.kind,.int .i64 r.src,.int .i64 r.dst,.int .i64 r.asset,.int .i64 r.amount,.int .i64 r.id,.int .i64 r.due,.string (strOfNums r.hash),.string (strOfNums r.sec)]
def pvC (r:PV):List Value:=[.int .i64 r.code,.int .i64 r.id]
def rqv (r:RV):Value:=.agg #[.int .i64 r.kind,.int .i64 r.dst,.int .i64 r.asset,.int .i64 r.amount,.int .i64 r.id,.int .i64 r.due,.string (strOfNums r.hash),.string (strOfNums r.sec)]
def pqv (r:PV):Value:=.agg #[.int .i64 r.code,.int .i64 r.id]
theorem vvC_one (r:VV):∀ v∈vvC r,v.oneCell'=true:=by
 intro v hv
 simp only[vvC,List.mem_cons,List.not_mem_nil,or_false] at hv
 rcases hv with rfl|rfl|rfl|rfl|rfl|rfl|rfl|rfl|rfl<;>rfl
theorem pvC_one (r:PV):∀ v∈pvC r,v.oneCell'=true:=by
 intro v hv
 simp only[pvC,List.mem_cons,List.not_mem_nil,or_false] at hv
 rcases hv with rfl|rfl<;>rfl
abbrev Rr:=Rc rvC 8
abbrev Rv:=Rc vvC 9
abbrev Rp:=Rc pvC 2
theorem str_eq {xs ys:List Int}(hx:Bytes xs) (hy:Bytes ys):((strOfNums xs).toList=(strOfNums ys).toList)=(xs=ys):=propext ⟨strOfNums_inj hx hy,fun h=>by rw[h]⟩
theorem req_eql (a b:RV) (ha:a.ok) (hb:b.ok) (w:World):(binOp .eql 164 (rqv a) (rqv b)).run Tryz.prog w=.ok (.bool (sameR a b)) w:=by
 unfold rqv
 rw[run_eql_struct,run_equalIn_agg w _ _ _ _ (by kernel_rfl) (by kernel_rfl)]
 go_simp
 simp only[str_eq ha.1 hb.1,str_eq ha.2 hb.2]
 unfold sameR sameB
 repeat' split
 all_goals simp[*]
end Go.Proofs.YtlkeieoecfkkeaaGreat.Req
namespace Go.Proofs.YtlkeieoecfkkeaaGreat.Escrow
open Go.RowKit Go.Proofs.YtlkeieoecfkkeaaGreat.Sha Go.Proofs.YtlkeieoecfkkeaaGreat.Purse Go.Proofs.YtlkeieoecfkkeaaGreat.Num
theorem pc_lts {w:World}{F:List Nat}{p:Nat}{s:PS}(h:Pc w F p s):∀ k∈F,k < w.heap.size:=h.2.lts
theorem pc_keep {w w':World}{F G:List Nat}{p:Nat}{s:PS}(h:Pc w F p s) (b:Bar G w w') (j:Disj F G):Pc w' F p s:=⟨h.1,h.2.keep b j⟩
end Go.Proofs.YtlkeieoecfkkeaaGreat.Escrow
namespace Go.Proofs.YtlkeieoecfkkeaaGreat.Req
open Go.RowKit Go.Proofs.YtlkeieoecfkkeaaGreat.Sha
theorem info_evs:(Tryz.prog.info? 156).map (fun i=>(i.zero,i.size,i.bytes))=some (some (.agg #[.int .i64 0,.int .i64 0,.int .i64 0,.int .i64 0,.int .i64 0,.int .i64 0,.int .i64 0,.string ⟨#[]⟩,.string ⟨#[]⟩]),9,88):=by kernel_rfl
end Go.Proofs.YtlkeieoecfkkeaaGreat.Req
namespace Go.Proofs.YtlkeieoecfkkeaaGreat.Req
open Go.RowKit Go.Proofs.YtlkeieoecfkkeaaGreat.Sha Go.Proofs.YtlkeieoecfkkeaaGreat.Wire Go.Proofs.YtlkeieoecfkkeaaGreat.Num
theorem str_len {xs:List Int}:(strOfNums xs).size=xs.length:=by
 simp[strOfNums,ByteArray.size]
set_option maxRecDepth 100000 in
theorem istext_any (xs:List Int) (w:World):Calls Tryz.prog 206 #[.string (strOfNums xs)] w fun e w'=>e=.returned (.bool (decide (xs.length=32)))∧w=w':=by
 have hs:=str_len (xs:=xs)
 have hd:Kept (((xs.length:Int) == 32)=decide (xs.length=32)):=⟨by
  by_cases h:xs.length=32
  ·rw[h];rfl
  ·rw[decide_eq_false h];exact beq_eq_false_iff_ne.2 (by omega)⟩
 generalize xs.length=n at *
 go_enter Tryz.func206,Tryz.ntmps206
 go_wp2
 go_ret
 exact⟨by rw[← hd.out];rfl,rfl⟩
theorem ctick_iff (n:Int):tickB n=decide (Tck n):=by
 unfold tickB Tck;rfl
set_option maxRecDepth 100000 in
set_option maxHeartbeats 2000000 in
theorem hold1  (dst asset amount id due:Int) (hash sec:List Int) (w:World) (hb:Bytes hash) (hc:Bytes sec):Calls Tryz.prog 170 #[rqv ⟨1,dst,asset,amount,id,due,hash,sec⟩] w fun e w'=>e=.returned (.bool (decide (HoldR ⟨1,dst,asset,amount,id,due,hash,sec⟩)))∧Below w.heap.size w w':=by
 have HQ:∀ w:World,(binOp .eql 164 (.agg #[.int .i64 1,.int .i64 dst,.int .i64 asset,.int .i64 amount,.int .i64 id,.int .i64 due,.string (strOfNums hash),.string (strOfNums sec)]) (.agg #[.int .i64 1,.int .i64 dst,.int .i64 asset,.int .i64 amount,.int .i64 0,.int .i64 0,.string ⟨#[]⟩,.string ⟨#[]⟩])).run Tryz.prog w=.ok (.bool (sameR ⟨1,dst,asset,amount,id,due,hash,sec⟩ ⟨1,dst,asset,amount,0,0,[],[]⟩)) w:=fun w=>req_eql ⟨1,dst,asset,amount,id,due,hash,sec⟩ ⟨1,dst,asset,amount,0,0,[],[]⟩ ⟨hb,hc⟩ ⟨by intro x hx;simp at hx,by intro x hx;simp at hx⟩ w
 have HD:HoldR ⟨1,dst,asset,amount,id,due,hash,sec⟩ ↔ sameR ⟨1,dst,asset,amount,id,due,hash,sec⟩ ⟨1,dst,asset,amount,0,0,[],[]⟩=true:=by
  rw[sameR_iff]
  unfold HoldR
  simp only[RV.mk.injEq,true_and]
  constructor<;>(intro h;simp_all)
 obtain⟨D,hD⟩:∃ D,decide (HoldR ⟨1,dst,asset,amount,id,due,hash,sec⟩)=D:=⟨_,rfl⟩
 rw[hD]
 generalize sameR ⟨1,dst,asset,amount,id,due,hash,sec⟩ ⟨1,dst,asset,amount,0,0,[],[]⟩=q at *
 have KD:=Kept.mk HD;have KE:=Kept.mk hD
 clear HD hD
 unfold rqv
 dsimp only
 have B:Kept (Below w.heap.size w (w.alloc (.cells #[.int .i64 1,.int .i64 dst,.int .i64 asset,.int .i64 amount,.int .i64 id,.int .i64 due,.string (strOfNums hash),.string (strOfNums sec)] 164))):=⟨(Below.refl _ _).alloc (Nat.le_refl _) _⟩
 have X:Kept (Blk (w.alloc (.cells #[.int .i64 1,.int .i64 dst,.int .i64 asset,.int .i64 amount,.int .i64 id,.int .i64 due,.string (strOfNums hash),.string (strOfNums sec)] 164)) w.heap.size 164 #[.int .i64 1,.int .i64 dst,.int .i64 asset,.int .i64 amount,.int .i64 id,.int .i64 due,.string (strOfNums hash),.string (strOfNums sec)]):=⟨Blk.new w _ _⟩
 go_enter Tryz.func170,Tryz.ntmps170
 go_upto_region 1 with(fail)
 generalize w.alloc (.cells #[.int .i64 1,.int .i64 dst,.int .i64 asset,.int .i64 amount,.int .i64 id,.int .i64 due,.string (strOfNums hash),.string (strOfNums sec)] 164)=w1 at *
 have x0:=X.out.cell 0;have x1:=X.out.cell 1;have x2:=X.out.cell 2;have x3:=X.out.cell 3;have x4:=X.out.cell 4;have x5:=X.out.cell 5;have x6:=X.out.cell 6;have x7:=X.out.cell 7
 go_wp2
 go_ret
 refine⟨?_,B.out⟩
 have e:q=D:=by rw[← KE.out,Bool.eq_iff_iff,decide_eq_true_iff];exact KD.out.symm
 rw[← e]
 rfl
set_option maxRecDepth 100000 in
set_option maxHeartbeats 2000000 in
theorem hold2  (dst asset amount id due:Int) (hash sec:List Int) (w:World) (hb:Bytes hash) (hc:Bytes sec):Calls Tryz.prog 170 #[rqv ⟨2,dst,asset,amount,id,due,hash,sec⟩] w fun e w'=>e=.returned (.bool (decide (HoldR ⟨2,dst,asset,amount,id,due,hash,sec⟩)))∧Below w.heap.size w w':=by
 have HQ:∀ w:World,(binOp .eql 164 (.agg #[.int .i64 2,.int .i64 dst,.int .i64 asset,.int .i64 amount,.int .i64 id,.int .i64 due,.string (strOfNums hash),.string (strOfNums sec)]) (.agg #[.int .i64 2,.int .i64 dst,.int .i64 asset,.int .i64 amount,.int .i64 0,.int .i64 due,.string (strOfNums hash),.string ⟨#[]⟩])).run Tryz.prog w=.ok (.bool (sameR ⟨2,dst,asset,amount,id,due,hash,sec⟩ ⟨2,dst,asset,amount,0,due,hash,[]⟩)) w:=fun w=>req_eql ⟨2,dst,asset,amount,id,due,hash,sec⟩ ⟨2,dst,asset,amount,0,due,hash,[]⟩ ⟨hb,hc⟩ ⟨hb,by intro x hx;simp at hx⟩ w
 have HD:HoldR ⟨2,dst,asset,amount,id,due,hash,sec⟩ ↔ (hash.length=32∧Tck due)∧sameR ⟨2,dst,asset,amount,id,due,hash,sec⟩ ⟨2,dst,asset,amount,0,due,hash,[]⟩=true:=by
  rw[sameR_iff]
  unfold HoldR
  simp only[RV.mk.injEq,true_and]
  constructor<;>(intro h;simp_all)
 obtain⟨D,hD⟩:∃ D,decide (HoldR ⟨2,dst,asset,amount,id,due,hash,sec⟩)=D:=⟨_,rfl⟩
 rw[hD]
 generalize sameR ⟨2,dst,asset,amount,id,due,hash,sec⟩ ⟨2,dst,asset,amount,0,due,hash,[]⟩=q at *
 have KD:=Kept.mk HD;have KE:=Kept.mk hD
 clear HD hD
 unfold rqv
 dsimp only
 have B:Kept (Below w.heap.size w (w.alloc (.cells #[.int .i64 2,.int .i64 dst,.int .i64 asset,.int .i64 amount,.int .i64 id,.int .i64 due,.string (strOfNums hash),.string (strOfNums sec)] 164))):=⟨(Below.refl _ _).alloc (Nat.le_refl _) _⟩
 have X:Kept (Blk (w.alloc (.cells #[.int .i64 2,.int .i64 dst,.int .i64 asset,.int .i64 amount,.int .i64 id,.int .i64 due,.string (strOfNums hash),.string (strOfNums sec)] 164)) w.heap.size 164 #[.int .i64 2,.int .i64 dst,.int .i64 asset,.int .i64 amount,.int .i64 id,.int .i64 due,.string (strOfNums hash),.string (strOfNums sec)]):=⟨Blk.new w _ _⟩
 go_enter Tryz.func170,Tryz.ntmps170
 go_upto_region 1 with(fail)
 generalize w.alloc (.cells #[.int .i64 2,.int .i64 dst,.int .i64 asset,.int .i64 amount,.int .i64 id,.int .i64 due,.string (strOfNums hash),.string (strOfNums sec)] 164)=w1 at *
 have x0:=X.out.cell 0;have x1:=X.out.cell 1;have x2:=X.out.cell 2;have x3:=X.out.cell 3;have x4:=X.out.cell 4;have x5:=X.out.cell 5;have x6:=X.out.cell 6;have x7:=X.out.cell 7
 go_upto_region 5 with(fail)
 have KT:=Kept.mk (fun w=>istext_any hash w)
 have KI:=Kept.mk (fun w=>tick_any due w)
 rw[ctick_iff] at KI
 by_cases h1:hash.length=32
 ·rw[decide_eq_true h1] at KT
  by_cases h2:Tck due
  ·rw[decide_eq_true h2] at KI
   go_wp2_with (first|(go_at_call 206;refine(KT.out _).mono ?_;rintro x w' ⟨rfl,rfl⟩)|(go_at_call 129;refine(KI.out _).mono ?_;rintro x w' ⟨rfl,rfl⟩))
   go_ret
   refine⟨?_,B.out⟩
   have e:q=D:=by rw[← KE.out,Bool.eq_iff_iff,decide_eq_true_iff];exact⟨fun h=>KD.out.2 ⟨⟨h1,h2⟩,h⟩,fun h=>(KD.out.1 h).2⟩
   rw[← e]
   rfl
  ·rw[decide_eq_false h2] at KI
   go_wp2_with (first|(go_at_call 206;refine(KT.out _).mono ?_;rintro x w' ⟨rfl,rfl⟩)|(go_at_call 129;refine(KI.out _).mono ?_;rintro x w' ⟨rfl,rfl⟩))
   go_ret
   refine⟨?_,B.out⟩
   have e:false=D:=by rw[← KE.out];exact(decide_eq_false (fun h=>h2 (KD.out.1 h).1.2)).symm
   rw[← e]
   rfl
 ·rw[decide_eq_false h1] at KT
  go_wp2_with (first|(go_at_call 206;refine(KT.out _).mono ?_;rintro x w' ⟨rfl,rfl⟩)|(go_at_call 129;refine(KI.out _).mono ?_;rintro x w' ⟨rfl,rfl⟩))
  go_ret
  refine⟨?_,B.out⟩
  have e:false=D:=by rw[← KE.out];exact(decide_eq_false (fun h=>h1 (KD.out.1 h).1.1)).symm
  rw[← e]
  rfl
set_option maxRecDepth 100000 in
set_option maxHeartbeats 2000000 in
theorem hold3  (dst asset amount id due:Int) (hash sec:List Int) (w:World) (hb:Bytes hash) (hc:Bytes sec):Calls Tryz.prog 170 #[rqv ⟨3,dst,asset,amount,id,due,hash,sec⟩] w fun e w'=>e=.returned (.bool (decide (HoldR ⟨3,dst,asset,amount,id,due,hash,sec⟩)))∧Below w.heap.size w w':=by
 have HQ:∀ w:World,(binOp .eql 164 (.agg #[.int .i64 3,.int .i64 dst,.int .i64 asset,.int .i64 amount,.int .i64 id,.int .i64 due,.string (strOfNums hash),.string (strOfNums sec)]) (.agg #[.int .i64 3,.int .i64 0,.int .i64 0,.int .i64 0,.int .i64 id,.int .i64 0,.string ⟨#[]⟩,.string (strOfNums sec)])).run Tryz.prog w=.ok (.bool (sameR ⟨3,dst,asset,amount,id,due,hash,sec⟩ ⟨3,0,0,0,id,0,[],sec⟩)) w:=fun w=>req_eql ⟨3,dst,asset,amount,id,due,hash,sec⟩ ⟨3,0,0,0,id,0,[],sec⟩ ⟨hb,hc⟩ ⟨by intro x hx;simp at hx,hc⟩ w
 have HD:HoldR ⟨3,dst,asset,amount,id,due,hash,sec⟩ ↔ sec.length=32∧sameR ⟨3,dst,asset,amount,id,due,hash,sec⟩ ⟨3,0,0,0,id,0,[],sec⟩=true:=by
  rw[sameR_iff]
  unfold HoldR
  simp only[RV.mk.injEq,true_and]
  constructor<;>(intro h;simp_all)
 obtain⟨D,hD⟩:∃ D,decide (HoldR ⟨3,dst,asset,amount,id,due,hash,sec⟩)=D:=⟨_,rfl⟩
 rw[hD]
 generalize sameR ⟨3,dst,asset,amount,id,due,hash,sec⟩ ⟨3,0,0,0,id,0,[],sec⟩=q at *
 have KD:=Kept.mk HD;have KE:=Kept.mk hD
 clear HD hD
 unfold rqv
 dsimp only
 have B:Kept (Below w.heap.size w (w.alloc (.cells #[.int .i64 3,.int .i64 dst,.int .i64 asset,.int .i64 amount,.int .i64 id,.int .i64 due,.string (strOfNums hash),.string (strOfNums sec)] 164))):=⟨(Below.refl _ _).alloc (Nat.le_refl _) _⟩
 have X:Kept (Blk (w.alloc (.cells #[.int .i64 3,.int .i64 dst,.int .i64 asset,.int .i64 amount,.int .i64 id,.int .i64 due,.string (strOfNums hash),.string (strOfNums sec)] 164)) w.heap.size 164 #[.int .i64 3,.int .i64 dst,.int .i64 asset,.int .i64 amount,.int .i64 id,.int .i64 due,.string (strOfNums hash),.string (strOfNums sec)]):=⟨Blk.new w _ _⟩
 go_enter Tryz.func170,Tryz.ntmps170
 go_upto_region 1 with(fail)
 generalize w.alloc (.cells #[.int .i64 3,.int .i64 dst,.int .i64 asset,.int .i64 amount,.int .i64 id,.int .i64 due,.string (strOfNums hash),.string (strOfNums sec)] 164)=w1 at *
 have x0:=X.out.cell 0;have x1:=X.out.cell 1;have x2:=X.out.cell 2;have x3:=X.out.cell 3;have x4:=X.out.cell 4;have x5:=X.out.cell 5;have x6:=X.out.cell 6;have x7:=X.out.cell 7
 go_upto_region 7 with(fail)
 have KT:=Kept.mk (fun w=>istext_any sec w)
 by_cases h1:sec.length=32
 ·rw[decide_eq_true h1] at KT
  go_wp2_with (first|(go_at_call 206;refine(KT.out _).mono ?_;rintro x w' ⟨rfl,rfl⟩))
  go_ret
  refine⟨?_,B.out⟩
  have e:q=D:=by rw[← KE.out,Bool.eq_iff_iff,decide_eq_true_iff];exact⟨fun h=>KD.out.2 ⟨h1,h⟩,fun h=>(KD.out.1 h).2⟩
  rw[← e]
  rfl
 ·rw[decide_eq_false h1] at KT
  go_wp2_with (first|(go_at_call 206;refine(KT.out _).mono ?_;rintro x w' ⟨rfl,rfl⟩))
  go_ret
  refine⟨?_,B.out⟩
  have e:false=D:=by rw[← KE.out];exact(decide_eq_false (fun h=>h1 (KD.out.1 h).1)).symm
  rw[← e]
  rfl
set_option maxRecDepth 100000 in
set_option maxHeartbeats 2000000 in
theorem hold4  (dst asset amount id due:Int) (hash sec:List Int) (w:World) (hb:Bytes hash) (hc:Bytes sec):Calls Tryz.prog 170 #[rqv ⟨4,dst,asset,amount,id,due,hash,sec⟩] w fun e w'=>e=.returned (.bool (decide (HoldR ⟨4,dst,asset,amount,id,due,hash,sec⟩)))∧Below w.heap.size w w':=by
 have HQ:∀ w:World,(binOp .eql 164 (.agg #[.int .i64 4,.int .i64 dst,.int .i64 asset,.int .i64 amount,.int .i64 id,.int .i64 due,.string (strOfNums hash),.string (strOfNums sec)]) (.agg #[.int .i64 4,.int .i64 0,.int .i64 0,.int .i64 0,.int .i64 id,.int .i64 0,.string ⟨#[]⟩,.string ⟨#[]⟩])).run Tryz.prog w=.ok (.bool (sameR ⟨4,dst,asset,amount,id,due,hash,sec⟩ ⟨4,0,0,0,id,0,[],[]⟩)) w:=fun w=>req_eql ⟨4,dst,asset,amount,id,due,hash,sec⟩ ⟨4,0,0,0,id,0,[],[]⟩ ⟨hb,hc⟩ ⟨by intro x hx;simp at hx,by intro x hx;simp at hx⟩ w
 have HD:HoldR ⟨4,dst,asset,amount,id,due,hash,sec⟩ ↔ sameR ⟨4,dst,asset,amount,id,due,hash,sec⟩ ⟨4,0,0,0,id,0,[],[]⟩=true:=by
  rw[sameR_iff]
  unfold HoldR
  simp only[RV.mk.injEq,true_and]
  constructor<;>(intro h;simp_all)
 obtain⟨D,hD⟩:∃ D,decide (HoldR ⟨4,dst,asset,amount,id,due,hash,sec⟩)=D:=⟨_,rfl⟩
 rw[hD]
 generalize sameR ⟨4,dst,asset,amount,id,due,hash,sec⟩ ⟨4,0,0,0,id,0,[],[]⟩=q at *
 have KD:=Kept.mk HD;have KE:=Kept.mk hD
 clear HD hD
 unfold rqv
 dsimp only
 have B:Kept (Below w.heap.size w (w.alloc (.cells #[.int .i64 4,.int .i64 dst,.int .i64 asset,.int .i64 amount,.int .i64 id,.int .i64 due,.string (strOfNums hash),.string (strOfNums sec)] 164))):=⟨(Below.refl _ _).alloc (Nat.le_refl _) _⟩
 have X:Kept (Blk (w.alloc (.cells #[.int .i64 4,.int .i64 dst,.int .i64 asset,.int .i64 amount,.int .i64 id,.int .i64 due,.string (strOfNums hash),.string (strOfNums sec)] 164)) w.heap.size 164 #[.int .i64 4,.int .i64 dst,.int .i64 asset,.int .i64 amount,.int .i64 id,.int .i64 due,.string (strOfNums hash),.string (strOfNums sec)]):=⟨Blk.new w _ _⟩
 go_enter Tryz.func170,Tryz.ntmps170
 go_upto_region 1 with(fail)
 generalize w.alloc (.cells #[.int .i64 4,.int .i64 dst,.int .i64 asset,.int .i64 amount,.int .i64 id,.int .i64 due,.string (strOfNums hash),.string (strOfNums sec)] 164)=w1 at *
 have x0:=X.out.cell 0;have x1:=X.out.cell 1;have x2:=X.out.cell 2;have x3:=X.out.cell 3;have x4:=X.out.cell 4;have x5:=X.out.cell 5;have x6:=X.out.cell 6;have x7:=X.out.cell 7
 go_wp2
 go_ret
 refine⟨?_,B.out⟩
 have e:q=D:=by rw[← KE.out,Bool.eq_iff_iff,decide_eq_true_iff];exact KD.out.symm
 rw[← e]
 rfl
set_option maxRecDepth 100000 in
set_option maxHeartbeats 2000000 in
theorem hold5 (kind:Int) (k1:kind≠1) (k2:kind≠2) (k3:kind≠3) (k4:kind≠4) (dst asset amount id due:Int) (hash sec:List Int) (w:World):Calls Tryz.prog 170 #[rqv ⟨kind,dst,asset,amount,id,due,hash,sec⟩] w fun e w'=>e=.returned (.bool (decide (HoldR ⟨kind,dst,asset,amount,id,due,hash,sec⟩)))∧Below w.heap.size w w':=by
 have KD:Kept (decide (HoldR ⟨kind,dst,asset,amount,id,due,hash,sec⟩)=false):=⟨decide_eq_false (by
  rintro (h|h|h|h)
  ·exact k1 h.1
  ·exact k2 h.1
  ·exact k3 h.1
  ·exact k4 h.1
  )⟩
 rw[KD.out]
 have d1:(kind == 1)=false:=beq_eq_false_iff_ne.2 k1
 have d2:(kind == 2)=false:=beq_eq_false_iff_ne.2 k2
 have d3:(kind == 3)=false:=beq_eq_false_iff_ne.2 k3
 have d4:(kind == 4)=false:=beq_eq_false_iff_ne.2 k4
 unfold rqv
 dsimp only
 have B:Kept (Below w.heap.size w (w.alloc (.cells #[.int .i64 kind,.int .i64 dst,.int .i64 asset,.int .i64 amount,.int .i64 id,.int .i64 due,.string (strOfNums hash),.string (strOfNums sec)] 164))):=⟨(Below.refl _ _).alloc (Nat.le_refl _) _⟩
 have X:Kept (Blk (w.alloc (.cells #[.int .i64 kind,.int .i64 dst,.int .i64 asset,.int .i64 amount,.int .i64 id,.int .i64 due,.string (strOfNums hash),.string (strOfNums sec)] 164)) w.heap.size 164 #[.int .i64 kind,.int .i64 dst,.int .i64 asset,.int .i64 amount,.int .i64 id,.int .i64 due,.string (strOfNums hash),.string (strOfNums sec)]):=⟨Blk.new w _ _⟩
 go_enter Tryz.func170,Tryz.ntmps170
 go_upto_region 1 with(fail)
 generalize w.alloc (.cells #[.int .i64 kind,.int .i64 dst,.int .i64 asset,.int .i64 amount,.int .i64 id,.int .i64 due,.string (strOfNums hash),.string (strOfNums sec)] 164)=w1 at *
 have x0:=X.out.cell 0;have x1:=X.out.cell 1;have x2:=X.out.cell 2;have x3:=X.out.cell 3;have x4:=X.out.cell 4;have x5:=X.out.cell 5;have x6:=X.out.cell 6;have x7:=X.out.cell 7
 go_wp2
 go_ret
 exact⟨rfl,B.out⟩
theorem holdR_any (r:RV) (hr:r.ok) (w:World):Calls Tryz.prog 170 #[rqv r] w fun e w'=>e=.returned (.bool (decide (HoldR r)))∧Below w.heap.size w w':=by
 obtain⟨kind,dst,asset,amount,id,due,hash,sec⟩:=r
 obtain⟨hb,hc⟩:=hr
 by_cases k1:kind=1
 ·subst k1;exact hold1 dst asset amount id due hash sec w hb hc
 by_cases k2:kind=2
 ·subst k2;exact hold2 dst asset amount id due hash sec w hb hc
 by_cases k3:kind=3
 ·subst k3;exact hold3 dst asset amount id due hash sec w hb hc
 by_cases k4:kind=4
 ·subst k4;exact hold4 dst asset amount id due hash sec w hb hc
 exact hold5 kind k1 k2 k3 k4 dst asset amount id due hash sec w
end Go.Proofs.YtlkeieoecfkkeaaGreat.Req
namespace Go.Proofs.YtlkeieoecfkkeaaGreat.Sha
open Go.RowKit
end Go.Proofs.YtlkeieoecfkkeaaGreat.Sha
