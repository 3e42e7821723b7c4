/-
  Parts laid together: ToBytes EscrowMem EscrowPost ReqMem RcSlice EscrowRef LedgerRMem LedgerRPush EscrowPush EscrowRef2 EscrowRef3 ReqRGet0 EscrowPc.
-/
import Derived.Test.YtchcgoabogcabaaGreatPart9
import Derived.Lib.ConvBytes
import Derived.Test.YtchcgoabogcabaaGreatPart5
import Derived.Test.YtchcgoabogcabaaGreatPart7
import Derived.Test.YtchcgoabogcabaaGreatPart3
import Derived.Test.YtchcgoabogcabaaGreatPart6
import Derived.Maps.AppendAt
import Derived.Test.YtchcgoabogcabaaGreatPart8
namespace Go.Proofs.YtchcgoabogcabaaGreat.Sha
open Go.RowKit
theorem str_at (xs:List Int) (hb:Bytes xs) (j:Nat) (hj:j < xs.length):(((strOfNums xs).data.toList.getD j 0).toNat:Int)=at_ xs j:=by
 have hx:=hb xs[j] (List.getElem_mem hj)
 rw[strOfNums_data]
 simp only[List.getD_eq_getElem?_getD,List.getElem?_map,List.getElem?_eq_getElem hj,Option.map_some,Option.getD_some,at_]
 simp only[UInt8.toNat_ofNat']
 omega
theorem to_bytes (w:World) (xs:List Int) (hb:Bytes xs):∃ w' c,(convert 9 26 (.string (strOfNums xs))).run Tryz.prog w=.ok (.slice (some ⟨w.heap.size,0,none⟩) xs.length c) w'∧Rd w' (some ⟨w.heap.size,0,none⟩) xs.length xs∧Below w.heap.size w w':=by
 have h:=Lib.run_convert_string_bytes (P:=Tryz.prog) w _ _ 5 (strOfNums xs) Tryz.underlying9 Tryz.underlying26 Tryz.underlying5
 rw[strOfNums_size] at h
 refine⟨_,_,h,⟨rfl,hb,.inr ⟨w.heap.size,0,rfl,fun i hi=>?_⟩⟩,?_⟩
 ·rw[Nat.zero_add,Lib.bytesWorld_cell w _ _ i (by rw[strOfNums_size];exact hi),str_at xs hb i hi]
 ·refine⟨?_,?_,?_,by rw[Lib.bytesWorld_size];omega,fun k hk=>Lib.bytesWorld_at_old w _ _ k hk⟩
  all_goals simp[Lib.bytesWorld,World.freeze,World.alloc,World.drew,-World.alloc_eq,-World.drew_eq]
end Go.Proofs.YtchcgoabogcabaaGreat.Sha
namespace Go.Proofs.YtchcgoabogcabaaGreat.Escrow
open Go.RowKit Go.Proofs.YtchcgoabogcabaaGreat.Sha Go.Proofs.YtchcgoabogcabaaGreat.Purse
def evC (e:EV):List Value:=[.int .i64 e.src,.int .i64 e.dst,.int .i64 e.asset,.int .i64 e.amount,.int .i64 e.due,.int .i64 e.state,.string (strOfNums e.hash),.string (strOfNums e.secret)]
theorem evC_len (e:EV):(evC e).length=8:=rfl
def evF (l:List EV):List Value:=l.flatMap evC
theorem evF_snoc (l:List EV) (e:EV):evF (l++[e])=evF l++evC e:=by simp[evF]
theorem evF_at:∀ (l:List EV) (k j:Nat),k < l.length→j < 8→(evF l)[k * 8+j]?=(evC (atE l k))[j]?
  | e :: l,0,j,_,hj=>by
    show (evC e++evF l)[0 * 8+j]?=(evC e)[j]?
    rw[List.getElem?_append_left (by rw[evC_len];omega)]
    simp
  | e :: l,k+1,j,hk,hj=>by
    show (evC e++evF l)[(k+1) * 8+j]?=_
    rw[List.getElem?_append_right (by rw[evC_len];omega),evC_len,show (k+1) * 8+j - 8=k * 8+j by omega,evF_at l k j (by simpa using hk) hj]
    rfl
theorem evF_set:∀ (l:List EV) (k j:Nat) (u:Value) (x:EV),k < l.length→j < 8→evC x=(evC (atE l k)).set j u→(evF l).set (k * 8+j) u=evF (l.set k x)
  | e :: l,0,j,u,x,_,hj,hx=>by
    show (evC e++evF l).set (0 * 8+j) u=evC x++evF l
    rw[List.set_append_left _ _ (by rw[evC_len];omega),hx]
    simp[atE]
  | e :: l,k+1,j,u,x,hk,hj,hx=>by
    show (evC e++evF l).set ((k+1) * 8+j) u=evC e++evF (l.set k x)
    rw[List.set_append_right _ _ (by rw[evC_len];omega),evC_len,show (k+1) * 8+j - 8=k * 8+j by omega,evF_set l k j u x (by simpa using hk) hj hx]
theorem evC_one (e:EV):∀ v∈evC e,v.oneCell'=true:=by
 intro v hv
 simp only[evC,List.mem_cons,List.not_mem_nil,or_false] at hv
 rcases hv with rfl|rfl|rfl|rfl|rfl|rfl|rfl|rfl<;>rfl
def El (w:World) (v:Value) (l:List EV):Prop:=w.ownsRow 0 67 8 v l.length (evF l)
section
variable {w w' : World} {v : Value} {l : List EV}
theorem El.keep {G:List Nat}(h:El w v l) (b:Bar G w w') (hd:∀ g∈v.ownBlock.toList,g∉G):El w' v l:=own_keep h b hd
theorem El.lt (h:El w v l):∀ g∈v.ownBlock.toList,g < w.heap.size:=own_lt h
theorem El.nil (w:World):El w (.slice none 0 0) []:=World.ownsRow_nil _ _ _ _
theorem El.shape (h:El w v l):∃ A c,v=.slice A l.length c∧l.length≤c∧c≤9223372036854775807:=by
 rcases h.2 with⟨hv,hx⟩|⟨g,c,cur,hv,-,-,h1,h2,-⟩
 ·exact⟨none,0,by rw[hv,hx],by omega,by omega⟩
 ·exact⟨_,c,hv,h1,by unfold maxLen at h2;omega⟩
theorem El.at_ (h:El w v l) {k:Nat}(hk:k < l.length):∃ g c,v=.slice (some ⟨g,0,none⟩) l.length c∧l.length≤c∧c≤9223372036854775807∧(∀ j,w.frozen? ⟨g,j,none⟩=false)∧∀ j u,j < 8→(evC (atE l k))[j]?=some u→w.cell? ⟨g,k * 8+j,none⟩=some u:=by
 have h0:=h
 rcases h.2 with⟨hv,hx⟩|⟨g,c,cur,hv,-,hb,h1,h2,-⟩
 ·omega
 ·unfold El at h0
  rw[hv] at h0
  refine⟨g,c,hv,h1,by unfold maxLen at h2;omega,fun j=>World.ownsRow.frozenAt h0 j,fun j u hj hu=>?_⟩
  rw[World.ownsRow.cellAt h0 (k * 8+j) (by omega),evF_at l k j hk hj,hu]
theorem El.cells (h:El w v l) {k:Nat}(hk:k < l.length):∃ g c,v=.slice (some ⟨g,0,none⟩) l.length c∧l.length≤c∧c≤9223372036854775807∧(∀ j,w.frozen? ⟨g,j,none⟩=false) ∧
  w.cell? ⟨g,k * 8,none⟩=some (.int .i64 (atE l k).src)∧w.cell? ⟨g,k * 8+1,none⟩=some (.int .i64 (atE l k).dst)∧w.cell? ⟨g,k * 8+2,none⟩=some (.int .i64 (atE l k).asset)∧w.cell? ⟨g,k * 8+3,none⟩=some (.int .i64 (atE l k).amount) ∧
  w.cell? ⟨g,k * 8+4,none⟩=some (.int .i64 (atE l k).due)∧w.cell? ⟨g,k * 8+5,none⟩=some (.int .i64 (atE l k).state)∧w.cell? ⟨g,k * 8+6,none⟩=some (.string (strOfNums (atE l k).hash))∧w.cell? ⟨g,k * 8+7,none⟩=some (.string (strOfNums (atE l k).secret)):=by
 obtain⟨g,c,h1,h2,h3,h4,h5⟩:=h.at_ hk
 exact⟨g,c,h1,h2,h3,h4,h5 0 _ (by omega) rfl,h5 1 _ (by omega) rfl,h5 2 _ (by omega) rfl,h5 3 _ (by omega) rfl,h5 4 _ (by omega) rfl,h5 5 _ (by omega) rfl,h5 6 _ (by omega) rfl,h5 7 _ (by omega) rfl⟩
theorem El.set {g c:Nat}(h:El w (.slice (some ⟨g,0,none⟩) l.length c) l) {k j:Nat}(hk:k < l.length) (hj:j < 8) {u:Value}{x:EV}(hx:evC x=(evC (atE l k)).set j u):El (w.setCell ⟨g,k * 8+j,none⟩ u) (.slice (some ⟨g,0,none⟩) (l.set k x).length c) (l.set k x):=by
 have h1:=(World.ownsRow.stored h (k * 8+j) u).1
 rw[evF_set l k j u x hk hj hx] at h1
 rw[List.length_set]
 unfold El
 rw[List.length_set]
 exact h1
end
end Go.Proofs.YtchcgoabogcabaaGreat.Escrow
namespace Go.Proofs.YtchcgoabogcabaaGreat.Escrow
open Go.RowKit Go.Proofs.YtchcgoabogcabaaGreat.Sha Go.Proofs.YtchcgoabogcabaaGreat.Purse Go.Proofs.YtchcgoabogcabaaGreat.Num
def evV (e:EV):Value:=.agg #[.int .i64 e.src,.int .i64 e.dst,.int .i64 e.asset,.int .i64 e.amount,.int .i64 e.due,.int .i64 e.state,.string (strOfNums e.hash),.string (strOfNums e.secret)]
def GetPost (r:EV × Bool) (w:World) (e:Ending) (w':World):Prop:=e=.returned (.tuple #[evV r.1,.bool r.2])∧Below w.heap.size w w'
def TellB (v:Value) (w:World) (e:Ending) (w':World):Prop:=e=.returned v∧Below w.heap.size w w'
def zeroE:Value:=.agg #[.int .i64 0,.int .i64 0,.int .i64 0,.int .i64 0,.int .i64 0,.int .i64 0,.string ⟨#[]⟩,.string ⟨#[]⟩]
theorem info_ev:(Tryz.prog.info? 67).map (fun i=>(i.zero,i.size,i.bytes))=some (some zeroE,8,80):=by kernel_rfl
def LockPost (D:World→List Nat→BS→Prop) (w:World) (F:List Nat) (r:(Int × Int) × BS) (e:Ending) (w':World):Prop:=e=.returned (.tuple #[.int .i64 r.1.1,.int .i64 r.1.2])∧∃ F',D w' F' r.2∧Fp F F' w w'
theorem take_same {s:PS}{i a n te:Int}{ts:PS}(w:WF s) (h:takeP s i a n=(te,ts)) (h0:te≠0):ts=s:=by
 rcases take_cases w i a n with⟨e,he,h1⟩|⟨s',h1,-⟩
 ·rw[h1] at h;injection h with h2 h3;exact h3.symm
 ·rw[h1] at h;injection h with h2 h3;exact absurd h2.symm h0
theorem lock_range {b:BS}{i j a n due clock:Int}{h:List Int}(k:¬ (isP b.p i=true∧isP b.p j=true∧isA b.p a=true∧amtB n=true∧n≠0∧tickB due=true∧tickB clock=true)):lockB b i j a n h due clock=((0,1),b):=by unfold lockB;rw[if_pos k]
def BookPost (D:World→List Nat→BS→Prop) (w:World) (F:List Nat) (r:Int × BS) (e:Ending) (w':World):Prop:=e=.returned (.int .i64 r.1)∧∃ F',D w' F' r.2∧Fp F F' w w'
theorem refund_none {b:BS}{who id clock:Int}(h:id < 0∨(b.l.length:Int)≤id):refundB b who id clock=(8,b):=by
 unfold refundB
 rw[if_pos (by unfold hasE;rw[decide_eq_false_iff_not];omega)]
theorem refund_some {b:BS}{who clock:Int}{k:Nat}(h:k < b.l.length):refundB b who k clock=if (atE b.l k).src≠who then (14,b)
 else if (atE b.l k).state≠0 then (9,b)
 else if clock < (atE b.l k).due∨tickB clock=false then (11,b)
 else if (giveP b.p who (atE b.l k).asset (atE b.l k).amount).1≠0 then ((giveP b.p who (atE b.l k).asset (atE b.l k).amount).1,b)
 else (0,⟨(giveP b.p who (atE b.l k).asset (atE b.l k).amount).2,b.l.set k { atE b.l k with state:=2 }⟩):=by
 unfold refundB
 rw[if_neg (by unfold hasE;rw[decide_eq_false_iff_not];omega),Int.toNat_natCast]
theorem give_same {s:PS}{i a n te:Int}{ts:PS}(h:giveP s i a n=(te,ts)) (h0:te≠0):ts=s:=by
 unfold giveP at h
 split at h
 ·injection h with h1 h2;exact absurd h1.symm h0
 ·injection h with h1 h2;exact h2.symm
theorem claim_none {b:BS}{who id clock:Int}{s:List Int}(h:id < 0∨(b.l.length:Int)≤id):claimB b who id s clock=(8,b):=by
 unfold claimB
 rw[if_pos (by unfold hasE;rw[decide_eq_false_iff_not];omega)]
theorem claim_some {b:BS}{who clock:Int}{s:List Int}{k:Nat}(h:k < b.l.length):claimB b who k s clock=if (atE b.l k).dst≠who then (14,b)
 else if (atE b.l k).state≠0 then (9,b)
 else if (atE b.l k).due≤clock∨tickB clock=false then (11,b)
 else if s.length≠32 then (2,b)
 else if sha s≠(atE b.l k).hash then (10,b)
 else if (giveP b.p who (atE b.l k).asset (atE b.l k).amount).1≠0 then ((giveP b.p who (atE b.l k).asset (atE b.l k).amount).1,b)
 else (0,⟨(giveP b.p who (atE b.l k).asset (atE b.l k).amount).2,b.l.set k { atE b.l k with state:=1,secret:=s }⟩):=by
 unfold claimB
 rw[if_neg (by unfold hasE;rw[decide_eq_false_iff_not];omega),Int.toNat_natCast]
end Go.Proofs.YtchcgoabogcabaaGreat.Escrow
namespace Go.Proofs.YtchcgoabogcabaaGreat.Req
open Go.RowKit Go.Proofs.YtchcgoabogcabaaGreat.Sha Go.Proofs.YtchcgoabogcabaaGreat.Wire
def rvC (r:RV):List Value:=[.int .i64 r.kind,.int .i64 r.dst,.int .i64 r.asset,.int .i64 r.amount,.int .i64 r.id,.int .i64 r.due,.string (strOfNums r.hash),.string (strOfNums r.sec)]
def vvC (r:VV):List Value:=[.int .i64 r.kind,.int .i64 r.src,.int .i64 r.dst,.int .i64 r.asset,.int .i64 r.amount,.int .i64 r.id,.int .i64 r.due,.string (strOfNums r.hash),.string (strOfNums r.sec)]
def pvC (r:PV):List Value:=[.int .i64 r.code,.int .i64 r.id]
def rqv (r:RV):Value:=.agg #[.int .i64 r.kind,.int .i64 r.dst,.int .i64 r.asset,.int .i64 r.amount,.int .i64 r.id,.int .i64 r.due,.string (strOfNums r.hash),.string (strOfNums r.sec)]
def vqv (r:VV):Value:=.agg #[.int .i64 r.kind,.int .i64 r.src,.int .i64 r.dst,.int .i64 r.asset,.int .i64 r.amount,.int .i64 r.id,.int .i64 r.due,.string (strOfNums r.hash),.string (strOfNums r.sec)]
def pqv (r:PV):Value:=.agg #[.int .i64 r.code,.int .i64 r.id]
theorem vvC_one (r:VV):∀ v∈vvC r,v.oneCell'=true:=by
 intro v hv
 simp only[vvC,List.mem_cons,List.not_mem_nil,or_false] at hv
 rcases hv with rfl|rfl|rfl|rfl|rfl|rfl|rfl|rfl|rfl<;>rfl
theorem pvC_one (r:PV):∀ v∈pvC r,v.oneCell'=true:=by
 intro v hv
 simp only[pvC,List.mem_cons,List.not_mem_nil,or_false] at hv
 rcases hv with rfl|rfl<;>rfl
abbrev Rr:=Rc rvC 8
abbrev Rv:=Rc vvC 9
abbrev Rp:=Rc pvC 2
theorem str_eq {xs ys:List Int}(hx:Bytes xs) (hy:Bytes ys):((strOfNums xs).toList=(strOfNums ys).toList)=(xs=ys):=propext ⟨strOfNums_inj hx hy,fun h=>by rw[h]⟩
theorem req_eql (a b:RV) (ha:a.ok) (hb:b.ok) (w:World):(binOp .eql 65 (rqv a) (rqv b)).run Tryz.prog w=.ok (.bool (sameR a b)) w:=by
 unfold rqv
 rw[run_eql_struct,run_equalIn_agg w _ _ _ _ (by kernel_rfl) (by kernel_rfl)]
 go_simp
 simp only[str_eq ha.1 hb.1,str_eq ha.2 hb.2]
 unfold sameR sameB
 repeat' split
 all_goals simp[*]
theorem ev_eql (a b:VV) (ha:a.ok) (hb:b.ok) (w:World):(binOp .eql 71 (vqv a) (vqv b)).run Tryz.prog w=.ok (.bool (sameV a b)) w:=by
 unfold vqv
 rw[run_eql_struct,run_equalIn_agg w _ _ _ _ (by kernel_rfl) (by kernel_rfl)]
 go_simp
 simp only[str_eq ha.1 hb.1,str_eq ha.2 hb.2]
 unfold sameV sameB
 repeat' split
 all_goals simp[*]
theorem ev_neq (a b:VV) (ha:a.ok) (hb:b.ok) (w:World):(binOp .neq 71 (vqv a) (vqv b)).run Tryz.prog w=.ok (.bool (!sameV a b)) w:=by
 unfold vqv
 rw[run_neq_struct,run_equalIn_agg w _ _ _ _ (by kernel_rfl) (by kernel_rfl)]
 go_simp
 simp only[str_eq ha.1 hb.1,str_eq ha.2 hb.2]
 unfold sameV sameB
 repeat' split
 all_goals simp[*]
theorem rep_neq (a b:PV) (w:World):(binOp .neq 63 (pqv a) (pqv b)).run Tryz.prog w=.ok (.bool (!sameP a b)) w:=by
 unfold pqv
 rw[run_neq_struct,run_equalIn_agg w _ _ _ _ (by kernel_rfl) (by kernel_rfl)]
 go_simp
 unfold sameP
 repeat' split
 all_goals simp[*]
end Go.Proofs.YtchcgoabogcabaaGreat.Req
namespace Go.Proofs.YtchcgoabogcabaaGreat.Req
open Go.RowKit Go.Proofs.YtchcgoabogcabaaGreat.Sha
theorem info_evs:(Tryz.prog.info? 71).map (fun i=>(i.zero,i.size,i.bytes))=some (some (.agg #[.int .i64 0,.int .i64 0,.int .i64 0,.int .i64 0,.int .i64 0,.int .i64 0,.int .i64 0,.string ⟨#[]⟩,.string ⟨#[]⟩]),9,88):=by kernel_rfl
theorem elem_evs:Tryz.prog.elem 40=71:=by kernel_rfl
theorem und_evs:Tryz.prog.underlying 40=some (.slice (Tryz.prog.elem 40)):=by rw[elem_evs];exact Tryz.underlying40
theorem size_evs (w:World):(sizeOf (Tryz.prog.elem 40)).run Tryz.prog w=.ok 9 w:=by
 obtain⟨iu,hi,_,hz1,_⟩:=info_parts info_evs
 rw[elem_evs]
 simp[sizeOf,typeInfo,hi,hz1]
theorem evs_l (A:Option Addr) (n c l:Nat) (h:l≤n) (hc:n≤c) (li:Int) (e1:li=l) :
  ∃ A',(∀ w',(Instr.slice 40 (.slice A n c) (some (.int .i64 li)) none none).run Tryz.prog w'=.ok (.slice A' (n - l) (c - l)) w')∧∀ w xs,Rv w A n xs→Rv w A' (n - l) (xs.drop l):=by
 subst e1
 refine⟨if c=l then A else A.map (·.add (l * 9)),fun w'=>?_,fun w xs r=>?_⟩
 ·rw[run_slice_l w' 40 A n c und_evs .i64 l (by omega) (by omega),size_evs]
  rfl
 ·refine⟨by rw[List.length_drop,r.1],?_⟩
  rcases r.2 with h0|⟨b,o,rfl,hx⟩
  ·exact .inl (by omega)
  ·by_cases hcl:c=l
   ·exact .inl (by omega)
   ·rw[if_neg hcl]
    refine .inr ⟨b,o+l * 9,?_,fun k x hk j v hv=>?_⟩
    ·have ea:(⟨b,o,none⟩:Addr).add (l * 9)=⟨b,o+l * 9,none⟩:=by cases l<;>simp[Addr.add]
     simp only[Option.map_some,ea]
    ·rw[List.getElem?_drop] at hk
     have:=hx (l+k) x hk j v hv
     rw[show o+l * 9+k * 9+j=o+(l+k) * 9+j by omega]
     exact this
end Go.Proofs.YtchcgoabogcabaaGreat.Req
namespace Go.Proofs.YtchcgoabogcabaaGreat.Escrow
open Go.RowKit Go.Proofs.YtchcgoabogcabaaGreat.Sha Go.Proofs.YtchcgoabogcabaaGreat.Purse Go.Proofs.YtchcgoabogcabaaGreat.Num
def Rk (w:World) (F:List Nat) (x q:Nat) (b:BS):Prop :=
 ∃ G v,Pr w G q b.p∧Blk w x 114 #[.pointer (some ⟨q,0,none⟩),v]∧El w v b.l∧(∀ g∈v.ownBlock.toList,g∉G∧g≠x)∧x∉G∧F=x :: (v.ownBlock.toList++G)
section
variable {w w' : World} {F K : List Nat} {x q : Nat} {b : BS}
theorem Rk.lts (h:Rk w F x q b):∀ k∈F,k < w.heap.size:=by
 obtain⟨G,v,h1,h2,h3,-,-,rfl⟩:=h
 intro k hk
 rcases List.mem_cons.1 hk with rfl|hk
 ·exact h2.lt
 ·rcases List.mem_append.1 hk with hk|hk
  ·exact h3.lt k hk
  ·exact h1.2.lts k hk
theorem Rk.keep (h:Rk w F x q b) (bb:Bar K w w') (j:Disj F K):Rk w' F x q b:=by
 obtain⟨G,v,h1,h2,h3,h4,h5,rfl⟩:=h
 exact⟨G,v,⟨h1.1,h1.2.keep bb (fun k hk=>j k (by simp[hk]))⟩,h2.bar bb (j x (by simp)),h3.keep bb (fun g hg=>j g (by simp[Option.mem_toList.1 hg])),h4,h5,rfl⟩
theorem Rk.below (h:Rk w F x q b) (bb:Below w.heap.size w w'):Rk w' F x q b:=h.keep (barOf bb []) (fun _ _=>by simp)
theorem Rk.purse (h:Rk w F x q b):∃ G,Pr w G q b.p:=by obtain⟨G,v,h1,-⟩:=h;exact⟨G,h1⟩
theorem Rk.list (h:Rk w F x q b):∃ A c,w.cell? ⟨x,1,none⟩=some (.slice A b.l.length c)∧b.l.length≤c∧c≤9223372036854775807:=by
 obtain⟨G,v,h1,h2,h3,-,-,-⟩:=h
 obtain⟨A,c,rfl,h4,h5⟩:=h3.shape
 exact⟨A,c,h2.cell 1,h4,h5⟩
theorem Rk.wf (h:Rk w F x q b):WF b.p:=by obtain⟨G,v,h1,-⟩:=h;exact h1.1
set_option maxRecDepth 100000 in
set_option maxHeartbeats 1000000 in
theorem ropen_any (h:Rk w F x q b):Calls Tryz.prog 102 #[.pointer (some ⟨x,0,none⟩)] w fun e w'=>e=.returned (.int .i64 (openB b))∧w=w':=by
 obtain⟨A,c,x1,hc,hcm⟩:=h.list
 have H:=Kept.mk h
 clear h
 obtain⟨n,hn⟩:∃ n,b.l.length=n:=⟨_,rfl⟩
 rw[hn] at x1 hc
 have HN:=Kept.mk hn
 unfold openB
 clear hn
 go_enter Tryz.func102,Tryz.ntmps102
 go_wp2
 go_loop [3,4] (fun s i=>∃ k z:Nat,k≤n∧z≤k∧i=.int .i64 k∧s=.int .i64 z∧Kept (openN b.l k=z)) (fun _ i=>n - (Go.RowKit.intOf i).toNat)
 case atStart=>exact⟨0,0,by omega,by omega,rfl,rfl,⟨rfl⟩⟩
 case round =>
  obtain⟨k,z,hk,hz,rfl,rfl,HZ⟩:=hrel
  by_cases hkn:k < n
  ·have hkn':(k:Int) < n:=by omega
   obtain⟨G,v,-,h2,h3,-⟩:=H.out
   obtain⟨g,c',hv,-,-,-,-,-,-,-,-,y5,-,-⟩:=h3.cells (k:=k) (by rw[HN.out];exact hkn)
   have x1':=h2.cell 1
   rw[x1,hv] at x1'
   simp only[Array.getElem?_eq_getElem,List.size_toArray,List.length_cons,List.length_nil,Nat.lt_add_one,List.getElem_toArray,List.getElem_cons_succ,List.getElem_cons_zero,Option.some.injEq,Value.slice.injEq] at x1'
   obtain⟨rfl,-,-⟩:=x1'
   have hs:openN b.l (k+1)=z+if (atE b.l k).state=0 then 1 else 0:=by
    show openN b.l k+_=_
    rw[HZ.out]
   clear h2 h3 hv
   by_cases h0:(atE b.l k).state=0
   ·rw[if_pos h0] at hs
    rw[h0] at y5
    have HS:=Kept.mk hs
    clear hs h0
    go_wp2
    go_round
    case rel=>exact⟨k+1,z+1,by omega,by omega,by go_num,by go_num,HS⟩
    case measure=>simp[Go.RowKit.intOf];omega
   ·rw[if_neg h0] at hs
    have HS:=Kept.mk hs
    have hb0:((atE b.l k).state == 0)=false:=beq_eq_false_iff_ne.2 h0
    clear hs h0
    generalize (atE b.l k).state=st at *
    go_wp2
    go_round
    case rel=>exact⟨k+1,z,by omega,by omega,by go_num,rfl,HS⟩
    case measure=>simp[Go.RowKit.intOf];omega
  ·have hkn':¬ (k:Int) < n:=by omega
   obtain rfl:k=n:=by omega
   go_wp2
   go_ret
   exact⟨by rw[HN.out,HZ.out];rfl,rfl⟩
end
end Go.Proofs.YtchcgoabogcabaaGreat.Escrow
namespace Go.Proofs.YtchcgoabogcabaaGreat.Ledger
open Go.RowKit Go.Proofs.YtchcgoabogcabaaGreat.Num Go.Proofs.YtchcgoabogcabaaGreat.Sha Go.Proofs.YtchcgoabogcabaaGreat.Purse Go.Proofs.YtchcgoabogcabaaGreat.Escrow Go.Proofs.YtchcgoabogcabaaGreat.Wire Go.Proofs.YtchcgoabogcabaaGreat.Req
def iC (i:Int):List Value:=[.int .i64 i]
theorem iC_len (i:Int):(iC i).length=1:=rfl
def who (s:LS):List Int:=s.e.map (·.who)
def whens (s:LS):List Int:=s.e.map (·.at_)
theorem who_len (s:LS):(who s).length=s.e.length:=by simp[who]
theorem whens_len (s:LS):(whens s).length=s.e.length:=by simp[whens]
def own3 (d d1 d2:Value):List Nat:=d.ownBlock.toList++(d1.ownBlock.toList++d2.ownBlock.toList)
theorem own3_mem {k:Nat}{d d1 d2:Value}:k∈own3 d d1 d2 ↔ k∈d.ownBlock.toList∨k∈d1.ownBlock.toList∨k∈d2.ownBlock.toList:=by simp only[own3,List.mem_append]
structure Dp (w:World) (F0:List Nat) (x b q:Nat) (st d d1 d2:Value) (s:LS):Prop where
 bk:Rk w F0 b q s.b
 blk:Blk w x 43 #[st,.int .i64 s.cap,.pointer (some ⟨b,0,none⟩),.int .i64 s.clock,d,d1,d2]
 re:Ow vvC 9 71 w d (evs s)
 rw_:Ow iC 1 3 w d1 (who s)
 rn:Ow iC 1 3 w d2 (whens s)
 xF:x∉F0
 dF:∀ g∈own3 d d1 d2,g∉F0
 dx:∀ g∈own3 d d1 d2,g≠x
 e1:∀ g∈d.ownBlock.toList,g∉d1.ownBlock.toList
 e2:∀ g∈d.ownBlock.toList,g∉d2.ownBlock.toList
 e3:∀ g∈d1.ownBlock.toList,g∉d2.ownBlock.toList
def df (x:Nat) (F0:List Nat) (d d1 d2:Value):List Nat:=x :: (F0++own3 d d1 d2)
theorem df_mem {k x:Nat}{F0:List Nat}{d d1 d2:Value}:k∈df x F0 d d1 d2 ↔ k=x∨k∈F0∨k∈own3 d d1 d2:=by simp only[df,List.mem_cons,List.mem_append]
def Dk (w:World) (F:List Nat) (x:Nat) (s:LS):Prop:=∃ F0 b q st d d1 d2,Dp w F0 x b q st d d1 d2 s∧F=df x F0 d d1 d2
section
variable {w w' w2 : World} {F F0 F1 K : List Nat} {x b q : Nat} {st d d1 d2 d' : Value} {s : LS} {b' : BS}
theorem Dp.lts (h:Dp w F0 x b q st d d1 d2 s):∀ k∈df x F0 d d1 d2,k < w.heap.size:=by
 intro k hk
 rcases df_mem.1 hk with rfl|hk|hk
 ·exact h.blk.lt
 ·exact h.bk.lts k hk
 ·rcases own3_mem.1 hk with hk|hk|hk
  ·exact h.re.lt k hk
  ·exact h.rw_.lt k hk
  ·exact h.rn.lt k hk
theorem Dp.keep (h:Dp w F0 x b q st d d1 d2 s) (bb:Bar K w w') (j:Disj (df x F0 d d1 d2) K):Dp w' F0 x b q st d d1 d2 s :=
 ⟨h.bk.keep bb (fun k hk=>j k (df_mem.2 (.inr (.inl hk)))),h.blk.bar bb (j x (df_mem.2 (.inl rfl))),
  h.re.keep bb (fun g hg=>j g (df_mem.2 (.inr (.inr (own3_mem.2 (.inl hg)))))),
  h.rw_.keep bb (fun g hg=>j g (df_mem.2 (.inr (.inr (own3_mem.2 (.inr (.inl hg))))))),
  h.rn.keep bb (fun g hg=>j g (df_mem.2 (.inr (.inr (own3_mem.2 (.inr (.inr hg))))))),
  h.xF,h.dF,h.dx,h.e1,h.e2,h.e3⟩
theorem Dp.below (h:Dp w F0 x b q st d d1 d2 s) (bb:Below w.heap.size w w'):Dp w' F0 x b q st d d1 d2 s:=h.keep (barOf bb []) (fun _ _=>by simp)
theorem Dp.book (h:Dp w F0 x b q st d d1 d2 s) (hk:Rk w2 F1 b q b') (fp:Fp F0 F1 w w2):Dp w2 F1 x b q st d d1 d2 ⟨s.cap,b',s.clock,s.e⟩∧Fp (df x F0 d d1 d2) (df x F1 d d1 d2) w w2:=by
 have ho:∀ g∈own3 d d1 d2,g < w.heap.size:=fun g hg=>h.lts g (df_mem.2 (.inr (.inr hg)))
 refine⟨⟨hk,h.blk.bar fp.1 h.xF,h.re.keep fp.1 (fun g hg=>h.dF g (own3_mem.2 (.inl hg))),h.rw_.keep fp.1 (fun g hg=>h.dF g (own3_mem.2 (.inr (.inl hg)))),h.rn.keep fp.1 (fun g hg=>h.dF g (own3_mem.2 (.inr (.inr hg)))),fun hm=>?_,fun g hg hm=>?_,h.dx,h.e1,h.e2,h.e3⟩,fp.1.mono (fun k hk=>.inl (df_mem.2 (.inr (.inl hk)))),fun k hk=>?_⟩
 ·rcases fp.2 x hm with e|e
  ·exact h.xF e
  ·have:=h.blk.lt;omega
 ·rcases fp.2 g hm with e|e
  ·exact h.dF g hg e
  ·have:=ho g hg;omega
 ·rcases df_mem.1 hk with e|e|e
  ·exact .inl (df_mem.2 (.inl e))
  ·rcases fp.2 k e with e|e
   ·exact .inl (df_mem.2 (.inr (.inl e)))
   ·exact .inr e
  ·exact .inl (df_mem.2 (.inr (.inr e)))
theorem Dp.tick (h:Dp w F0 x b q st d d1 d2 s) (c:Int):Dp (w.setCell ⟨x,3,none⟩ (.int .i64 c)) F0 x b q st d d1 d2 ⟨s.cap,s.b,c,s.e⟩∧Fp (df x F0 d d1 d2) (df x F0 d d1 d2) w (w.setCell ⟨x,3,none⟩ (.int .i64 c)):=by
 have b2:Bar [x] w (w.setCell ⟨x,3,none⟩ (.int .i64 c)):=(Bar.refl _ w).setCell (by simp) _
 have ho:∀ g∈own3 d d1 d2,g∉[x]:=fun g hg hm=>h.dx g hg (by simpa using hm)
 refine⟨⟨h.bk.keep b2 (fun k hk hm=>h.xF (by rw[List.mem_singleton] at hm;exact hm▸hk)),by simpa using h.blk.set_ 3 (.int .i64 c),h.re.keep b2 (fun g hg=>ho g (own3_mem.2 (.inl hg))),h.rw_.keep b2 (fun g hg=>ho g (own3_mem.2 (.inr (.inl hg)))),h.rn.keep b2 (fun g hg=>ho g (own3_mem.2 (.inr (.inr hg)))),h.xF,h.dF,h.dx,h.e1,h.e2,h.e3⟩,b2.mono (fun k hk=>.inl (df_mem.2 (.inl (by simpa using hk)))),fun _ hk=>.inl hk⟩
theorem Dp.c1 (h:Dp w F0 x b q st d d1 d2 s):w.cell? ⟨x,1,none⟩=some (.int .i64 s.cap):=h.blk.cell 1
theorem Dp.c2 (h:Dp w F0 x b q st d d1 d2 s):w.cell? ⟨x,2,none⟩=some (.pointer (some ⟨b,0,none⟩)):=h.blk.cell 2
theorem Dp.c3 (h:Dp w F0 x b q st d d1 d2 s):w.cell? ⟨x,3,none⟩=some (.int .i64 s.clock):=h.blk.cell 3
theorem Dp.events (h:Dp w F0 x b q st d d1 d2 s):∃ A c,d=.slice A s.e.length c∧w.cell? ⟨x,4,none⟩=some (.slice A s.e.length c)∧s.e.length≤c∧c≤9223372036854775807∧Rc vvC 9 w A s.e.length (evs s):=by
 obtain⟨A,c,hd,h4,h5,h6⟩:=Ow.rc (C:=vvC) (s:=9) (fun _=>rfl) h.re
 rw[evs_len] at hd h4 h6
 exact⟨A,c,hd,by rw[← hd];exact h.blk.cell 4,h4,h5,h6⟩
theorem Dp.whos (h:Dp w F0 x b q st d d1 d2 s):∃ A c,d1=.slice A s.e.length c∧w.cell? ⟨x,5,none⟩=some (.slice A s.e.length c)∧s.e.length≤c∧c≤9223372036854775807∧Rc iC 1 w A s.e.length (who s):=by
 obtain⟨A,c,hd,h4,h5,h6⟩:=Ow.rc iC_len h.rw_
 rw[who_len] at hd h4 h6
 exact⟨A,c,hd,by rw[← hd];exact h.blk.cell 5,h4,h5,h6⟩
theorem Dp.nows (h:Dp w F0 x b q st d d1 d2 s):∃ A c,d2=.slice A s.e.length c∧w.cell? ⟨x,6,none⟩=some (.slice A s.e.length c)∧s.e.length≤c∧c≤9223372036854775807∧Rc iC 1 w A s.e.length (whens s):=by
 obtain⟨A,c,hd,h4,h5,h6⟩:=Ow.rc iC_len h.rn
 rw[whens_len] at hd h4 h6
 exact⟨A,c,hd,by rw[← hd];exact h.blk.cell 6,h4,h5,h6⟩
theorem Dk.lts (h:Dk w F x s):∀ k∈F,k < w.heap.size:=by
 obtain⟨F0,b,q,st,d,d1,d2,h,rfl⟩:=h
 exact h.lts
theorem Dk.keep (h:Dk w F x s) (bb:Bar K w w') (j:Disj F K):Dk w' F x s:=by
 obtain⟨F0,b,q,st,d,d1,d2,h,rfl⟩:=h
 exact⟨F0,b,q,st,d,d1,d2,h.keep bb j,rfl⟩
theorem Dk.below (h:Dk w F x s) (bb:Below w.heap.size w w'):Dk w' F x s:=by
 obtain⟨F0,b,q,st,d,d1,d2,h,rfl⟩:=h
 exact⟨F0,b,q,st,d,d1,d2,h.below bb,rfl⟩
end
def DStep (w:World) (F:List Nat) (x:Nat) (a:Value) (s':LS) (e:Ending) (w':World):Prop:=e=.returned a∧∃ F',Dk w' F' x s'∧Fp F F' w w'
section
variable {w w3 : World} {x b q : Nat} {F0 : List Nat} {st d d1 d2 d' d1' d2' : Value} {s : LS} {e : LE}
theorem Dp.push3 (h:Dp w F0 x b q st d d1 d2 s) (b1:Bar (own3 d d1 d2) w w3)
  (o:Ow vvC 9 71 w3 d' (evs s++[e.v])) (o1:Ow iC 1 3 w3 d1' (who s++[e.who])) (o2:Ow iC 1 3 w3 d2' (whens s++[e.at_]))
  (n0:∀ g∈d'.ownBlock.toList,g∈d.ownBlock.toList∨w.heap.size≤g) (n1:∀ g∈d1'.ownBlock.toList,g∈d1.ownBlock.toList∨w.heap.size≤g) (n2:∀ g∈d2'.ownBlock.toList,g∈d2.ownBlock.toList∨w.heap.size≤g)
  (e1:∀ g∈d'.ownBlock.toList,g∉d1'.ownBlock.toList) (e2:∀ g∈d'.ownBlock.toList,g∉d2'.ownBlock.toList) (e3:∀ g∈d1'.ownBlock.toList,g∉d2'.ownBlock.toList) :
  Blk w3 x 43 #[st,.int .i64 s.cap,.pointer (some ⟨b,0,none⟩),.int .i64 s.clock,d,d1,d2]∧Dp (((w3.setCell ⟨x,4,none⟩ d').setCell ⟨x,5,none⟩ d1').setCell ⟨x,6,none⟩ d2') F0 x b q st d' d1' d2' ⟨s.cap,s.b,s.clock,s.e++[e]⟩∧Fp (df x F0 d d1 d2) (df x F0 d' d1' d2') w (((w3.setCell ⟨x,4,none⟩ d').setCell ⟨x,5,none⟩ d1').setCell ⟨x,6,none⟩ d2'):=by
 have nw:∀ g∈own3 d' d1' d2',g∈own3 d d1 d2∨w.heap.size≤g:=fun g hg=>by
  rcases own3_mem.1 hg with k|k|k
  ·exact(n0 g k).imp (fun h=>own3_mem.2 (.inl h)) id
  ·exact(n1 g k).imp (fun h=>own3_mem.2 (.inr (.inl h))) id
  ·exact(n2 g k).imp (fun h=>own3_mem.2 (.inr (.inr h))) id
 have dx:∀ g∈own3 d' d1' d2',g≠x:=fun g hg hm=>by
  rcases nw g hg with k|k
  ·exact h.dx g k hm
  ·have:=h.blk.lt;omega
 have dF:∀ g∈own3 d' d1' d2',g∉F0:=fun g hg hm=>by
  rcases nw g hg with k|k
  ·exact h.dF g k hm
  ·have:=h.bk.lts g hm;omega
 have hb3:=h.blk.bar b1 (fun hm=>h.dx x hm rfl)
 have b2:Bar [x] w3 (((w3.setCell ⟨x,4,none⟩ d').setCell ⟨x,5,none⟩ d1').setCell ⟨x,6,none⟩ d2'):=Bar.setCell (Bar.setCell (Bar.setCell (Bar.refl [x] w3) (p:=⟨x,4,none⟩) (.inl (by simp)) d') (p:=⟨x,5,none⟩) (.inl (by simp)) d1') (p:=⟨x,6,none⟩) (.inl (by simp)) d2'
 have ho:∀ g∈own3 d' d1' d2',g∉[x]:=fun g hg hm=>dx g hg (by simpa using hm)
 have bl:=((hb3.set_ 4 d').set_ 5 d1').set_ 6 d2'
 refine⟨hb3,⟨(h.bk.keep b1 (fun k hk hm=>h.dF k hm hk)).keep b2 (fun k hk hm=>h.xF (by rw[List.mem_singleton] at hm;exact hm▸hk)),by simpa using bl,?_,?_,?_,h.xF,dF,dx,e1,e2,e3⟩,?_,fun k hk=>?_⟩
 ·have:=o.keep b2 (fun g hg=>ho g (own3_mem.2 (.inl hg)))
  simpa [evs] using this
 ·have:=o1.keep b2 (fun g hg=>ho g (own3_mem.2 (.inr (.inl hg))))
  simpa [who] using this
 ·have:=o2.keep b2 (fun g hg=>ho g (own3_mem.2 (.inr (.inr hg))))
  simpa [whens] using this
 ·exact(b1.mono (l':=df x F0 d d1 d2) (fun z hz=>.inl (df_mem.2 (.inr (.inr hz))))).trans b2 (fun z hz=>.inl (df_mem.2 (.inl (by simpa using hz))))
 ·rcases df_mem.1 hk with k|k|k
  ·exact .inl (df_mem.2 (.inl k))
  ·exact .inl (df_mem.2 (.inr (.inl k)))
  ·rcases nw _ k with k|k
   ·exact .inl (df_mem.2 (.inr (.inr k)))
   ·exact .inr k
end
end Go.Proofs.YtchcgoabogcabaaGreat.Ledger
namespace Go.Proofs.YtchcgoabogcabaaGreat.Escrow
open Go.RowKit Go.Proofs.YtchcgoabogcabaaGreat.Sha Go.Proofs.YtchcgoabogcabaaGreat.Purse Go.Proofs.YtchcgoabogcabaaGreat.Num
theorem rk_push {x q:Nat}{w2 w3:World}{G:List Nat}{v v':Value}{p:PS}{l:List EV}{e:EV}{o:Obj}(hp:Pr w2 G q p) (hb:Blk w2 x 114 #[.pointer (some ⟨q,0,none⟩),v]) (hd:∀ g∈v.ownBlock.toList,g∉G∧g≠x) (hx:x∉G)
  (hg:(w2.alloc o).grownBy w3 v.ownBlock) (ho:w3.ownsRow 0 67 8 v' (l.length+1) (evF l++evC e)) (hat:v'.ownBlock=v.ownBlock∨v'.ownBlock=some (w2.alloc o).heap.size) :
  Blk w3 x 114 #[.pointer (some ⟨q,0,none⟩),v]∧Rk (w3.setCell ⟨x,1,none⟩ v') (x :: (v'.ownBlock.toList++G)) x q ⟨p,l++[e]⟩∧Fp (x :: (v.ownBlock.toList++G)) (x :: (v'.ownBlock.toList++G)) w2 (w3.setCell ⟨x,1,none⟩ v'):=by
 have b1:Bar v.ownBlock.toList w2 w3:=((Bar.refl _ w2).alloc o).grown hg (fun k hk=>.inl (by simp[hk]))
 have hb3:Blk w3 x 114 #[.pointer (some ⟨q,0,none⟩),v]:=hb.bar b1 (fun hm=>(hd x hm).2 rfl)
 have b2:Bar [x] w3 (w3.setCell ⟨x,1,none⟩ v'):=(Bar.refl _ w3).setCell (by simp) _
 have p3:Pr (w3.setCell ⟨x,1,none⟩ v') G q p:=⟨hp.1,(hp.2.keep b1 (fun k hk hm=>(hd k hm).1 hk)).keep b2 (fun k hk hm=>by rw[List.mem_singleton] at hm;exact hx (hm▸hk))⟩
 have far:∀ g∈v'.ownBlock.toList,g≠x:=fun g hg2 e=>own_far ho hb3 (by decide) (by rw[← e];exact Option.mem_toList.1 hg2)
 have el:El (w3.setCell ⟨x,1,none⟩ v') v' (l++[e]):=by
  have:El w3 v' (l++[e]):=by
   unfold El
   rw[List.length_append,List.length_singleton,evF_snoc]
   exact ho
  exact this.keep b2 (fun g hg2 hm=>far g hg2 (by simpa using hm))
 have nw:∀ g∈v'.ownBlock.toList,g∈v.ownBlock.toList∨w2.heap.size≤g:=fun g hg2=>by
  rcases hat with h|h
  ·rw[h] at hg2;exact .inl hg2
  ·rw[h] at hg2;simp at hg2;exact .inr (by omega)
 refine⟨hb3,⟨G,v',p3,by simpa using hb3.set_ 1 v',el,fun g hg2=>⟨fun hm=>?_,far g hg2⟩,hx,rfl⟩,?_,fun k hk=>?_⟩
 ·rcases nw g hg2 with h|h
  ·exact(hd g h).1 hm
  ·have:=hp.2.lts g hm;omega
 ·refine(b1.mono (l':=x :: (v.ownBlock.toList++G)) (fun z hz=>.inl (by simp[Option.mem_toList.1 hz]))).trans b2 (fun z hz=>.inl ?_)
  rw[List.mem_singleton] at hz
  simp[hz]
 ·rcases List.mem_cons.1 hk with h|hk
  ·exact .inl (by simp[h])
  ·rcases List.mem_append.1 hk with hk|hk
   ·rcases nw k hk with h|h
    ·exact .inl (by simp[Option.mem_toList.1 h])
    ·exact .inr h
   ·exact .inl (by simp[hk])
theorem rk_purse {w w2:World}{F G G':List Nat}{x q:Nat}{v:Value}{l:List EV}(hb:Blk w x 114 #[.pointer (some ⟨q,0,none⟩),v]) (he:El w v l) (hd:∀ g∈v.ownBlock.toList,g∉G∧g≠x) (hx:x∉G) (hF:F=x :: (v.ownBlock.toList++G)) (fp:Fp G G' w w2) :
  Blk w2 x 114 #[.pointer (some ⟨q,0,none⟩),v]∧El w2 v l∧(∀ g∈v.ownBlock.toList,g∉G'∧g≠x)∧x∉G'∧Fp F (x :: (v.ownBlock.toList++G')) w w2:=by
 subst hF
 refine⟨hb.bar fp.1 hx,he.keep fp.1 (fun g hg=>(hd g hg).1),fun g hg=>⟨fun hm=>?_,(hd g hg).2⟩,fun hm=>?_,fp.1.mono (fun k hk=>.inl (by simp[hk])),fun k hk=>?_⟩
 ·rcases fp.2 g hm with e|e
  ·exact(hd g hg).1 e
  ·have:=he.lt g hg;omega
 ·rcases fp.2 x hm with e|e
  ·exact hx e
  ·have:=hb.lt;omega
 ·rcases List.mem_cons.1 hk with e|hk
  ·exact .inl (by simp[e])
  ·rcases List.mem_append.1 hk with hk|hk
   ·exact .inl (by simp[Option.mem_toList.1 hk])
   ·rcases fp.2 k hk with e|e
    ·exact .inl (by simp[e])
    ·exact .inr e
theorem rk_turn {w:World}{G:List Nat}{x q g c k j:Nat}{p:PS}{l:List EV}{u:Value}{e:EV}(hp:Pr w G q p) (hb:Blk w x 114 #[.pointer (some ⟨q,0,none⟩),.slice (some ⟨g,0,none⟩) l.length c]) (he:El w (.slice (some ⟨g,0,none⟩) l.length c) l)
  (hg:g∉G) (hgx:g≠x) (hk:k < l.length) (hj:j < 8) (hx:evC e=(evC (atE l k)).set j u) :
  Pr (w.setCell ⟨g,k * 8+j,none⟩ u) G q p∧Blk (w.setCell ⟨g,k * 8+j,none⟩ u) x 114 #[.pointer (some ⟨q,0,none⟩),.slice (some ⟨g,0,none⟩) (l.set k e).length c]∧El (w.setCell ⟨g,k * 8+j,none⟩ u) (.slice (some ⟨g,0,none⟩) (l.set k e).length c) (l.set k e)∧Fp (x :: ([g]++G)) (x :: ([g]++G)) w (w.setCell ⟨g,k * 8+j,none⟩ u):=by
 have b:Bar [g] w (w.setCell ⟨g,k * 8+j,none⟩ u):=(Bar.refl _ w).setCell (by simp) _
 refine⟨⟨hp.1,hp.2.keep b (fun z hz hm=>by rw[List.mem_singleton] at hm;exact hg (hm▸hz))⟩,?_,he.set hk hj hx,b.mono (fun z hz=>.inl (by rw[List.mem_singleton] at hz;simp[hz])),fun _ hk=>.inl hk⟩
 rw[List.length_set]
 exact hb.bar b (by simpa using fun e=>hgx e.symm)
section
variable {w : World} {F : List Nat} {x q : Nat} {b : BS}
set_option maxRecDepth 100000 in
set_option maxHeartbeats 4000000 in
theorem rlock_any (h:Rk w F x q b) (i j a n:Int) (hs:List Int) (due clock:Int) (hl:b.l.length≤100000):Calls Tryz.prog 78 #[.pointer (some ⟨x,0,none⟩),.int .i64 i,.int .i64 j,.int .i64 a,.int .i64 n,.string (strOfNums hs),.int .i64 due,.int .i64 clock] w (LockPost (fun w' F' b'=>Rk w' F' x q b') w F (lockB b i j a n hs due clock)):=by
 have x0:w.cell? ⟨x,0,none⟩=some (.pointer (some ⟨q,0,none⟩)):=by obtain⟨G,v,-,h2,-⟩:=h;exact h2.cell 0
 obtain⟨G,hp⟩:=h.purse
 have P:=Kept.mk (ris_any hp i a)
 have Q:=Kept.mk (ris_any hp j a)
 have M:=Kept.mk (ramount_any n w)
 have D:=Kept.mk (rtick_any due w)
 have C:=Kept.mk (rtick_any clock w)
 have H:=Kept.mk h
 clear h hp
 cases c0:(isP b.p i && isA b.p a) with
 | false =>
  rw[c0] at P
  rw[lock_range (fun k=>by rw[k.1,k.2.2.1] at c0;cases c0)]
  clear c0
  go_enter Tryz.func78,Tryz.ntmps78
  go_wp2_with (first|(go_at_call 103;(with_reducible refine P.out.mono ?_);rintro e w' ⟨rfl,rfl⟩)|(go_at_call 103;(with_reducible refine Q.out.mono ?_);rintro e w' ⟨rfl,rfl⟩)|(go_at_call 55;(with_reducible refine M.out.mono ?_);rintro e w' ⟨rfl,rfl⟩)|(go_at_call 30;(with_reducible refine D.out.mono ?_);rintro e w' ⟨rfl,rfl⟩)|(go_at_call 30;(with_reducible refine C.out.mono ?_);rintro e w' ⟨rfl,rfl⟩))
  go_ret2
  exact⟨rfl,F,H.out,Fp.refl _ _⟩
 | true =>
  rw[c0] at P
  cases c1:(isP b.p j && isA b.p a) with
  | false =>
   rw[c1] at Q
   rw[lock_range (fun k=>by rw[k.2.1,k.2.2.1] at c1;cases c1)]
   clear c0 c1
   go_enter Tryz.func78,Tryz.ntmps78
   go_wp2_with (first|(go_at_call 103;(with_reducible refine P.out.mono ?_);rintro e w' ⟨rfl,rfl⟩)|(go_at_call 103;(with_reducible refine Q.out.mono ?_);rintro e w' ⟨rfl,rfl⟩)|(go_at_call 55;(with_reducible refine M.out.mono ?_);rintro e w' ⟨rfl,rfl⟩)|(go_at_call 30;(with_reducible refine D.out.mono ?_);rintro e w' ⟨rfl,rfl⟩)|(go_at_call 30;(with_reducible refine C.out.mono ?_);rintro e w' ⟨rfl,rfl⟩))
   go_ret2
   exact⟨rfl,F,H.out,Fp.refl _ _⟩
  | true =>
   rw[c1] at Q
   cases c2:amtB n with
   | false =>
    rw[c2] at M
    rw[lock_range (fun k=>by rw[k.2.2.2.1] at c2;cases c2)]
    clear c0 c1 c2
    go_enter Tryz.func78,Tryz.ntmps78
    go_wp2_with (first|(go_at_call 103;(with_reducible refine P.out.mono ?_);rintro e w' ⟨rfl,rfl⟩)|(go_at_call 103;(with_reducible refine Q.out.mono ?_);rintro e w' ⟨rfl,rfl⟩)|(go_at_call 55;(with_reducible refine M.out.mono ?_);rintro e w' ⟨rfl,rfl⟩)|(go_at_call 30;(with_reducible refine D.out.mono ?_);rintro e w' ⟨rfl,rfl⟩)|(go_at_call 30;(with_reducible refine C.out.mono ?_);rintro e w' ⟨rfl,rfl⟩))
    go_ret2
    exact⟨rfl,F,H.out,Fp.refl _ _⟩
   | true =>
    rw[c2] at M
    by_cases c3:n=0
    ·subst c3
     rw[lock_range (fun k=>k.2.2.2.2.1 rfl)]
     clear c0 c1 c2
     go_enter Tryz.func78,Tryz.ntmps78
     go_wp2_with (first|(go_at_call 103;(with_reducible refine P.out.mono ?_);rintro e w' ⟨rfl,rfl⟩)|(go_at_call 103;(with_reducible refine Q.out.mono ?_);rintro e w' ⟨rfl,rfl⟩)|(go_at_call 55;(with_reducible refine M.out.mono ?_);rintro e w' ⟨rfl,rfl⟩)|(go_at_call 30;(with_reducible refine D.out.mono ?_);rintro e w' ⟨rfl,rfl⟩)|(go_at_call 30;(with_reducible refine C.out.mono ?_);rintro e w' ⟨rfl,rfl⟩))
     go_ret2
     exact⟨rfl,F,H.out,Fp.refl _ _⟩
    ·have c3':(n == 0)=false:=beq_eq_false_iff_ne.2 c3
     cases c4:tickB due with
     | false =>
      rw[c4] at D
      rw[lock_range (fun k=>by rw[k.2.2.2.2.2.1] at c4;cases c4)]
      clear c0 c1 c2 c4
      go_enter Tryz.func78,Tryz.ntmps78
      go_wp2_with (first|(go_at_call 103;(with_reducible refine P.out.mono ?_);rintro e w' ⟨rfl,rfl⟩)|(go_at_call 103;(with_reducible refine Q.out.mono ?_);rintro e w' ⟨rfl,rfl⟩)|(go_at_call 55;(with_reducible refine M.out.mono ?_);rintro e w' ⟨rfl,rfl⟩)|(go_at_call 30;(with_reducible refine D.out.mono ?_);rintro e w' ⟨rfl,rfl⟩)|(go_at_call 30;(with_reducible refine C.out.mono ?_);rintro e w' ⟨rfl,rfl⟩))
      go_ret2
      exact⟨rfl,F,H.out,Fp.refl _ _⟩
     | true =>
      rw[c4] at D
      cases c5:tickB clock with
      | false =>
       rw[c5] at C
       rw[lock_range (fun k=>by rw[k.2.2.2.2.2.2] at c5;cases c5)]
       clear c0 c1 c2 c4 c5
       go_enter Tryz.func78,Tryz.ntmps78
       go_wp2_with (first|(go_at_call 103;(with_reducible refine P.out.mono ?_);rintro e w' ⟨rfl,rfl⟩)|(go_at_call 103;(with_reducible refine Q.out.mono ?_);rintro e w' ⟨rfl,rfl⟩)|(go_at_call 55;(with_reducible refine M.out.mono ?_);rintro e w' ⟨rfl,rfl⟩)|(go_at_call 30;(with_reducible refine D.out.mono ?_);rintro e w' ⟨rfl,rfl⟩)|(go_at_call 30;(with_reducible refine C.out.mono ?_);rintro e w' ⟨rfl,rfl⟩))
       go_ret2
       exact⟨rfl,F,H.out,Fp.refl _ _⟩
      | true =>
       rw[c5] at C
       rw[Bool.and_eq_true] at c0 c1
       have ok:isP b.p i=true∧isP b.p j=true∧isA b.p a=true∧amtB n=true∧n≠0∧tickB due=true∧tickB clock=true:=⟨c0.1,c1.1,c0.2,c2,c3,c4,c5⟩
       clear c0 c1 c2 c4 c5
       have LB:Kept (lockB b i j a n hs due clock=if hs.length≠32 then ((0,2),b) else if i=j then ((0,14),b) else if due≤clock then ((0,11),b) else if (takeP b.p i a n).1≠0 then ((0,(takeP b.p i a n).1),b) else ((((b.l.length:Nat):Int),0),(⟨(takeP b.p i a n).2,b.l++[⟨i,j,a,n,due,0,hs,[]⟩]⟩:BS))):=⟨by unfold lockB;rw[if_neg (fun k=>k ok)]⟩
       rw[LB.out]
       clear ok LB
       obtain⟨L,hL⟩:∃ L,hs.length=L:=⟨_,rfl⟩
       have hsz:(strOfNums hs).size=L:=by rw[strOfNums_size,hL]
       rw[hL]
       by_cases h32:L≠32
       ·rw[if_pos h32]
        have h32':¬ (L:Int)=32:=by omega
        go_enter Tryz.func78,Tryz.ntmps78
        go_wp2_with (first|(go_at_call 103;(with_reducible refine P.out.mono ?_);rintro e w' ⟨rfl,rfl⟩)|(go_at_call 103;(with_reducible refine Q.out.mono ?_);rintro e w' ⟨rfl,rfl⟩)|(go_at_call 55;(with_reducible refine M.out.mono ?_);rintro e w' ⟨rfl,rfl⟩)|(go_at_call 30;(with_reducible refine D.out.mono ?_);rintro e w' ⟨rfl,rfl⟩)|(go_at_call 30;(with_reducible refine C.out.mono ?_);rintro e w' ⟨rfl,rfl⟩))
        go_ret2
        exact⟨rfl,F,H.out,Fp.refl _ _⟩
       ·rw[if_neg h32]
        obtain rfl:L=32:=Decidable.not_not.1 h32
        clear h32
        by_cases hij:i=j
        ·subst hij
         rw[if_pos rfl]
         go_enter Tryz.func78,Tryz.ntmps78
         go_wp2_with (first|(go_at_call 103;(with_reducible refine P.out.mono ?_);rintro e w' ⟨rfl,rfl⟩)|(go_at_call 103;(with_reducible refine Q.out.mono ?_);rintro e w' ⟨rfl,rfl⟩)|(go_at_call 55;(with_reducible refine M.out.mono ?_);rintro e w' ⟨rfl,rfl⟩)|(go_at_call 30;(with_reducible refine D.out.mono ?_);rintro e w' ⟨rfl,rfl⟩)|(go_at_call 30;(with_reducible refine C.out.mono ?_);rintro e w' ⟨rfl,rfl⟩))
         go_ret2
         exact⟨rfl,F,H.out,Fp.refl _ _⟩
        ·rw[if_neg hij]
         have hij':(i == j)=false:=beq_eq_false_iff_ne.2 hij
         by_cases hdc:due≤clock
         ·rw[if_pos hdc]
          go_enter Tryz.func78,Tryz.ntmps78
          go_wp2_with (first|(go_at_call 103;(with_reducible refine P.out.mono ?_);rintro e w' ⟨rfl,rfl⟩)|(go_at_call 103;(with_reducible refine Q.out.mono ?_);rintro e w' ⟨rfl,rfl⟩)|(go_at_call 55;(with_reducible refine M.out.mono ?_);rintro e w' ⟨rfl,rfl⟩)|(go_at_call 30;(with_reducible refine D.out.mono ?_);rintro e w' ⟨rfl,rfl⟩)|(go_at_call 30;(with_reducible refine C.out.mono ?_);rintro e w' ⟨rfl,rfl⟩))
          go_ret2
          exact⟨rfl,F,H.out,Fp.refl _ _⟩
         ·rw[if_neg hdc]
          obtain⟨G,v,g1,g2,g3,g4,g5,g6⟩:=H.out
          have TK:=Kept.mk (rtake_any i a n g1)
          obtain⟨te,ts,hT⟩:∃ te ts,takeP b.p i a n=(te,ts):=⟨_,_,rfl⟩
          rw[hT] at TK ⊢
          by_cases h0:te=0
          ·subst h0
           rw[if_neg (by simp)]
           have G2:=Kept.mk g2;have G3:=Kept.mk g3;have G4:=Kept.mk g4;have G5:=Kept.mk g5;have G6:=Kept.mk g6
           clear g1 g2 g3 g4 g5 g6 H
           go_enter Tryz.func78,Tryz.ntmps78
           go_wp2_with (first|(go_at_call 103;(with_reducible refine P.out.mono ?_);rintro e w' ⟨rfl,rfl⟩)|(go_at_call 103;(with_reducible refine Q.out.mono ?_);rintro e w' ⟨rfl,rfl⟩)|(go_at_call 55;(with_reducible refine M.out.mono ?_);rintro e w' ⟨rfl,rfl⟩)|(go_at_call 30;(with_reducible refine D.out.mono ?_);rintro e w' ⟨rfl,rfl⟩)|(go_at_call 30;(with_reducible refine C.out.mono ?_);rintro e w' ⟨rfl,rfl⟩))
           refine TK.out.mono ?_
           rintro e w2 ⟨rfl,G',hp,fp⟩
           have B2:=G2.out.bar fp.1 G5.out
           have E2:=G3.out.keep fp.1 (fun g hg=>(G4.out g hg).1)
           have D2:∀ g∈v.ownBlock.toList,g∉G'∧g≠x:=fun g hg=>⟨fun hm=>by
            rcases fp.2 g hm with e|e
            ·exact(G4.out g hg).1 e
            ·have:=G3.out.lt g hg;omega,(G4.out g hg).2⟩
           have X2:x∉G':=fun hm=>by
            rcases fp.2 x hm with e|e
            ·exact G5.out e
            ·have:=G2.out.lt;omega
           have FPa:Fp F (x :: (v.ownBlock.toList++G')) w w2:=⟨fp.1.mono (fun k hk=>.inl (by rw[G6.out];simp[hk])),fun k hk=>by
            rcases List.mem_cons.1 hk with e|hk
            ·exact .inl (by rw[G6.out];simp[e])
            ·rcases List.mem_append.1 hk with hk|hk
             ·exact .inl (by rw[G6.out];simp[Option.mem_toList.1 hk])
             ·rcases fp.2 k hk with e|e
              ·exact .inl (by rw[G6.out];simp[e])
              ·exact .inr e⟩
           have PP:=Kept.mk hp;have BB:=Kept.mk B2;have EE:=Kept.mk E2;have DD:=Kept.mk D2;have XX:=Kept.mk X2;have FF:=Kept.mk FPa
           clear hp fp B2 E2 D2 X2 FPa TK G2 G3 G4 G5 G6 P Q M D C x0
           have x1:w2.cell? ⟨x,1,none⟩=some v:=BB.out.cell 1
           obtain⟨iu,hi,hz0,hz1,hz2⟩:=info_parts info_ev
           have NB:Kept (Blk (w2.alloc (.cells #[.int .i64 i,.int .i64 j,.int .i64 a,.int .i64 n,.int .i64 due,.int .i64 0,.string (strOfNums hs),.string ⟨#[]⟩] 67)) w2.heap.size 67 #[.int .i64 i,.int .i64 j,.int .i64 a,.int .i64 n,.int .i64 due,.int .i64 0,.string (strOfNums hs),.string ⟨#[]⟩]):=⟨Blk.new _ _ _⟩
           have OA:=Kept.mk (EE.out.alloc (.cells #[.int .i64 i,.int .i64 j,.int .i64 a,.int .i64 n,.int .i64 due,.int .i64 0,.string (strOfNums hs),.string ⟨#[]⟩] 67))
           have BA:=Kept.mk (BB.out.alloc (.cells #[.int .i64 i,.int .i64 j,.int .i64 a,.int .i64 n,.int .i64 due,.int .i64 0,.string (strOfNums hs),.string ⟨#[]⟩] 67))
           have hlt:=BB.out.lt
           go_upto_region 12 with(fail)
           have NEWS:=Kept.mk (new_cells w2 67 (evC ⟨i,j,a,n,due,0,hs,[]⟩))
           have H63:b.l.length+1≤maxLen:=by unfold maxLen;omega
           have H80:(b.l.length+1) * 80≤140737488355328:=by omega
           go_wp2_with ((with_reducible refine sel 93 ?_);refine wpList_append_own_at _ rfl (.tmp 84) (.tmp 92) 112 rfl 0 67 iu zeroE 8 80 Tryz.underlying112 hi hz0 hz1 hz2 rfl (by omega) v b.l.length (evF b.l) rfl OA.out ⟨w2.heap.size,0,none⟩ 1 1 (evC ⟨i,j,a,n,due,0,hs,[]⟩) rfl rfl NEWS.out (evC_one _) H63 H80 (Nat.zero_le _) ?_;intro v' w3 o1 g1 _ at1;obtain⟨A9,c9,hv9⟩:=own_shape o1;subst hv9;have PS:=Kept.mk (rk_push PP.out BB.out DD.out XX.out g1 o1 at1);have c31:=PS.out.1.cell 1;have f31:=PS.out.1.frozen 1;clear o1 g1 at1)
           go_ret2
           exact⟨rfl,_,PS.out.2.1,FF.out.trans PS.out.2.2⟩
          ·rw[if_pos h0]
           obtain rfl:ts=b.p:=take_same g1.1 hT h0
           clear hT
           have G2:=Kept.mk g2;have G3:=Kept.mk g3;have G4:=Kept.mk g4;have G5:=Kept.mk g5;have G6:=Kept.mk g6
           clear g1 g2 g3 g4 g5 g6 H
           go_enter Tryz.func78,Tryz.ntmps78
           go_wp2_with (first|(go_at_call 103;(with_reducible refine P.out.mono ?_);rintro e w' ⟨rfl,rfl⟩)|(go_at_call 103;(with_reducible refine Q.out.mono ?_);rintro e w' ⟨rfl,rfl⟩)|(go_at_call 55;(with_reducible refine M.out.mono ?_);rintro e w' ⟨rfl,rfl⟩)|(go_at_call 30;(with_reducible refine D.out.mono ?_);rintro e w' ⟨rfl,rfl⟩)|(go_at_call 30;(with_reducible refine C.out.mono ?_);rintro e w' ⟨rfl,rfl⟩))
           refine TK.out.mono ?_
           rintro e w2 ⟨rfl,G',hp,fp⟩
           have B2:=G2.out.bar fp.1 G5.out
           have E2:=G3.out.keep fp.1 (fun g hg=>(G4.out g hg).1)
           have D2:∀ g∈v.ownBlock.toList,g∉G'∧g≠x:=fun g hg=>⟨fun hm=>by
            rcases fp.2 g hm with e|e
            ·exact(G4.out g hg).1 e
            ·have:=G3.out.lt g hg;omega,(G4.out g hg).2⟩
           have X2:x∉G':=fun hm=>by
            rcases fp.2 x hm with e|e
            ·exact G5.out e
            ·have:=G2.out.lt;omega
           have FPa:Fp F (x :: (v.ownBlock.toList++G')) w w2:=⟨fp.1.mono (fun k hk=>.inl (by rw[G6.out];simp[hk])),fun k hk=>by
            rcases List.mem_cons.1 hk with e|hk
            ·exact .inl (by rw[G6.out];simp[e])
            ·rcases List.mem_append.1 hk with hk|hk
             ·exact .inl (by rw[G6.out];simp[Option.mem_toList.1 hk])
             ·rcases fp.2 k hk with e|e
              ·exact .inl (by rw[G6.out];simp[e])
              ·exact .inr e⟩
           have PP:=Kept.mk hp;have BB:=Kept.mk B2;have EE:=Kept.mk E2;have DD:=Kept.mk D2;have XX:=Kept.mk X2;have FF:=Kept.mk FPa
           clear hp fp B2 E2 D2 X2 FPa TK G2 G3 G4 G5 G6 P Q M D C x0
           have h0':(te == 0)=false:=beq_eq_false_iff_ne.2 h0
           go_wp2
           go_ret2
           exact⟨rfl,_,⟨G',v,PP.out,BB.out,EE.out,DD.out,XX.out,rfl⟩,FF.out⟩
end
section
variable {w : World} {F : List Nat} {x q : Nat} {b : BS}
set_option maxRecDepth 100000 in
set_option maxHeartbeats 4000000 in
theorem rrefund_any (h:Rk w F x q b) (who id clock:Int):Calls Tryz.prog 80 #[.pointer (some ⟨x,0,none⟩),.int .i64 who,.int .i64 id,.int .i64 clock] w (BookPost (fun w' F' b'=>Rk w' F' x q b') w F (refundB b who id clock)):=by
 obtain⟨A,c,x1,hc,hcm⟩:=h.list
 have H:=Kept.mk h
 clear h
 by_cases h0:id < 0
 ·rw[refund_none (.inl h0)]
  go_enter Tryz.func80,Tryz.ntmps80
  go_wp2
  go_ret
  exact⟨rfl,F,H.out,Fp.refl _ _⟩
 ·by_cases h1:(b.l.length:Int)≤id
  ·rw[refund_none (.inr h1)]
   generalize b.l.length=n at *
   go_enter Tryz.func80,Tryz.ntmps80
   go_wp2
   go_ret
   exact⟨rfl,F,H.out,Fp.refl _ _⟩
  ·obtain⟨k,rfl⟩:∃ k:Nat,id=k:=⟨id.toNat,by omega⟩
   have hk:k < b.l.length:=by omega
   rw[refund_some hk]
   obtain⟨G,v,g1,h2,h3,h4,h5,h6⟩:=H.out
   obtain⟨g,c',hv,-,-,fz,y0,y1,y2,y3,y4,y5,y6,y7⟩:=h3.cells hk
   subst hv
   have x1':=h2.cell 1
   have x0:w.cell? ⟨x,0,none⟩=some (.pointer (some ⟨q,0,none⟩)):=h2.cell 0
   rw[x1] at x1'
   simp only[Array.getElem?_eq_getElem,List.size_toArray,List.length_cons,List.length_nil,Nat.lt_add_one,List.getElem_toArray,List.getElem_cons_succ,List.getElem_cons_zero,Option.some.injEq,Value.slice.injEq] at x1'
   obtain⟨rfl,-,rfl⟩:=x1'
   have gl:g < w.heap.size:=World.block_lt_of_cell? _ _ y0
   have xl:x < w.heap.size:=h2.lt
   have bz:∀ o,Below w.heap.size w (w.alloc o):=fun o=>(Below.refl _ _).alloc (Nat.le_refl _) o
   have PE0:∀ o,Rk (w.alloc o) F x q b∧Fp F F w (w.alloc o):=fun o=>⟨H.out.below (bz o),barOf (bz o) _,fun _ hk=>.inl hk⟩
   have GV0:∀ o,Bar [] w (w.alloc o).drew:=fun o=>(barOf (bz o) []).drew
   have hTb:∀ o i a m,Calls Tryz.prog 106 #[.pointer (some ⟨q,0,none⟩),.int .i64 i,.int .i64 a,.int .i64 m] (w.alloc o).drew (StepPost (fun w' F' s'=>Pr w' F' q s') (w.alloc o).drew G (giveP b.p i a m)):=fun o i a m=>rgive_any i a m ⟨g1.1,g1.2.keep (GV0 o) (fun _ _=>by simp)⟩
   have Bb:∀ o,Blk (w.alloc o).drew x 114 #[.pointer (some ⟨q,0,none⟩),.slice (some ⟨g,0,none⟩) b.l.length c]:=fun o=>h2.bar (GV0 o) (by simp)
   have Eb:∀ o,El (w.alloc o).drew (.slice (some ⟨g,0,none⟩) b.l.length c) b.l:=fun o=>h3.keep (GV0 o) (fun _ _=>by simp)
   have B0:=Kept.mk Bb;have E0:=Kept.mk Eb;have hT0:=Kept.mk hTb;have D0:=Kept.mk h4;have X0:=Kept.mk h5;have H6:=Kept.mk h6
   have GX:=Kept.mk (h4 g (Option.mem_toList.2 rfl)).2
   clear g1 h2 h3 h4 h5 h6 GV0 hTb Bb Eb
   have TI:=Kept.mk (fun w=>rtick_any clock w)
   obtain⟨es,ed,ea,en,eu,et,eh,ec,hev⟩:∃ es ed ea en eu et eh ec,atE b.l k=⟨es,ed,ea,en,eu,et,eh,ec⟩:=⟨_,_,_,_,_,_,_,_,rfl⟩
   rw[hev] at y0 y1 y2 y3 y4 y5 y6 y7 ⊢
   dsimp only at y0 y1 y2 y3 y4 y5 y6 y7 ⊢
   have HE:=Kept.mk hev
   clear hev
   have PE:=Kept.mk (PE0 (.cells #[.int .i64 es,.int .i64 ed,.int .i64 ea,.int .i64 en,.int .i64 eu,.int .i64 et,.string (strOfNums eh),.string (strOfNums ec)] 67))
   have bz0:=bz (.cells #[.int .i64 es,.int .i64 ed,.int .i64 ea,.int .i64 en,.int .i64 eu,.int .i64 et,.string (strOfNums eh),.string (strOfNums ec)] 67)
   clear bz PE0
   have x2:=(bz0.cell (p:=⟨x,1,none⟩) (World.block_lt_of_cell? _ _ x1)).trans x1
   have x3:=(bz0.cell (p:=⟨x,0,none⟩) (World.block_lt_of_cell? _ _ x0)).trans x0
   have NEWS:=(new_cells w 67 (evC ⟨es,ed,ea,en,eu,et,eh,ec⟩))
   have n0:(w.alloc (.cells #[.int .i64 es,.int .i64 ed,.int .i64 ea,.int .i64 en,.int .i64 eu,.int .i64 et,.string (strOfNums eh),.string (strOfNums ec)] 67)).cell? ⟨w.heap.size,0,none⟩=some (.int .i64 es):=NEWS 0 _ rfl
   have n2:(w.alloc (.cells #[.int .i64 es,.int .i64 ed,.int .i64 ea,.int .i64 en,.int .i64 eu,.int .i64 et,.string (strOfNums eh),.string (strOfNums ec)] 67)).cell? ⟨w.heap.size,2,none⟩=some (.int .i64 ea):=NEWS 2 _ rfl
   have n3:(w.alloc (.cells #[.int .i64 es,.int .i64 ed,.int .i64 ea,.int .i64 en,.int .i64 eu,.int .i64 et,.string (strOfNums eh),.string (strOfNums ec)] 67)).cell? ⟨w.heap.size,3,none⟩=some (.int .i64 en):=NEWS 3 _ rfl
   clear bz0 NEWS
   obtain⟨n,hn⟩:∃ n,b.l.length=n:=⟨_,rfl⟩
   have HN:=Kept.mk hn
   rw[hn] at x1 x2 hc hk h1
   clear hn
   by_cases hw:es=who
   ·subst hw
    rw[if_neg (fun e=>e rfl)]
    by_cases hs:et=0
    ·subst hs
     rw[if_neg (fun e=>e rfl)]
     by_cases hd:clock < eu
     ·rw[if_pos (.inl hd)]
      go_enter Tryz.func80,Tryz.ntmps80
      go_wp2_with (go_at_call 30;(with_reducible refine(TI.out _).mono ?_);rintro e w' ⟨rfl,rfl⟩)
      go_ret
      exact⟨rfl,F,PE.out⟩
     ·cases ht:tickB clock with
      | false =>
       rw[if_pos (.inr rfl)]
       rw[ht] at TI
       go_enter Tryz.func80,Tryz.ntmps80
       go_wp2_with (go_at_call 30;(with_reducible refine(TI.out _).mono ?_);rintro e w' ⟨rfl,rfl⟩)
       go_ret
       exact⟨rfl,F,PE.out⟩
      | true =>
       rw[if_neg (fun e=>e.elim hd (by simp))]
       rw[ht] at TI
       obtain⟨te,ts,hT⟩:∃ te ts,giveP b.p es ea en=(te,ts):=⟨_,_,rfl⟩
       have GT:=Kept.mk (hT0.out (.cells #[.int .i64 es,.int .i64 ed,.int .i64 ea,.int .i64 en,.int .i64 eu,.int .i64 0,.string (strOfNums eh),.string (strOfNums ec)] 67) es ea en)
       have Bz:=Kept.mk (B0.out (.cells #[.int .i64 es,.int .i64 ed,.int .i64 ea,.int .i64 en,.int .i64 eu,.int .i64 0,.string (strOfNums eh),.string (strOfNums ec)] 67))
       have Ez:=Kept.mk (E0.out (.cells #[.int .i64 es,.int .i64 ed,.int .i64 ea,.int .i64 en,.int .i64 eu,.int .i64 0,.string (strOfNums eh),.string (strOfNums ec)] 67))
       rw[hT] at GT ⊢
       clear hT0 B0 E0
       by_cases h0:te=0
       ·subst h0
        rw[if_neg (fun e=>e rfl)]
        go_enter Tryz.func80,Tryz.ntmps80
        go_upto_region 10 with(go_at_call 30;(with_reducible refine(TI.out _).mono ?_);rintro e w' ⟨rfl,rfl⟩)
        generalize (w.alloc (.cells #[.int .i64 es,.int .i64 ed,.int .i64 ea,.int .i64 en,.int .i64 eu,.int .i64 0,.string (strOfNums eh),.string (strOfNums ec)] 67))=wz at *
        clear y0 y1 y2 y3 y4 y5 y6 y7 x0 x1 fz TI H
        refine wp_region_still_tail 10 (by kernel_rfl) (by kernel_rfl) ?_
        simp only[List.take_succ_cons,List.take_zero,List.drop_succ_cons,List.drop_zero]
        repeat still_step
        refine wpStill_nil ?_
        change wpList _ _ _ _ _ wz.drew
        go_wp2_with fail
        refine GT.out.mono ?_
        rintro e w2 ⟨rfl,G',hp,fp⟩
        have RP:=rk_purse Bz.out Ez.out D0.out X0.out H6.out fp
        have PP:=Kept.mk hp
        have B2:=Kept.mk RP.1;have E2:=Kept.mk RP.2.1;have D2:=Kept.mk RP.2.2.1;have X2:=Kept.mk RP.2.2.2.1
        have FF:Kept (Fp F _ w w2):=⟨Fp.trans ⟨PE.out.2.1.drew,PE.out.2.2⟩ RP.2.2.2.2⟩
        clear RP hp fp Bz Ez D0 X0 H6 GT PE
        have RT:=Kept.mk (rk_turn (k:=k) (j:=5) (u:=.int .i64 2) (e:=⟨es,ed,ea,en,eu,2,eh,ec⟩) PP.out B2.out E2.out (D2.out g (Option.mem_toList.2 rfl)).1 GX.out (by rw[HN.out];exact hk) (by decide) (by rw[HE.out];rfl))
        have x1:=B2.out.cell 1
        obtain⟨g',c',hv,-,-,fz,-,-,-,-,-,y5,-,-⟩:=E2.out.cells (k:=k) (by rw[HN.out];exact hk)
        obtain⟨rfl,-,-⟩:=by simpa using hv
        have fz5:=fz (k * 8+5)
        rw[HN.out] at x1
        clear fz
        go_wp2
        go_ret
        exact⟨rfl,_,⟨G',_,RT.out.1,RT.out.2.1,RT.out.2.2.1,fun z hz=>by
         obtain rfl:z=g:=(Option.some.inj (show some g=some z from Option.mem_toList.1 hz)).symm
         exact⟨(D2.out z (Option.mem_toList.2 rfl)).1,GX.out⟩,X2.out,rfl⟩,FF.out.trans RT.out.2.2.2⟩
       ·rw[if_pos h0]
        obtain rfl:ts=b.p:=give_same hT h0
        have h0':(te == 0)=false:=beq_eq_false_iff_ne.2 h0
        go_enter Tryz.func80,Tryz.ntmps80
        go_upto_region 10 with(go_at_call 30;(with_reducible refine(TI.out _).mono ?_);rintro e w' ⟨rfl,rfl⟩)
        generalize (w.alloc (.cells #[.int .i64 es,.int .i64 ed,.int .i64 ea,.int .i64 en,.int .i64 eu,.int .i64 0,.string (strOfNums eh),.string (strOfNums ec)] 67))=wz at *
        clear y0 y1 y2 y3 y4 y5 y6 y7 x0 x1 fz TI H
        refine wp_region_still_tail 10 (by kernel_rfl) (by kernel_rfl) ?_
        simp only[List.take_succ_cons,List.take_zero,List.drop_succ_cons,List.drop_zero]
        repeat still_step
        refine wpStill_nil ?_
        change wpList _ _ _ _ _ wz.drew
        go_wp2_with fail
        refine GT.out.mono ?_
        rintro e w2 ⟨rfl,G',hp,fp⟩
        have RP:=rk_purse Bz.out Ez.out D0.out X0.out H6.out fp
        have PP:=Kept.mk hp
        have B2:=Kept.mk RP.1;have E2:=Kept.mk RP.2.1;have D2:=Kept.mk RP.2.2.1;have X2:=Kept.mk RP.2.2.2.1
        have FF:Kept (Fp F _ w w2):=⟨Fp.trans ⟨PE.out.2.1.drew,PE.out.2.2⟩ RP.2.2.2.2⟩
        clear RP hp fp Bz Ez D0 X0 H6 GT PE
        go_wp2
        go_ret
        exact⟨rfl,_,⟨G',_,PP.out,B2.out,E2.out,D2.out,X2.out,rfl⟩,FF.out⟩
    ·rw[if_pos hs]
     have hs':(et == 0)=false:=beq_eq_false_iff_ne.2 hs
     go_enter Tryz.func80,Tryz.ntmps80
     go_wp2_with (go_at_call 30;(with_reducible refine(TI.out _).mono ?_);rintro e w' ⟨rfl,rfl⟩)
     go_ret
     exact⟨rfl,F,PE.out⟩
   ·rw[if_pos hw]
    have hw':(es == who)=false:=beq_eq_false_iff_ne.2 hw
    go_enter Tryz.func80,Tryz.ntmps80
    go_wp2_with (go_at_call 30;(with_reducible refine(TI.out _).mono ?_);rintro e w' ⟨rfl,rfl⟩)
    go_ret
    exact⟨rfl,F,PE.out⟩
end
end Go.Proofs.YtchcgoabogcabaaGreat.Escrow
namespace Go.Proofs.YtchcgoabogcabaaGreat.Req
open Go.RowKit Go.Proofs.YtchcgoabogcabaaGreat.Sha Go.Proofs.YtchcgoabogcabaaGreat.Wire
theorem rawD_bytes {st:St}(h:Bytes st.2) (k:Nat):Bytes (rawD st k).1:=by
 unfold rawD
 split
 ·split
  ·exact h.take k
  ·intro x hx;simp at hx
 ·intro x hx;simp at hx
theorem rawD_len (st:St) (k:Nat):(rawD st k).2.2.length≤st.2.length:=by
 unfold rawD
 split
 ·split
  ·simp
  ·simp
 ·simp
theorem decNum_left (st:St) (s:Int):(decNum st s).2.2.length≤st.2.length:=by
 unfold decNum
 split
 ·split
  ·split
   ·simp
   ·simp
  ·simp
 ·simp
end Go.Proofs.YtchcgoabogcabaaGreat.Req
namespace Go.Proofs.YtchcgoabogcabaaGreat.Escrow
open Go.RowKit Go.Proofs.YtchcgoabogcabaaGreat.Sha Go.Proofs.YtchcgoabogcabaaGreat.Purse Go.Proofs.YtchcgoabogcabaaGreat.Num
theorem pc_lts {w:World}{F:List Nat}{p:Nat}{s:PS}(h:Pc w F p s):∀ k∈F,k < w.heap.size:=h.2.lts
theorem pc_keep {w w':World}{F G:List Nat}{p:Nat}{s:PS}(h:Pc w F p s) (b:Bar G w w') (j:Disj F G):Pc w' F p s:=⟨h.1,h.2.keep b j⟩
end Go.Proofs.YtchcgoabogcabaaGreat.Escrow
