/-
  Parts laid together: ReqArg.
-/
import Derived.Test.YtchcgoabogcabaaGreatPart10
import Derived.Test.YtchcgoabogcabaaGreatPart23
import Derived.Lib.SmallJoins
namespace Go.Proofs.YtchcgoabogcabaaGreat.Req
open Go.RowKit Go.Proofs.YtchcgoabogcabaaGreat.Sha Go.Proofs.YtchcgoabogcabaaGreat.Wire Go.ChangeShapes Go.WideShapes Go.Deep
theorem str_back (b:ByteArray):∃ xs:List Int,b=strOfNums xs∧Bytes xs∧xs.length=b.size:=by
 refine⟨b.data.toList.map fun u=>(u.toNat:Int),?_,?_,(List.length_map _).trans Array.length_toList⟩
 ·apply ByteArray.ext
  apply Array.toList_inj.1
  rw[strOfNums_data,List.map_map]
  conv=>lhs;rw[← List.map_id b.data.toList]
  apply List.map_congr_left
  intro u _
  simp
 ·intro x hx
  obtain⟨u,-,rfl⟩:=List.mem_map.1 hx
  have:=u.toNat_lt
  omega
theorem slice_shape {H:Type}{enc:TypeId × Value→H}{P:Program}{w:World}{base n:Nat}{held:Bool}{t e:TypeId}{v:Value}{y:DataW H × List MemPlace}(ht:P.underlying t=some (.slice e)) (h:DataW.trod enc P w base (fun _=>true) held n t [v]=some y):∃ A l c,v=.slice A l c:=by
 rcases open_slice ht h with⟨hcs,_⟩|⟨a,l,c,m,n,D,Pl,hcs,_⟩
 ·simp at hcs;exact⟨none,0,0,hcs⟩
 ·simp at hcs;exact⟨some a,l,c,hcs⟩
theorem rc_of {α:Type}{C:α→List Value}{s:Nat}{w:World}{A:Option Addr}{n:Nat}{ok:α→Prop}(h:n=0∨∃ b o,A=some ⟨b,o,none⟩∧∃ X:Nat→α,∀ r,r < n→(∀ j v,(C (X r))[j]?=some v→w.cell? ⟨b,o+r * s+j,none⟩=some v)∧ok (X r)):∃ l,Rc C s w A n l∧∀ x∈l,ok x:=by
 rcases h with rfl|⟨b,o,rfl,X,hX⟩
 ·exact⟨[],Rc.nil,by simp⟩
 ·refine⟨(List.range n).map X,⟨by simp,.inr ⟨b,o,rfl,fun k x hx j v hv=>?_⟩⟩,fun x hx=>?_⟩
  ·have hk:k < n:=by
    have:=(List.getElem?_eq_some_iff.1 hx).1
    simpa using this
   have hx':X k=x:=by
    simp[List.getElem?_map,List.getElem?_range hk] at hx
    exact hx
   subst hx'
   exact(hX k hk).1 j v hv
  ·obtain⟨r,hr,rfl⟩:=List.mem_map.1 hx
   exact(hX r (List.mem_range.1 hr)).2
set_option maxRecDepth 100000 in
theorem reqs_of {H:Type}{enc:TypeId × Value→H}{w:World}{base:Nat}{held:Bool}{A:Option Addr}{len cap:Nat}{d:DataW H}{p:List MemPlace}(h:DataW.Trod enc Tryz.prog w base (fun _=>true) held 51 (.slice A len cap) d p) :
  len≤cap∧cap≤9223372036854775807∧∃ l,Rr w A len l∧∀ x∈l,RV.ok x:=by
 obtain⟨h1,h2,h3⟩:=fields_of Tryz.underlying51 Tryz.underlying65 (by kernel_rfl) (by kernel_rfl) (by decide) h
 refine⟨h1,by unfold maxLen at h2;omega,rc_of ?_⟩
 rcases h3 with h0|⟨b,o,hA,hf⟩
 ·exact .inl h0
 ·have each:∀ r,r < len→∃ x:RV,(∀ j v,(rvC x)[j]?=some v→w.cell? ⟨b,o+r * 8+j,none⟩=some v)∧RV.ok x:=by
   intro r hr
   obtain⟨v0,n0,y0,c0,t0⟩:=hf r hr 0 _ rfl
   obtain⟨v1,n1,y1,c1,t1⟩:=hf r hr 1 _ rfl
   obtain⟨v2,n2,y2,c2,t2⟩:=hf r hr 2 _ rfl
   obtain⟨v3,n3,y3,c3,t3⟩:=hf r hr 3 _ rfl
   obtain⟨v4,n4,y4,c4,t4⟩:=hf r hr 4 _ rfl
   obtain⟨v5,n5,y5,c5,t5⟩:=hf r hr 5 _ rfl
   obtain⟨v6,n6,y6,c6,t6⟩:=hf r hr 6 _ rfl
   obtain⟨v7,n7,y7,c7,t7⟩:=hf r hr 7 _ rfl
   obtain⟨z0,rfl,_⟩:=int_field Tryz.underlying3 t0
   obtain⟨z1,rfl,_⟩:=int_field Tryz.underlying3 t1
   obtain⟨z2,rfl,_⟩:=int_field Tryz.underlying3 t2
   obtain⟨z3,rfl,_⟩:=int_field Tryz.underlying3 t3
   obtain⟨z4,rfl,_⟩:=int_field Tryz.underlying3 t4
   obtain⟨z5,rfl,_⟩:=int_field Tryz.underlying3 t5
   obtain⟨s6,h6,_⟩:=DataW.trod_string Tryz.underlying9 t6
   obtain rfl:v6=.string s6:=by simpa using h6
   obtain⟨x6,rfl,b6,-⟩:=str_back s6
   obtain⟨s7,h7,_⟩:=DataW.trod_string Tryz.underlying9 t7
   obtain rfl:v7=.string s7:=by simpa using h7
   obtain⟨x7,rfl,b7,-⟩:=str_back s7
   refine⟨⟨z0,z1,z2,z3,z4,z5,x6,x7⟩,fun j v hv=>?_,⟨b6,b7⟩⟩
   have hj:j < 8:=by
    have:=(List.getElem?_eq_some_iff.1 hv).1
    simpa [rvC] using this
   have e:∀ j,o+r * 8+j=o+(r * 8+j):=fun j=>Nat.add_assoc _ _ _
   rw[e]
   match j,hj with
    | 0,_=>obtain rfl:=Option.some.inj hv;exact c0
    | 1,_=>obtain rfl:=Option.some.inj hv;exact c1
    | 2,_=>obtain rfl:=Option.some.inj hv;exact c2
    | 3,_=>obtain rfl:=Option.some.inj hv;exact c3
    | 4,_=>obtain rfl:=Option.some.inj hv;exact c4
    | 5,_=>obtain rfl:=Option.some.inj hv;exact c5
    | 6,_=>obtain rfl:=Option.some.inj hv;exact c6
    | 7,_=>obtain rfl:=Option.some.inj hv;exact c7
  haveI:Inhabited RV:=⟨⟨0,0,0,0,0,0,[],[]⟩⟩
  obtain⟨X,hX⟩:=Go.Deep.choose_lt each
  exact .inr ⟨b,o,hA,X,hX⟩
end Go.Proofs.YtchcgoabogcabaaGreat.Req
