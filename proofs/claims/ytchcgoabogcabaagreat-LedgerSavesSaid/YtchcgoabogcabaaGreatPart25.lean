/-
  Parts laid together: LedgerArg.
-/
import Derived.Test.YtchcgoabogcabaaGreatPart24
import Derived.Test.YtchcgoabogcabaaGreatPart7
import Derived.Test.YtchcgoabogcabaaGreatPart16
namespace Go.Proofs.YtchcgoabogcabaaGreat.Ledger
open Go.RowKit Go.Proofs.YtchcgoabogcabaaGreat.Sha Go.Proofs.YtchcgoabogcabaaGreat.Wire Go.Proofs.YtchcgoabogcabaaGreat.Req Go.ChangeShapes Go.WideShapes Go.Deep
structure OV where
 party:Int
 clock:Int
 b:BV
def OpAt (w:World) (b o k:Nat) (x:OV):Prop:=∃ A n c,w.cell? ⟨b,o+k * 4,none⟩=some (.int .i64 x.party)∧w.cell? ⟨b,o+k * 4+1,none⟩=some (.int .i64 x.clock)∧w.cell? ⟨b,o+k * 4+2,none⟩=some (.int .i64 x.b.seen)∧w.cell? ⟨b,o+k * 4+3,none⟩=some (.slice A n c) ∧
 n≤c∧c≤9223372036854775807∧Rr w A n x.b.l∧∀ r∈x.b.l,r.ok
def Ops (w:World) (A:Option Addr) (n:Nat) (l:List OV):Prop:=l.length=n∧(n=0∨∃ b o,A=some ⟨b,o,none⟩∧∀ k x,l[k]?=some x→OpAt w b o k x)
theorem OpAt.below {w w':World}{b o k:Nat}{x:OV}(h:OpAt w b o k x) (bb:Below w.heap.size w w'):OpAt w' b o k x:=by
 obtain⟨A,n,c,h0,h1,h2,h3,h4,h5,h6,h7⟩:=h
 have f:∀ {j:Nat} {v:Value},w.cell? ⟨b,j,none⟩=some v→w'.cell? ⟨b,j,none⟩=some v:=fun hh=>by
  rw[bb.cell (World.block_lt_of_cell? _ _ hh)];exact hh
 exact⟨A,n,c,f h0,f h1,f h2,f h3,h4,h5,h6.below bb,h7⟩
theorem Ops.below {w w':World}{A:Option Addr}{n:Nat}{l:List OV}(h:Ops w A n l) (bb:Below w.heap.size w w'):Ops w' A n l:=by
 refine⟨h.1,h.2.imp id ?_⟩
 rintro ⟨b,o,rfl,hc⟩
 exact⟨b,o,rfl,fun k x hx=>(hc k x hx).below bb⟩
theorem Ops.at_ {w:World}{A:Option Addr}{n:Nat}{l:List OV}(h:Ops w A n l) {k:Nat}(hk:k < n):∃ b o x,A=some ⟨b,o,none⟩∧l[k]?=some x∧OpAt w b o k x:=by
 obtain⟨b,o,hA,hc⟩:=h.2.resolve_left (by omega)
 have e:l[k]?=some (l[k]'(by rw[h.1];exact hk)):=List.getElem?_eq_getElem _
 exact⟨b,o,_,hA,e,hc k _ e⟩
section
variable {H : Type} {enc : TypeId × Value → H} {w : World} {base : Nat} {held : Bool}
theorem cells_of {P:Program}{t e:TypeId}{C:Nat}{A:Option Addr}{len cap:Nat}{d:DataW H}{p:List MemPlace}(ht:P.underlying t=some (.slice e)) (hC:P.cellsOf e=C) (hpos:0 < C) (h:DataW.Trod enc P w base (fun _=>true) held t (.slice A len cap) d p) :
  len≤cap∧cap≤maxLen∧(len=0∨∃ b o,A=some ⟨b,o,none⟩∧∀ i,i < len→∃ (cs:List Value) (m:Nat) (y:DataW H × List MemPlace),cs.length=C∧(∀ j,j < C→w.cell? ⟨b,o+(i * C+j),none⟩=cs[j]?)∧DataW.trod enc P w base (fun _=>true) held m e cs=some y):=by
 obtain⟨fuel,hf⟩:=h
 rcases open_slice ht hf with⟨hcs,_⟩|⟨a,l,c,m,n,D,Pl,hcs,hb,hl,hm,hmm,hx,hi⟩
 ·simp[Value.cells] at hcs
  obtain⟨rfl,rfl,rfl⟩:=hcs
  exact⟨Nat.le_refl _,Nat.zero_le _,.inl rfl⟩
 ·simp[Value.cells] at hcs
  obtain⟨rfl,rfl,rfl⟩:=hcs
  refine⟨hl,hm,?_⟩
  by_cases h0:len=0
  ·exact .inl h0
  ·refine .inr ?_
   simp only[if_true] at hmm
   have get:∀ i,i < len→∃ (cs:List Value) (m:Nat) (y:DataW H × List MemPlace),cs.length=C∧(∀ j,j < C→w.cell? (a.add (i * C+j))=cs[j]?)∧DataW.trod enc P w base (fun _=>true) held m e cs=some y:=by
    intro i hil
    obtain⟨cs,hc,htr⟩:=hi i (by omega)
    rw[hC] at hc
    obtain⟨_,hcl,hat⟩:=World.cells?_some hc
    refine⟨cs,_,_,hcl,fun j hj=>?_,htr⟩
    rw[← Go.Deep.add_add]
    exact hat j hj
   obtain⟨b,o,spot⟩:=a
   have hspot:spot=none:=by
    obtain⟨cs,_,_,hl,hc,_⟩:=get 0 (by omega)
    have h1:=hc 0 hpos
    rw[List.getElem?_eq_getElem (by omega)] at h1
    simpa [Addr.add] using World.cell?_spot h1
   subst hspot
   refine⟨b,o,rfl,fun i hil=>?_⟩
   have e1:∀ k,(⟨b,o,none⟩:Addr).add k=⟨b,o+k,none⟩:=fun k=>by cases k<;>simp[Addr.add]
   obtain⟨cs,m,y,h1,h2,h3⟩:=get i hil
   exact⟨cs,m,y,h1,fun j hj=>by rw[← e1];exact h2 j hj,h3⟩
theorem list4 {l:List Value}(h:l.length=4):∃ a b c d,l=[a,b,c,d]:=by
 match l,h with
 | [a,b,c,d],_=>exact⟨a,b,c,d,rfl⟩
set_option maxRecDepth 100000 in
theorem ops_of {A:Option Addr}{len cap:Nat}{d:DataW H}{p:List MemPlace}(h:DataW.Trod enc Tryz.prog w base (fun _=>true) held 25 (.slice A len cap) d p) :
  len≤cap∧cap≤9223372036854775807∧∃ l,Ops w A len l:=by
 obtain⟨h1,h2,h3⟩:=cells_of (C:=4) Tryz.underlying25 (by kernel_rfl) (by omega) h
 refine⟨h1,by unfold maxLen at h2;omega,?_⟩
 rcases h3 with h0|⟨b,o,hA,hf⟩
 ·exact⟨[],h0.symm,.inl h0⟩
 ·have each:∀ r,r < len→∃ x:OV,OpAt w b o r x:=by
   intro r hr
   obtain⟨cs,m,y,hl,hc,ht⟩:=hf r hr
   obtain⟨c0,c1,c2,c3,rfl⟩:=list4 hl
   obtain⟨ys,n,-,-,-,hyl,hfl⟩:=DataW.trod_struct Tryz.underlying55 ht
   have f0:DataW.trod enc Tryz.prog w base (fun _=>true) held n 3 (List.take (Tryz.prog.cellsOf 3) (List.drop 0 [c0,c1,c2,c3]))=ys[0]?:=hfl 0 _ rfl
   have f1:DataW.trod enc Tryz.prog w base (fun _=>true) held n 3 (List.take (Tryz.prog.cellsOf 3) (List.drop 1 [c0,c1,c2,c3]))=ys[1]?:=hfl 1 _ rfl
   have f2:DataW.trod enc Tryz.prog w base (fun _=>true) held n 53 (List.take (Tryz.prog.cellsOf 53) (List.drop 2 [c0,c1,c2,c3]))=ys[2]?:=hfl 2 _ rfl
   have hy3:ys.length=3:=hyl
   obtain⟨y0,e0⟩:∃ y,ys[0]?=some y:=⟨_,List.getElem?_eq_getElem (by omega)⟩
   obtain⟨y1,e1⟩:∃ y,ys[1]?=some y:=⟨_,List.getElem?_eq_getElem (by omega)⟩
   obtain⟨y2,e2⟩:∃ y,ys[2]?=some y:=⟨_,List.getElem?_eq_getElem (by omega)⟩
   rw[e0] at f0;rw[e1] at f1;rw[e2] at f2
   have k1:Tryz.prog.cellsOf 3=1:=by kernel_rfl
   have k2:Tryz.prog.cellsOf 53=2:=by kernel_rfl
   have k3:Tryz.prog.cellsOf 51=1:=by kernel_rfl
   rw[k1] at f0 f1
   rw[k2] at f2
   simp only[List.drop_zero,List.drop_succ_cons,List.take_succ_cons,List.take_zero] at f0 f1 f2
   obtain⟨z0,rfl,_⟩:=int_field Tryz.underlying3 f0
   obtain⟨z1,rfl,_⟩:=int_field Tryz.underlying3 f1
   obtain⟨us,n2,-,-,-,hul,gfl⟩:=DataW.trod_struct Tryz.underlying53 f2
   have g0:DataW.trod enc Tryz.prog w base (fun _=>true) held n2 3 (List.take (Tryz.prog.cellsOf 3) (List.drop 0 [c2,c3]))=us[0]?:=gfl 0 _ rfl
   have g1:DataW.trod enc Tryz.prog w base (fun _=>true) held n2 51 (List.take (Tryz.prog.cellsOf 51) (List.drop 1 [c2,c3]))=us[1]?:=gfl 1 _ rfl
   have hu2:us.length=2:=hul
   obtain⟨w0,i0⟩:∃ y,us[0]?=some y:=⟨_,List.getElem?_eq_getElem (by omega)⟩
   obtain⟨w1,i1⟩:∃ y,us[1]?=some y:=⟨_,List.getElem?_eq_getElem (by omega)⟩
   rw[i0] at g0;rw[i1] at g1
   rw[k1] at g0
   rw[k3] at g1
   simp only[List.drop_zero,List.drop_succ_cons,List.take_succ_cons,List.take_zero] at g0 g1
   obtain⟨z2,rfl,_⟩:=int_field Tryz.underlying3 g0
   obtain⟨A',l',c',rfl⟩:=slice_shape Tryz.underlying51 g1
   obtain⟨q1,q2,L,q3,q4⟩:=reqs_of (d:=w1.1) (p:=w1.2) ⟨_,g1⟩
   have ad:∀ j,o+r * 4+j=o+(r * 4+j):=fun j=>Nat.add_assoc _ _ _
   have c0:=hc 0 (by omega);have c1:=hc 1 (by omega);have c2:=hc 2 (by omega);have c3:=hc 3 (by omega)
   exact⟨⟨z0,z1,⟨z2,L⟩⟩,A',l',c',c0,by rw[ad];exact c1,by rw[ad];exact c2,by rw[ad];exact c3,q1,q2,q3,q4⟩
  haveI:Inhabited OV:=⟨⟨0,0,⟨0,[]⟩⟩⟩
  obtain⟨X,hX⟩:=Go.Deep.choose_lt each
  refine⟨(List.range len).map X,by simp,.inr ⟨b,o,hA,fun k x hx=>?_⟩⟩
  have hk:k < len:=by
   have:=(List.getElem?_eq_some_iff.1 hx).1
   simpa using this
  have hx':X k=x:=by
   simp[List.getElem?_map,List.getElem?_range hk] at hx
   exact hx
  subst hx'
  exact hX k hk
end
end Go.Proofs.YtchcgoabogcabaaGreat.Ledger
