/-
  Parts laid together: TextsG Concat.
-/
import Derived.Test.YtlkeieoecfkkeaaGreatPart6
import Derived.Lib.AppendZeros
set_option maxRecDepth 100000
set_option maxHeartbeats 1000000
namespace Go.Proofs.YtlkeieoecfkkeaaGreat
namespace Sha
open Go.RowKit
def In (A:Option Addr) (n:Nat) (G:List Nat):Prop:=n=0∨∃ g o,A=some ⟨g,o,none⟩∧g∈G
theorem In.off {A:Option Addr}{n:Nat}{G K:List Nat}(h:In A n G) (d:Disj G K):Off A n K:=by
 rcases h with h|⟨g,o,rfl,hg⟩
 ·exact .inl h
 ·exact .inr ⟨g,o,rfl,d g hg⟩
theorem In.mono {A:Option Addr}{n:Nat}{G G':List Nat}(h:In A n G) (hs:∀ k∈G,k∈G'):In A n G':=by
 rcases h with h|⟨g,o,rfl,hg⟩
 ·exact .inl h
 ·exact .inr ⟨g,o,rfl,hs g hg⟩
theorem DU {w:World}{A:Option Addr}{n B:Nat}{xs:List Int}(r:Rd w A n xs) (h:∀ F:List Nat,(∀ k∈F,k < B)→Off A n F):∃ G:List Nat,In A n G∧∀ k∈G,B≤k∧k < w.heap.size:=by
 by_cases h0:n=0
 ·exact⟨[],.inl h0,by simp⟩
 ·rcases h (List.range B) (by simp) with h|⟨g,o,rfl,hg⟩
  ·exact absurd h h0
  ·obtain⟨b,o',e,hc⟩:=r.2.2.resolve_left h0
   injection e with e;injection e with e1 e2
   subst e1 e2
   have hlt:g < w.heap.size:=World.block_lt_of_cell? _ _ (hc 0 (by omega))
   exact⟨[g],.inr ⟨g,o,rfl,by simp⟩,fun k hk=>by
    rw[List.mem_singleton] at hk;subst hk
    exact⟨by simpa using hg,hlt⟩⟩
theorem VR {w:World}{base size:Nat}{e:TypeId}{A:Option Addr}{n c:Nat}{xs:List Value}(h:w.ownsRow base e size (.slice A n c) n xs):In A n (Value.slice A n c).ownBlock.toList:=by
 rcases h.2 with⟨e1,h0⟩|⟨g,cap,cur,hv,-⟩
 ·exact .inl h0
 ·injection hv with e1 e2 e3
  subst e1
  exact .inr ⟨g,0,rfl,by simp[Value.ownBlock]⟩
def Og (w:World) (e:TypeId) (v:Value) (L:List (List Int)) (G:List Nat):Prop :=
 ∃ cs:List Value,w.ownsRow 0 e 1 v L.length cs∧(∀ g∈v.ownBlock.toList,g∈G) ∧
  ∀ i,i < L.length→∃ a l c,cs[i]?=some (.slice a l c)∧l≤c∧c≤9223372036854775807∧Rd w a l (L.getD i [])∧In a l G∧Off a l v.ownBlock.toList
theorem Og.ot {w:World}{e:TypeId}{v:Value}{L:List (List Int)}{G:List Nat}(h:Og w e v L G):Ot w 0 e v L:=by
 obtain⟨cs,h1,-,h3⟩:=h
 refine⟨cs,h1,fun i hi=>?_⟩
 obtain⟨a,l,c,k1,k2,k3,k4,-,k6⟩:=h3 i hi
 exact⟨a,l,c,k1,k2,k3,k4,k6⟩
theorem Og.keep {w w':World}{e:TypeId}{v:Value}{L:List (List Int)}{G K:List Nat}(h:Og w e v L G) (b:Bar K w w') (d:Disj G K):Og w' e v L G:=by
 obtain⟨cs,ho,hv,hc⟩:=h
 refine⟨cs,own_keep ho b (fun g hg=>d g (hv g hg)),hv,fun i hi=>?_⟩
 obtain⟨a,l,c,k1,k2,k3,k4,k5,k6⟩:=hc i hi
 exact⟨a,l,c,k1,k2,k3,k4.far b (k5.off d),k5,k6⟩
theorem Og.mono {w:World}{e:TypeId}{v:Value}{L:List (List Int)}{G G':List Nat}(h:Og w e v L G) (hs:∀ k∈G,k∈G'):Og w e v L G':=by
 obtain⟨cs,ho,hv,hc⟩:=h
 refine⟨cs,ho,fun g hg=>hs g (hv g hg),fun i hi=>?_⟩
 obtain⟨a,l,c,k1,k2,k3,k4,k5,k6⟩:=hc i hi
 exact⟨a,l,c,k1,k2,k3,k4,k5.mono hs,k6⟩
theorem Og.nil (w:World) (e:TypeId) (G:List Nat):Og w e (.slice none 0 0) [] G:=⟨[],World.ownsRow_nil _ _ _ _,by simp[Value.ownBlock],fun _ hi=>absurd hi (Nat.not_lt_zero _)⟩
theorem Og.shape {w:World}{e:TypeId}{v:Value}{L:List (List Int)}{G:List Nat}(h:Og w e v L G):∃ A c,v=.slice A L.length c:=by
 obtain⟨cs,ho,-⟩:=h
 exact aY ho
theorem Og.rws {w:World}{e:TypeId}{v:Value}{L:List (List Int)}{G:List Nat}(h:Og w e v L G):∃ A cap,v=.slice A L.length cap∧L.length≤cap∧cap≤9223372036854775807∧Rws w A L.length (fun i=>L.getD i []):=h.ot.rws
theorem kQ {P:Program}{w:World}(t ty e:TypeId) (ht:P.underlying t=some (.slice e)) (hi:(P.info? e).map (fun i=>(i.zero,i.size,i.bytes))=some (some (.slice none 0 0),1,24))
  {v:Value} {L:List (List Int)} {G:List Nat} (hown:Og w e v L G)
  (k kc:Nat) (A:Option Addr) (l c:Nat) (b:List Int) (hcell:w.cell? ⟨k,0,none⟩=some (.slice A l c)) (hr:Rd w A l b) (hlc:l≤c) (hc:c≤9223372036854775807) (hin:In A l G) (hoff:Off A l v.ownBlock.toList) (hsmall:L.length≤4294967296) :
  ∃ v' w',(Builtin.append_ #[t,t] ty #[v,.slice (some ⟨k,0,none⟩) 1 kc]).run P w=.ok v' w'∧Og w' e v' (L++[b]) (v'.ownBlock.toList++G)∧Fp v.ownBlock.toList v'.ownBlock.toList w w':=by
 obtain⟨iu,hi,hz0,hz1,hz2⟩:=info_parts hi
 obtain⟨cs,hown,hv,hcs⟩:=hown
 have hcl:cs.length=L.length:=by have:=hown.1;omega
 obtain⟨v',w',hrun,a1,a2,-,a3⟩:=run_append_own_at (P:=P) w 0 t ty e iu (.slice none 0 0) 1 24 ht hi hz0 hz1 hz2 rfl (by omega) v L.length cs hown ⟨k,0,none⟩ 1 kc [.slice A l c] rfl (fun j u hj=>by
  have hj0:j=0:=by have:=(List.getElem?_eq_some_iff.1 hj).1;simpa using this
  subst hj0
  rw[List.getElem?_cons_zero,Option.some.injEq] at hj
  rw[← hj];exact hcell) (fun u hu=>by rw[List.mem_singleton] at hu;subst hu;rfl) (by unfold maxLen;omega) (by omega) (Nat.zero_le _)
 have fp:Fp v.ownBlock.toList v'.ownBlock.toList w w':=⟨Bar.grownRow a2,fun g hg=>by
   rcases a3 with a3|a3
   ·rw[a3] at hg;exact .inl hg
   ·rw[a3] at hg
    simp only[Option.toList_some,List.mem_singleton] at hg
    exact .inr (by omega)⟩
 refine⟨v',w',hrun,⟨cs++[.slice A l c],by rw[List.length_append];exact a1,fun g hg=>List.mem_append.2 (.inl hg),fun i hi=>?_⟩,fp⟩
 rw[List.length_append,List.length_singleton] at hi
 by_cases hiL:i < L.length
 ·obtain⟨a0,l0,c0,k1,k2,k3,k4,k5,k6⟩:=hcs i hiL
  have e1:(L++[b]).getD i []=L.getD i []:=by simp[List.getD_eq_getElem?_getD,List.getElem?_append_left hiL]
  rw[e1]
  exact⟨a0,l0,c0,by rw[List.getElem?_append_left (by omega)];exact k1,k2,k3,k4.far fp.1 k6,k5.mono (fun g hg=>List.mem_append.2 (.inr hg)),k6.step k4 fp⟩
 ·obtain rfl:i=L.length:=by omega
  have e1:(L++[b]).getD L.length []=b:=by simp[List.getD_eq_getElem?_getD]
  rw[e1]
  exact⟨A,l,c,by rw[← hcl];simp,hlc,hc,hr.far fp.1 hoff,hin.mono (fun g hg=>List.mem_append.2 (.inr hg)),hoff.step hr fp⟩
theorem iR {P:Program}{w:World}{ops:Array Oper}{o:Oper}{a:Act}{K:Act→World→Prop}{Q:Exit→Act→World→Prop}{E:Prop}(hgd:o.guard=none) (s x:Operand) (t tn:TypeId)
  (ho:o.op=.call { callee:=.builtin .append,args:=#[s,x],argTypes:=#[t,tn] }) (vs vx:Value) (hs:a.eval s=vs) (hx:a.eval x=vx)
  (v':Value) (w':World) (hr:(Builtin.append_ #[t,tn] o.type #[vs,vx]).run P w=.ok v' w') (h:K (a.put o.dst v') w') :
  if Region.wanted o (yielded ops a.tmps)=true then Oper.wp P o a w K Q else E:=by
 have hw:Region.wanted o (yielded ops a.tmps)=true:=by simp[Region.wanted,hgd]
 rw[if_pos hw]
 exact Lib.wp_append_run w s x t tn ho vs vx hs hx v' w' hr h
def Pj (w:World) (e:Ending) (w':World):Prop:=∃ v,e=.returned v∧w'.ownsRow w.heap.size 5 1 v 0 []∧Below w.heap.size w w'
theorem Pm (n:Nat) (w:World) (hn:n≤1073741824) :
  Calls Tryz.prog 180 #[.slice none 0 0,.int .i64 n] w (Pj w):=by
 by_cases h0:n=0
 ·subst h0
  go_enter Tryz.func180,Tryz.ntmps180
  go_wp2
  go_ret
  exact⟨_,rfl,World.ownsRow_nil _ _ _ _,Below.refl _ _⟩
 ·have hp:0 < (n:Int):=by omega
  obtain⟨iu,hi,hz0,hz1,hz2⟩:=info_parts ax
  have hg:=ae.mk fun (w:World) ty=>Lib.run_append_nil_zeros (P:=Tryz.prog) w 22 3 ty 5 iu (.int .u8 0) .i64 .i64 Tryz.underlying22 Tryz.underlying3 hi hz0 n (by omega) (by omega) (by omega) (by rw[hz2];omega)
  go_enter Tryz.func180,Tryz.ntmps180
  have hc1:=grownCap_ge w n 0 5
  have hc2:=grownCap_le_maxLen w n 0 5 (by unfold maxLen;omega)
  obtain⟨c,hc⟩:∃ c,grownCap w n 0 5=c:=⟨_,rfl⟩
  rw[hc] at hc1 hc2
  have hr:=ae.mk (hg.out w 22)
  rw[hc] at hr
  have hsz:(Builtin.zeroCells (Value.int IntKind.u8 0).cells n++Builtin.zeroCells (Value.int IntKind.u8 0).cells (c - n)).size=c:=by
   rw[Array.size_append,size_zeroCells,size_zeroCells];simp[Value.cells];omega
  have ho:=World.ownsRow_made (base:=w.heap.size) (e:=5) (size:=1) w.drew (Builtin.zeroCells (Value.int IntKind.u8 0).cells n++Builtin.zeroCells (Value.int IntKind.u8 0).cells (c - n)) c (Nat.le_refl _) hc2 (by rw[hsz,Nat.mul_one])
  have hb:Below w.heap.size w (w.drew.alloc (.cells (Builtin.zeroCells (Value.int IntKind.u8 0).cells n++Builtin.zeroCells (Value.int IntKind.u8 0).cells (c - n)) 5)):=(Below.refl _ _).drew.alloc (Nat.le_refl _) _
  have HO:=ae.mk ho
  have HB:=ae.mk hb
  clear hg hc ho hb hsz hi hz0 hz1 hz2
  generalize w.drew.alloc (.cells (Builtin.zeroCells (Value.int IntKind.u8 0).cells n++Builtin.zeroCells (Value.int IntKind.u8 0).cells (c - n)) 5)=w2 at *
  go_wp2_with ((with_reducible refine sel 22 ?_);refine Lib.wpList_append_run _ rfl (.tmp 20) (.tmp 21) 22 3 rfl _ _ rfl rfl _ _ hr.out ?_)
  go_ret
  exact⟨_,rfl,HO.out,HB.out⟩
theorem Pn (X:Nat→List Int) {k n:Nat}(h:k≤n):(cat X k).length≤(cat X n).length:=by
  induction n with
  | zero => obtain rfl:k=0:=by omega
            exact Nat.le_refl _
  | succ n ih =>
    by_cases hk:k=n+1
    · subst hk;exact Nat.le_refl _
    · rw[cat,List.length_append];have:=ih (by omega);omega
def jo (xs:List Int) (w:World) (e:Ending) (w':World):Prop:=∃ v,e=.returned v∧w'.ownsRow w.heap.size 5 1 v xs.length (ints .u8 xs)∧Below w.heap.size w w'
theorem mD (A:Option Addr) (n cap:Nat) (X:Nat→List Int) (w:World) (hr:Rws w A n X) (hn:n≤1073741824) (hL:(cat X n).length≤1073741824) :
  Calls Tryz.prog 139 #[.slice A n cap] w (jo (cat X n) w):=by
 have HR:=ae.mk hr
 have HM:=ae.mk fun k (hk:k≤n)=>Pn X hk
 have HL:=ae.mk hL
 have PE:ae (∀ v w',w'.ownsRow w.heap.size 5 1 v (cat X n).length (ints .u8 (cat X n))→Below w.heap.size w w'→jo (cat X n) w (.returned v) w'):=⟨fun v w' h1 h2=>⟨v,rfl,h1,h2⟩⟩
 clear hr hL
 go_enter Tryz.func139,Tryz.ntmps139
 go_wp2
 go_loopw [3,5,11] (fun s _s i wr=>∃ k:Nat,k≤n∧i=.int .i64 k∧s=.int .i64 ((cat X k).length:Nat)∧w=wr) (fun _ _ i _=>n - (Go.RowKit.intOf i).toNat)
 case atStart=>exact⟨0,by omega,rfl,rfl,rfl⟩
 case round =>
  obtain⟨k,hk,rfl,rfl,rfl⟩:=hrel
  by_cases hkn:k < n
  ·have hkn':(k:Int) < n:=by omega
   obtain⟨bb,oo,rfl,hc⟩:=HR.out.resolve_left (by omega)
   obtain⟨a,l,c,h1,h2,h3,h4⟩:=hc k hkn
   have hlen:=HM.out (k+1) (by omega)
   have hl4:=h4.1
   have hL:=HL.out
   have hcat:(cat X (k+1)).length=(cat X k).length+l:=by rw[cat,List.length_append,hl4]
   have HC:=ae.mk hcat
   obtain⟨z,hz⟩:∃ z,(cat X k).length=z:=⟨_,rfl⟩
   rw[hcat,hz] at hlen
   rw[hz] at HC ⊢
   have hz9:z+l≤1073741824:=by omega
   have hW:wrap64 ((z:Int)+l)=z+l:=by unfold wrap64;omega
   have hneg:¬ ((z:Int)+l < 0):=by omega
   clear hc h4 hl4 hcat hlen hL hz
   go_wp2
   go_roundw
   case rel=>exact⟨k+1,by omega,by go_num,by rw[HC.out];go_num,trivial⟩
   case measure=>simp[Go.RowKit.intOf];omega
  ·obtain rfl:k=n:=by omega
   have hkn':¬ (k:Int) < k:=by omega
   obtain⟨N,hN⟩:∃ N,w.heap.size=N:=⟨_,rfl⟩
   go_wp2_with fail
   refine(Pm (cat X k).length w HL.out).mono ?_
   rintro e w1 ⟨v,rfl,o1,b1⟩
   rw[hN] at PE o1 b1
   have O1:=ae.mk o1;have B1:=ae.mk b1
   clear o1 b1
   go_wp2
   go_loopw [6,8,27] (fun v _s i wr=>∃ (j:Nat) (u:Value),j≤k∧u=v∧i=.int .i64 j∧ae (wr.ownsRow N 5 1 u (cat X j).length (ints .u8 (cat X j)))∧ae (Below N w wr)) (fun _ _ i _=>k - (Go.RowKit.intOf i).toNat)
   case atStart=>exact⟨0,v,by omega,rfl,rfl,O1,B1⟩
   case round =>
    clear O1 B1
    obtain⟨j,u,hj,rfl,rfl,O,B⟩:=hrel
    by_cases hjk:j < k
    ·have hjk':(j:Int) < k:=by omega
     obtain⟨bb,oo,rfl,hc⟩:=HR.out.resolve_left (by omega)
     obtain⟨a,l,c,h1,h2,h3,h4⟩:=hc j hjk
     have x0:wr.cell? ⟨bb,oo+j,none⟩=some (.slice a l c):=(B.out.cell (p:=⟨bb,oo+j,none⟩) (by rw[← hN];exact World.block_lt_of_cell? _ _ h1)).trans h1
     have R4:=ae.mk (h4.below (hN.symm▸B.out))
     have hlen:=HM.out (j+1) (by omega)
     have hl4:=h4.1
     have hL:=HL.out
     have hcat:cat X (j+1)=cat X j++X j:=rfl
     have hcl:(cat X (j+1)).length=(cat X j).length+l:=by rw[hcat,List.length_append,hl4]
     have HC:=ae.mk (And.intro hcat hcl)
     rw[hcl] at hlen
     obtain⟨z,hz⟩:∃ z,(cat X j).length=z:=⟨_,rfl⟩
     rw[hz] at hlen HC O
     have hz9:z+l≤1073741824:=by omega
     clear hc h1 h4 hl4 hcat hcl hL hlen
     go_wp2_with ((with_reducible refine sel 33 ?_);refine ai rfl (.tmp 31) (.tmp 32) 22 rfl N 5 Tryz.underlying22 ax u z _ rfl O.out a l c (X j) rfl R4.out (by omega) (by rw[← hN];exact B.out.size) ?_;intro v7 w7 o7 g7;have B7:=ae.mk (B.out.trans (own_below O.out g7 (by rw[← hN];exact B.out.size)));rw[← af,← HC.out.1,← HC.out.2] at o7;clear g7)
     go_roundw
     case rel=>exact⟨j+1,_,by omega,rfl,by go_num,o7,B7⟩
     case measure=>simp[Go.RowKit.intOf];omega
    ·obtain rfl:j=k:=by omega
     have hkn':¬ (j:Int) < j:=by omega
     have PF:=ae.mk (PE.out _ _ O.out B.out)
     clear PE
     go_wp2
     go_ret
     exact PF.out
end Sha
end Go.Proofs.YtlkeieoecfkkeaaGreat
