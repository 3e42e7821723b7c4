/-
  Parts laid together: Mem MemB RowsC Slices Ints RowsI PurseFace Rows2 PurseRow2 PurseFew PurseMem PurseRef PurseRef2 OwnC AppI CopyI Copy PurseRMove PutN.
-/
import Derived.Test.YtchcgoabogcabaaGreatChecked
import Derived.Test.YtchcgoabogcabaaGreatPart3
import Derived.WalkKit
import Derived.WalkSpells
import Derived.WalkLawsBesides
import Derived.OpenShut
import Derived.Lib.Hide
import Derived.Tactics
import Derived.Tactics2
import Derived.Deep.QuietTactic
import Derived.BigQuiet
import Derived.StillTailTactics
import Derived.Laws.Rows
import Derived.Laws.Tables
import Derived.Deep.Draws
import Derived.Below
import Derived.Laws.OwnMore
import Derived.Laws.Pointers
import Derived.RegionTactic
import Derived.RegionCalls
import Derived.Laws.NewBlocks
import Derived.Deep.MidRow
import Derived.Deep.Cut
import Derived.Laws.CopyOwn
import Derived.Maps.AppendAt
import Derived.DataShut
import Derived.Laws.Slices
import Derived.Test.YtchcgoabogcabaaGreatPart6
namespace Go.Proofs.YtchcgoabogcabaaGreat.Sha
open Go.RowKit
def Blk (w:World) (g:Nat) (t:TypeId) (cs:Array Value):Prop:=w.heap[g]?=some (.cells cs t (0,0))
section
variable {w w' : World} {g : Nat} {t : TypeId} {cs : Array Value}
theorem Blk.lt (h:Blk w g t cs):g < w.heap.size:=by
 rcases Nat.lt_or_ge g w.heap.size with hlt|hge
 ·exact hlt
 ·unfold Blk at h;rw[Array.getElem?_eq_none hge] at h;cases h
theorem Blk.cell (h:Blk w g t cs) (i:Nat):w.cell? ⟨g,i,none⟩=cs[i]?:=cell_of_row w g i cs t (0,0) h
theorem Blk.frozen (h:Blk w g t cs) (i:Nat):w.frozen? ⟨g,i,none⟩=false:=by
 unfold Blk at h
 simp[World.frozen?,h]
theorem Blk.new (w:World) (t:TypeId) (cs:Array Value):Blk (w.alloc (.cells cs t)) w.heap.size t cs:=heap_alloc_new w _
theorem Blk.new_at (w:World) (t:TypeId) (cs:Array Value) (n:Nat) (hn:n=w.heap.size):Blk (w.alloc (.cells cs t)) n t cs:=by subst hn;exact heap_alloc_new w _
theorem Blk.row (h:Blk w g t cs) (cs':Array Value):Blk (w.setRow g cs') g t cs':=setRow_heap w g _ cs' t (0,0) h
theorem Blk.drew (h:Blk w g t cs):Blk w.drew g t cs:=h
theorem Blk.drewN (h:Blk w g t cs) (n:Nat):Blk (w.drewN n) g t cs:=h
theorem Blk.alloc (h:Blk w g t cs) (o:Obj):Blk (w.alloc o) g t cs:=(Below.heap_alloc w o g h.lt).trans h
theorem Blk.set_ (h:Blk w g t cs) (i:Nat) (u:Value):Blk (w.setCell ⟨g,i,none⟩ u) g t (cs.setIfInBounds i u):=by
 unfold Blk at h ⊢
 simp[World.setCell,Array.getElem?_modify,h]
theorem Blk.far (h:Blk w g t cs) {p:Addr}(hp:g≠p.block) (u:Value):Blk (w.setCell p u) g t cs:=(Below.heap_setCell w p u g hp).trans h
theorem Blk.below {B:Nat}(h:Blk w g t cs) (hb:Below B w w') (hg:g < B):Blk w' g t cs:=(hb.block g hg).trans h
theorem Blk.grown {row:Option Nat}(h:Blk w g t cs) (hb:w.grownBy w' row) (hg:some g≠row):Blk w' g t cs:=(hb.block g h.lt hg).trans h
end
structure Bar (l:List Nat) (w w':World):Prop where
 os:w'.os=w.os
 tape:w'.tape=w.tape
 output:w'.output=w.output
 size:w.heap.size≤w'.heap.size
 block:∀ k,k < w.heap.size→k∉l→w'.heap[k]?=w.heap[k]?
theorem Bar.refl (l:List Nat) (w:World):Bar l w w:=⟨rfl,rfl,rfl,Nat.le_refl _,fun _ _ _=>rfl⟩
theorem Bar.trans {l l':List Nat}{a b c:World}(h:Bar l a b) (k:Bar l' b c) (hl:∀ x∈l',x∈l∨a.heap.size≤x):Bar l a c :=
 ⟨k.os.trans h.os,k.tape.trans h.tape,k.output.trans h.output,Nat.le_trans h.size k.size,fun i hi hn=>(k.block i (Nat.lt_of_lt_of_le hi h.size) (fun hm=>by
  rcases hl i hm with h1|h1
  ·exact hn h1
  ·omega)).trans (h.block i hi hn)⟩
theorem Bar.mono {l l':List Nat}{w w':World}(h:Bar l w w') (hl:∀ x∈l,x∈l'∨w.heap.size≤x):Bar l' w w':=⟨h.os,h.tape,h.output,h.size,fun i hi hn=>h.block i hi fun hm=>by
  rcases hl i hm with h1|h1
  ·exact hn h1
  ·omega⟩
theorem Bar.same {l:List Nat}{a w:World}(h:Bar l a w):Bar l a w:=h
theorem Bar.drew {l:List Nat}{a w:World}(h:Bar l a w):Bar l a w.drew:=⟨h.os,h.tape,h.output,h.size,h.block⟩
theorem Bar.drewN {l:List Nat}{a w:World}(h:Bar l a w) (n:Nat):Bar l a (w.drewN n):=⟨h.os,h.tape,h.output,h.size,h.block⟩
theorem Bar.drewL {l:List Nat}{w w':World}(h:Bar l w.drew w'):Bar l w w':=⟨h.os,h.tape,h.output,h.size,h.block⟩
theorem Bar.alloc {l:List Nat}{a w:World}(h:Bar l a w) (o:Obj):Bar l a (w.alloc o) :=
 h.trans (l':=[]) ⟨rfl,rfl,rfl,by simp,fun k hk _=>Below.heap_alloc _ _ _ (by omega)⟩ (by simp)
theorem Bar.setCell {l:List Nat}{a w:World}(h:Bar l a w) {p:Addr}(hp:p.block∈l∨a.heap.size≤p.block) (u:Value):Bar l a (w.setCell p u) :=
 h.trans (l':=[p.block]) ⟨rfl,rfl,rfl,by simp[World.setCell],fun k _ hn=>Below.heap_setCell _ _ _ _ (by simpa using hn)⟩ (by simpa using hp)
theorem Bar.grown {l:List Nat}{a w w':World}{row:Option Nat}(h:Bar l a w) (hg:w.grownBy w' row) (hr:∀ k,row=some k→k∈l∨a.heap.size≤k):Bar l a w' :=
 h.trans (l':=row.toList) ⟨hg.os,hg.tape,hg.output,hg.size,fun k hk hn=>hg.block k hk (fun e=>hn (by simp[← e]))⟩ (by
  intro x hx
  exact hr x (by simpa using hx))
theorem Bar.below {a w:World}{B:Nat}{l:List Nat}(h:Bar l a w) (hB:B≤a.heap.size) (hl:∀ x∈l,B≤x):Below B a w :=
 ⟨h.os,h.tape,h.output,h.size,fun k hk=>h.block k (by omega) (fun hm=>by have:=hl k hm;omega)⟩
theorem barOf {a w:World}(h:Below a.heap.size a w) (l:List Nat):Bar l a w:=⟨h.os,h.tape,h.output,h.size,fun k hk _=>h.block k hk⟩
theorem Blk.bar {w w':World}{g:Nat}{t:TypeId}{cs:Array Value}{l:List Nat}(h:Blk w g t cs) (hb:Bar l w w') (hg:g∉l):Blk w' g t cs:=(hb.block g h.lt hg).trans h
theorem still_of {P:Program}{f:FuncId}{args:Array Value}{w:World}{v:Value}(h:Calls P f args w fun e w'=>e=.returned v∧w=w'):Calls P f args w fun e w''=>e=.returned v∧w''=w:=h.mono fun _ _ ⟨a,b⟩=>⟨a,b.symm⟩
theorem Blk.at_ {w:World}{g:Nat}{t:TypeId}{k:IntKind}{l:List Int}(h:Blk w g t (arr k l)) (i:Nat) (hi:i < l.length):w.cell? ⟨g,i,none⟩=some (.int k (Sha.at_ l i)):=(h.cell i).trans (arr_at k l i hi)
theorem sel {P:Program}{ops:Array Oper}{Q:Exit→Act→World→Prop}{rest:List Oper}{a:Act}{w:World}(n:Nat) {b:Op}{c:TypeId}{p:String}{e:Array Edge}{g:Option (Nat × Bool)}
  (h:wpList P ops Q ({ dst:=some n,op:=b,type:=c,pos:=p,after:=e,guard:=g } :: rest) a w):wpList P ops Q ({ dst:=some n,op:=b,type:=c,pos:=p,after:=e,guard:=g } :: rest) a w:=h
theorem selS {P:Program}{ops:Array Oper}{Q:Exit→Act→World→Prop}{rest:List Oper}{a:Act}{w:World}(ty:TypeId) (x y:Operand) {c:TypeId}{p:String}{e:Array Edge}{g:Option (Nat × Bool)}
  (h:wpList P ops Q ({ dst:=none,op:=.store ty x y,type:=c,pos:=p,after:=e,guard:=g } :: rest) a w):wpList P ops Q ({ dst:=none,op:=.store ty x y,type:=c,pos:=p,after:=e,guard:=g } :: rest) a w:=h
theorem new_cells (w:World) (t:TypeId) (cs:List Value):∀ j u,cs[j]?=some u→(w.alloc (.cells cs.toArray t)).cell? ((⟨w.heap.size,0,none⟩:Addr).add j)=some u:=by
 intro j u hj
 have e:(⟨w.heap.size,0,none⟩:Addr).add j=⟨w.heap.size,j,none⟩:=by cases j<;>simp[Addr.add]
 rw[e,(Blk.new w t cs.toArray).cell j,List.getElem?_toArray,hj]
def Rd (w:World) (A:Option Addr) (n:Nat) (xs:List Int):Prop :=
 xs.length=n∧Bytes xs∧(n=0∨∃ b o,A=some ⟨b,o,none⟩∧∀ i,i < n→w.cell? ⟨b,o+i,none⟩=some (.int .u8 (at_ xs i)))
theorem Rd.keep {w w':World}{A:Option Addr}{n:Nat}{xs:List Int}{l:List Nat}(r:Rd w A n xs) (b:Bar l w w') (hl:∀ x∈l,w.heap.size≤x∨∀ o,A≠some ⟨x,o,none⟩):Rd w' A n xs:=by
 obtain⟨h1,h2,h3⟩:=r
 refine⟨h1,h2,h3.imp id ?_⟩
 rintro ⟨bb,o,rfl,hc⟩
 refine⟨bb,o,rfl,fun i hi=>?_⟩
 have hlt:bb < w.heap.size:=World.block_lt_of_cell? _ _ (hc i hi)
 rw[← hc i hi]
 refine World.cell?_of_block (w:=w) (b.block bb hlt (fun hm=>?_))
 rcases hl bb hm with h|h
 ·omega
 ·exact h o rfl
theorem Rd.blk {w:World}{M n:Nat}{T:TypeId}{xs:List Int}(h:Blk w M T (arr .u8 xs)) (hb:Bytes xs) (hn:xs.length=n):Rd w (some ⟨M,0,none⟩) n xs :=
 ⟨hn,hb,.inr ⟨M,0,rfl,fun i hi=>by rw[Nat.zero_add];exact h.at_ i (by omega)⟩⟩
theorem Rd.nil_ {w:World}{A:Option Addr}:Rd w A 0 []:=⟨rfl,by intro x hx;simp at hx,.inl rfl⟩
theorem below_drewN {B:Nat}{a w:World}(h:Below B a w) (n:Nat):Below B a (w.drewN n):=⟨h.os,h.tape,h.output,h.size,h.block⟩
theorem Rd.made {w:World}{M n:Nat}{T:TypeId}{fr:Nat × Nat}{xs:List Int}(h:w.heap[M]?=some (.cells (arr .u8 xs) T fr)) (hb:Bytes xs) (hn:xs.length=n):Rd w (some ⟨M,0,none⟩) n xs :=
 ⟨hn,hb,.inr ⟨M,0,rfl,fun i hi=>by rw[Nat.zero_add,cell_of_row w M i _ T fr h];exact arr_at _ _ _ (by omega)⟩⟩
theorem own_cell {w:World}{base:Nat}{e:TypeId}{g cap n:Nat}{xs:List Int}(h:w.ownsRow base e 1 (.slice (some ⟨g,0,none⟩) n cap) n (ints .u8 xs)) (i:Nat) (hi:i < n):w.cell? ⟨g,i,none⟩=some (.int .u8 (at_ xs i)):=by
 have hl:xs.length=n:=by have:=h.1;rw[ints_len] at this;omega
 rw[World.ownsRow.cellAt h i (by omega)]
 exact ints_at _ _ _ (by omega)
theorem own_below {w w':World}{base:Nat}{e:TypeId}{v:Value}{n:Nat}{xs:List Value}(h:w.ownsRow base e 1 v n xs) (hg:w.grownBy w' v.ownBlock) (hB:base≤w.heap.size):Below base w w' :=
 ⟨hg.os,hg.tape,hg.output,hg.size,fun k hk=>hg.block k (by omega) (fun e=>by have:=(h.lt k e.symm).1;omega)⟩
theorem Rd.drew {w:World}{A:Option Addr}{n:Nat}{xs:List Int}(h:Rd w A n xs):Rd w.drew A n xs:=h
theorem own_bar {w w':World}{base:Nat}{e:TypeId}{v:Value}{n:Nat}{xs:List Value}{l:List Nat}(h:w.ownsRow base e 1 v n xs) (b:Bar l w w') (hl:∀ x∈l,x < base):w'.ownsRow base e 1 v n xs:=by
 refine⟨h.1,h.2.imp id ?_⟩
 rintro ⟨g,cap,cur,hv,hg,hh,r⟩
 refine⟨g,cap,cur,hv,hg,?_,r⟩
 have hlt:g < w.heap.size:=(Array.getElem?_eq_some_iff.1 hh).1
 rw[b.block g hlt (fun hm=>by have:=hl g hm;omega)]
 exact hh
theorem run_append_nil_any {P:Program}(w:World) (base:Nat) (t ty e:TypeId) (i:TypeInfo) (size:Nat) (ht:P.underlying t=some (.slice e)) (hi:P.info? e=some i)
  (v:Value) (n:Nat) (xs:List Value) (hown:w.ownsRow base e size v n xs) (c:Nat):(Builtin.append_ #[t,t] ty #[v,.slice none 0 c]).run P w=.ok v w:=by
 rcases hown.2 with⟨rfl,rfl⟩|⟨g,cap,cur,rfl,_,_,hnc,_⟩
 ·simp[Builtin.append_,run_underlying ht,sizeOf,typeInfo,hi,Builtin.lenOf,Builtin.firstCells]
 ·simp[Builtin.append_,run_underlying ht,sizeOf,typeInfo,hi,Builtin.lenOf,Builtin.firstCells,hnc,storeCells]
theorem wpList_append_rd {P:Program}{w:World}{ops:Array Oper}{rest:List Oper}{o:Oper}{a:Act}{Q:Exit→Act→World→Prop}(hgd:o.guard=none) (s x:Operand) (t:TypeId)
  (ho:o.op=.call { callee:=.builtin .append,args:=#[s,x],argTypes:=#[t,t] })
  (base:Nat) (e:TypeId) (ht:P.underlying t=some (.slice e)) (hi:(P.info? e).map (fun i=>(i.zero,i.size,i.bytes))=some (some (.int .u8 0),1,1))
  (v:Value) (n:Nat) (xs:List Value) (hs:a.eval s=v) (hown:w.ownsRow base e 1 v n xs)
  (A:Option Addr) (m c:Nat) (news:List Int) (hx:a.eval x=.slice A m c) (hr:Rd w A m news)
  (hsmall:n+m≤4294967296) (hbase:base≤w.heap.size)
  (h:∀ v' w',Kept (w'.ownsRow base e 1 v' (n+m) (xs++ints .u8 news))→w.grownBy w' v.ownBlock→wpList P ops Q rest (a.put o.dst v') w'):wpList P ops Q (o :: rest) a w:=by
 obtain⟨iu,hi,hz0,hz1,hz2⟩:=info_parts hi
 obtain⟨h1,h2,h3⟩:=hr
 have app:∀ ad,a.eval x=.slice (some ad) m c→(∀ j u,(ints .u8 news)[j]?=some u→w.cell? (ad.add j)=some u)→wpList P ops Q (o :: rest) a w:=by
  intro ad hx hc
  exact wpList_append_own w hgd s x t ho base e iu (.int .u8 0) 1 1 ht hi hz0 hz1 hz2 rfl (by omega) v n xs hs hown ad m c (ints .u8 news) hx (by rw[ints_len,h1];omega) hc (ints_one _ _) (by unfold maxLen;omega) (by omega) hbase (fun v' w' a1 a2 _=>h v' w' ⟨a1⟩ a2)
 cases A with
 | none =>
  have h0:m=0:=by
   rcases h3 with h3|⟨_,_,h4,_⟩
   ·exact h3
   ·cases h4
  subst h0
  obtain rfl:news=[]:=List.eq_nil_of_length_eq_zero h1
  refine wpList_plain hgd fun K hK=>?_
  have hrun:=run_append_nil_any (P:=P) w base t o.type e iu 1 ht hi v n xs hown c
  unfold Oper.wp
  simp[execOp,ho,resolve,invoke,builtin,hs,hx,hrun,Result.andThen]
  exact hK _ _ (h v w ⟨by simpa [ints] using hown⟩ (World.grownBy.refl _ _))
 | some ad =>
  refine app ad hx fun j u hj=>?_
  have hjl:j < news.length:=by have:=(List.getElem?_eq_some_iff.1 hj).1;rwa [ints_len] at this
  rcases h3 with h3|⟨b,o',h4,hc⟩
  ·omega
  ·injection h4 with h4
   subst h4
   rw[ints_at _ _ _ hjl] at hj
   rw[← hj,show (⟨b,o',none⟩:Addr).add j=⟨b,o'+j,none⟩ by cases j<;>simp[Addr.add]]
   exact hc j (by omega)
theorem Rd.below {w w':World}{A:Option Addr}{n:Nat}{xs:List Int}(r:Rd w A n xs) (b:Below w.heap.size w w'):Rd w' A n xs :=
 r.keep (l:=[]) (barOf b []) (by simp)
theorem rd_of_row {W:World}{a:Option Addr}{len cap:Nat}{zs:List Int}(h:(a=none∧len=0∧cap=0∧zs=[])∨∃ x,a=some x∧len≤cap∧cap≤maxLen∧zs.length=cap∧(∀ i,i < zs.length→W.cell? (x.add i)=some (.int .u8 (zs.getD i 0)))∧∀ n∈zs,(Lit.int .u8 n).wf=true) :
  Rd W a len (zs.take len):=by
 rcases h with⟨rfl,rfl,rfl,rfl⟩|⟨x,rfl,hl,hm,hz,hcell,hw⟩
 ·exact Rd.nil_
 ·refine⟨by simp;omega,fun y hy=>?_,?_⟩
  ·have:=(Lit.wf_int_iff _ _).1 (hw y (List.mem_of_mem_take hy))
   simp only[show IntKind.u8.min=0 from rfl,show IntKind.u8.max=255 from rfl] at this
   omega
  ·by_cases h0:len=0
   ·exact .inl h0
   ·refine .inr ?_
    obtain⟨b,off,spot⟩:=x
    have hspot:spot=none:=by
     have hc:=hcell 0 (by omega)
     simpa [Addr.add] using World.cell?_spot hc
    subst hspot
    refine⟨b,off,rfl,fun i hi=>?_⟩
    have:=hcell i (by omega)
    have e:(⟨b,off,none⟩:Addr).add i=⟨b,off+i,none⟩:=by cases i<;>simp[Addr.add]
    rw[e] at this
    rw[this]
    unfold at_
    simp[List.getD_eq_getElem?_getD,hi]
theorem row_cap8 {W:World}{a:Option Addr}{len cap:Nat}{zs:List Int}(h:(a=none∧len=0∧cap=0∧zs=[])∨∃ x,a=some x∧len≤cap∧cap≤maxLen∧zs.length=cap∧(∀ i,i < zs.length→W.cell? (x.add i)=some (.int .u8 (zs.getD i 0)))∧∀ n∈zs,(Lit.int .u8 n).wf=true) :
  len≤cap∧cap≤9223372036854775807:=by
 rcases h with⟨-,rfl,rfl,-⟩|⟨x,-,hl,hm,-⟩
 ·omega
 ·unfold maxLen at hm;omega
theorem own_rd {w:World}{base:Nat}{e:TypeId}{v:Value}{n:Nat}{xs:List Int}(h:w.ownsRow base e 1 v n (ints .u8 xs)) (hb:Bytes xs):∃ A cap,v=.slice A n cap∧n≤cap∧cap≤9223372036854775807∧Rd w A n xs:=by
 have hl:xs.length=n:=by have:=h.1;rw[ints_len] at this;omega
 rcases h.2 with⟨rfl,rfl⟩|⟨g,cap,cur,rfl,hg,_,h1,h2,_⟩
 ·obtain rfl:=List.eq_nil_of_length_eq_zero hl
  exact⟨none,0,rfl,by omega,by omega,Rd.nil_⟩
 ·unfold maxLen at h2
  refine⟨some ⟨g,0,none⟩,cap,rfl,h1,by omega,hl,hb,.inr ⟨g,0,rfl,fun i hi=>?_⟩⟩
  rw[Nat.zero_add]
  exact own_cell h i hi
def Apart (v u:Value):Prop:=∀ g,v.ownBlock=some g→u.ownBlock≠some g
theorem wpList_append_rda {P:Program}{w:World}{ops:Array Oper}{rest:List Oper}{o:Oper}{a:Act}{Q:Exit→Act→World→Prop}(hgd:o.guard=none) (s x:Operand) (t:TypeId)
  (ho:o.op=.call { callee:=.builtin .append,args:=#[s,x],argTypes:=#[t,t] })
  (base:Nat) (e:TypeId) (ht:P.underlying t=some (.slice e)) (hi:(P.info? e).map (fun i=>(i.zero,i.size,i.bytes))=some (some (.int .u8 0),1,1))
  (v:Value) (n:Nat) (xs:List Value) (hs:a.eval s=v) (hown:w.ownsRow base e 1 v n xs)
  (A:Option Addr) (m c:Nat) (news:List Int) (hx:a.eval x=.slice A m c) (hr:Rd w A m news)
  (hsmall:n+m≤4294967296) (hbase:base≤w.heap.size)
  (h:∀ v' w',Kept (w'.ownsRow base e 1 v' (n+m) (xs++ints .u8 news))→w.grownBy w' v.ownBlock→(v'.ownBlock=v.ownBlock∨v'.ownBlock=some w.heap.size)→wpList P ops Q rest (a.put o.dst v') w'):wpList P ops Q (o :: rest) a w:=by
 obtain⟨iu,hi,hz0,hz1,hz2⟩:=info_parts hi
 have hr0:=hr
 obtain⟨h1,h2,h3⟩:=hr
 cases A with
 | none =>
  have h0:m=0:=by
   rcases h3 with h3|⟨_,_,h4,_⟩
   ·exact h3
   ·cases h4
  subst h0
  obtain rfl:news=[]:=List.eq_nil_of_length_eq_zero h1
  refine wpList_plain hgd fun K hK=>?_
  have hrun:=run_append_nil_any (P:=P) w base t o.type e iu 1 ht hi v n xs hown c
  unfold Oper.wp
  simp[execOp,ho,resolve,invoke,builtin,hs,hx,hrun,Result.andThen]
  exact hK _ _ (h v w ⟨by simpa [ints] using hown⟩ (World.grownBy.refl _ _) (.inl rfl))
 | some ad =>
  have hc:∀ j u,(ints .u8 news)[j]?=some u→w.cell? (ad.add j)=some u:=by
   intro j u hj
   have hjl:j < news.length:=by have:=(List.getElem?_eq_some_iff.1 hj).1;rwa [ints_len] at this
   rcases h3 with h3|⟨b,o',h4,hc⟩
   ·omega
   ·injection h4 with h4
    subst h4
    rw[Sha.ints_at _ _ _ hjl] at hj
    rw[← hj,show (⟨b,o',none⟩:Addr).add j=⟨b,o'+j,none⟩ by cases j<;>simp[Addr.add]]
    exact hc j (by omega)
  exact wpList_append_own_at w hgd s x t ho base e iu (.int .u8 0) 1 1 ht hi hz0 hz1 hz2 rfl (by omega) v n xs hs hown ad m c (ints .u8 news) hx (by rw[ints_len,h1];omega) hc (ints_one _ _) (by unfold maxLen;omega) (by omega) hbase (fun v' w' a1 a2 _ a3=>h v' w' ⟨a1⟩ a2 a3)
def Fp (F F':List Nat) (w w':World):Prop:=Bar F w w'∧∀ k∈F',k∈F∨w.heap.size≤k
theorem Fp.refl (F:List Nat) (w:World):Fp F F w w:=⟨Bar.refl _ _,fun _ h=>.inl h⟩
theorem Fp.trans {F F' F'':List Nat}{a b c:World}(h:Fp F F' a b) (k:Fp F' F'' b c):Fp F F'' a c :=
 ⟨h.1.trans k.1 h.2,fun x hx=>by
  rcases k.2 x hx with h1|h1
  ·exact h.2 x h1
  ·exact .inr (Nat.le_trans h.1.size h1)⟩
theorem Fp.below {F F':List Nat}{B:Nat}{w w':World}(h:Fp F F' w w') (hF:∀ k∈F,B≤k) (hB:B≤w.heap.size):Below B w w':=h.1.below hB hF
theorem Fp.least {F F':List Nat}{B:Nat}{w w':World}(h:Fp F F' w w') (hF:∀ k∈F,B≤k) (hB:B≤w.heap.size):∀ k∈F',B≤k:=fun k hk=>by
 rcases h.2 k hk with h1|h1
 ·exact hF k h1
 ·omega
def Disj (F G:List Nat):Prop:=∀ k∈F,k∉G
theorem Disj.symm {F G:List Nat}(h:Disj F G):Disj G F:=fun k h1 h2=>h k h2 h1
theorem Disj.step {F F' G:List Nat}{w w':World}(h:Disj F G) (k:Fp F F' w w') (hG:∀ g∈G,g < w.heap.size):Disj F' G:=fun x hx hg=>by
 rcases k.2 x hx with h1|h1
 ·exact h x h1 hg
 ·have:=hG x hg;omega
theorem Disj.new {F G:List Nat}{n:Nat}(hF:∀ k∈F,n≤k) (hG:∀ g∈G,g < n):Disj F G:=fun x hx hg=>by
 have:=hF x hx;have:=hG x hg;omega
theorem own_keep {w w':World}{base size:Nat}{e:TypeId}{v:Value}{n:Nat}{xs:List Value}{l:List Nat}(h:w.ownsRow base e size v n xs) (b:Bar l w w') (hl:∀ g∈v.ownBlock.toList,g∉l):w'.ownsRow base e size v n xs:=by
 refine⟨h.1,h.2.imp id ?_⟩
 rintro ⟨g,cap,cur,rfl,hg,hh,r⟩
 refine⟨g,cap,cur,rfl,hg,?_,r⟩
 rw[b.block g (Array.getElem?_eq_some_iff.1 hh).1 (hl g (by simp[Value.ownBlock]))]
 exact hh
theorem own_lt {w:World}{base size:Nat}{e:TypeId}{v:Value}{n:Nat}{xs:List Value}(h:w.ownsRow base e size v n xs):∀ g∈v.ownBlock.toList,g < w.heap.size:=fun g hg=>(h.lt g (by simpa using hg)).2
theorem own_shape {w:World}{base size:Nat}{e:TypeId}{v:Value}{n:Nat}{xs:List Value}(h:w.ownsRow base e size v n xs):∃ A cap,v=.slice A n cap:=by
 rcases h.2 with⟨rfl,rfl⟩|⟨g,cap,cur,rfl,_⟩
 ·exact⟨none,0,rfl⟩
 ·exact⟨_,cap,rfl⟩
theorem own_far {w:World}{base size B:Nat}{e t:TypeId}{v:Value}{n:Nat}{xs:List Value}{cs:Array Value}(h:w.ownsRow base e size v n xs) (b:Blk w B t cs) (ht:e≠t):v.ownBlock≠some B:=by
 intro hb
 rcases h.2 with⟨rfl,_⟩|⟨g,cap,cur,rfl,_,hg,_⟩
 ·simp[Value.ownBlock] at hb
 ·simp[Value.ownBlock] at hb
  subst hb
  unfold Blk at b
  rw[hg] at b
  injection b with b
  injection b with _ b
  exact ht b
theorem rd_cells {w:World}{g n:Nat}{xs:List Int}(r:Rd w (some ⟨g,0,none⟩) n xs):∀ j u,(ints .u8 xs)[j]?=some u→w.cell? ((⟨g,0,none⟩:Addr).add j)=some u:=by
 intro j u hj
 have hjl:j < xs.length:=by have:=(List.getElem?_eq_some_iff.1 hj).1;rwa [ints_len] at this
 obtain⟨h1,_,h3⟩:=r
 rcases h3 with h3|⟨b,o,hA,hc⟩
 ·omega
 ·injection hA with hA
  injection hA with e1 e2
  subst e1 e2
  rw[ints_at _ _ _ hjl] at hj
  rw[← hj,show (⟨g,0,none⟩:Addr).add j=⟨g,0+j,none⟩ by cases j<;>simp[Addr.add]]
  exact hc j (by omega)
def Off (A:Option Addr) (n:Nat) (F:List Nat):Prop:=n=0∨∃ g o,A=some ⟨g,o,none⟩∧g∉F
theorem Rd.far {w w':World}{A:Option Addr}{n:Nat}{xs:List Int}{F:List Nat}(r:Rd w A n xs) (b:Bar F w w') (h:Off A n F):Rd w' A n xs:=by
 rcases h with rfl|⟨g,o,rfl,hg⟩
 ·exact⟨r.1,r.2.1,.inl rfl⟩
 ·exact r.keep b (fun x hx=>.inr fun o' ho=>by injection ho with ho;injection ho with ho;exact hg (ho▸hx))
theorem Rd.off {w:World}{A:Option Addr}{n:Nat}{xs:List Int}{F:List Nat}(r:Rd w A n xs) (h:∀ k∈F,w.heap.size≤k):Off A n F:=by
 rcases r.2.2 with h0|⟨b,o,rfl,hc⟩
 ·exact .inl h0
 ·by_cases h0:n=0
  ·exact .inl h0
  ·refine .inr ⟨b,o,rfl,fun hb=>?_⟩
   have:=World.block_lt_of_cell? _ _ (hc 0 (by omega))
   have:=h b hb
   simp at *
   omega
theorem own_off {w:World}{base size:Nat}{e:TypeId}{A:Option Addr}{n c:Nat}{xs:List Value}{F:List Nat}(h:w.ownsRow base e size (.slice A n c) n xs) (hf:∀ k∈(Value.slice A n c).ownBlock.toList,k∉F):Off A n F:=by
 rcases h.2 with⟨_,h0⟩|⟨g,cap,cur,hv,_⟩
 ·exact .inl h0
 ·injection hv with hA
  subst hA
  exact .inr ⟨g,0,rfl,hf g (by simp[Value.ownBlock])⟩
theorem Off.step {A:Option Addr}{n:Nat}{xs:List Int}{F F':List Nat}{w w':World}(h:Off A n F) (r:Rd w A n xs) (k:Fp F F' w w'):Off A n F':=by
 rcases h with h|⟨g,o,rfl,hg⟩
 ·exact .inl h
 ·rcases r.2.2 with h0|⟨b,o',hA,hc⟩
  ·exact .inl h0
  ·by_cases h0:n=0
   ·exact .inl h0
   ·injection hA with hA
    injection hA with h1 h2
    subst h1
    refine .inr ⟨g,o,rfl,fun hb=>?_⟩
    rcases k.2 g hb with h3|h3
    ·exact hg h3
    ·have:=World.block_lt_of_cell? _ _ (hc 0 (by omega))
     simp at this
     omega
theorem Bar.grownRow {w w':World}{v:Value}(h:w.grownBy w' v.ownBlock):Bar v.ownBlock.toList w w':=⟨h.os,h.tape,h.output,h.size,fun k hk hn=>h.block k hk (fun he=>hn (by simp[← he]))⟩
theorem blk_ne {w:World}{g h:Nat}{t u:TypeId}{cs ds:Array Value}(a:Blk w g t cs) (b:Blk w h u ds) (ht:t≠u):g≠h:=by
 rintro rfl
 unfold Blk at a b
 rw[a] at b
 injection b with b
 injection b with _ b
 exact ht b
theorem index_arr {P:Program}{T e:TypeId}{N:Nat}{k k':IntKind}{l:List Int}(hT:P.underlying T=some (.array N e)) (hE:P.underlying e=some (.int k')) (hi:(P.info? e).map (·.size)=some 1) (hl:l.length=N) (i:Nat) (h:i < N) (w:World) :
  (Instr.index T (.agg (arr k l)) (.int .i64 (i:Int))).run P w=.ok (.int k (at_ l i)) w:=by
 have ha:=arr_at k l i (by omega)
 cases hq:P.info? e with
 | none=>simp[hq] at hi
 | some j =>
  have hs:j.size=1:=by simpa [hq] using hi
  have hagg:(isAgg e).run P w=.ok false w:=by
   unfold isAgg
   rw[Sem.run_bind,run_underlying hE w]
   rfl
  simp[Instr.index,asIntOf,run_underlying hT,h,sizeOf,typeInfo,hq,hs,part,hagg,ha,Result.andThen]
theorem bar_setRow (w:World) (g:Nat) (cs:Array Value):Bar [g] w (w.setRow g cs):=⟨rfl,rfl,rfl,by simp[World.setRow],fun k _ hn=>setRow_other w g k cs (by simpa using hn)⟩
theorem wpList_copy_bar {P:Program}{w:World}{ops:Array Oper}{rest:List Oper}{o:Oper}{a:Act}{Q:Exit→Act→World→Prop}(hgd:o.guard=none) (d s:Operand) (dT sT:TypeId)
  (ho:o.op=.call { callee:=.builtin .copy,args:=#[d,s],argTypes:=#[dT,sT] }) (elem:TypeId) (hu:P.underlying dT=some (.slice elem)) (hsz:(P.info? elem).map (·.size)=some 1)
  (dp sp:Option Addr) (dLen dCap sLen sCap:Nat) (hd:a.eval d=.slice dp dLen dCap) (hs:a.eval s=.slice sp sLen sCap)
  (g off:Nat) (cur:List Value) (t:TypeId) (hg:Blk w g t cur.toArray) (cs:List Value) (hn:cs.length=Nat.min sLen dLen)
  (hpos:0 < cs.length→dp=some ⟨g,off,none⟩∧∃ ad,sp=some ad∧∀ j v,cs[j]?=some v→w.cell? (ad.add j)=some v)
  (hfit:off+cs.length≤cur.length) (h1:∀ v∈cs,v.oneCell'=true)
  (h:∀ w',Hid (Blk w' g t (splice cur off cs).toArray)→Bar [g] w w'→wpList P ops Q rest (a.put o.dst (goInt cs.length)) w') :
  wpList P ops Q (o :: rest) a w:=by
 by_cases h0:cs.length=0
 ·obtain rfl:cs=[]:=List.eq_nil_of_length_eq_zero h0
  refine wpList_copy_nothing hgd d s dT sT ho elem hu hsz dp sp dLen dCap sLen sCap hd hs (by simpa using hn.symm) ?_
  exact h w (show Blk w g t _ by rw[show splice cur off []=cur by simp[splice]];exact hg) (Bar.refl _ _)
 ·obtain⟨rfl,ad,rfl,hsrc⟩:=hpos (by omega)
  refine wpList_copy_own hgd d s dT sT ho elem hu hsz g off dLen dCap ad sLen sCap hd hs cur.toArray t hg cs hn hsrc (by simpa using hfit) h1 ?_
  exact h _ (show Blk _ g t _ by unfold Blk;simpa [splice] using setRow_heap w g _ _ t _ hg) (bar_setRow _ _ _)
def lenOf:Value→Nat|.slice _ l _=>l|_=>0
theorem info_u8:(Tryz.prog.info? 5).map (fun i=>(i.zero,i.size,i.bytes))=some (some (.int .u8 0),1,1):=by kernel_rfl
theorem rd_one (w:World) (x:Int) (hx:0≤x∧x≤255):Rd (w.alloc (.cells #[.int .u8 x] 5)) (some ⟨w.heap.size,0,none⟩) 1 [x] :=
 Rd.blk (Blk.new w 5 (arr .u8 [x])) (by intro y hy;rw[List.mem_singleton] at hy;subst hy;exact hx) rfl
theorem make_blk (w:World) (n:Nat) (hn:n≤400):∃ w',(Instr.makeSlice 26 (.int .i64 (n:Int)) (.int .i64 (n:Int))).run Tryz.prog w=.ok (.slice (some ⟨w.heap.size,0,none⟩) n n) w'∧Blk w' w.heap.size 5 (arr .u8 (List.replicate n 0))∧Below w.heap.size w w':=by
 obtain⟨iu,hi,hz0,hz1,hz2⟩:=info_parts info_u8
 obtain⟨w',hm,own,gr⟩:=run_makeSlice_full (P:=Tryz.prog) w w.heap.size 26 5 iu _ 1 Tryz.underlying26 hi hz0 hz1 .i64 .i64 n (by omega) (by rw[hz2];omega) (by unfold maxLen;omega) (Nat.le_refl _)
 refine⟨w',hm,?_,⟨gr.os,gr.tape,gr.output,gr.size,fun k hk=>gr.block k hk (by simp)⟩⟩
 have e:(madeCells (Value.int .u8 0).cells (n * 1)).toList=ints .u8 (List.replicate n 0):=by
  rw[show (Value.int .u8 0).cells=#[.int .u8 0] from rfl,toList_madeCells_one,Nat.mul_one]
  simp[ints]
 rw[e] at own
 rcases own.2 with⟨h0,-⟩|⟨g,cap,cur,hv,-,hh,h1,-,hs,ht⟩
 ·cases h0
 ·have hv2:w.heap.size=g∧n=cap:=by
   have:=hv
   simp only[Value.slice.injEq,Option.some.injEq,Addr.mk.injEq] at this
   omega
  obtain⟨hg,rfl⟩:=hv2
  rw[hg]
  have:cur=arr .u8 (List.replicate n 0):=by
   apply Array.toList_inj.1
   rw[List.take_of_length_le (by simp;omega)] at ht
   rw[ht]
   rfl
  rw[← this]
  exact hh
section
variable {α : Type} (C : α → List Value) (s : Nat)
theorem flatC_len (hC:∀ x,(C x).length=s):∀ l:List α,(l.flatMap C).length=l.length * s
  | []=>by simp
  | x :: l=>by
    rw[List.flatMap_cons,List.length_append,hC,flatC_len hC l,List.length_cons,Nat.add_mul];omega
theorem flatC_at (hC:∀ x,(C x).length=s):∀ (l:List α) (k j:Nat) (x:α),l[k]?=some x→j < s→(l.flatMap C)[k * s+j]?=(C x)[j]?
  | [],k,j,x,h,_=>by simp at h
  | y :: l,0,j,x,h,hj=>by
    simp at h
    subst h
    rw[List.flatMap_cons,List.getElem?_append_left (by rw[hC];omega)]
    simp
  | y :: l,k+1,j,x,h,hj=>by
    have e:(k+1) * s+j - s=k * s+j:=by rw[Nat.add_mul];omega
    rw[List.flatMap_cons,List.getElem?_append_right (by rw[hC,Nat.add_mul];omega),hC,e]
    exact flatC_at hC l k j x (by simpa using h) hj
def Rc (w:World) (A:Option Addr) (n:Nat) (l:List α):Prop :=
 l.length=n∧(n=0∨∃ b o,A=some ⟨b,o,none⟩∧∀ k x,l[k]?=some x→∀ j v,(C x)[j]?=some v→w.cell? ⟨b,o+k * s+j,none⟩=some v)
variable {C s} {w w' : World} {A : Option Addr} {n : Nat} {l : List α}
theorem Rc.nil:Rc C s w A 0 []:=⟨rfl,.inl rfl⟩
theorem Rc.below (h:Rc C s w A n l) (b:Below w.heap.size w w'):Rc C s w' A n l:=by
 refine⟨h.1,h.2.imp id ?_⟩
 rintro ⟨bb,o,rfl,hc⟩
 refine⟨bb,o,rfl,fun k x hx j v hv=>?_⟩
 have hh:=hc k x hx j v hv
 rw[b.cell (World.block_lt_of_cell? _ _ hh)];exact hh
theorem Rc.bar {F:List Nat}(h:Rc C s w A n l) (b:Bar F w w') (hF:∀ x∈F,w.heap.size≤x∨∀ o,A≠some ⟨x,o,none⟩):Rc C s w' A n l:=by
 refine⟨h.1,h.2.imp id ?_⟩
 rintro ⟨bb,o,rfl,hc⟩
 refine⟨bb,o,rfl,fun k x hx j v hv=>?_⟩
 have hh:=hc k x hx j v hv
 have hlt:=World.block_lt_of_cell? _ _ hh
 rw[← hh]
 refine World.cell?_of_block (w:=w) (b.block bb hlt (fun hm=>?_))
 rcases hF bb hm with h1|h1
 ·simp at hlt;omega
 ·exact h1 o rfl
theorem Rc.at_ (h:Rc C s w A n l) {k:Nat}(hk:k < n):∃ b o x,A=some ⟨b,o,none⟩∧l[k]?=some x∧∀ j v,(C x)[j]?=some v→w.cell? ⟨b,o+k * s+j,none⟩=some v:=by
 obtain⟨b,o,hA,hc⟩:=h.2.resolve_left (by omega)
 have e:l[k]?=some (l[k]'(by rw[h.1];exact hk)):=List.getElem?_eq_getElem _
 exact⟨b,o,_,hA,e,hc k _ e⟩
theorem Rc.own {base:Nat}{t:TypeId}{v:Value}(hC:∀ x,(C x).length=s) (h:w.ownsRow base t s v n (l.flatMap C)) (hl:l.length=n):∃ A c,v=.slice A n c∧n≤c∧c≤9223372036854775807∧Rc C s w A n l:=by
 have h0:=h
 rcases h.2 with⟨hv,hx⟩|⟨g,c,cur,hv,-,hb,h1,h2,-⟩
 ·exact⟨none,0,by rw[hv,hx],by omega,by omega,hl,.inl hx⟩
 ·subst hv
  refine⟨_,c,rfl,h1,by unfold maxLen at h2;omega,hl,.inr ⟨g,0,rfl,fun k x hx j v hv=>?_⟩⟩
  have hj:j < s:=by
   have:=(List.getElem?_eq_some_iff.1 hv).1
   rwa [hC] at this
  have hk:k < n:=by
   have:=(List.getElem?_eq_some_iff.1 hx).1
   rwa [hl] at this
  have hb:k * s+j < n * s:=by
   have:(k+1) * s≤n * s:=Nat.mul_le_mul_right s hk
   rw[Nat.add_mul] at this;omega
  rw[Nat.zero_add,World.ownsRow.cellAt h0 (k * s+j) hb,flatC_at C s hC l k j x hx hj,hv]
end
theorem Rd.piece {w:World}{A:Option Addr}{n c:Nat}{xs:List Int}(r:Rd w A n xs) (hc:n≤c) (l h:Nat) (h1:l≤h) (h2:h≤n) :
  Rd w (if c=l then A else A.map (·.add (l * 1))) (h - l) ((xs.take h).drop l)∧∀ F,Off A n F→Off (if c=l then A else A.map (·.add (l * 1))) (h - l) F:=by
 obtain⟨r1,r2,r3⟩:=r
 have e1:((xs.take h).drop l).length=h - l:=by simp[List.length_drop,List.length_take,r1];omega
 have e2:Bytes ((xs.take h).drop l):=(Bytes.take r2 h).drop l
 by_cases h0:h - l=0
 ·rw[h0] at e1 ⊢
  exact⟨⟨e1,e2,.inl rfl⟩,fun F _=>.inl rfl⟩
 ·have hcl:¬ c=l:=by omega
  rw[if_neg hcl,Nat.mul_one]
  obtain⟨b,o,rfl,hcell⟩:=r3.resolve_left (by omega)
  have ea:(⟨b,o,none⟩:Addr).add l=⟨b,o+l,none⟩:=by cases l<;>simp[Addr.add]
  simp only[Option.map_some,ea]
  refine⟨⟨e1,e2,.inr ⟨b,o+l,rfl,fun i hi=>?_⟩⟩,fun F hF=>.inr ?_⟩
  ·have:=hcell (l+i) (by omega)
   rw[Nat.add_assoc,this,at_drop,at_take (by omega)]
  ·rcases hF with hF|⟨g,o',hA,hg⟩
   ·omega
   ·injection hA with hA
    injection hA with hA _
    subst hA
    exact⟨b,o+l,rfl,hg⟩
theorem elem_u8:Tryz.prog.elem 26=5:=by kernel_rfl
theorem und_u8:Tryz.prog.underlying 26=some (.slice (Tryz.prog.elem 26)):=by rw[elem_u8];exact Tryz.underlying26
theorem size_u8 (w:World):(sizeOf (Tryz.prog.elem 26)).run Tryz.prog w=.ok 1 w:=by
 obtain⟨iu,hi,_,hz1,_⟩:=info_parts info_u8
 rw[elem_u8]
 simp[sizeOf,typeInfo,hi,hz1]
theorem slice_l {w:World}{A:Option Addr}{n c:Nat}{xs:List Int}(r:Rd w A n xs) (hc:n≤c) (l:Nat) (h1:l≤n) (li:Int) (e1:li=l) :
  ∃ A',(∀ w',(Instr.slice 26 (.slice A n c) (some (.int .i64 li)) none none).run Tryz.prog w'=.ok (.slice A' (n - l) (c - l)) w')∧Rd w A' (n - l) (xs.drop l)∧∀ F,Off A n F→Off A' (n - l) F:=by
 have hp:=r.piece hc l n h1 (Nat.le_refl _)
 rw[show xs.take n=xs from List.take_of_length_le (by rw[r.1];exact Nat.le_refl _)] at hp
 refine⟨_,fun w'=>?_,hp⟩
 subst e1
 rw[run_slice_l w' 26 A n c und_u8 .i64 l (by omega) (by omega),size_u8]
 rfl
theorem slice_h {w:World}{A:Option Addr}{n c:Nat}{xs:List Int}(r:Rd w A n xs) (hc:n≤c) (h:Nat) (h2:h≤n) (hi:Int) (e2:hi=h) :
  ∃ A',(∀ w',(Instr.slice 26 (.slice A n c) none (some (.int .i64 hi)) none).run Tryz.prog w'=.ok (.slice A' h c) w')∧Rd w A' h (xs.take h)∧∀ F,Off A n F→Off A' h F:=by
 have hp:=r.piece hc 0 h (Nat.zero_le _) h2
 rw[List.drop_zero,Nat.sub_zero] at hp
 refine⟨_,fun w'=>?_,hp⟩
 subst e2
 rw[run_slice_h w' 26 A n c und_u8 .i64 h (by omega) (by omega),size_u8]
 rfl
def Ri (w:World) (A:Option Addr) (n:Nat) (xs:List Int):Prop :=
 xs.length=n∧(n=0∨∃ b o,A=some ⟨b,o,none⟩∧∀ i,i < n→w.cell? ⟨b,o+i,none⟩=some (.int .i64 (at_ xs i)))
theorem Ri.bar {w w':World}{A:Option Addr}{n:Nat}{xs:List Int}{l:List Nat}(r:Ri w A n xs) (b:Bar l w w') (hl:∀ x∈l,w.heap.size≤x∨∀ o,A≠some ⟨x,o,none⟩):Ri w' A n xs:=by
 obtain⟨h1,h3⟩:=r
 refine⟨h1,h3.imp id ?_⟩
 rintro ⟨bb,o,rfl,hc⟩
 refine⟨bb,o,rfl,fun i hi=>?_⟩
 have hlt:bb < w.heap.size:=World.block_lt_of_cell? _ _ (hc i hi)
 rw[← hc i hi]
 refine World.cell?_of_block (w:=w) (b.block bb hlt (fun hm=>?_))
 rcases hl bb hm with h|h
 ·omega
 ·exact h o rfl
theorem Ri.below {w w':World}{A:Option Addr}{n:Nat}{xs:List Int}(r:Ri w A n xs) (b:Below w.heap.size w w'):Ri w' A n xs:=r.bar (l:=[]) (barOf b []) (by simp)
theorem Ri.upto {w w':World}{A:Option Addr}{n:Nat}{xs:List Int}{B:Nat}(r:Ri w A n xs) (b:Below B w w') (hB:n=0∨∀ g o,A=some ⟨g,o,none⟩→g < B):Ri w' A n xs:=by
 obtain⟨h1,h3⟩:=r
 refine⟨h1,?_⟩
 rcases hB with h|h
 ·exact .inl h
 ·refine h3.imp id ?_
  rintro ⟨bb,o,rfl,hc⟩
  exact⟨bb,o,rfl,fun i hi=>by rw[← hc i hi];exact World.cell?_of_block (w:=w) (b.block bb (h bb o rfl))⟩
theorem Ri.blk {w:World}{M n:Nat}{T:TypeId}{xs:List Int}(h:Blk w M T (arr .i64 xs)) (hn:xs.length=n):Ri w (some ⟨M,0,none⟩) n xs :=
 ⟨hn,.inr ⟨M,0,rfl,fun i hi=>by rw[Nat.zero_add];exact h.at_ i (by omega)⟩⟩
theorem ri_of_row {W:World}{a:Option Addr}{len cap:Nat}{zs:List Int}(h:(a=none∧len=0∧cap=0∧zs=[])∨∃ x,a=some x∧len≤cap∧cap≤maxLen∧zs.length=cap∧(∀ i,i < zs.length→W.cell? (x.add i)=some (.int .i64 (zs.getD i 0)))∧∀ n∈zs,(Lit.int .i64 n).wf=true) :
  Ri W a len (zs.take len):=by
 rcases h with⟨rfl,rfl,rfl,rfl⟩|⟨x,rfl,hl,hm,hz,hcell,-⟩
 ·exact⟨rfl,.inl rfl⟩
 ·refine⟨by simp;omega,?_⟩
  by_cases h0:len=0
  ·exact .inl h0
  ·refine .inr ?_
   obtain⟨b,off,spot⟩:=x
   have hspot:spot=none:=by
    have hc:=hcell 0 (by omega)
    simpa [Addr.add] using World.cell?_spot hc
   subst hspot
   refine⟨b,off,rfl,fun i hi=>?_⟩
   have:=hcell i (by omega)
   have e:(⟨b,off,none⟩:Addr).add i=⟨b,off+i,none⟩:=by cases i<;>simp[Addr.add]
   rw[e] at this
   rw[this]
   unfold at_
   simp[List.getD_eq_getElem?_getD,hi]
theorem info_int:(Tryz.prog.info? 3).map (fun i=>(i.zero,i.size,i.bytes))=some (some (.int .i64 0),1,8):=by kernel_rfl
def Rwi (w:World) (A:Option Addr) (n:Nat) (X:Nat→List Int):Prop :=
 n=0∨∃ b o,A=some ⟨b,o,none⟩∧∀ r,r < n→∃ a l c,w.cell? ⟨b,o+r,none⟩=some (.slice a l c)∧l≤c∧c≤9223372036854775807∧Ri w a l (X r)
theorem Rwi.below {w w':World}{A:Option Addr}{n:Nat}{X:Nat→List Int}(h:Rwi w A n X) (b:Below w.heap.size w w'):Rwi w' A n X:=by
 refine h.imp id ?_
 rintro ⟨bb,o,rfl,hc⟩
 refine⟨bb,o,rfl,fun r hr=>?_⟩
 obtain⟨a,l,c,h1,h2,h3,h4⟩:=hc r hr
 exact⟨a,l,c,by rw[b.cell (World.block_lt_of_cell? _ _ h1)];exact h1,h2,h3,h4.below b⟩
theorem Rwi.row {w:World}{A:Option Addr}{n:Nat}{X:Nat→List Int}(h:Rwi w A n X) (i:Nat) (hi:i < n):∃ b o a l c,A=some ⟨b,o,none⟩∧w.cell? ⟨b,o+i,none⟩=some (.slice a l c)∧l≤c∧c≤9223372036854775807∧Ri w a l (X i):=by
 rcases h with h|⟨b,o,rfl,hc⟩
 ·omega
 ·obtain⟨a,l,c,h1,h2,h3,h4⟩:=hc i hi
  exact⟨b,o,a,l,c,rfl,h1,h2,h3,h4⟩
theorem rwi_of_row {W:World}{a:Option Addr}{len cap:Nat}(h:(a=none∧len=0∧cap=0)∨∃ (x:Addr) (A:Nat→Option Addr) (L C:Nat→Nat) (Z:Nat→List Int),a=some x∧len≤cap∧cap≤maxLen∧∀ r,r < cap→W.cell? (x.add r)=some (.slice (A r) (L r) (C r))∧L r≤C r∧C r≤maxLen∧(Z r).length=C r∧(∀ n∈Z r,(Lit.int .i64 n).wf=true)∧(A r=none→C r=0)∧∀ a':Addr,A r=some a'→0≤a'.block∧∀ c,c < C r→W.cell? (a'.add c)=some (.int .i64 ((Z r).getD c 0))) :
  len≤9223372036854775807∧∃ X,Rwi W a len X:=by
 rcases h with⟨rfl,rfl,rfl⟩|⟨x,A,L,C,Z,rfl,hl,hm,hr⟩
 ·exact⟨by omega,fun _=>[],.inl rfl⟩
 ·refine⟨by unfold maxLen at hm;omega,fun r=>(Z r).take (L r),?_⟩
  by_cases h0:len=0
  ·exact .inl h0
  ·refine .inr ?_
   obtain⟨b,off,spot⟩:=x
   have hspot:spot=none:=by
    have hc:=(hr 0 (by omega)).1
    simpa [Addr.add] using World.cell?_spot hc
   subst hspot
   refine⟨b,off,rfl,fun r hrl=>?_⟩
   obtain⟨h1,h2,h3,h4,h5,h6,h7⟩:=hr r (by omega)
   have e:(⟨b,off,none⟩:Addr).add r=⟨b,off+r,none⟩:=by cases r<;>simp[Addr.add]
   rw[e] at h1
   refine⟨A r,L r,C r,h1,h2,by unfold maxLen at h3;omega,?_⟩
   refine ri_of_row (cap:=C r) ?_
   cases hA:A r with
   | none =>
    have hC:=h6 hA
    have hZ:Z r=[]:=List.eq_nil_of_length_eq_zero (by omega)
    exact .inl ⟨rfl,by omega,hC,hZ⟩
   | some a' =>
    exact .inr ⟨a',rfl,h2,h3,h4,fun i hi=>(h7 a' hA).2 i (by omega),h5⟩
end Go.Proofs.YtchcgoabogcabaaGreat.Sha
namespace Go.Proofs.YtchcgoabogcabaaGreat.Purse
open Go.RowKit Go.Proofs.YtchcgoabogcabaaGreat.Sha
def Holds (w:World) (e:Ending) (w':World):Prop:=e=.returned (.bool true)∧Below w.heap.size w w'
def NewPost (Pk:World→List Nat→Nat→PS→Prop) (w:World) (n:Nat) (X:Nat→List Int) (e:Ending) (w':World):Prop :=
 (¬ newOk n X∧e=.returned (.tuple #[.pointer none,.int .i64 1])∧Below w.heap.size w w')∨(newOk n X∧∃ p F,e=.returned (.tuple #[.pointer (some ⟨p,0,none⟩),.int .i64 0])∧Pk w' F p (newP n X)∧Fp [] F w w')
def StepPost (D:World→List Nat→PS→Prop) (w:World) (F:List Nat) (r:Int × PS) (e:Ending) (w':World):Prop:=e=.returned (.int .i64 r.1)∧∃ F',D w' F' r.2∧Fp F F' w w'
end Go.Proofs.YtchcgoabogcabaaGreat.Purse
namespace Go.Proofs.YtchcgoabogcabaaGreat.Sha
open Go.RowKit
def Rws (w:World) (A:Option Addr) (n:Nat) (X:Nat→List Int):Prop :=
 n=0∨∃ b o,A=some ⟨b,o,none⟩∧∀ r,r < n→∃ a l c,w.cell? ⟨b,o+r,none⟩=some (.slice a l c)∧l≤c∧c≤9223372036854775807∧Rd w a l (X r)
theorem Rws.below {w w':World}{A:Option Addr}{n:Nat}{X:Nat→List Int}(h:Rws w A n X) (b:Below w.heap.size w w'):Rws w' A n X:=by
 refine h.imp id ?_
 rintro ⟨bb,o,rfl,hc⟩
 refine⟨bb,o,rfl,fun r hr=>?_⟩
 obtain⟨a,l,c,h1,h2,h3,h4⟩:=hc r hr
 exact⟨a,l,c,by rw[b.cell (World.block_lt_of_cell? _ _ h1)];exact h1,h2,h3,h4.below b⟩
end Go.Proofs.YtchcgoabogcabaaGreat.Sha
namespace Go.Proofs.YtchcgoabogcabaaGreat.Purse
open Go.RowKit Go.Proofs.YtchcgoabogcabaaGreat.Sha Go.Proofs.YtchcgoabogcabaaGreat.Num
def twoX (a b:Int) (r:Nat):List Int:=if r=0 then [a] else [b]
def twoW (w:World) (a b:Int):World:=((w.alloc (.cells #[.int .i64 a] 3)).alloc (.cells #[.int .i64 b] 3)).alloc (.cells #[.slice (some ⟨w.heap.size,0,none⟩) 1 1,.slice (some ⟨w.heap.size+1,0,none⟩) 1 1] 41)
theorem twoW_below (w:World) (a b:Int):Below w.heap.size w (twoW w a b):=(((Below.refl _ w).alloc (Nat.le_refl _) _).alloc (by simp) _).alloc (by simp;omega) _
theorem two_rows (w:World) (a b:Int):Rwi (twoW w a b) (some ⟨w.heap.size+2,0,none⟩) 2 (twoX a b):=by
  refine .inr ⟨_,_,rfl,fun r hr=>?_⟩
  have h1:Blk (twoW w a b) w.heap.size 3 #[.int .i64 a]:=((Blk.new w 3 #[.int .i64 a]).alloc _).alloc _
  have h2:Blk (twoW w a b) (w.heap.size+1) 3 #[.int .i64 b]:=(Blk.new_at (w.alloc (.cells #[.int .i64 a] 3)) 3 #[.int .i64 b] (w.heap.size+1) (by simp)).alloc _
  have h3:Blk (twoW w a b) (w.heap.size+2) 41 #[.slice (some ⟨w.heap.size,0,none⟩) 1 1,.slice (some ⟨w.heap.size+1,0,none⟩) 1 1]:=Blk.new_at ((w.alloc (.cells #[.int .i64 a] 3)).alloc (.cells #[.int .i64 b] 3)) _ _ _ (by simp)
  match r,hr with
  | 0,_=>exact⟨_,1,1,h3.cell 0,by omega,by omega,rfl,.inr ⟨_,0,rfl,fun i hi=>by
      obtain rfl:i=0:=by omega
      exact h1.cell 0⟩⟩
  | 1,_=>exact⟨_,1,1,h3.cell 1,by omega,by omega,rfl,.inr ⟨_,0,rfl,fun i hi=>by
      obtain rfl:i=0:=by omega
      exact h2.cell 0⟩⟩
def twoOk (a b:Int):Bool:=(sumGo 0 [a,b]).isSome
theorem two_col (a b:Int):col (twoX a b) 2 0=[a,b]:=rfl
theorem two_ok {a b:Int}(h:twoOk a b=true):newOk 2 (twoX a b) :=
 ⟨⟨by omega,by omega⟩,⟨by simp[twoX],by simp[twoX]⟩,fun i _=>by unfold twoX;split<;>simp,fun q hq=>by
  have hl:(twoX a b 0).length=1:=rfl
  obtain rfl:q=0:=by omega
  rw[two_col]
  simp only[sumE]
  rw[show (sumGo 0 [a,b]).isSome=true from h]
  rfl⟩
end Go.Proofs.YtchcgoabogcabaaGreat.Purse
namespace Go.Proofs.YtchcgoabogcabaaGreat.Purse
open Go.RowKit Go.Proofs.YtchcgoabogcabaaGreat.Sha
def FewPost (n:Nat) (w:World) (e:Ending) (w':World):Prop:=∃ t:Bool,e=.returned (.bool t)∧(t=true→n≤100)∧w=w'
set_option maxRecDepth 100000 in
set_option maxHeartbeats 1000000 in
theorem few_any (A:Option Addr) (n cap:Nat) (X:Nat→List Int) (w:World) (hr:Rwi w A n X) (hn:n≤9223372036854775807) :
  Calls Tryz.prog 24 #[.slice A n cap] w (FewPost n w):=by
 have HR:=Kept.mk hr
 clear hr
 go_enter Tryz.func24,Tryz.ntmps24
 go_wp2
 go_loop [3,4] (fun s i=>∃ k z:Nat,k≤n∧k≤100∧z≤1001 * k∧s=.int .i64 z∧i=.int .i64 k) (fun _ i=>100 - (Go.RowKit.intOf i).toNat)
 case atStart=>exact⟨0,0,by omega,by omega,by omega,rfl,rfl⟩
 case round =>
  obtain⟨k,z,hk,hk1,hz,rfl,rfl⟩:=hrel
  by_cases hkn:k < n
  ·have hkn':(k:Int) < n:=by omega
   by_cases hk2:k < 100
   ·have hk2':(k:Int) < 100:=by omega
    obtain⟨b,o,a,l,c,rfl,h1,h2,h3,h4⟩:=HR.out.row k hkn
    clear h4
    by_cases hlT:l≤1001
    ·have hlT':(l:Int)≤1001:=by omega
     go_wp2
     go_round
     case rel=>exact⟨k+1,z+l,by omega,by omega,by omega,by go_num,by go_num⟩
     case measure=>simp[Go.RowKit.intOf];omega
    ·have hlT':¬ (l:Int)≤1001:=by omega
     go_wp2
     go_round
     case rel=>exact⟨k+1,z+1001,by omega,by omega,by omega,by go_num,by go_num⟩
     case measure=>simp[Go.RowKit.intOf];omega
   ·have hn2:¬ (n:Int)≤100:=by omega
    have hk2':¬ (k:Int) < 100:=by omega
    go_wp2
    go_ret
    exact⟨_,rfl,by simp,rfl⟩
  ·have hkn':¬ (k:Int) < n:=by omega
   obtain rfl:k=n:=by omega
   have hk3:(k:Int)≤100:=by omega
   go_wp2
   go_ret
   exact⟨_,rfl,fun _=>hk1,rfl⟩
def RowOf (w:World) (r m:Nat) (h:Nat→Int):Prop:=∃ cur:Array Value,Blk w r 3 cur∧∀ j,j < m→cur[j]?=some (.int .i64 (h j))
structure MxAt (T:TypeId) (w:World) (F:List Nat) (p n m:Nat) (f:Nat→Nat→Int) (g c:Nat) (R C:Nat→Nat):Prop where
 hT:T≠41∧T≠3
 hp:Blk w p T #[.slice (some ⟨g,0,none⟩) n c]
 hg:∃ cur:Array Value,Blk w g 41 cur∧∀ i,i < n→cur[i]?=some (.slice (some ⟨R i,0,none⟩) m (C i))
 hc:n≤c∧c≤9223372036854775807
 hr:∀ i,i < n→m≤C i∧C i≤9223372036854775807∧RowOf w (R i) m (f i)
 inj:∀ i j,i < n→j < n→R i=R j→i=j
 hF:F=p :: g :: (List.range n).map R
def Mx (T:TypeId) (w:World) (F:List Nat) (p n m:Nat) (f:Nat→Nat→Int):Prop:=∃ g c R C,MxAt T w F p n m f g c R C
section
variable {T : TypeId} {w w' : World} {F G : List Nat} {p n m g c : Nat} {f : Nat → Nat → Int} {R C : Nat → Nat}
theorem RowOf.lt {r:Nat}{h:Nat→Int}(k:RowOf w r m h):r < w.heap.size:=by obtain⟨cur,h1,-⟩:=k;exact h1.lt
theorem RowOf.bar {r:Nat}{h:Nat→Int}{l:List Nat}(k:RowOf w r m h) (b:Bar l w w') (hr:r∉l):RowOf w' r m h:=by
 obtain⟨cur,h1,h2⟩:=k
 exact⟨cur,h1.bar b hr,h2⟩
theorem MxAt.gt (h:MxAt T w F p n m f g c R C):g < w.heap.size:=by obtain⟨cur,h1,-⟩:=h.hg;exact h1.lt
theorem MxAt.mem (h:MxAt T w F p n m f g c R C) {k:Nat}:k∈F ↔ k=p∨k=g∨∃ i,i < n∧R i=k:=by
 rw[h.hF];simp
theorem MxAt.lts (h:MxAt T w F p n m f g c R C):∀ k∈F,k < w.heap.size:=by
 intro k hk
 rcases h.mem.1 hk with rfl|rfl|⟨i,hi,rfl⟩
 ·exact h.hp.lt
 ·exact h.gt
 ·exact(h.hr i hi).2.2.lt
theorem MxAt.keep (h:MxAt T w F p n m f g c R C) (b:Bar G w w') (j:Disj F G):MxAt T w' F p n m f g c R C:=by
 obtain⟨cur,h1,h2⟩:=h.hg
 exact⟨h.hT,h.hp.bar b (j p (h.mem.2 (.inl rfl))),⟨cur,h1.bar b (j g (h.mem.2 (.inr (.inl rfl)))),h2⟩,h.hc,fun i hi=>⟨(h.hr i hi).1,(h.hr i hi).2.1,(h.hr i hi).2.2.bar b (j _ (h.mem.2 (.inr (.inr ⟨i,hi,rfl⟩))))⟩,h.inj,h.hF⟩
theorem MxAt.p0 (h:MxAt T w F p n m f g c R C):w.cell? ⟨p,0,none⟩=some (.slice (some ⟨g,0,none⟩) n c):=h.hp.cell 0
theorem MxAt.gi (h:MxAt T w F p n m f g c R C) {i:Nat}(hi:i < n):w.cell? ⟨g,i,none⟩=some (.slice (some ⟨R i,0,none⟩) m (C i)):=by
 obtain⟨cur,h1,h2⟩:=h.hg
 rw[h1.cell,h2 i hi]
theorem MxAt.rij (h:MxAt T w F p n m f g c R C) {i j:Nat}(hi:i < n) (hj:j < m):w.cell? ⟨R i,j,none⟩=some (.int .i64 (f i j)):=by
 obtain⟨cur,h1,h2⟩:=(h.hr i hi).2.2
 rw[h1.cell,h2 j hj]
theorem MxAt.fz (h:MxAt T w F p n m f g c R C) {i:Nat}(hi:i < n) (j:Nat):w.frozen? ⟨R i,j,none⟩=false:=by
 obtain⟨cur,h1,h2⟩:=(h.hr i hi).2.2
 exact h1.frozen j
theorem MxAt.ints (h:MxAt T w F p n m f g c R C) {i:Nat}(hi:i < n):Num.Ints w (some ⟨R i,0,none⟩) m ((List.range m).map (f i)) :=
 ⟨by simp,by have:=(h.hr i hi).1;have:=(h.hr i hi).2.1;omega,.inr ⟨R i,0,rfl,fun j hj=>by rw[Nat.zero_add,h.rij hi hj];simp[hj]⟩⟩
theorem MxAt.ne_pr (h:MxAt T w F p n m f g c R C) {i:Nat}(hi:i < n):p≠R i:=by obtain⟨cur,h1,-⟩:=(h.hr i hi).2.2;exact blk_ne h.hp h1 h.hT.2
theorem MxAt.ne_gr (h:MxAt T w F p n m f g c R C) {i:Nat}(hi:i < n):g≠R i:=by
 obtain⟨cur,h1,-⟩:=(h.hr i hi).2.2
 obtain⟨cur',h2,-⟩:=h.hg
 exact blk_ne h2 h1 (by decide)
theorem MxAt.set (h:MxAt T w F p n m f g c R C) {i:Nat}(hi:i < n) (j:Nat) (x:Int):MxAt T (w.setCell ⟨R i,j,none⟩ (.int .i64 x)) F p n m (upd f i j x) g c R C:=by
 have b:Bar [R i] w (w.setCell ⟨R i,j,none⟩ (.int .i64 x)):=(Bar.refl _ w).setCell (by simp) _
 obtain⟨cur,h1,h2⟩:=h.hg
 refine⟨h.hT,h.hp.bar b (by simpa using h.ne_pr hi),⟨cur,h1.bar b (by simpa using h.ne_gr hi),h2⟩,h.hc,fun k hk=>⟨(h.hr k hk).1,(h.hr k hk).2.1,?_⟩,h.inj,h.hF⟩
 by_cases e:k=i
 ·subst e
  obtain⟨cs,k1,k2⟩:=(h.hr k hk).2.2
  refine⟨_,k1.set_ j (.int .i64 x),fun q hq=>?_⟩
  rw[Array.getElem?_setIfInBounds]
  by_cases e2:j=q
  ·subst e2
   rw[if_pos rfl,if_pos (Array.getElem?_eq_some_iff.1 (k2 j hq)).1,upd_same]
  ·rw[if_neg e2,upd_other _ _ _ _ (by omega),k2 q hq]
 ·have:RowOf w (R k) m (upd f i j x k):=by
   obtain⟨cs,k1,k2⟩:=(h.hr k hk).2.2
   exact⟨cs,k1,fun q hq=>by rw[upd_other _ _ _ _ (by simp[e]),k2 q hq]⟩
  exact this.bar b (by simpa using fun e2=>e (h.inj k i hk hi e2))
theorem MxAt.fp (h:MxAt T w F p n m f g c R C) {i j:Nat}(hi:i < n) (u:Value):Fp F F w (w.setCell ⟨R i,j,none⟩ u) :=
 ⟨(Bar.refl _ w).setCell (.inl (h.mem.2 (.inr (.inr ⟨i,hi,rfl⟩)))) _,fun _ hk=>.inl hk⟩
theorem Mx.lts (h:Mx T w F p n m f):∀ k∈F,k < w.heap.size:=by obtain⟨g,c,R,C,h⟩:=h;exact h.lts
theorem Mx.keep (h:Mx T w F p n m f) (b:Bar G w w') (j:Disj F G):Mx T w' F p n m f:=by obtain⟨g,c,R,C,h⟩:=h;exact⟨g,c,R,C,h.keep b j⟩
theorem Mx.below (h:Mx T w F p n m f) (b:Below w.heap.size w w'):Mx T w' F p n m f:=h.keep (barOf b []) (fun _ _=>by simp)
theorem Mx.congr {f':Nat→Nat→Int}(h:Mx T w F p n m f) (e:∀ i j,i < n→j < m→f' i j=f i j):Mx T w F p n m f':=by
 obtain⟨g,c,R,C,h⟩:=h
 exact⟨g,c,R,C,h.hT,h.hp,h.hg,h.hc,fun i hi=>⟨(h.hr i hi).1,(h.hr i hi).2.1,by
  obtain⟨cs,k1,k2⟩:=(h.hr i hi).2.2
  exact⟨cs,k1,fun q hq=>by rw[e i q hi hq,k2 q hq]⟩⟩,h.inj,h.hF⟩
end
end Go.Proofs.YtchcgoabogcabaaGreat.Purse
namespace Go.Proofs.YtchcgoabogcabaaGreat.Purse
open Go.RowKit Go.Proofs.YtchcgoabogcabaaGreat.Sha Go.Proofs.YtchcgoabogcabaaGreat.Num
def Pr (w:World) (F:List Nat) (p:Nat) (s:PS):Prop:=WF s∧Mx 138 w F p s.np s.na s.v
section
variable {w : World} {F : List Nat} {p : Nat} {s : PS}
theorem Pr.at_ {i a:Nat}(h:Pr w F p s) (hi:i < s.np) (ha:a < s.na):∃ g c R C,w.cell? ⟨p,0,none⟩=some (.slice (some ⟨g,0,none⟩) s.np c)∧w.cell? ⟨g,i,none⟩=some (.slice (some ⟨R,0,none⟩) s.na C)∧w.cell? ⟨R,a,none⟩=some (.int .i64 (s.v i a))∧w.frozen? ⟨R,a,none⟩=false ∧
  ∀ x,WF (put s i a x)→Pr (w.setCell ⟨R,a,none⟩ (.int .i64 x)) F p (put s i a x)∧Fp F F w (w.setCell ⟨R,a,none⟩ (.int .i64 x)):=by
 obtain⟨h0,g,c,R,C,h⟩:=h
 exact⟨g,c,R i,C i,h.p0,h.gi hi,h.rij hi ha,h.fz hi a,fun x hx=>⟨⟨hx,⟨g,c,R,C,h.set hi a x⟩⟩,h.fp hi _⟩⟩
theorem Pr.heads (h:Pr w F p s):∃ g c R C,w.cell? ⟨p,0,none⟩=some (.slice (some ⟨g,0,none⟩) s.np c)∧w.cell? ⟨g,0,none⟩=some (.slice (some ⟨R,0,none⟩) s.na C):=by
 obtain⟨h0,g,c,R,C,h⟩:=h
 exact⟨g,c,R 0,C 0,h.p0,h.gi (by have:=h0.p2;omega)⟩
set_option maxHeartbeats 1000000 in
theorem ris_any (h:Pr w F p s) (i a:Int):Calls Tryz.prog 103 #[.pointer (some ⟨p,0,none⟩),.int .i64 i,.int .i64 a] w fun e w'=>e=.returned (.bool (isP s i && isA s a))∧w=w':=by
 obtain⟨g,c,R,C,x1,x2⟩:=h.heads
 have p2:=h.1.p2
 clear h
 by_cases h0:0≤i
 ·by_cases h1:i < s.np
  ·have e1:isP s i=true:=isP_iff.2 ⟨h0,h1⟩
   by_cases h2:0≤a
   ·by_cases h3:a < s.na
    ·have e2:isA s a=true:=isA_iff.2 ⟨h2,h3⟩
     rw[e1,e2]
     clear e1 e2
     generalize s.np=np at *
     generalize s.na=na at *
     go_enter Tryz.func103,Tryz.ntmps103
     go_wp2
     go_ret
     exact⟨rfl,rfl⟩
    ·have e2:isA s a=false:=by unfold isA;exact decide_eq_false (by omega)
     have hd:decide (a < (s.na:Int))=false:=decide_eq_false h3
     rw[e1,e2]
     clear e1 e2
     generalize s.np=np at *
     generalize s.na=na at *
     go_enter Tryz.func103,Tryz.ntmps103
     go_wp2
     go_ret
     exact⟨rfl,rfl⟩
   ·have e2:isA s a=false:=by unfold isA;exact decide_eq_false (by omega)
    rw[e1,e2]
    clear e1 e2
    generalize s.np=np at *
    generalize s.na=na at *
    go_enter Tryz.func103,Tryz.ntmps103
    go_wp2
    go_ret
    exact⟨rfl,rfl⟩
  ·have e1:isP s i=false:=by unfold isP;exact decide_eq_false (by omega)
   have hd:decide (i < (s.np:Int))=false:=decide_eq_false h1
   rw[e1,Bool.false_and]
   clear e1
   generalize s.np=np at *
   generalize s.na=na at *
   go_enter Tryz.func103,Tryz.ntmps103
   go_wp2
   go_ret
   exact⟨rfl,rfl⟩
 ·have e1:isP s i=false:=by unfold isP;exact decide_eq_false (by omega)
  rw[e1,Bool.false_and]
  clear e1
  generalize s.np=np at *
  generalize s.na=na at *
  go_enter Tryz.func103,Tryz.ntmps103
  go_wp2
  go_ret
  exact⟨rfl,rfl⟩
set_option maxHeartbeats 400000 in
theorem rhas_any (h:Pr w F p s) (i a:Int):Calls Tryz.prog 144 #[.pointer (some ⟨p,0,none⟩),.int .i64 i,.int .i64 a] w fun e w'=>e=.returned (.int .i64 (hasP s i a))∧w=w':=by
 have P:=Kept.mk (ris_any h i a)
 cases hp:(isP s i && isA s a) with
 | false =>
  rw[hp] at P
  have e:hasP s i a=0:=by unfold hasP;rw[hp];rfl
  rw[e]
  clear e h
  go_enter Tryz.func144,Tryz.ntmps144
  go_wp2_with (go_at_call 103;refine P.out.mono ?_;rintro e w' ⟨rfl,rfl⟩)
  go_ret
  exact⟨rfl,rfl⟩
 | true =>
  rw[hp] at P
  have e:hasP s i a=s.v i.toNat a.toNat:=by unfold hasP;rw[hp];rfl
  rw[e]
  clear e
  rw[Bool.and_eq_true] at hp
  obtain⟨k,rfl,hk⟩:=isP_nat hp.1
  obtain⟨b,rfl,hb⟩:=isA_nat hp.2
  clear hp
  simp only[Int.toNat_natCast]
  obtain⟨g,c,R,C,x1,x2,x3,-,-⟩:=h.at_ hk hb
  clear h
  go_enter Tryz.func144,Tryz.ntmps144
  go_wp2_with (go_at_call 103;refine P.out.mono ?_;rintro e w' ⟨rfl,rfl⟩)
  go_ret
  exact⟨rfl,rfl⟩
def upTo (s:PS) (a:Int) (k:Nat):Int:=if isA s a then tot s.v k a.toNat else 0
theorem upTo_0 (a:Int):upTo s a 0=0:=by unfold upTo;split<;>rfl
theorem upTo_all (a:Int):upTo s a s.np=totP s a:=rfl
theorem upTo_succ (a:Int) {k:Nat}(hk:k < s.np):upTo s a (k+1)=upTo s a k+hasP s k a:=by
 unfold upTo hasP
 rw[isP_iff.2 ⟨by omega,by omega⟩,Bool.true_and]
 split
 ·rw[Int.toNat_natCast];rfl
 ·rfl
theorem upTo_bd (h:WF s) (a:Int) {k:Nat}(hk:k≤s.np):0≤upTo s a k∧upTo s a k≤4611686018427387904:=by
 unfold upTo
 split
 ·rename_i ha
  obtain⟨b,rfl,hb⟩:=isA_nat ha
  rw[Int.toNat_natCast]
  exact⟨tot_nonneg (fun i hi=>h.pos i b (by omega) hb),Int.le_trans (tot_mono hk (fun i hi=>h.pos i b hi hb)) (h.sum b hb)⟩
 ·omega
set_option maxHeartbeats 400000 in
theorem rtotal_any (h:Pr w F p s) (a:Int):Calls Tryz.prog 130 #[.pointer (some ⟨p,0,none⟩),.int .i64 a] w fun e w'=>e=.returned (.int .i64 (totP s a))∧w=w':=by
 have H:=Kept.mk h
 obtain⟨g,c,R,C,x1,x2⟩:=h.heads
 have WW:=Kept.mk h.1
 have E:=Kept.mk (upTo_all (s:=s) a)
 rw[← E.out]
 clear h x2 E
 obtain⟨np,hnp⟩:∃ np,s.np=np:=⟨_,rfl⟩
 have p16:=WW.out.p16
 rw[hnp] at x1 p16 ⊢
 have HN:=Kept.mk hnp
 clear hnp
 go_enter Tryz.func130,Tryz.ntmps130
 go_wp2
 go_loop [5,6] (fun t i=>∃ (k:Nat) (u:Int),k≤np∧i=.int .i64 k∧t=.int .i64 u∧Kept (upTo s a k=u)) (fun _ i=>np - (Go.RowKit.intOf i).toNat)
 case atStart=>exact⟨0,0,Nat.zero_le _,rfl,rfl,⟨upTo_0 a⟩⟩
 case round =>
  obtain⟨k,u,hk,rfl,rfl,HU⟩:=hrel
  by_cases hkn:k < np
  ·have hkn':(k:Int) < np:=by omega
   have b0:=upTo_bd WW.out a (k:=k) (by rw[HN.out];omega)
   have b1:=upTo_bd WW.out a (k:=k+1) (by rw[HN.out];omega)
   have hs:=upTo_succ (s:=s) a (k:=k) (by rw[HN.out];omega)
   have Q:=Kept.mk (rhas_any H.out k a)
   obtain⟨x,hx⟩:∃ x,hasP s k a=x:=⟨_,rfl⟩
   rw[hx] at Q hs
   rw[hs] at b1
   rw[HU.out] at hs b0 b1
   have HS:=Kept.mk hs
   clear hs hx
   go_wp2_with (go_at_call 144;refine Q.out.mono ?_;rintro e w' ⟨rfl,rfl⟩)
   go_round
   case rel=>exact⟨k+1,u+x,by omega,by go_num,rfl,HS⟩
   case measure=>simp[Go.RowKit.intOf];omega
  ·have hkn':¬ (k:Int) < np:=by omega
   obtain rfl:k=np:=by omega
   go_wp2
   go_ret
   exact⟨by rw[HU.out];rfl,rfl⟩
end
section
variable {w : World} {F : List Nat} {p : Nat} {s : PS}
set_option maxHeartbeats 1000000 in
theorem rgive_any (i a n:Int) (h:Pr w F p s):Calls Tryz.prog 106 #[.pointer (some ⟨p,0,none⟩),.int .i64 i,.int .i64 a,.int .i64 n] w (StepPost (fun w' F' s'=>Pr w' F' p s') w F (giveP s i a n)):=by
 have P:=Kept.mk (ris_any h i a)
 have T:=Kept.mk (rtotal_any h a)
 have M:=Kept.mk (ramount_any n w)
 have H:=Kept.mk h
 clear h
 cases hp:(isP s i && isA s a) with
 | false =>
  rw[hp] at P
  rw[give_no (.inl (by unfold fitB;rw[hp];rfl))]
  clear hp
  go_enter Tryz.func106,Tryz.ntmps106
  go_wp2_with (first|(go_at_call 103;refine P.out.mono ?_;rintro e w' ⟨rfl,rfl⟩)|(go_at_call 55;refine M.out.mono ?_;rintro e w' ⟨rfl,rfl⟩)|(go_at_call 130;refine T.out.mono ?_;rintro e w' ⟨rfl,rfl⟩))
  go_ret
  exact⟨rfl,F,H.out,Fp.refl _ _⟩
 | true =>
  rw[hp] at P
  cases hm:amtB n with
  | false =>
   rw[hm] at M
   rw[give_no (.inl (by unfold fitB;rw[hp,hm];rfl))]
   clear hp hm
   go_enter Tryz.func106,Tryz.ntmps106
   go_wp2_with (first|(go_at_call 103;refine P.out.mono ?_;rintro e w' ⟨rfl,rfl⟩)|(go_at_call 55;refine M.out.mono ?_;rintro e w' ⟨rfl,rfl⟩)|(go_at_call 130;refine T.out.mono ?_;rintro e w' ⟨rfl,rfl⟩))
   go_ret
   exact⟨rfl,F,H.out,Fp.refl _ _⟩
  | true =>
   rw[hm] at M
   have hf:fitB s i a n=true:=by unfold fitB;rw[hp,hm];rfl
   clear hp hm
   obtain⟨⟨k,rfl,hk⟩,⟨b,rfl,hb⟩,n0,n1⟩:=fitB_iff.1 hf
   have t0:=H.out.1.tot0 hb
   have t1:=H.out.1.sum b hb
   rw[← totP_nat hb] at t0 t1
   by_cases ht:totP s b+n≤4611686018427387904
   ·have hw:=giveP_wf H.out.1 (k:Int) (b:Int) n
    rw[give_yes hf ht] at hw ⊢
    have hv:=H.out.1.le hk hb
    obtain⟨g,c,R,C,x1,x2,x3,x4,hput⟩:=H.out.at_ hk hb
    have PUT:=Kept.mk (hput (s.v k b+n) hw)
    have hs:s.v k b+n≤4611686018427387904:=by
     have:=le_tot (v:=s.v) (a:=b) hk (fun j hj=>H.out.1.pos j b hj hb)
     rw[totP_nat hb] at ht
     omega
    have ht':¬ 4611686018427387904 - totP s b < n:=by omega
    clear hf hput hw ht
    generalize s.v k b=x at *
    generalize totP s b=t at *
    go_enter Tryz.func106,Tryz.ntmps106
    go_wp2_with (first|(go_at_call 103;refine P.out.mono ?_;rintro e w' ⟨rfl,rfl⟩)|(go_at_call 55;refine M.out.mono ?_;rintro e w' ⟨rfl,rfl⟩)|(go_at_call 130;refine T.out.mono ?_;rintro e w' ⟨rfl,rfl⟩))
    go_ret
    exact⟨rfl,F,PUT.out.1,PUT.out.2⟩
   ·rw[give_no (.inr ht)]
    have ht':4611686018427387904 - totP s b < n:=by omega
    clear hf ht
    generalize totP s b=t at *
    go_enter Tryz.func106,Tryz.ntmps106
    go_wp2_with (first|(go_at_call 103;refine P.out.mono ?_;rintro e w' ⟨rfl,rfl⟩)|(go_at_call 55;refine M.out.mono ?_;rintro e w' ⟨rfl,rfl⟩)|(go_at_call 130;refine T.out.mono ?_;rintro e w' ⟨rfl,rfl⟩))
    go_ret
    exact⟨rfl,F,H.out,Fp.refl _ _⟩
set_option maxHeartbeats 1000000 in
theorem rtake_any (i a n:Int) (h:Pr w F p s):Calls Tryz.prog 104 #[.pointer (some ⟨p,0,none⟩),.int .i64 i,.int .i64 a,.int .i64 n] w (StepPost (fun w' F' s'=>Pr w' F' p s') w F (takeP s i a n)):=by
 have P:=Kept.mk (ris_any h i a)
 have M:=Kept.mk (ramount_any n w)
 have H:=Kept.mk h
 clear h
 cases hp:(isP s i && isA s a) with
 | false =>
  rw[hp] at P
  rw[take_no (by unfold fitB;rw[hp];rfl)]
  clear hp
  go_enter Tryz.func104,Tryz.ntmps104
  go_wp2_with (first|(go_at_call 103;refine P.out.mono ?_;rintro e w' ⟨rfl,rfl⟩)|(go_at_call 55;refine M.out.mono ?_;rintro e w' ⟨rfl,rfl⟩))
  go_ret
  exact⟨rfl,F,H.out,Fp.refl _ _⟩
 | true =>
  rw[hp] at P
  cases hm:amtB n with
  | false =>
   rw[hm] at M
   rw[take_no (by unfold fitB;rw[hp,hm];rfl)]
   clear hp hm
   go_enter Tryz.func104,Tryz.ntmps104
   go_wp2_with (first|(go_at_call 103;refine P.out.mono ?_;rintro e w' ⟨rfl,rfl⟩)|(go_at_call 55;refine M.out.mono ?_;rintro e w' ⟨rfl,rfl⟩))
   go_ret
   exact⟨rfl,F,H.out,Fp.refl _ _⟩
  | true =>
   rw[hm] at M
   have hf:fitB s i a n=true:=by unfold fitB;rw[hp,hm];rfl
   clear hp hm
   obtain⟨⟨k,rfl,hk⟩,⟨b,rfl,hb⟩,n0,n1⟩:=fitB_iff.1 hf
   have hv:=H.out.1.le hk hb
   obtain⟨g,c,R,C,x1,x2,x3,x4,hput⟩:=H.out.at_ hk hb
   by_cases ht:s.v k b < n
   ·rw[take_less hf ht]
    clear hf hput
    generalize s.v k b=x at *
    go_enter Tryz.func104,Tryz.ntmps104
    go_wp2_with (first|(go_at_call 103;refine P.out.mono ?_;rintro e w' ⟨rfl,rfl⟩)|(go_at_call 55;refine M.out.mono ?_;rintro e w' ⟨rfl,rfl⟩))
    go_ret
    exact⟨rfl,F,H.out,Fp.refl _ _⟩
   ·have hw:=takeP_wf H.out.1 (k:Int) (b:Int) n
    rw[take_yes hf ht] at hw ⊢
    have PUT:=Kept.mk (hput (s.v k b - n) hw)
    clear hf hput hw
    generalize s.v k b=x at *
    go_enter Tryz.func104,Tryz.ntmps104
    go_wp2_with (first|(go_at_call 103;refine P.out.mono ?_;rintro e w' ⟨rfl,rfl⟩)|(go_at_call 55;refine M.out.mono ?_;rintro e w' ⟨rfl,rfl⟩))
    go_ret
    exact⟨rfl,F,PUT.out.1,PUT.out.2⟩
end
end Go.Proofs.YtchcgoabogcabaaGreat.Purse
namespace Go.Proofs.YtchcgoabogcabaaGreat.Sha
open Go.RowKit
section
variable {α : Type}
def Ow (C:α→List Value) (s:Nat) (T:TypeId) (w:World) (v:Value) (l:List α):Prop:=w.ownsRow 0 T s v l.length (l.flatMap C)
variable {C : α → List Value} {s : Nat} {T : TypeId} {w w' : World} {v : Value} {l : List α}
theorem Ow.keep {G:List Nat}(h:Ow C s T w v l) (b:Bar G w w') (hd:∀ g∈v.ownBlock.toList,g∉G):Ow C s T w' v l:=own_keep h b hd
theorem Ow.lt (h:Ow C s T w v l):∀ g∈v.ownBlock.toList,g < w.heap.size:=own_lt h
theorem Ow.nil (w:World):Ow C s T w (.slice none 0 0) []:=World.ownsRow_nil _ _ _ _
theorem Ow.shape (h:Ow C s T w v l):∃ A c,v=.slice A l.length c∧l.length≤c∧c≤9223372036854775807:=by
 rcases h.2 with⟨hv,hx⟩|⟨g,c,cur,hv,-,-,h1,h2,-⟩
 ·exact⟨none,0,by rw[hv,hx],by omega,by omega⟩
 ·exact⟨_,c,hv,h1,by unfold maxLen at h2;omega⟩
theorem Ow.rc (hC:∀ x,(C x).length=s) (h:Ow C s T w v l):∃ A c,v=.slice A l.length c∧l.length≤c∧c≤9223372036854775807∧Rc C s w A l.length l:=Rc.own hC h rfl
theorem Ow.snoc {x:α}(h:w.ownsRow 0 T s v (l.length+1) (l.flatMap C++C x)):Ow C s T w v (l++[x]):=by
 unfold Ow
 rw[List.length_append,List.length_singleton,List.flatMap_append,List.flatMap_singleton]
 exact h
end
theorem wpList_append_ri {P:Program}{w:World}{ops:Array Oper}{rest:List Oper}{o:Oper}{a:Act}{Q:Exit→Act→World→Prop}(hgd:o.guard=none) (s x:Operand) (t:TypeId)
  (ho:o.op=.call { callee:=.builtin .append,args:=#[s,x],argTypes:=#[t,t] })
  (base:Nat) (e:TypeId) (ht:P.underlying t=some (.slice e)) (hi:(P.info? e).map (fun i=>(i.zero,i.size,i.bytes))=some (some (.int .i64 0),1,8))
  (v:Value) (n:Nat) (xs:List Value) (hs:a.eval s=v) (hown:w.ownsRow base e 1 v n xs)
  (A:Option Addr) (m c:Nat) (news:List Int) (hx:a.eval x=.slice A m c) (hr:Ri w A m news)
  (hsmall:n+m≤4294967296) (hbase:base≤w.heap.size)
  (h:∀ v' w',Kept (w'.ownsRow base e 1 v' (n+m) (xs++ints .i64 news))→w.grownBy w' v.ownBlock→(v'.ownBlock=v.ownBlock∨v'.ownBlock=some w.heap.size)→wpList P ops Q rest (a.put o.dst v') w'):wpList P ops Q (o :: rest) a w:=by
 obtain⟨iu,hi,hz0,hz1,hz2⟩:=info_parts hi
 obtain⟨h1,h3⟩:=hr
 cases A with
 | none =>
  have h0:m=0:=by
   rcases h3 with h3|⟨_,_,h4,_⟩
   ·exact h3
   ·cases h4
  subst h0
  obtain rfl:news=[]:=List.eq_nil_of_length_eq_zero h1
  refine wpList_plain hgd fun K hK=>?_
  have hrun:=run_append_nil_any (P:=P) w base t o.type e iu 1 ht hi v n xs hown c
  unfold Oper.wp
  simp[execOp,ho,resolve,invoke,builtin,hs,hx,hrun,Result.andThen]
  exact hK _ _ (h v w ⟨by simpa [ints] using hown⟩ (World.grownBy.refl _ _) (.inl rfl))
 | some ad =>
  have hc:∀ j u,(ints .i64 news)[j]?=some u→w.cell? (ad.add j)=some u:=by
   intro j u hj
   have hjl:j < news.length:=by have:=(List.getElem?_eq_some_iff.1 hj).1;rwa [ints_len] at this
   rcases h3 with h3|⟨b,o',h4,hc⟩
   ·omega
   ·injection h4 with h4
    subst h4
    rw[Sha.ints_at _ _ _ hjl] at hj
    rw[← hj,show (⟨b,o',none⟩:Addr).add j=⟨b,o'+j,none⟩ by cases j<;>simp[Addr.add]]
    exact hc j (by omega)
  exact wpList_append_own_at w hgd s x t ho base e iu (.int .i64 0) 1 8 ht hi hz0 hz1 hz2 rfl (by omega) v n xs hs hown ad m c (ints .i64 news) hx (by rw[ints_len,h1];omega) hc (ints_one _ _) (by unfold maxLen;omega) (by omega) hbase (fun v' w' a1 a2 _ a3=>h v' w' ⟨a1⟩ a2 a3)
def NewRowI (n:Nat) (xs:List Int) (w:World) (e:Ending) (w':World):Prop:=∃ v,e=.returned v∧w'.ownsRow w.heap.size 3 1 v n (ints .i64 xs)∧Below w.heap.size w w'
set_option maxRecDepth 100000 in
set_option maxHeartbeats 400000 in
theorem copyi_any (A:Option Addr) (n cap:Nat) (xs:List Int) (w:World) (hr:Ri w A n xs) (hn:n < 2147483648) :
  Calls Tryz.prog 57 #[.slice A n cap] w (NewRowI n xs w):=by
 obtain⟨N,hN⟩:∃ N,w.heap.size=N:=⟨_,rfl⟩
 have HR:=Kept.mk (hr.bar (l:=[]) ((Bar.refl [] w).alloc (.cells #[] 3)) (by simp))
 have hown:=World.ownsRow_made (base:=N) (e:=3) (size:=1) w #[] 0 (by omega) (by unfold maxLen;omega) rfl
 rw[hN] at hown
 have bel:Below N w (w.alloc (.cells #[] 3)):=(Below.refl _ _).alloc (by omega) _
 have Own:=Kept.mk hown
 have Bel:=Kept.mk bel
 clear hown bel hr
 go_enter Tryz.func57,Tryz.ntmps57
 go_wp2_with ((with_reducible refine sel 5 ?_);refine wpList_append_ri rfl (.tmp 3) (.tmp 4) 41 rfl N 3 Tryz.underlying41 info_int (.slice (some ⟨N,0,none⟩) 0 0) 0 [] rfl Own.out A n cap xs rfl HR.out (by omega) (by simp[hN]) ?_;intro v' w' ho hg _)
 go_ret
 refine⟨v',rfl,?_,?_⟩
 ·have:=ho.out
  simpa [hN] using this
 ·rw[hN];exact Bel.out.grown hg (by simp;omega) (by intro k hk;injection hk with hk;simp at hk;omega)
def CopyPost (n:Nat) (xs:List Int) (w:World) (e:Ending) (w':World):Prop:=∃ v,e=.returned v∧w'.ownsRow w.heap.size 5 1 v n (ints .u8 xs)∧Below w.heap.size w w'
set_option maxRecDepth 100000 in
set_option maxHeartbeats 400000 in
theorem copy_any (A:Option Addr) (n cap:Nat) (xs:List Int) (w:World) (hr:Rd w A n xs) (hn:n < 2147483648) :
  Calls Tryz.prog 86 #[.slice A n cap] w (CopyPost n xs w):=by
 obtain⟨N,hN⟩:∃ N,w.heap.size=N:=⟨_,rfl⟩
 have HR:=Kept.mk (hr.keep (l:=[]) ((Bar.refl [] w).alloc (.cells #[] 5)) (by simp))
 have hown:=World.ownsRow_made (base:=N) (e:=5) (size:=1) w #[] 0 (by omega) (by unfold maxLen;omega) rfl
 rw[hN] at hown
 have bel:Below N w (w.alloc (.cells #[] 5)):=(Below.refl _ _).alloc (by omega) _
 have Own:=Kept.mk hown
 have Bel:=Kept.mk bel
 clear hown bel hr
 go_enter Tryz.func86,Tryz.ntmps86
 go_wp2_with ((with_reducible refine sel 5 ?_);refine wpList_append_rd rfl (.tmp 3) (.tmp 4) 26 rfl N 5 Tryz.underlying26 info_u8 (.slice (some ⟨N,0,none⟩) 0 0) 0 [] rfl Own.out A n cap xs rfl HR.out (by omega) (by simp[hN]) ?_;intro v' w' ho hg)
 go_ret
 refine⟨v',rfl,?_,?_⟩
 ·have:=ho.out
  simpa [hN] using this
 ·rw[hN];exact Bel.out.grown hg (by simp;omega) (by intro k hk;injection hk with hk;simp at hk;omega)
end Go.Proofs.YtchcgoabogcabaaGreat.Sha
namespace Go.Proofs.YtchcgoabogcabaaGreat.Purse
open Go.RowKit Go.Proofs.YtchcgoabogcabaaGreat.Sha Go.Proofs.YtchcgoabogcabaaGreat.Num
section
variable {w : World} {F : List Nat} {p : Nat} {s : PS}
set_option maxHeartbeats 1000000 in
theorem rmove_any (i j a n:Int) (h:Pr w F p s):Calls Tryz.prog 77 #[.pointer (some ⟨p,0,none⟩),.int .i64 i,.int .i64 j,.int .i64 a,.int .i64 n] w (StepPost (fun w' F' s'=>Pr w' F' p s') w F (moveP s i j a n)):=by
 have P:=Kept.mk (ris_any h i a)
 have Q:=Kept.mk (ris_any h j a)
 have M:=Kept.mk (ramount_any n w)
 have H:=Kept.mk h
 have PQ:=Kept.mk (And.intro P.out Q.out)
 clear h P Q
 have Bad:(isP s i && isA s a)=false∨(isP s j && isA s a)=false∨amtB n=false→moveP s i j a n=(1,s):=by
  intro hb
  refine move_no ?_
  unfold fitB
  cases h1:isP s i<;>cases h2:isA s a<;>cases h3:isP s j<;>cases h4:amtB n<;>simp[h1,h2,h3,h4] at hb ⊢
 have P:=Kept.mk PQ.out.1
 have Q:=Kept.mk PQ.out.2
 clear PQ
 cases hp:(isP s i && isA s a) with
 | false =>
  rw[hp] at P
  rw[Bad (.inl hp)]
  clear hp Bad
  go_enter Tryz.func77,Tryz.ntmps77
  go_wp2_with (first|(go_at_call 103;(with_reducible refine P.out.mono ?_);rintro e w' ⟨rfl,rfl⟩)|(go_at_call 103;(with_reducible refine Q.out.mono ?_);rintro e w' ⟨rfl,rfl⟩)|(go_at_call 55;(with_reducible refine M.out.mono ?_);rintro e w' ⟨rfl,rfl⟩))
  go_ret
  exact⟨rfl,F,H.out,Fp.refl _ _⟩
 | true =>
  rw[hp] at P
  cases hq:(isP s j && isA s a) with
  | false =>
   rw[hq] at Q
   rw[Bad (.inr (.inl hq))]
   clear hp hq Bad
   go_enter Tryz.func77,Tryz.ntmps77
   go_wp2_with (first|(go_at_call 103;(with_reducible refine P.out.mono ?_);rintro e w' ⟨rfl,rfl⟩)|(go_at_call 103;(with_reducible refine Q.out.mono ?_);rintro e w' ⟨rfl,rfl⟩)|(go_at_call 55;(with_reducible refine M.out.mono ?_);rintro e w' ⟨rfl,rfl⟩))
   go_ret
   exact⟨rfl,F,H.out,Fp.refl _ _⟩
  | true =>
   rw[hq] at Q
   cases hm:amtB n with
   | false =>
    rw[hm] at M
    rw[Bad (.inr (.inr hm))]
    clear hp hq hm Bad
    go_enter Tryz.func77,Tryz.ntmps77
    go_wp2_with (first|(go_at_call 103;(with_reducible refine P.out.mono ?_);rintro e w' ⟨rfl,rfl⟩)|(go_at_call 103;(with_reducible refine Q.out.mono ?_);rintro e w' ⟨rfl,rfl⟩)|(go_at_call 55;(with_reducible refine M.out.mono ?_);rintro e w' ⟨rfl,rfl⟩))
    go_ret
    exact⟨rfl,F,H.out,Fp.refl _ _⟩
   | true =>
    rw[hm] at M
    have hf:fitB s i a n=true:=by unfold fitB;rw[hp,hm];rfl
    rw[Bool.and_eq_true] at hq
    have hj:=hq.1
    clear hp hq hm Bad
    by_cases hij:i=j
    ·subst hij
     rw[move_same hf hj]
     clear hf hj Q
     go_enter Tryz.func77,Tryz.ntmps77
     go_wp2_with (first|(go_at_call 103;(with_reducible refine P.out.mono ?_);rintro e w' ⟨rfl,rfl⟩)|(go_at_call 55;(with_reducible refine M.out.mono ?_);rintro e w' ⟨rfl,rfl⟩))
     go_ret
     exact⟨rfl,F,H.out,Fp.refl _ _⟩
    ·obtain⟨⟨k,rfl,hk⟩,⟨b,rfl,hb⟩,n0,n1⟩:=fitB_iff.1 hf
     obtain⟨q,rfl,hq⟩:=isP_nat hj
     have hv:=H.out.1.le hk hb
     obtain⟨g,c,R,C,x1,x2,x3,x4,hput⟩:=H.out.at_ hk hb
     by_cases ht:s.v k b < n
     ·rw[move_less hf hj hij ht]
      clear hf hj hput
      generalize s.v k b=x at *
      go_enter Tryz.func77,Tryz.ntmps77
      go_wp2_with (first|(go_at_call 103;(with_reducible refine P.out.mono ?_);rintro e w' ⟨rfl,rfl⟩)|(go_at_call 103;(with_reducible refine Q.out.mono ?_);rintro e w' ⟨rfl,rfl⟩)|(go_at_call 55;(with_reducible refine M.out.mono ?_);rintro e w' ⟨rfl,rfl⟩))
      go_ret
      exact⟨rfl,F,H.out,Fp.refl _ _⟩
     ·have hw:=moveP_wf H.out.1 (k:Int) (q:Int) (b:Int) n
      have hw1:=takeP_wf H.out.1 (k:Int) (b:Int) n
      rw[move_yes hf hj hij ht] at hw ⊢
      rw[take_yes hf ht] at hw1
      obtain⟨h1,f1⟩:=hput (s.v k b - n) hw1
      have hv2:=H.out.1.le hq hb
      have hs:s.v q b+n≤4611686018427387904:=by
       have:=two_tot (v:=s.v) (a:=b) hk hq (by omega) (fun j hj=>H.out.1.pos j b hj hb)
       have:=H.out.1.sum b hb
       omega
      obtain⟨g2,c2,R2,C2,y1,y2,y3,y4,hput2⟩:=h1.at_ (i:=q) (a:=b) hq hb
      rw[put_v,upd_other _ _ _ _ (by omega)] at y3
      obtain⟨h2,f2⟩:=hput2 (s.v q b+n) hw
      have PUT:=Kept.mk (And.intro h2 (f1.trans f2))
      rw[put_np] at y1
      rw[put_na] at y2
      obtain⟨x,hx⟩:∃ x,s.v k b=x:=⟨_,rfl⟩
      obtain⟨y,hy⟩:∃ y,s.v q b=y:=⟨_,rfl⟩
      rw[hy] at y3 hs hv2 PUT
      rw[hx] at x3 hv ht y1 y2 y3 y4 PUT
      rw[hx,hy]
      clear hput hput2 hw hw1 h1 h2 f1 f2 hf hj hx hy
      have Y:=Kept.mk (And.intro y1 (And.intro y2 (And.intro y3 y4)))
      clear y1 y2 y3 y4
      go_enter Tryz.func77,Tryz.ntmps77
      go_upto_region 8 with(first|(go_at_call 103;(with_reducible refine P.out.mono ?_);rintro e w' ⟨rfl,rfl⟩)|(go_at_call 103;(with_reducible refine Q.out.mono ?_);rintro e w' ⟨rfl,rfl⟩)|(go_at_call 55;(with_reducible refine M.out.mono ?_);rintro e w' ⟨rfl,rfl⟩))
      obtain⟨y1,y2,y3,y4⟩:=Y.out
      go_wp2
      go_ret
      exact⟨rfl,F,PUT.out.1,PUT.out.2⟩
end
end Go.Proofs.YtchcgoabogcabaaGreat.Purse
namespace Go.Proofs.YtchcgoabogcabaaGreat.Sha
open Go.RowKit
section
variable {w : World} {M : Nat} {T : TypeId}
theorem put2 {a0 a1:Value}(h:Blk w M T #[a0,a1]) (b0 b1:Value):Blk ((w.setCell ⟨M,0,none⟩ b0).setCell ⟨M,1,none⟩ b1) M T #[b0,b1]∧Bar [M] w ((w.setCell ⟨M,0,none⟩ b0).setCell ⟨M,1,none⟩ b1):=by
 refine⟨?_,(Bar.setCell (Bar.setCell (Bar.refl [M] w) (p:=⟨M,0,none⟩) (.inl (by simp)) b0) (p:=⟨M,1,none⟩) (.inl (by simp)) b1)⟩
 have:=((h.set_ 0 b0).set_ 1 b1)
 simpa using this
theorem put4 {a0 a1 a2 a3:Value}(h:Blk w M T #[a0,a1,a2,a3]) (b0 b1 b2 b3:Value):Blk ((((w.setCell ⟨M,0,none⟩ b0).setCell ⟨M,1,none⟩ b1).setCell ⟨M,2,none⟩ b2).setCell ⟨M,3,none⟩ b3) M T #[b0,b1,b2,b3]∧Bar [M] w ((((w.setCell ⟨M,0,none⟩ b0).setCell ⟨M,1,none⟩ b1).setCell ⟨M,2,none⟩ b2).setCell ⟨M,3,none⟩ b3):=by
 refine⟨?_,(Bar.setCell (Bar.setCell (Bar.setCell (Bar.setCell (Bar.refl [M] w) (p:=⟨M,0,none⟩) (.inl (by simp)) b0) (p:=⟨M,1,none⟩) (.inl (by simp)) b1) (p:=⟨M,2,none⟩) (.inl (by simp)) b2) (p:=⟨M,3,none⟩) (.inl (by simp)) b3)⟩
 have:=((((h.set_ 0 b0).set_ 1 b1).set_ 2 b2).set_ 3 b3)
 simpa using this
theorem put8 {a0 a1 a2 a3 a4 a5 a6 a7:Value}(h:Blk w M T #[a0,a1,a2,a3,a4,a5,a6,a7]) (b0 b1 b2 b3 b4 b5 b6 b7:Value):Blk ((((((((w.setCell ⟨M,0,none⟩ b0).setCell ⟨M,1,none⟩ b1).setCell ⟨M,2,none⟩ b2).setCell ⟨M,3,none⟩ b3).setCell ⟨M,4,none⟩ b4).setCell ⟨M,5,none⟩ b5).setCell ⟨M,6,none⟩ b6).setCell ⟨M,7,none⟩ b7) M T #[b0,b1,b2,b3,b4,b5,b6,b7]∧Bar [M] w ((((((((w.setCell ⟨M,0,none⟩ b0).setCell ⟨M,1,none⟩ b1).setCell ⟨M,2,none⟩ b2).setCell ⟨M,3,none⟩ b3).setCell ⟨M,4,none⟩ b4).setCell ⟨M,5,none⟩ b5).setCell ⟨M,6,none⟩ b6).setCell ⟨M,7,none⟩ b7):=by
 refine⟨?_,(Bar.setCell (Bar.setCell (Bar.setCell (Bar.setCell (Bar.setCell (Bar.setCell (Bar.setCell (Bar.setCell (Bar.refl [M] w) (p:=⟨M,0,none⟩) (.inl (by simp)) b0) (p:=⟨M,1,none⟩) (.inl (by simp)) b1) (p:=⟨M,2,none⟩) (.inl (by simp)) b2) (p:=⟨M,3,none⟩) (.inl (by simp)) b3) (p:=⟨M,4,none⟩) (.inl (by simp)) b4) (p:=⟨M,5,none⟩) (.inl (by simp)) b5) (p:=⟨M,6,none⟩) (.inl (by simp)) b6) (p:=⟨M,7,none⟩) (.inl (by simp)) b7)⟩
 have:=((((((((h.set_ 0 b0).set_ 1 b1).set_ 2 b2).set_ 3 b3).set_ 4 b4).set_ 5 b5).set_ 6 b6).set_ 7 b7)
 simpa using this
theorem put9 {a0 a1 a2 a3 a4 a5 a6 a7 a8:Value}(h:Blk w M T #[a0,a1,a2,a3,a4,a5,a6,a7,a8]) (b0 b1 b2 b3 b4 b5 b6 b7 b8:Value):Blk (((((((((w.setCell ⟨M,0,none⟩ b0).setCell ⟨M,1,none⟩ b1).setCell ⟨M,2,none⟩ b2).setCell ⟨M,3,none⟩ b3).setCell ⟨M,4,none⟩ b4).setCell ⟨M,5,none⟩ b5).setCell ⟨M,6,none⟩ b6).setCell ⟨M,7,none⟩ b7).setCell ⟨M,8,none⟩ b8) M T #[b0,b1,b2,b3,b4,b5,b6,b7,b8]∧Bar [M] w (((((((((w.setCell ⟨M,0,none⟩ b0).setCell ⟨M,1,none⟩ b1).setCell ⟨M,2,none⟩ b2).setCell ⟨M,3,none⟩ b3).setCell ⟨M,4,none⟩ b4).setCell ⟨M,5,none⟩ b5).setCell ⟨M,6,none⟩ b6).setCell ⟨M,7,none⟩ b7).setCell ⟨M,8,none⟩ b8):=by
 refine⟨?_,(Bar.setCell (Bar.setCell (Bar.setCell (Bar.setCell (Bar.setCell (Bar.setCell (Bar.setCell (Bar.setCell (Bar.setCell (Bar.refl [M] w) (p:=⟨M,0,none⟩) (.inl (by simp)) b0) (p:=⟨M,1,none⟩) (.inl (by simp)) b1) (p:=⟨M,2,none⟩) (.inl (by simp)) b2) (p:=⟨M,3,none⟩) (.inl (by simp)) b3) (p:=⟨M,4,none⟩) (.inl (by simp)) b4) (p:=⟨M,5,none⟩) (.inl (by simp)) b5) (p:=⟨M,6,none⟩) (.inl (by simp)) b6) (p:=⟨M,7,none⟩) (.inl (by simp)) b7) (p:=⟨M,8,none⟩) (.inl (by simp)) b8)⟩
 have:=(((((((((h.set_ 0 b0).set_ 1 b1).set_ 2 b2).set_ 3 b3).set_ 4 b4).set_ 5 b5).set_ 6 b6).set_ 7 b7).set_ 8 b8)
 simpa using this
end
end Go.Proofs.YtchcgoabogcabaaGreat.Sha
