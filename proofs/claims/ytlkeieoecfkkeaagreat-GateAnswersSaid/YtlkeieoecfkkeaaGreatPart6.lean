/-
  Parts laid together: Mem MemB RowsC Slices Ints RowsI PurseFace PurseMem PurseCode OwnC Rows2 Texts AppI PurseGrow PurseCode2 PutN Clone PurseCode3 PurseMove SliceAt FrameCode1 ByteRows MakeB Write8 Ptr Meter Meter2 Meter3 Copy SealWay PurseRow2 AppC PurseRef PurseRef2 WireFits CopyI.
-/
import Derived.Test.YtlkeieoecfkkeaaGreatChecked
import Derived.Test.YtlkeieoecfkkeaaGreatPart2
import Derived.WalkKit
import Derived.WalkSpells
import Derived.WalkLawsBesides
import Derived.OpenShut
import Derived.Lib.Hide
import Derived.Tactics
import Derived.Tactics2
import Derived.Deep.QuietTactic
import Derived.BigQuiet
import Derived.StillTailTactics
import Derived.Laws.Rows
import Derived.Laws.Tables
import Derived.Deep.Draws
import Derived.Below
import Derived.Laws.OwnMore
import Derived.Laws.Pointers
import Derived.RegionTactic
import Derived.RegionCalls
import Derived.Laws.NewBlocks
import Derived.Deep.MidRow
import Derived.Deep.Cut
import Derived.Laws.CopyOwn
import Derived.Maps.AppendAt
import Derived.DataShut
import Derived.Laws.Slices
import Derived.Test.YtlkeieoecfkkeaaGreatPart5
import Derived.Lib.SliceRun
import Derived.Test.YtlkeieoecfkkeaaGreatPart3
import Derived.Laws.LoneSync
import Derived.LaidEql
import Derived.Lib.Builder
import Derived.LoopN
import Derived.Test.YtlkeieoecfkkeaaGreatPart4
set_option maxRecDepth 100000
set_option maxHeartbeats 1000000
namespace Go.Proofs.YtlkeieoecfkkeaaGreat
namespace Sha
open Go.RowKit
def Blk (w:World) (g:Nat) (t:TypeId) (cs:Array Value):Prop:=w.heap[g]?=some (.cells cs t (0,0))
section
variable {w w' : World} {g : Nat} {t : TypeId} {cs : Array Value}
theorem Blk.lt (h:Blk w g t cs):g < w.heap.size:=by
 rcases Nat.lt_or_ge g w.heap.size with hlt|hge
 ·exact hlt
 ·unfold Blk at h;rw[Array.getElem?_eq_none hge] at h;cases h
theorem Blk.cell (h:Blk w g t cs) (i:Nat):w.cell? ⟨g,i,none⟩=cs[i]?:=cell_of_row w g i cs t (0,0) h
theorem Blk.frozen (h:Blk w g t cs) (i:Nat):w.frozen? ⟨g,i,none⟩=false:=by
 unfold Blk at h
 simp[World.frozen?,h]
theorem Blk.new (w:World) (t:TypeId) (cs:Array Value):Blk (w.alloc (.cells cs t)) w.heap.size t cs:=heap_alloc_new w _
theorem Blk.new_at (w:World) (t:TypeId) (cs:Array Value) (n:Nat) (hn:n=w.heap.size):Blk (w.alloc (.cells cs t)) n t cs:=by subst hn;exact heap_alloc_new w _
theorem Blk.row (h:Blk w g t cs) (cs':Array Value):Blk (w.setRow g cs') g t cs':=setRow_heap w g _ cs' t (0,0) h
theorem Blk.drew (h:Blk w g t cs):Blk w.drew g t cs:=h
theorem Blk.drewN (h:Blk w g t cs) (n:Nat):Blk (w.drewN n) g t cs:=h
theorem Blk.alloc (h:Blk w g t cs) (o:Obj):Blk (w.alloc o) g t cs:=(Below.heap_alloc w o g h.lt).trans h
theorem Blk.set_ (h:Blk w g t cs) (i:Nat) (u:Value):Blk (w.setCell ⟨g,i,none⟩ u) g t (cs.setIfInBounds i u):=by
 unfold Blk at h ⊢
 simp[World.setCell,Array.getElem?_modify,h]
theorem Blk.far (h:Blk w g t cs) {p:Addr}(hp:g≠p.block) (u:Value):Blk (w.setCell p u) g t cs:=(Below.heap_setCell w p u g hp).trans h
theorem Blk.below {B:Nat}(h:Blk w g t cs) (hb:Below B w w') (hg:g < B):Blk w' g t cs:=(hb.block g hg).trans h
theorem Blk.grown {row:Option Nat}(h:Blk w g t cs) (hb:w.grownBy w' row) (hg:some g≠row):Blk w' g t cs:=(hb.block g h.lt hg).trans h
end
structure Bar (l:List Nat) (w w':World):Prop where
 os:w'.os=w.os
 tape:w'.tape=w.tape
 output:w'.output=w.output
 size:w.heap.size≤w'.heap.size
 block:∀ k,k < w.heap.size→k∉l→w'.heap[k]?=w.heap[k]?
theorem Bar.refl (l:List Nat) (w:World):Bar l w w:=⟨rfl,rfl,rfl,Nat.le_refl _,fun _ _ _=>rfl⟩
theorem Bar.trans {l l':List Nat}{a b c:World}(h:Bar l a b) (k:Bar l' b c) (hl:∀ x∈l',x∈l∨a.heap.size≤x):Bar l a c :=
 ⟨k.os.trans h.os,k.tape.trans h.tape,k.output.trans h.output,Nat.le_trans h.size k.size,fun i hi hn=>(k.block i (Nat.lt_of_lt_of_le hi h.size) (fun hm=>by
  rcases hl i hm with h1|h1
  ·exact hn h1
  ·omega)).trans (h.block i hi hn)⟩
theorem Bar.mono {l l':List Nat}{w w':World}(h:Bar l w w') (hl:∀ x∈l,x∈l'∨w.heap.size≤x):Bar l' w w':=⟨h.os,h.tape,h.output,h.size,fun i hi hn=>h.block i hi fun hm=>by
  rcases hl i hm with h1|h1
  ·exact hn h1
  ·omega⟩
theorem Bar.same {l:List Nat}{a w:World}(h:Bar l a w):Bar l a w:=h
theorem Bar.drew {l:List Nat}{a w:World}(h:Bar l a w):Bar l a w.drew:=⟨h.os,h.tape,h.output,h.size,h.block⟩
theorem Bar.drewN {l:List Nat}{a w:World}(h:Bar l a w) (n:Nat):Bar l a (w.drewN n):=⟨h.os,h.tape,h.output,h.size,h.block⟩
theorem Bar.drewL {l:List Nat}{w w':World}(h:Bar l w.drew w'):Bar l w w':=⟨h.os,h.tape,h.output,h.size,h.block⟩
theorem Bar.alloc {l:List Nat}{a w:World}(h:Bar l a w) (o:Obj):Bar l a (w.alloc o) :=
 h.trans (l':=[]) ⟨rfl,rfl,rfl,by simp,fun k hk _=>Below.heap_alloc _ _ _ (by omega)⟩ (by simp)
theorem Bar.setCell {l:List Nat}{a w:World}(h:Bar l a w) {p:Addr}(hp:p.block∈l∨a.heap.size≤p.block) (u:Value):Bar l a (w.setCell p u) :=
 h.trans (l':=[p.block]) ⟨rfl,rfl,rfl,by simp[World.setCell],fun k _ hn=>Below.heap_setCell _ _ _ _ (by simpa using hn)⟩ (by simpa using hp)
theorem Bar.grown {l:List Nat}{a w w':World}{row:Option Nat}(h:Bar l a w) (hg:w.grownBy w' row) (hr:∀ k,row=some k→k∈l∨a.heap.size≤k):Bar l a w' :=
 h.trans (l':=row.toList) ⟨hg.os,hg.tape,hg.output,hg.size,fun k hk hn=>hg.block k hk (fun e=>hn (by simp[← e]))⟩ (by
  intro x hx
  exact hr x (by simpa using hx))
theorem Bar.below {a w:World}{B:Nat}{l:List Nat}(h:Bar l a w) (hB:B≤a.heap.size) (hl:∀ x∈l,B≤x):Below B a w :=
 ⟨h.os,h.tape,h.output,h.size,fun k hk=>h.block k (by omega) (fun hm=>by have:=hl k hm;omega)⟩
theorem barOf {a w:World}(h:Below a.heap.size a w) (l:List Nat):Bar l a w:=⟨h.os,h.tape,h.output,h.size,fun k hk _=>h.block k hk⟩
theorem Blk.bar {w w':World}{g:Nat}{t:TypeId}{cs:Array Value}{l:List Nat}(h:Blk w g t cs) (hb:Bar l w w') (hg:g∉l):Blk w' g t cs:=(hb.block g h.lt hg).trans h
theorem iL {P:Program}{f:FuncId}{args:Array Value}{w:World}{v:Value}(h:Calls P f args w fun e w'=>e=.returned v∧w=w'):Calls P f args w fun e w''=>e=.returned v∧w''=w:=h.mono fun _ _ ⟨a,b⟩=>⟨a,b.symm⟩
theorem Blk.at_ {w:World}{g:Nat}{t:TypeId}{k:IntKind}{l:List Int}(h:Blk w g t (arr k l)) (i:Nat) (hi:i < l.length):w.cell? ⟨g,i,none⟩=some (.int k (Sha.at_ l i)):=(h.cell i).trans (DV k l i hi)
theorem sel {P:Program}{ops:Array Oper}{Q:Exit→Act→World→Prop}{rest:List Oper}{a:Act}{w:World}(n:Nat) {b:Op}{c:TypeId}{p:String}{e:Array Edge}{g:Option (Nat × Bool)}
  (h:wpList P ops Q ({ dst:=some n,op:=b,type:=c,pos:=p,after:=e,guard:=g } :: rest) a w):wpList P ops Q ({ dst:=some n,op:=b,type:=c,pos:=p,after:=e,guard:=g } :: rest) a w:=h
theorem selS {P:Program}{ops:Array Oper}{Q:Exit→Act→World→Prop}{rest:List Oper}{a:Act}{w:World}(ty:TypeId) (x y:Operand) {c:TypeId}{p:String}{e:Array Edge}{g:Option (Nat × Bool)}
  (h:wpList P ops Q ({ dst:=none,op:=.store ty x y,type:=c,pos:=p,after:=e,guard:=g } :: rest) a w):wpList P ops Q ({ dst:=none,op:=.store ty x y,type:=c,pos:=p,after:=e,guard:=g } :: rest) a w:=h
theorem rM (w:World) (t:TypeId) (cs:List Value):∀ j u,cs[j]?=some u→(w.alloc (.cells cs.toArray t)).cell? ((⟨w.heap.size,0,none⟩:Addr).add j)=some u:=by
 intro j u hj
 have e:(⟨w.heap.size,0,none⟩:Addr).add j=⟨w.heap.size,j,none⟩:=by cases j<;>simp[Addr.add]
 rw[e,(Blk.new w t cs.toArray).cell j,List.getElem?_toArray,hj]
def Rd (w:World) (A:Option Addr) (n:Nat) (xs:List Int):Prop :=
 xs.length=n∧Bytes xs∧(n=0∨∃ b o,A=some ⟨b,o,none⟩∧∀ i,i < n→w.cell? ⟨b,o+i,none⟩=some (.int .u8 (at_ xs i)))
theorem Rd.keep {w w':World}{A:Option Addr}{n:Nat}{xs:List Int}{l:List Nat}(r:Rd w A n xs) (b:Bar l w w') (hl:∀ x∈l,w.heap.size≤x∨∀ o,A≠some ⟨x,o,none⟩):Rd w' A n xs:=by
 obtain⟨h1,h2,h3⟩:=r
 refine⟨h1,h2,h3.imp id ?_⟩
 rintro ⟨bb,o,rfl,hc⟩
 refine⟨bb,o,rfl,fun i hi=>?_⟩
 have hlt:bb < w.heap.size:=World.block_lt_of_cell? _ _ (hc i hi)
 rw[← hc i hi]
 refine World.cell?_of_block (w:=w) (b.block bb hlt (fun hm=>?_))
 rcases hl bb hm with h|h
 ·omega
 ·exact h o rfl
theorem Rd.blk {w:World}{M n:Nat}{T:TypeId}{xs:List Int}(h:Blk w M T (arr .u8 xs)) (hb:Bytes xs) (hn:xs.length=n):Rd w (some ⟨M,0,none⟩) n xs :=
 ⟨hn,hb,.inr ⟨M,0,rfl,fun i hi=>by rw[Nat.zero_add];exact h.at_ i (by omega)⟩⟩
theorem Rd.nil_ {w:World}{A:Option Addr}:Rd w A 0 []:=⟨rfl,by intro x hx;simp at hx,.inl rfl⟩
theorem below_drewN {B:Nat}{a w:World}(h:Below B a w) (n:Nat):Below B a (w.drewN n):=⟨h.os,h.tape,h.output,h.size,h.block⟩
theorem Rd.made {w:World}{M n:Nat}{T:TypeId}{fr:Nat × Nat}{xs:List Int}(h:w.heap[M]?=some (.cells (arr .u8 xs) T fr)) (hb:Bytes xs) (hn:xs.length=n):Rd w (some ⟨M,0,none⟩) n xs :=
 ⟨hn,hb,.inr ⟨M,0,rfl,fun i hi=>by rw[Nat.zero_add,cell_of_row w M i _ T fr h];exact DV _ _ _ (by omega)⟩⟩
theorem wX {w:World}{base:Nat}{e:TypeId}{g cap n:Nat}{xs:List Int}(h:w.ownsRow base e 1 (.slice (some ⟨g,0,none⟩) n cap) n (ints .u8 xs)) (i:Nat) (hi:i < n):w.cell? ⟨g,i,none⟩=some (.int .u8 (at_ xs i)):=by
 have hl:xs.length=n:=by have:=h.1;rw[ints_len] at this;omega
 rw[World.ownsRow.cellAt h i (by omega)]
 exact ints_at _ _ _ (by omega)
theorem own_below {w w':World}{base:Nat}{e:TypeId}{v:Value}{n:Nat}{xs:List Value}(h:w.ownsRow base e 1 v n xs) (hg:w.grownBy w' v.ownBlock) (hB:base≤w.heap.size):Below base w w' :=
 ⟨hg.os,hg.tape,hg.output,hg.size,fun k hk=>hg.block k (by omega) (fun e=>by have:=(h.lt k e.symm).1;omega)⟩
def NewA (w:World) (A:Option Addr):Prop:=∀ g o,A=some ⟨g,o,none⟩→w.heap.size≤g
theorem lQ (w:World):NewA w none:=fun _ _ h=>by cases h
theorem pR {w w0:World}{base k s n c:Nat}{e:TypeId}{A:Option Addr}{xs:List Value}(h:w.ownsRow base e s (.slice A n c) k xs) (hb:w0.heap.size≤base):NewA w0 A:=fun g o ea=>by
 subst ea
 exact Nat.le_trans hb (h.lt g rfl).1
theorem Rd.drew {w:World}{A:Option Addr}{n:Nat}{xs:List Int}(h:Rd w A n xs):Rd w.drew A n xs:=h
theorem mg {w w':World}{base:Nat}{e:TypeId}{v:Value}{n:Nat}{xs:List Value}{l:List Nat}(h:w.ownsRow base e 1 v n xs) (b:Bar l w w') (hl:∀ x∈l,x < base):w'.ownsRow base e 1 v n xs:=by
 refine⟨h.1,h.2.imp id ?_⟩
 rintro ⟨g,cap,cur,hv,hg,hh,r⟩
 refine⟨g,cap,cur,hv,hg,?_,r⟩
 have hlt:g < w.heap.size:=(Array.getElem?_eq_some_iff.1 hh).1
 rw[b.block g hlt (fun hm=>by have:=hl g hm;omega)]
 exact hh
theorem aN {P:Program}(w:World) (base:Nat) (t ty e:TypeId) (i:TypeInfo) (size:Nat) (ht:P.underlying t=some (.slice e)) (hi:P.info? e=some i)
  (v:Value) (n:Nat) (xs:List Value) (hown:w.ownsRow base e size v n xs) (c:Nat):(Builtin.append_ #[t,t] ty #[v,.slice none 0 c]).run P w=.ok v w:=by
 rcases hown.2 with⟨rfl,rfl⟩|⟨g,cap,cur,rfl,_,_,hnc,_⟩
 ·simp[Builtin.append_,run_underlying ht,sizeOf,typeInfo,hi,Builtin.lenOf,Builtin.firstCells]
 ·simp[Builtin.append_,run_underlying ht,sizeOf,typeInfo,hi,Builtin.lenOf,Builtin.firstCells,hnc,storeCells]
theorem ai {P:Program}{w:World}{ops:Array Oper}{rest:List Oper}{o:Oper}{a:Act}{Q:Exit→Act→World→Prop}(hgd:o.guard=none) (s x:Operand) (t:TypeId)
  (ho:o.op=.call { callee:=.builtin .append,args:=#[s,x],argTypes:=#[t,t] })
  (base:Nat) (e:TypeId) (ht:P.underlying t=some (.slice e)) (hi:(P.info? e).map (fun i=>(i.zero,i.size,i.bytes))=some (some (.int .u8 0),1,1))
  (v:Value) (n:Nat) (xs:List Value) (hs:a.eval s=v) (hown:w.ownsRow base e 1 v n xs)
  (A:Option Addr) (m c:Nat) (news:List Int) (hx:a.eval x=.slice A m c) (hr:Rd w A m news)
  (hsmall:n+m≤4294967296) (hbase:base≤w.heap.size)
  (h:∀ v' w',ae (w'.ownsRow base e 1 v' (n+m) (xs++ints .u8 news))→w.grownBy w' v.ownBlock→wpList P ops Q rest (a.put o.dst v') w'):wpList P ops Q (o :: rest) a w:=by
 obtain⟨iu,hi,hz0,hz1,hz2⟩:=info_parts hi
 obtain⟨h1,h2,h3⟩:=hr
 have app:∀ ad,a.eval x=.slice (some ad) m c→(∀ j u,(ints .u8 news)[j]?=some u→w.cell? (ad.add j)=some u)→wpList P ops Q (o :: rest) a w:=by
  intro ad hx hc
  exact wpList_append_own w hgd s x t ho base e iu (.int .u8 0) 1 1 ht hi hz0 hz1 hz2 rfl (by omega) v n xs hs hown ad m c (ints .u8 news) hx (by rw[ints_len,h1];omega) hc (ay _ _) (by unfold maxLen;omega) (by omega) hbase (fun v' w' a1 a2 _=>h v' w' ⟨a1⟩ a2)
 cases A with
 | none =>
  have h0:m=0:=by
   rcases h3 with h3|⟨_,_,h4,_⟩
   ·exact h3
   ·cases h4
  subst h0
  obtain rfl:news=[]:=List.eq_nil_of_length_eq_zero h1
  refine wpList_plain hgd fun K hK=>?_
  have hrun:=aN (P:=P) w base t o.type e iu 1 ht hi v n xs hown c
  unfold Oper.wp
  simp[execOp,ho,resolve,invoke,builtin,hs,hx,hrun,Result.andThen]
  exact hK _ _ (h v w ⟨by simpa [ints] using hown⟩ (World.grownBy.refl _ _))
 | some ad =>
  refine app ad hx fun j u hj=>?_
  have hjl:j < news.length:=by have:=(List.getElem?_eq_some_iff.1 hj).1;rwa [ints_len] at this
  rcases h3 with h3|⟨b,o',h4,hc⟩
  ·omega
  ·injection h4 with h4
   subst h4
   rw[ints_at _ _ _ hjl] at hj
   rw[← hj,show (⟨b,o',none⟩:Addr).add j=⟨b,o'+j,none⟩ by cases j<;>simp[Addr.add]]
   exact hc j (by omega)
theorem uC {P:Program}{ops:Array Oper}{Q:Exit→Act→World→Prop}{rest:List Oper}{a:Act}{w:World}(p:World→Prop) (hp:p w) (h:∀ w',p w'→wpList P ops Q rest a w'):wpList P ops Q rest a w:=h w hp
theorem Rd.below {w w':World}{A:Option Addr}{n:Nat}{xs:List Int}(r:Rd w A n xs) (b:Below w.heap.size w w'):Rd w' A n xs :=
 r.keep (l:=[]) (barOf b []) (by simp)
theorem aO {w:World}{base:Nat}{e:TypeId}{v:Value}{n:Nat}{xs:List Int}(h:w.ownsRow base e 1 v n (ints .u8 xs)) (hb:Bytes xs):∃ A cap,v=.slice A n cap∧n≤cap∧cap≤9223372036854775807∧Rd w A n xs:=by
 have hl:xs.length=n:=by have:=h.1;rw[ints_len] at this;omega
 rcases h.2 with⟨rfl,rfl⟩|⟨g,cap,cur,rfl,hg,_,h1,h2,_⟩
 ·obtain rfl:=List.eq_nil_of_length_eq_zero hl
  exact⟨none,0,rfl,by omega,by omega,Rd.nil_⟩
 ·unfold maxLen at h2
  refine⟨some ⟨g,0,none⟩,cap,rfl,h1,by omega,hl,hb,.inr ⟨g,0,rfl,fun i hi=>?_⟩⟩
  rw[Nat.zero_add]
  exact wX h i hi
def Apart (v u:Value):Prop:=∀ g,v.ownBlock=some g→u.ownBlock≠some g
theorem ak {P:Program}{w:World}{ops:Array Oper}{rest:List Oper}{o:Oper}{a:Act}{Q:Exit→Act→World→Prop}(hgd:o.guard=none) (s x:Operand) (t:TypeId)
  (ho:o.op=.call { callee:=.builtin .append,args:=#[s,x],argTypes:=#[t,t] })
  (base:Nat) (e:TypeId) (ht:P.underlying t=some (.slice e)) (hi:(P.info? e).map (fun i=>(i.zero,i.size,i.bytes))=some (some (.int .u8 0),1,1))
  (v:Value) (n:Nat) (xs:List Value) (hs:a.eval s=v) (hown:w.ownsRow base e 1 v n xs)
  (A:Option Addr) (m c:Nat) (news:List Int) (hx:a.eval x=.slice A m c) (hr:Rd w A m news)
  (hsmall:n+m≤4294967296) (hbase:base≤w.heap.size)
  (h:∀ v' w',ae (w'.ownsRow base e 1 v' (n+m) (xs++ints .u8 news))→w.grownBy w' v.ownBlock→(v'.ownBlock=v.ownBlock∨v'.ownBlock=some w.heap.size)→wpList P ops Q rest (a.put o.dst v') w'):wpList P ops Q (o :: rest) a w:=by
 obtain⟨iu,hi,hz0,hz1,hz2⟩:=info_parts hi
 have hr0:=hr
 obtain⟨h1,h2,h3⟩:=hr
 cases A with
 | none =>
  have h0:m=0:=by
   rcases h3 with h3|⟨_,_,h4,_⟩
   ·exact h3
   ·cases h4
  subst h0
  obtain rfl:news=[]:=List.eq_nil_of_length_eq_zero h1
  refine wpList_plain hgd fun K hK=>?_
  have hrun:=aN (P:=P) w base t o.type e iu 1 ht hi v n xs hown c
  unfold Oper.wp
  simp[execOp,ho,resolve,invoke,builtin,hs,hx,hrun,Result.andThen]
  exact hK _ _ (h v w ⟨by simpa [ints] using hown⟩ (World.grownBy.refl _ _) (.inl rfl))
 | some ad =>
  have hc:∀ j u,(ints .u8 news)[j]?=some u→w.cell? (ad.add j)=some u:=by
   intro j u hj
   have hjl:j < news.length:=by have:=(List.getElem?_eq_some_iff.1 hj).1;rwa [ints_len] at this
   rcases h3 with h3|⟨b,o',h4,hc⟩
   ·omega
   ·injection h4 with h4
    subst h4
    rw[Sha.ints_at _ _ _ hjl] at hj
    rw[← hj,show (⟨b,o',none⟩:Addr).add j=⟨b,o'+j,none⟩ by cases j<;>simp[Addr.add]]
    exact hc j (by omega)
  exact wpList_append_own_at w hgd s x t ho base e iu (.int .u8 0) 1 1 ht hi hz0 hz1 hz2 rfl (by omega) v n xs hs hown ad m c (ints .u8 news) hx (by rw[ints_len,h1];omega) hc (ay _ _) (by unfold maxLen;omega) (by omega) hbase (fun v' w' a1 a2 _ a3=>h v' w' ⟨a1⟩ a2 a3)
theorem dH {w1 w2:World}{base n:Nat}{e:TypeId}{v v' u:Value}{xs:List Value}(ha:Apart v u) (h:w1.ownsRow base e 1 u n xs) (hg:w1.grownBy w2 v.ownBlock)
  (hat:v'.ownBlock=v.ownBlock∨v'.ownBlock=some w1.heap.size):w2.ownsRow base e 1 u n xs∧Apart u v':=by
 have hne:u.ownBlock=none∨u.ownBlock≠v.ownBlock:=by
  cases hu:u.ownBlock with
  | none=>exact .inl rfl
  | some g=>exact .inr fun hv=>ha g hv.symm hu
 refine⟨h.kept hg hne,fun g hu hv=>?_⟩
 rcases hat with hat|hat
 ·rw[hat] at hv
  exact ha g hv hu
 ·rw[hat] at hv
  injection hv with hv
  have:=(h.lt g hu).2
  omega
def Fp (F F':List Nat) (w w':World):Prop:=Bar F w w'∧∀ k∈F',k∈F∨w.heap.size≤k
theorem Fp.refl (F:List Nat) (w:World):Fp F F w w:=⟨Bar.refl _ _,fun _ h=>.inl h⟩
theorem Fp.trans {F F' F'':List Nat}{a b c:World}(h:Fp F F' a b) (k:Fp F' F'' b c):Fp F F'' a c :=
 ⟨h.1.trans k.1 h.2,fun x hx=>by
  rcases k.2 x hx with h1|h1
  ·exact h.2 x h1
  ·exact .inr (Nat.le_trans h.1.size h1)⟩
theorem Fp.below {F F':List Nat}{B:Nat}{w w':World}(h:Fp F F' w w') (hF:∀ k∈F,B≤k) (hB:B≤w.heap.size):Below B w w':=h.1.below hB hF
theorem Fp.least {F F':List Nat}{B:Nat}{w w':World}(h:Fp F F' w w') (hF:∀ k∈F,B≤k) (hB:B≤w.heap.size):∀ k∈F',B≤k:=fun k hk=>by
 rcases h.2 k hk with h1|h1
 ·exact hF k h1
 ·omega
def Disj (F G:List Nat):Prop:=∀ k∈F,k∉G
theorem Disj.symm {F G:List Nat}(h:Disj F G):Disj G F:=fun k h1 h2=>h k h2 h1
theorem Disj.step {F F' G:List Nat}{w w':World}(h:Disj F G) (k:Fp F F' w w') (hG:∀ g∈G,g < w.heap.size):Disj F' G:=fun x hx hg=>by
 rcases k.2 x hx with h1|h1
 ·exact h x h1 hg
 ·have:=hG x hg;omega
theorem Disj.new {F G:List Nat}{n:Nat}(hF:∀ k∈F,n≤k) (hG:∀ g∈G,g < n):Disj F G:=fun x hx hg=>by
 have:=hF x hx;have:=hG x hg;omega
theorem own_keep {w w':World}{base size:Nat}{e:TypeId}{v:Value}{n:Nat}{xs:List Value}{l:List Nat}(h:w.ownsRow base e size v n xs) (b:Bar l w w') (hl:∀ g∈v.ownBlock.toList,g∉l):w'.ownsRow base e size v n xs:=by
 refine⟨h.1,h.2.imp id ?_⟩
 rintro ⟨g,cap,cur,rfl,hg,hh,r⟩
 refine⟨g,cap,cur,rfl,hg,?_,r⟩
 rw[b.block g (Array.getElem?_eq_some_iff.1 hh).1 (hl g (by simp[Value.ownBlock]))]
 exact hh
theorem NY {w:World}{base size:Nat}{e:TypeId}{v:Value}{n:Nat}{xs:List Value}(h:w.ownsRow base e size v n xs):∀ g∈v.ownBlock.toList,g < w.heap.size:=fun g hg=>(h.lt g (by simpa using hg)).2
theorem aY {w:World}{base size:Nat}{e:TypeId}{v:Value}{n:Nat}{xs:List Value}(h:w.ownsRow base e size v n xs):∃ A cap,v=.slice A n cap:=by
 rcases h.2 with⟨rfl,rfl⟩|⟨g,cap,cur,rfl,_⟩
 ·exact⟨none,0,rfl⟩
 ·exact⟨_,cap,rfl⟩
theorem bK {w:World}{base size B:Nat}{e t:TypeId}{v:Value}{n:Nat}{xs:List Value}{cs:Array Value}(h:w.ownsRow base e size v n xs) (b:Blk w B t cs) (ht:e≠t):v.ownBlock≠some B:=by
 intro hb
 rcases h.2 with⟨rfl,_⟩|⟨g,cap,cur,rfl,_,hg,_⟩
 ·simp[Value.ownBlock] at hb
 ·simp[Value.ownBlock] at hb
  subst hb
  unfold Blk at b
  rw[hg] at b
  injection b with b
  injection b with _ b
  exact ht b
theorem Rj {w:World}{g n:Nat}{xs:List Int}(r:Rd w (some ⟨g,0,none⟩) n xs):∀ j u,(ints .u8 xs)[j]?=some u→w.cell? ((⟨g,0,none⟩:Addr).add j)=some u:=by
 intro j u hj
 have hjl:j < xs.length:=by have:=(List.getElem?_eq_some_iff.1 hj).1;rwa [ints_len] at this
 obtain⟨h1,_,h3⟩:=r
 rcases h3 with h3|⟨b,o,hA,hc⟩
 ·omega
 ·injection hA with hA
  injection hA with e1 e2
  subst e1 e2
  rw[ints_at _ _ _ hjl] at hj
  rw[← hj,show (⟨g,0,none⟩:Addr).add j=⟨g,0+j,none⟩ by cases j<;>simp[Addr.add]]
  exact hc j (by omega)
def Off (A:Option Addr) (n:Nat) (F:List Nat):Prop:=n=0∨∃ g o,A=some ⟨g,o,none⟩∧g∉F
theorem Rd.far {w w':World}{A:Option Addr}{n:Nat}{xs:List Int}{F:List Nat}(r:Rd w A n xs) (b:Bar F w w') (h:Off A n F):Rd w' A n xs:=by
 rcases h with rfl|⟨g,o,rfl,hg⟩
 ·exact⟨r.1,r.2.1,.inl rfl⟩
 ·exact r.keep b (fun x hx=>.inr fun o' ho=>by injection ho with ho;injection ho with ho;exact hg (ho▸hx))
theorem Rd.off {w:World}{A:Option Addr}{n:Nat}{xs:List Int}{F:List Nat}(r:Rd w A n xs) (h:∀ k∈F,w.heap.size≤k):Off A n F:=by
 rcases r.2.2 with h0|⟨b,o,rfl,hc⟩
 ·exact .inl h0
 ·by_cases h0:n=0
  ·exact .inl h0
  ·refine .inr ⟨b,o,rfl,fun hb=>?_⟩
   have:=World.block_lt_of_cell? _ _ (hc 0 (by omega))
   have:=h b hb
   simp at *
   omega
theorem eH {w:World}{base size:Nat}{e:TypeId}{A:Option Addr}{n c:Nat}{xs:List Value}{F:List Nat}(h:w.ownsRow base e size (.slice A n c) n xs) (hf:∀ k∈(Value.slice A n c).ownBlock.toList,k∉F):Off A n F:=by
 rcases h.2 with⟨_,h0⟩|⟨g,cap,cur,hv,_⟩
 ·exact .inl h0
 ·injection hv with hA
  subst hA
  exact .inr ⟨g,0,rfl,hf g (by simp[Value.ownBlock])⟩
theorem Off.step {A:Option Addr}{n:Nat}{xs:List Int}{F F':List Nat}{w w':World}(h:Off A n F) (r:Rd w A n xs) (k:Fp F F' w w'):Off A n F':=by
 rcases h with h|⟨g,o,rfl,hg⟩
 ·exact .inl h
 ·rcases r.2.2 with h0|⟨b,o',hA,hc⟩
  ·exact .inl h0
  ·by_cases h0:n=0
   ·exact .inl h0
   ·injection hA with hA
    injection hA with h1 h2
    subst h1
    refine .inr ⟨g,o,rfl,fun hb=>?_⟩
    rcases k.2 g hb with h3|h3
    ·exact hg h3
    ·have:=World.block_lt_of_cell? _ _ (hc 0 (by omega))
     simp at this
     omega
theorem Bar.grownRow {w w':World}{v:Value}(h:w.grownBy w' v.ownBlock):Bar v.ownBlock.toList w w':=⟨h.os,h.tape,h.output,h.size,fun k hk hn=>h.block k hk (fun he=>hn (by simp[← he]))⟩
theorem iP {w:World}{g h:Nat}{t u:TypeId}{cs ds:Array Value}(a:Blk w g t cs) (b:Blk w h u ds) (ht:t≠u):g≠h:=by
 rintro rfl
 unfold Blk at a b
 rw[a] at b
 injection b with b
 injection b with _ b
 exact ht b
theorem Ac {P:Program}{T e:TypeId}{N:Nat}{k k':IntKind}{l:List Int}(hT:P.underlying T=some (.array N e)) (hE:P.underlying e=some (.int k')) (hi:(P.info? e).map (·.size)=some 1) (hl:l.length=N) (i:Nat) (h:i < N) (w:World) :
  (Instr.index T (.agg (arr k l)) (.int .i64 (i:Int))).run P w=.ok (.int k (at_ l i)) w:=by
 have ha:=DV k l i (by omega)
 cases hq:P.info? e with
 | none=>simp[hq] at hi
 | some j =>
  have hs:j.size=1:=by simpa [hq] using hi
  have hagg:(isAgg e).run P w=.ok false w:=by
   unfold isAgg
   rw[Sem.run_bind,run_underlying hE w]
   rfl
  simp[Instr.index,asIntOf,run_underlying hT,h,sizeOf,typeInfo,hq,hs,part,hagg,ha,Result.andThen]
theorem bar_setRow (w:World) (g:Nat) (cs:Array Value):Bar [g] w (w.setRow g cs):=⟨rfl,rfl,rfl,by simp[World.setRow],fun k _ hn=>setRow_other w g k cs (by simpa using hn)⟩
theorem aC {P:Program}{w:World}{ops:Array Oper}{rest:List Oper}{o:Oper}{a:Act}{Q:Exit→Act→World→Prop}(hgd:o.guard=none) (d s:Operand) (dT sT:TypeId)
  (ho:o.op=.call { callee:=.builtin .copy,args:=#[d,s],argTypes:=#[dT,sT] }) (elem:TypeId) (hu:P.underlying dT=some (.slice elem)) (hsz:(P.info? elem).map (·.size)=some 1)
  (dp sp:Option Addr) (dLen dCap sLen sCap:Nat) (hd:a.eval d=.slice dp dLen dCap) (hs:a.eval s=.slice sp sLen sCap)
  (g off:Nat) (cur:List Value) (t:TypeId) (hg:Blk w g t cur.toArray) (cs:List Value) (hn:cs.length=Nat.min sLen dLen)
  (hpos:0 < cs.length→dp=some ⟨g,off,none⟩∧∃ ad,sp=some ad∧∀ j v,cs[j]?=some v→w.cell? (ad.add j)=some v)
  (hfit:off+cs.length≤cur.length) (h1:∀ v∈cs,v.oneCell'=true)
  (h:∀ w',Hid (Blk w' g t (splice cur off cs).toArray)→Bar [g] w w'→wpList P ops Q rest (a.put o.dst (goInt cs.length)) w') :
  wpList P ops Q (o :: rest) a w:=by
 by_cases h0:cs.length=0
 ·obtain rfl:cs=[]:=List.eq_nil_of_length_eq_zero h0
  refine wpList_copy_nothing hgd d s dT sT ho elem hu hsz dp sp dLen dCap sLen sCap hd hs (by simpa using hn.symm) ?_
  exact h w (show Blk w g t _ by rw[show splice cur off []=cur by simp[splice]];exact hg) (Bar.refl _ _)
 ·obtain⟨rfl,ad,rfl,hsrc⟩:=hpos (by omega)
  refine wpList_copy_own hgd d s dT sT ho elem hu hsz g off dLen dCap ad sLen sCap hd hs cur.toArray t hg cs hn hsrc (by simpa using hfit) h1 ?_
  exact h _ (show Blk _ g t _ by unfold Blk;simpa [splice] using setRow_heap w g _ _ t _ hg) (bar_setRow _ _ _)
def lenOf:Value→Nat|.slice _ l _=>l|_=>0
theorem ax:(Tryz.prog.info? 5).map (fun i=>(i.zero,i.size,i.bytes))=some (some (.int .u8 0),1,1):=by kernel_rfl
theorem di (w:World) (x:Int) (hx:0≤x∧x≤255):Rd (w.alloc (.cells #[.int .u8 x] 5)) (some ⟨w.heap.size,0,none⟩) 1 [x] :=
 Rd.blk (Blk.new w 5 (arr .u8 [x])) (by intro y hy;rw[List.mem_singleton] at hy;subst hy;exact hx) rfl
section
variable {α : Type} (C : α → List Value) (s : Nat)
theorem rO (hC:∀ x,(C x).length=s):∀ l:List α,(l.flatMap C).length=l.length * s
  | []=>by simp
  | x :: l=>by
    rw[List.flatMap_cons,List.length_append,hC,rO hC l,List.length_cons,Nat.add_mul];omega
theorem wY (hC:∀ x,(C x).length=s):∀ (l:List α) (k j:Nat) (x:α),l[k]?=some x→j < s→(l.flatMap C)[k * s+j]?=(C x)[j]?
  | [],k,j,x,h,_=>by simp at h
  | y :: l,0,j,x,h,hj=>by
    simp at h
    subst h
    rw[List.flatMap_cons,List.getElem?_append_left (by rw[hC];omega)]
    simp
  | y :: l,k+1,j,x,h,hj=>by
    have e:(k+1) * s+j - s=k * s+j:=by rw[Nat.add_mul];omega
    rw[List.flatMap_cons,List.getElem?_append_right (by rw[hC,Nat.add_mul];omega),hC,e]
    exact wY hC l k j x (by simpa using h) hj
def Rc (w:World) (A:Option Addr) (n:Nat) (l:List α):Prop :=
 l.length=n∧(n=0∨∃ b o,A=some ⟨b,o,none⟩∧∀ k x,l[k]?=some x→∀ j v,(C x)[j]?=some v→w.cell? ⟨b,o+k * s+j,none⟩=some v)
variable {C s} {w w' : World} {A : Option Addr} {n : Nat} {l : List α}
theorem Rc.nil:Rc C s w A 0 []:=⟨rfl,.inl rfl⟩
theorem Rc.below (h:Rc C s w A n l) (b:Below w.heap.size w w'):Rc C s w' A n l:=by
 refine⟨h.1,h.2.imp id ?_⟩
 rintro ⟨bb,o,rfl,hc⟩
 refine⟨bb,o,rfl,fun k x hx j v hv=>?_⟩
 have hh:=hc k x hx j v hv
 rw[b.cell (World.block_lt_of_cell? _ _ hh)];exact hh
theorem Rc.bar {F:List Nat}(h:Rc C s w A n l) (b:Bar F w w') (hF:∀ x∈F,w.heap.size≤x∨∀ o,A≠some ⟨x,o,none⟩):Rc C s w' A n l:=by
 refine⟨h.1,h.2.imp id ?_⟩
 rintro ⟨bb,o,rfl,hc⟩
 refine⟨bb,o,rfl,fun k x hx j v hv=>?_⟩
 have hh:=hc k x hx j v hv
 have hlt:=World.block_lt_of_cell? _ _ hh
 rw[← hh]
 refine World.cell?_of_block (w:=w) (b.block bb hlt (fun hm=>?_))
 rcases hF bb hm with h1|h1
 ·simp at hlt;omega
 ·exact h1 o rfl
theorem Rc.at_ (h:Rc C s w A n l) {k:Nat}(hk:k < n):∃ b o x,A=some ⟨b,o,none⟩∧l[k]?=some x∧∀ j v,(C x)[j]?=some v→w.cell? ⟨b,o+k * s+j,none⟩=some v:=by
 obtain⟨b,o,hA,hc⟩:=h.2.resolve_left (by omega)
 have e:l[k]?=some (l[k]'(by rw[h.1];exact hk)):=List.getElem?_eq_getElem _
 exact⟨b,o,_,hA,e,hc k _ e⟩
theorem Rc.own {base:Nat}{t:TypeId}{v:Value}(hC:∀ x,(C x).length=s) (h:w.ownsRow base t s v n (l.flatMap C)) (hl:l.length=n):∃ A c,v=.slice A n c∧n≤c∧c≤9223372036854775807∧Rc C s w A n l:=by
 have h0:=h
 rcases h.2 with⟨hv,hx⟩|⟨g,c,cur,hv,-,hb,h1,h2,-⟩
 ·exact⟨none,0,by rw[hv,hx],by omega,by omega,hl,.inl hx⟩
 ·subst hv
  refine⟨_,c,rfl,h1,by unfold maxLen at h2;omega,hl,.inr ⟨g,0,rfl,fun k x hx j v hv=>?_⟩⟩
  have hj:j < s:=by
   have:=(List.getElem?_eq_some_iff.1 hv).1
   rwa [hC] at this
  have hk:k < n:=by
   have:=(List.getElem?_eq_some_iff.1 hx).1
   rwa [hl] at this
  have hb:k * s+j < n * s:=by
   have:(k+1) * s≤n * s:=Nat.mul_le_mul_right s hk
   rw[Nat.add_mul] at this;omega
  rw[Nat.zero_add,World.ownsRow.cellAt h0 (k * s+j) hb,wY C s hC l k j x hx hj,hv]
end
theorem Rd.piece {w:World}{A:Option Addr}{n c:Nat}{xs:List Int}(r:Rd w A n xs) (hc:n≤c) (l h:Nat) (h1:l≤h) (h2:h≤n) :
  Rd w (if c=l then A else A.map (·.add (l * 1))) (h - l) ((xs.take h).drop l)∧∀ F,Off A n F→Off (if c=l then A else A.map (·.add (l * 1))) (h - l) F:=by
 obtain⟨r1,r2,r3⟩:=r
 have e1:((xs.take h).drop l).length=h - l:=by simp[List.length_drop,List.length_take,r1];omega
 have e2:Bytes ((xs.take h).drop l):=(Bytes.take r2 h).drop l
 by_cases h0:h - l=0
 ·rw[h0] at e1 ⊢
  exact⟨⟨e1,e2,.inl rfl⟩,fun F _=>.inl rfl⟩
 ·have hcl:¬ c=l:=by omega
  rw[if_neg hcl,Nat.mul_one]
  obtain⟨b,o,rfl,hcell⟩:=r3.resolve_left (by omega)
  have ea:(⟨b,o,none⟩:Addr).add l=⟨b,o+l,none⟩:=by cases l<;>simp[Addr.add]
  simp only[Option.map_some,ea]
  refine⟨⟨e1,e2,.inr ⟨b,o+l,rfl,fun i hi=>?_⟩⟩,fun F hF=>.inr ?_⟩
  ·have:=hcell (l+i) (by omega)
   rw[Nat.add_assoc,this,jQ,bY (by omega)]
  ·rcases hF with hF|⟨g,o',hA,hg⟩
   ·omega
   ·injection hA with hA
    injection hA with hA _
    subst hA
    exact⟨b,o+l,rfl,hg⟩
theorem NZ:Tryz.prog.elem 22=5:=by kernel_rfl
theorem rP:Tryz.prog.underlying 22=some (.slice (Tryz.prog.elem 22)):=by rw[NZ];exact Tryz.underlying22
theorem kL (w:World):(sizeOf (Tryz.prog.elem 22)).run Tryz.prog w=.ok 1 w:=by
 obtain⟨iu,hi,_,hz1,_⟩:=info_parts ax
 rw[NZ]
 simp[sizeOf,typeInfo,hi,hz1]
theorem pU {w:World}{A:Option Addr}{n c:Nat}{xs:List Int}(r:Rd w A n xs) (hc:n≤c) (l h:Nat) (h1:l≤h) (h2:h≤n) (li hi:Int) (e1:li=l) (e2:hi=h) :
  ∃ A',(∀ w',(Instr.slice 22 (.slice A n c) (some (.int .i64 li)) (some (.int .i64 hi)) none).run Tryz.prog w'=.ok (.slice A' (h - l) (c - l)) w')∧Rd w A' (h - l) ((xs.take h).drop l)∧∀ F,Off A n F→Off A' (h - l) F:=by
 refine⟨_,fun w'=>?_,r.piece hc l h h1 h2⟩
 subst e1 e2
 rw[run_slice_lh w' 22 A n c rP .i64 .i64 l h (by omega) (by omega) (by omega),kL]
 rfl
theorem jh {w:World}{A:Option Addr}{n c:Nat}{xs:List Int}(r:Rd w A n xs) (hc:n≤c) (l:Nat) (h1:l≤n) (li:Int) (e1:li=l) :
  ∃ A',(∀ w',(Instr.slice 22 (.slice A n c) (some (.int .i64 li)) none none).run Tryz.prog w'=.ok (.slice A' (n - l) (c - l)) w')∧Rd w A' (n - l) (xs.drop l)∧∀ F,Off A n F→Off A' (n - l) F:=by
 have hp:=r.piece hc l n h1 (Nat.le_refl _)
 rw[show xs.take n=xs from List.take_of_length_le (by rw[r.1];exact Nat.le_refl _)] at hp
 refine⟨_,fun w'=>?_,hp⟩
 subst e1
 rw[run_slice_l w' 22 A n c rP .i64 l (by omega) (by omega),kL]
 rfl
theorem rQ {w:World}{A:Option Addr}{n c:Nat}{xs:List Int}(r:Rd w A n xs) (hc:n≤c) (h:Nat) (h2:h≤n) (hi:Int) (e2:hi=h) :
  ∃ A',(∀ w',(Instr.slice 22 (.slice A n c) none (some (.int .i64 hi)) none).run Tryz.prog w'=.ok (.slice A' h c) w')∧Rd w A' h (xs.take h)∧∀ F,Off A n F→Off A' h F:=by
 have hp:=r.piece hc 0 h (Nat.zero_le _) h2
 rw[List.drop_zero,Nat.sub_zero] at hp
 refine⟨_,fun w'=>?_,hp⟩
 subst e2
 rw[run_slice_h w' 22 A n c rP .i64 h (by omega) (by omega),kL]
 rfl
def Ri (w:World) (A:Option Addr) (n:Nat) (xs:List Int):Prop :=
 xs.length=n∧(n=0∨∃ b o,A=some ⟨b,o,none⟩∧∀ i,i < n→w.cell? ⟨b,o+i,none⟩=some (.int .i64 (at_ xs i)))
theorem Ri.bar {w w':World}{A:Option Addr}{n:Nat}{xs:List Int}{l:List Nat}(r:Ri w A n xs) (b:Bar l w w') (hl:∀ x∈l,w.heap.size≤x∨∀ o,A≠some ⟨x,o,none⟩):Ri w' A n xs:=by
 obtain⟨h1,h3⟩:=r
 refine⟨h1,h3.imp id ?_⟩
 rintro ⟨bb,o,rfl,hc⟩
 refine⟨bb,o,rfl,fun i hi=>?_⟩
 have hlt:bb < w.heap.size:=World.block_lt_of_cell? _ _ (hc i hi)
 rw[← hc i hi]
 refine World.cell?_of_block (w:=w) (b.block bb hlt (fun hm=>?_))
 rcases hl bb hm with h|h
 ·omega
 ·exact h o rfl
theorem Ri.below {w w':World}{A:Option Addr}{n:Nat}{xs:List Int}(r:Ri w A n xs) (b:Below w.heap.size w w'):Ri w' A n xs:=r.bar (l:=[]) (barOf b []) (by simp)
theorem Ri.upto {w w':World}{A:Option Addr}{n:Nat}{xs:List Int}{B:Nat}(r:Ri w A n xs) (b:Below B w w') (hB:n=0∨∀ g o,A=some ⟨g,o,none⟩→g < B):Ri w' A n xs:=by
 obtain⟨h1,h3⟩:=r
 refine⟨h1,?_⟩
 rcases hB with h|h
 ·exact .inl h
 ·refine h3.imp id ?_
  rintro ⟨bb,o,rfl,hc⟩
  exact⟨bb,o,rfl,fun i hi=>by rw[← hc i hi];exact World.cell?_of_block (w:=w) (b.block bb (h bb o rfl))⟩
theorem Ri.blk {w:World}{M n:Nat}{T:TypeId}{xs:List Int}(h:Blk w M T (arr .i64 xs)) (hn:xs.length=n):Ri w (some ⟨M,0,none⟩) n xs :=
 ⟨hn,.inr ⟨M,0,rfl,fun i hi=>by rw[Nat.zero_add];exact h.at_ i (by omega)⟩⟩
theorem wZ:(Tryz.prog.info? 3).map (fun i=>(i.zero,i.size,i.bytes))=some (some (.int .i64 0),1,8):=by kernel_rfl
def Rwi (w:World) (A:Option Addr) (n:Nat) (X:Nat→List Int):Prop :=
 n=0∨∃ b o,A=some ⟨b,o,none⟩∧∀ r,r < n→∃ a l c,w.cell? ⟨b,o+r,none⟩=some (.slice a l c)∧l≤c∧c≤9223372036854775807∧Ri w a l (X r)
theorem Rwi.below {w w':World}{A:Option Addr}{n:Nat}{X:Nat→List Int}(h:Rwi w A n X) (b:Below w.heap.size w w'):Rwi w' A n X:=by
 refine h.imp id ?_
 rintro ⟨bb,o,rfl,hc⟩
 refine⟨bb,o,rfl,fun r hr=>?_⟩
 obtain⟨a,l,c,h1,h2,h3,h4⟩:=hc r hr
 exact⟨a,l,c,by rw[b.cell (World.block_lt_of_cell? _ _ h1)];exact h1,h2,h3,h4.below b⟩
theorem Rwi.row {w:World}{A:Option Addr}{n:Nat}{X:Nat→List Int}(h:Rwi w A n X) (i:Nat) (hi:i < n):∃ b o a l c,A=some ⟨b,o,none⟩∧w.cell? ⟨b,o+i,none⟩=some (.slice a l c)∧l≤c∧c≤9223372036854775807∧Ri w a l (X i):=by
 rcases h with h|⟨b,o,rfl,hc⟩
 ·omega
 ·obtain⟨a,l,c,h1,h2,h3,h4⟩:=hc i hi
  exact⟨b,o,a,l,c,rfl,h1,h2,h3,h4⟩
end Sha
namespace Purse
open Go.RowKit Sha
def ig (Pk:World→List Nat→Nat→PS→Prop) (w:World) (n:Nat) (X:Nat→List Int) (e:Ending) (w':World):Prop :=
 (¬ mG n X∧e=.returned (.tuple #[.pointer none,.int .i64 1])∧Below w.heap.size w w')∨(mG n X∧∃ p F,e=.returned (.tuple #[.pointer (some ⟨p,0,none⟩),.int .i64 0])∧Pk w' F p (newP n X)∧Fp [] F w w')
def StepPost (D:World→List Nat→PS→Prop) (w:World) (F:List Nat) (r:Int × PS) (e:Ending) (w':World):Prop:=e=.returned (.int .i64 r.1)∧∃ F',D w' F' r.2∧Fp F F' w w'
def RowOf (w:World) (r m:Nat) (h:Nat→Int):Prop:=∃ cur:Array Value,Blk w r 3 cur∧∀ j,j < m→cur[j]?=some (.int .i64 (h j))
structure MxAt (T:TypeId) (w:World) (F:List Nat) (p n m:Nat) (f:Nat→Nat→Int) (g c:Nat) (R C:Nat→Nat):Prop where
 hT:T≠38∧T≠3
 hp:Blk w p T #[.slice (some ⟨g,0,none⟩) n c]
 hg:∃ cur:Array Value,Blk w g 38 cur∧∀ i,i < n→cur[i]?=some (.slice (some ⟨R i,0,none⟩) m (C i))
 hc:n≤c∧c≤9223372036854775807
 hr:∀ i,i < n→m≤C i∧C i≤9223372036854775807∧RowOf w (R i) m (f i)
 inj:∀ i j,i < n→j < n→R i=R j→i=j
 hF:F=p :: g :: (List.range n).map R
def Mx (T:TypeId) (w:World) (F:List Nat) (p n m:Nat) (f:Nat→Nat→Int):Prop:=∃ g c R C,MxAt T w F p n m f g c R C
section
variable {T : TypeId} {w w' : World} {F G : List Nat} {p n m g c : Nat} {f : Nat → Nat → Int} {R C : Nat → Nat}
theorem RowOf.lt {r:Nat}{h:Nat→Int}(k:RowOf w r m h):r < w.heap.size:=by obtain⟨cur,h1,-⟩:=k;exact h1.lt
theorem RowOf.bar {r:Nat}{h:Nat→Int}{l:List Nat}(k:RowOf w r m h) (b:Bar l w w') (hr:r∉l):RowOf w' r m h:=by
 obtain⟨cur,h1,h2⟩:=k
 exact⟨cur,h1.bar b hr,h2⟩
theorem MxAt.gt (h:MxAt T w F p n m f g c R C):g < w.heap.size:=by obtain⟨cur,h1,-⟩:=h.hg;exact h1.lt
theorem MxAt.mem (h:MxAt T w F p n m f g c R C) {k:Nat}:k∈F ↔ k=p∨k=g∨∃ i,i < n∧R i=k:=by
 rw[h.hF];simp
theorem MxAt.lts (h:MxAt T w F p n m f g c R C):∀ k∈F,k < w.heap.size:=by
 intro k hk
 rcases h.mem.1 hk with rfl|rfl|⟨i,hi,rfl⟩
 ·exact h.hp.lt
 ·exact h.gt
 ·exact(h.hr i hi).2.2.lt
theorem MxAt.keep (h:MxAt T w F p n m f g c R C) (b:Bar G w w') (j:Disj F G):MxAt T w' F p n m f g c R C:=by
 obtain⟨cur,h1,h2⟩:=h.hg
 exact⟨h.hT,h.hp.bar b (j p (h.mem.2 (.inl rfl))),⟨cur,h1.bar b (j g (h.mem.2 (.inr (.inl rfl)))),h2⟩,h.hc,fun i hi=>⟨(h.hr i hi).1,(h.hr i hi).2.1,(h.hr i hi).2.2.bar b (j _ (h.mem.2 (.inr (.inr ⟨i,hi,rfl⟩))))⟩,h.inj,h.hF⟩
theorem MxAt.p0 (h:MxAt T w F p n m f g c R C):w.cell? ⟨p,0,none⟩=some (.slice (some ⟨g,0,none⟩) n c):=h.hp.cell 0
theorem MxAt.gi (h:MxAt T w F p n m f g c R C) {i:Nat}(hi:i < n):w.cell? ⟨g,i,none⟩=some (.slice (some ⟨R i,0,none⟩) m (C i)):=by
 obtain⟨cur,h1,h2⟩:=h.hg
 rw[h1.cell,h2 i hi]
theorem MxAt.rij (h:MxAt T w F p n m f g c R C) {i j:Nat}(hi:i < n) (hj:j < m):w.cell? ⟨R i,j,none⟩=some (.int .i64 (f i j)):=by
 obtain⟨cur,h1,h2⟩:=(h.hr i hi).2.2
 rw[h1.cell,h2 j hj]
theorem MxAt.fz (h:MxAt T w F p n m f g c R C) {i:Nat}(hi:i < n) (j:Nat):w.frozen? ⟨R i,j,none⟩=false:=by
 obtain⟨cur,h1,h2⟩:=(h.hr i hi).2.2
 exact h1.frozen j
theorem MxAt.ints (h:MxAt T w F p n m f g c R C) {i:Nat}(hi:i < n):Num.Ints w (some ⟨R i,0,none⟩) m ((List.range m).map (f i)) :=
 ⟨by simp,by have:=(h.hr i hi).1;have:=(h.hr i hi).2.1;omega,.inr ⟨R i,0,rfl,fun j hj=>by rw[Nat.zero_add,h.rij hi hj];simp[hj]⟩⟩
theorem MxAt.ne_pr (h:MxAt T w F p n m f g c R C) {i:Nat}(hi:i < n):p≠R i:=by obtain⟨cur,h1,-⟩:=(h.hr i hi).2.2;exact iP h.hp h1 h.hT.2
theorem MxAt.ne_gr (h:MxAt T w F p n m f g c R C) {i:Nat}(hi:i < n):g≠R i:=by
 obtain⟨cur,h1,-⟩:=(h.hr i hi).2.2
 obtain⟨cur',h2,-⟩:=h.hg
 exact iP h2 h1 (by decide)
theorem MxAt.set (h:MxAt T w F p n m f g c R C) {i:Nat}(hi:i < n) (j:Nat) (x:Int):MxAt T (w.setCell ⟨R i,j,none⟩ (.int .i64 x)) F p n m (upd f i j x) g c R C:=by
 have b:Bar [R i] w (w.setCell ⟨R i,j,none⟩ (.int .i64 x)):=(Bar.refl _ w).setCell (by simp) _
 obtain⟨cur,h1,h2⟩:=h.hg
 refine⟨h.hT,h.hp.bar b (by simpa using h.ne_pr hi),⟨cur,h1.bar b (by simpa using h.ne_gr hi),h2⟩,h.hc,fun k hk=>⟨(h.hr k hk).1,(h.hr k hk).2.1,?_⟩,h.inj,h.hF⟩
 by_cases e:k=i
 ·subst e
  obtain⟨cs,k1,k2⟩:=(h.hr k hk).2.2
  refine⟨_,k1.set_ j (.int .i64 x),fun q hq=>?_⟩
  rw[Array.getElem?_setIfInBounds]
  by_cases e2:j=q
  ·subst e2
   rw[if_pos rfl,if_pos (Array.getElem?_eq_some_iff.1 (k2 j hq)).1,upd_same]
  ·rw[if_neg e2,dL _ _ _ _ (by omega),k2 q hq]
 ·have:RowOf w (R k) m (upd f i j x k):=by
   obtain⟨cs,k1,k2⟩:=(h.hr k hk).2.2
   exact⟨cs,k1,fun q hq=>by rw[dL _ _ _ _ (by simp[e]),k2 q hq]⟩
  exact this.bar b (by simpa using fun e2=>e (h.inj k i hk hi e2))
theorem MxAt.fp (h:MxAt T w F p n m f g c R C) {i j:Nat}(hi:i < n) (u:Value):Fp F F w (w.setCell ⟨R i,j,none⟩ u) :=
 ⟨(Bar.refl _ w).setCell (.inl (h.mem.2 (.inr (.inr ⟨i,hi,rfl⟩)))) _,fun _ hk=>.inl hk⟩
theorem Mx.lts (h:Mx T w F p n m f):∀ k∈F,k < w.heap.size:=by obtain⟨g,c,R,C,h⟩:=h;exact h.lts
theorem Mx.keep (h:Mx T w F p n m f) (b:Bar G w w') (j:Disj F G):Mx T w' F p n m f:=by obtain⟨g,c,R,C,h⟩:=h;exact⟨g,c,R,C,h.keep b j⟩
theorem Mx.below (h:Mx T w F p n m f) (b:Below w.heap.size w w'):Mx T w' F p n m f:=h.keep (barOf b []) (fun _ _=>by simp)
theorem Mx.congr {f':Nat→Nat→Int}(h:Mx T w F p n m f) (e:∀ i j,i < n→j < m→f' i j=f i j):Mx T w F p n m f':=by
 obtain⟨g,c,R,C,h⟩:=h
 exact⟨g,c,R,C,h.hT,h.hp,h.hg,h.hc,fun i hi=>⟨(h.hr i hi).1,(h.hr i hi).2.1,by
  obtain⟨cs,k1,k2⟩:=(h.hr i hi).2.2
  exact⟨cs,k1,fun q hq=>by rw[e i q hi hq,k2 q hq]⟩⟩,h.inj,h.hF⟩
end
end Purse
namespace Purse
open Go.RowKit Sha Num
def Pc (w:World) (F:List Nat) (p:Nat) (s:PS):Prop:=WF s∧Mx 261 w F p s.na s.np (fun a i=>s.v i a)
section
variable {w : World} {F : List Nat} {p : Nat} {s : PS}
theorem kG (h:Pc w F p s):Calls Tryz.prog 228 #[.pointer (some ⟨p,0,none⟩)] w fun e w'=>e=.returned (.int .i64 (s.np:Nat))∧w=w':=by
 obtain⟨h0,g,c,R,C,h⟩:=h
 have p0:=h.p0
 have g0:=h.gi (i:=0) (by have:=h0.a1;omega)
 have h1:=h0.a1
 clear h0 h
 generalize s.np=np at *
 generalize s.na=na at *
 go_enter Tryz.func228,Tryz.ntmps228
 go_wp2
 go_ret
 exact⟨rfl,rfl⟩
end
end Purse
namespace Sha
open Go.RowKit
section
variable {α : Type}
def Ow (C:α→List Value) (s:Nat) (T:TypeId) (w:World) (v:Value) (l:List α):Prop:=w.ownsRow 0 T s v l.length (l.flatMap C)
variable {C : α → List Value} {s : Nat} {T : TypeId} {w w' : World} {v : Value} {l : List α}
theorem Ow.keep {G:List Nat}(h:Ow C s T w v l) (b:Bar G w w') (hd:∀ g∈v.ownBlock.toList,g∉G):Ow C s T w' v l:=own_keep h b hd
theorem Ow.lt (h:Ow C s T w v l):∀ g∈v.ownBlock.toList,g < w.heap.size:=NY h
theorem Ow.nil (w:World):Ow C s T w (.slice none 0 0) []:=World.ownsRow_nil _ _ _ _
theorem Ow.shape (h:Ow C s T w v l):∃ A c,v=.slice A l.length c∧l.length≤c∧c≤9223372036854775807:=by
 rcases h.2 with⟨hv,hx⟩|⟨g,c,cur,hv,-,-,h1,h2,-⟩
 ·exact⟨none,0,by rw[hv,hx],by omega,by omega⟩
 ·exact⟨_,c,hv,h1,by unfold maxLen at h2;omega⟩
theorem Ow.rc (hC:∀ x,(C x).length=s) (h:Ow C s T w v l):∃ A c,v=.slice A l.length c∧l.length≤c∧c≤9223372036854775807∧Rc C s w A l.length l:=Rc.own hC h rfl
theorem Ow.snoc {x:α}(h:w.ownsRow 0 T s v (l.length+1) (l.flatMap C++C x)):Ow C s T w v (l++[x]):=by
 unfold Ow
 rw[List.length_append,List.length_singleton,List.flatMap_append,List.flatMap_singleton]
 exact h
end
def Rws (w:World) (A:Option Addr) (n:Nat) (X:Nat→List Int):Prop :=
 n=0∨∃ b o,A=some ⟨b,o,none⟩∧∀ r,r < n→∃ a l c,w.cell? ⟨b,o+r,none⟩=some (.slice a l c)∧l≤c∧c≤9223372036854775807∧Rd w a l (X r)
theorem Rws.below {w w':World}{A:Option Addr}{n:Nat}{X:Nat→List Int}(h:Rws w A n X) (b:Below w.heap.size w w'):Rws w' A n X:=by
 refine h.imp id ?_
 rintro ⟨bb,o,rfl,hc⟩
 refine⟨bb,o,rfl,fun r hr=>?_⟩
 obtain⟨a,l,c,h1,h2,h3,h4⟩:=hc r hr
 exact⟨a,l,c,by rw[b.cell (World.block_lt_of_cell? _ _ h1)];exact h1,h2,h3,h4.below b⟩
def Ot (w:World) (base:Nat) (e:TypeId) (v:Value) (L:List (List Int)):Prop :=
 ∃ cs:List Value,w.ownsRow base e 1 v L.length cs∧∀ i,i < L.length→∃ a l c,cs[i]?=some (.slice a l c)∧l≤c∧c≤9223372036854775807∧Rd w a l (L.getD i [])∧Off a l v.ownBlock.toList
theorem Ot.rws {w:World}{base:Nat}{e:TypeId}{v:Value}{L:List (List Int)}(h:Ot w base e v L):∃ A cap,v=.slice A L.length cap∧L.length≤cap∧cap≤9223372036854775807∧Rws w A L.length (fun i=>L.getD i []):=by
 obtain⟨cs,ho,hc⟩:=h
 rcases ho.2 with⟨rfl,h0⟩|⟨g,cap,cur,rfl,hg,_,h1,h2,_⟩
 ·exact⟨none,0,by rw[h0],by omega,by omega,.inl h0⟩
 ·unfold maxLen at h2
  refine⟨some ⟨g,0,none⟩,cap,rfl,h1,by omega,.inr ⟨g,0,rfl,fun r hr=>?_⟩⟩
  obtain⟨a,l,c,k1,k2,k3,k4,-⟩:=hc r hr
  refine⟨a,l,c,?_,k2,k3,k4⟩
  rw[Nat.zero_add,World.ownsRow.cellAt ho r (by omega)]
  exact k1
theorem Ot.keep {w w':World}{base:Nat}{e:TypeId}{v:Value}{L:List (List Int)}{F:List Nat}(h:Ot w base e v L) (b:Bar F w w') (hv:∀ g∈v.ownBlock.toList,g∉F) (hf:∀ i a l,i < L.length→Rd w a l (L.getD i [])→Off a l F):Ot w' base e v L:=by
 obtain⟨cs,ho,hc⟩:=h
 refine⟨cs,own_keep ho b hv,fun i hi=>?_⟩
 obtain⟨a,l,c,k1,k2,k3,k4,k5⟩:=hc i hi
 exact⟨a,l,c,k1,k2,k3,k4.far b (hf i a l hi k4),k5⟩
theorem Ot.below {w w':World}{base:Nat}{e:TypeId}{v:Value}{L:List (List Int)}(h:Ot w base e v L) (b:Below w.heap.size w w'):Ot w' base e v L :=
 h.keep (barOf b []) (fun _ _=>by simp) (fun _ _ _ _ r=>r.off (fun _ hk=>by simp at hk))
theorem Ot.nil (w:World) (base:Nat) (e:TypeId):Ot w base e (.slice none 0 0) []:=⟨[],World.ownsRow_nil _ _ _ _,fun _ hi=>absurd hi (Nat.not_lt_zero _)⟩
theorem iQ {P:Program}{w:World}{ops:Array Oper}{rest:List Oper}{o:Oper}{a:Act}{Q:Exit→Act→World→Prop}(hgd:o.guard=none) (s x:Operand) (t:TypeId)
  (ho:o.op=.call { callee:=.builtin .append,args:=#[s,x],argTypes:=#[t,t] })
  (base:Nat) (e:TypeId) (ht:P.underlying t=some (.slice e)) (hi:(P.info? e).map (fun i=>(i.zero,i.size,i.bytes))=some (some (.int .i64 0),1,8))
  (v:Value) (n:Nat) (xs:List Value) (hs:a.eval s=v) (hown:w.ownsRow base e 1 v n xs)
  (A:Option Addr) (m c:Nat) (news:List Int) (hx:a.eval x=.slice A m c) (hr:Ri w A m news)
  (hsmall:n+m≤4294967296) (hbase:base≤w.heap.size)
  (h:∀ v' w',ae (w'.ownsRow base e 1 v' (n+m) (xs++ints .i64 news))→w.grownBy w' v.ownBlock→(v'.ownBlock=v.ownBlock∨v'.ownBlock=some w.heap.size)→wpList P ops Q rest (a.put o.dst v') w'):wpList P ops Q (o :: rest) a w:=by
 obtain⟨iu,hi,hz0,hz1,hz2⟩:=info_parts hi
 obtain⟨h1,h3⟩:=hr
 cases A with
 | none =>
  have h0:m=0:=by
   rcases h3 with h3|⟨_,_,h4,_⟩
   ·exact h3
   ·cases h4
  subst h0
  obtain rfl:news=[]:=List.eq_nil_of_length_eq_zero h1
  refine wpList_plain hgd fun K hK=>?_
  have hrun:=aN (P:=P) w base t o.type e iu 1 ht hi v n xs hown c
  unfold Oper.wp
  simp[execOp,ho,resolve,invoke,builtin,hs,hx,hrun,Result.andThen]
  exact hK _ _ (h v w ⟨by simpa [ints] using hown⟩ (World.grownBy.refl _ _) (.inl rfl))
 | some ad =>
  have hc:∀ j u,(ints .i64 news)[j]?=some u→w.cell? (ad.add j)=some u:=by
   intro j u hj
   have hjl:j < news.length:=by have:=(List.getElem?_eq_some_iff.1 hj).1;rwa [ints_len] at this
   rcases h3 with h3|⟨b,o',h4,hc⟩
   ·omega
   ·injection h4 with h4
    subst h4
    rw[Sha.ints_at _ _ _ hjl] at hj
    rw[← hj,show (⟨b,o',none⟩:Addr).add j=⟨b,o'+j,none⟩ by cases j<;>simp[Addr.add]]
    exact hc j (by omega)
  exact wpList_append_own_at w hgd s x t ho base e iu (.int .i64 0) 1 8 ht hi hz0 hz1 hz2 rfl (by omega) v n xs hs hown ad m c (ints .i64 news) hx (by rw[ints_len,h1];omega) hc (ay _ _) (by unfold maxLen;omega) (by omega) hbase (fun v' w' a1 a2 _ a3=>h v' w' ⟨a1⟩ a2 a3)
def Vt (n:Nat) (xs:List Int) (w:World) (e:Ending) (w':World):Prop:=∃ v,e=.returned v∧w'.ownsRow w.heap.size 3 1 v n (ints .i64 xs)∧Below w.heap.size w w'
end Sha
namespace Purse
open Go.RowKit Sha Num
structure Gr (T:TypeId) (w:World) (N p g na:Nat) (L:Nat→List Int) (V:Nat→Value):Prop where
 hT:T≠38∧T≠3
 hp:Blk w p T #[.slice (some ⟨g,0,none⟩) na na]
 hg:∃ cur:Array Value,Blk w g 38 cur∧∀ a,a < na→cur[a]?=some (V a)
 own:∀ a,a < na→w.ownsRow N 3 1 (V a) (L a).length (ints .i64 (L a))
 ap:∀ a b,a < na→b < na→a≠b→Apart (V a) (V b)
 lo:N≤p∧N≤g∧na≤100
section
variable {T : TypeId} {w w' : World} {N p g na a : Nat} {x : Int} {L : Nat → List Int} {V : Nat → Value}
theorem Gr.gt (h:Gr T w N p g na L V):g < w.heap.size:=by obtain⟨cur,h1,-⟩:=h.hg;exact h1.lt
theorem Gr.below (h:Gr T w N p g na L V) (b:Below w.heap.size w w'):Gr T w' N p g na L V:=by
 obtain⟨cur,h1,h2⟩:=h.hg
 exact⟨h.hT,h.hp.below b h.hp.lt,⟨cur,h1.below b h1.lt,h2⟩,fun a ha=>own_keep (h.own a ha) (barOf b []) (by simp),h.ap,h.lo⟩
theorem Gr.p0 (h:Gr T w N p g na L V):w.cell? ⟨p,0,none⟩=some (.slice (some ⟨g,0,none⟩) na na):=h.hp.cell 0
theorem Gr.ga (h:Gr T w N p g na L V) {a:Nat}(ha:a < na):w.cell? ⟨g,a,none⟩=some (V a):=by
 obtain⟨cur,h1,h2⟩:=h.hg
 rw[h1.cell,h2 a ha]
theorem Gr.fz (h:Gr T w N p g na L V) (a:Nat):w.frozen? ⟨g,a,none⟩=false:=by
 obtain⟨cur,h1,h2⟩:=h.hg
 exact h1.frozen a
theorem Gr.pg (h:Gr T w N p g na L V):p≠g:=by obtain⟨cur,h1,-⟩:=h.hg;exact iP h.hp h1 h.hT.1
theorem Gr.far_g (h:Gr T w N p g na L V) {a:Nat}(ha:a < na):(V a).ownBlock≠some g:=by
 obtain⟨cur,h1,h2⟩:=h.hg
 exact bK (h.own a ha) h1 (by decide)
theorem Gr.far_p (h:Gr T w N p g na L V) {a:Nat}(ha:a < na):(V a).ownBlock≠some p:=bK (h.own a ha) h.hp (fun e=>h.hT.2 e.symm)
theorem Gr.past (h:Gr T w N p g na L V) {row:Option Nat}(hg:w.grownBy w' row) (hr:row≠some g) {a:Nat}(ha:a < na) {v:Value}(hv:V a=v):w'.cell? ⟨g,a,none⟩=some v∧w'.frozen? ⟨g,a,none⟩=false:=by
 obtain⟨cur,c1,c2⟩:=h.hg
 have k:=c1.grown hg (fun e=>hr e.symm)
 exact⟨by rw[k.cell,c2 a ha,hv],k.frozen a⟩
theorem Gr.pastp (h:Gr T w N p g na L V) {row:Option Nat}(hg:w.grownBy w' row) (hr:row≠some p):w'.cell? ⟨p,0,none⟩=some (.slice (some ⟨g,0,none⟩) na na):=(h.hp.grown hg (fun e=>hr e.symm)).cell 0
theorem Gr.turn (h:Gr T w N p g na L V) {a:Nat}(ha:a < na) {v':Value}{l:List Int}{w1:World}(hgrow:w.grownBy w1 (V a).ownBlock) (hown:w1.ownsRow N 3 1 v' l.length (ints .i64 l))
  (hat:v'.ownBlock=(V a).ownBlock∨∀ k,v'.ownBlock=some k→w.heap.size≤k) {L':Nat→List Int} (hL:L' a=l) (hL':∀ b,b < na→b≠a→L' b=L b) :
  Gr T (w1.setCell ⟨g,a,none⟩ v') N p g na L' (fun b=>if b=a then v' else V b)∧Below N w (w1.setCell ⟨g,a,none⟩ v'):=by
 have bg:Bar (V a).ownBlock.toList w w1:=Bar.grownRow hgrow
 have hp1:Blk w1 p T #[.slice (some ⟨g,0,none⟩) na na]:=h.hp.bar bg (by simpa using h.far_p ha)
 obtain⟨cur,c1,c2⟩:=h.hg
 have hg1:Blk w1 g 38 cur:=c1.bar bg (by simpa using h.far_g ha)
 have hne:v'.ownBlock≠some g:=bK hown hg1 (by decide)
 have bs:Bar [g] w1 (w1.setCell ⟨g,a,none⟩ v'):=(Bar.refl _ w1).setCell (by simp) _
 have others:∀ b,b < na→b≠a→w1.ownsRow N 3 1 (V b) (L b).length (ints .i64 (L b))∧Apart (V b) v'∧Apart v' (V b):=by
  intro b hb hba
  have e1:=h.ap a b ha hb (fun e=>hba e.symm)
  have e2:=h.ap b a hb ha hba
  refine⟨(h.own b hb).kept hgrow ?_,?_,?_⟩
  ·cases hq:(V b).ownBlock with
   | none=>exact .inl rfl
   | some k=>exact .inr (fun he=>e2 k hq he.symm)
  ·intro k hk hv
   rcases hat with hat|hat
   ·rw[hat] at hv;exact e2 k hk hv
   ·have:=((h.own b hb).lt k hk).2;have:=hat k hv;omega
  ·intro k hv hk
   rcases hat with hat|hat
   ·rw[hat] at hv;exact e1 k hv hk
   ·have:=((h.own b hb).lt k hk).2;have:=hat k hv;omega
 refine⟨⟨h.hT,hp1.bar bs (by simpa using h.pg),⟨_,hg1.set_ a v',fun b hb=>?_⟩,fun b hb=>?_,fun b c hb hc hbc=>?_,h.lo⟩,?_⟩
 ·rw[Array.getElem?_setIfInBounds]
  by_cases e:a=b
  ·subst e
   simp[(Array.getElem?_eq_some_iff.1 (c2 a hb)).1]
  ·rw[if_neg e,if_neg (fun k=>e k.symm)];exact c2 b hb
 ·by_cases e:b=a
  ·subst e
   simp only[if_true]
   rw[hL]
   exact own_keep hown bs (by
    intro k hk
    simp only[Option.mem_toList] at hk
    simp only[List.mem_cons,List.not_mem_nil,or_false]
    rintro rfl
    exact hne hk)
  ·simp only[e,if_false]
   rw[hL' b hb e]
   exact own_keep (others b hb e).1 bs (by
    intro k hk
    simp only[Option.mem_toList] at hk
    simp only[List.mem_cons,List.not_mem_nil,or_false]
    rintro rfl
    exact h.far_g hb hk)
 ·by_cases e:b=a
  ·subst e
   have e2:c≠b:=fun k=>hbc k.symm
   simp only[if_true,e2,if_false]
   exact(others c hc e2).2.2
  ·by_cases e2:c=a
   ·subst e2
    simp only[e,if_false,if_true]
    exact(others b hb e).2.1
   ·simp only[e,e2,if_false]
    exact h.ap b c hb hc hbc
 ·have b1:Below N w w1:=own_below (h.own a ha) hgrow (by have:=h.gt;have:=h.lo;omega)
  exact b1.setCell (by have:=h.lo;simpa using h.lo.2.1) _
theorem Gr.pushed (h:Gr T (w.alloc (.cells #[.int .i64 x] 3)).drew N p g na L V) {v:Value}{k:Nat}(HV:ae (V a=v)) (ha:a < na) {w3:World}{gg cg:Nat}{l l':List Int}(hl:l'=l++[x]) (hk:l'.length=k+1)
  (hgrow:(w.alloc (.cells #[.int .i64 x] 3)).drew.grownBy w3 v.ownBlock) (hown:w3.ownsRow N 3 1 (.slice (some ⟨gg,0,none⟩) (k+1) cg) (k+1) (ints .i64 l++[.int .i64 x]))
  (hat:v.ownBlock=some gg∨gg=w.heap.size+1) {L':Nat→List Int} (hL':L' a=l') (hF:∀ b,b < na→b≠a→L' b=L b) {w0:World} (B:ae (Below N w0 w)) (NN:N≤w.heap.size) :
  ∃ V',ae (Gr T (w3.setCell ⟨g,a,none⟩ (.slice (some ⟨gg,0,none⟩) (k+1) cg)) N p g na L' V')∧ae (Below N w0 (w3.setCell ⟨g,a,none⟩ (.slice (some ⟨gg,0,none⟩) (k+1) cg))):=by
 have hv:=HV.out
 subst hv
 have h1:=h.turn ha (v':=.slice (some ⟨gg,0,none⟩) (k+1) cg) (l:=l') hgrow (by rw[hk,hl,af];exact hown) (by
  rcases hat with e|e
  ·exact .inl e.symm
  ·exact .inr (fun q hq=>by simp[Value.ownBlock] at hq;subst hq;simp;omega)) hL' hF
 exact⟨_,⟨h1.1⟩,⟨((B.out.alloc NN _).drew).trans h1.2⟩⟩
theorem Gr.start (hT:T≠38∧T≠3) (hp:Blk w p T #[.slice (some ⟨g,0,none⟩) na na]) (hg:Blk w g 38 (List.replicate na (Value.slice none 0 0)).toArray) (h1:N≤p) (h2:N≤g) (h3:na≤100) :
  Gr T w N p g na (fun _=>[]) (fun _=>.slice none 0 0) :=
 ⟨hT,hp,⟨_,hg,fun a ha=>by simp[ha]⟩,fun a _=>World.ownsRow_nil _ _ _ _,fun a b _ _ _ k hk=>by simp[Value.ownBlock] at hk,h1,h2,h3⟩
theorem Gr.congr (h:Gr T w N p g na L V) {L':Nat→List Int}(e:∀ a,a < na→L' a=L a):Gr T w N p g na L' V :=
 ⟨h.hT,h.hp,h.hg,fun a ha=>by rw[e a ha];exact h.own a ha,h.ap,h.lo⟩
theorem Gr.ints (h:Gr T w N p g na L V) (ha:a < na) {m:Nat}(hL:(L a).length=m):∃ A c,V a=.slice A m c∧Num.Ints w A m (L a):=by
 have ho:=h.own a ha
 rw[hL] at ho
 rcases ho.2 with⟨hv,hx⟩|⟨r,c,cur,hv,hr,hb,h1,h2,h3,h4⟩
 ·subst hx
  exact⟨none,0,hv,hL,by omega,.inl rfl⟩
 ·refine⟨_,c,hv,hL,by unfold maxLen at h2;omega,.inr ⟨r,0,rfl,fun i hi=>?_⟩⟩
  rw[hv] at ho
  have h5:=World.ownsRow.cellAt ho i (by omega)
  rw[Sha.ints_at _ _ _ (by omega)] at h5
  rw[Nat.zero_add,h5]
  rfl
def Dj:Value→Nat
 | .slice (some ad) _ _=>ad.block
 | _=>0
def Rl:Value→Nat
 | .slice _ _ c=>c
 | _=>0
theorem Gr.mx (h:Gr T w N p g na L V) {m:Nat}(hm:1≤m) (hL:∀ a,a < na→(L a).length=m):∃ F,Mx T w F p na m (fun a i=>at_ (L a) i)∧∀ k∈F,N≤k:=by
 have sh:∀ a,a < na→∃ r c cur,V a=.slice (some ⟨r,0,none⟩) m c∧N≤r∧Blk w r 3 cur∧m≤c∧c≤9223372036854775807∧∀ j,j < m→cur[j]?=some (.int .i64 (at_ (L a) j)):=by
  intro a ha
  have ho:=h.own a ha
  rcases ho.2 with⟨hv,hx⟩|⟨r,c,cur,hv,hr,hb,h1,h2,h3,h4⟩
  ·have:=hL a ha
   omega
  ·rw[hL a ha] at hv h1
   refine⟨r,c,cur,hv,hr,hb,h1,by unfold maxLen at h2;omega,fun j hj=>?_⟩
   rw[hv,hL a ha] at ho
   have h5:=World.ownsRow.cellAt ho j (by omega)
   rw[show w.cell? ⟨r,j,none⟩=cur[j]? from cell_of_row w r j cur _ (0,0) hb,Sha.ints_at _ _ _ (by rw[hL a ha];exact hj)] at h5
   exact h5
 have vb:∀ a,a < na→V a=.slice (some ⟨Dj (V a),0,none⟩) m (Rl (V a))∧N≤Dj (V a)∧m≤Rl (V a)∧Rl (V a)≤9223372036854775807∧RowOf w (Dj (V a)) m (fun i=>at_ (L a) i):=by
  intro a ha
  obtain⟨r,c,cur,hv,hr,hb,h1,h2,h3⟩:=sh a ha
  rw[hv]
  exact⟨rfl,hr,h1,h2,cur,hb,h3⟩
 obtain⟨cur,c1,c2⟩:=h.hg
 have hlo:=h.lo
 refine⟨_,⟨g,na,fun a=>Dj (V a),fun a=>Rl (V a),h.hT,h.hp,⟨cur,c1,fun a ha=>by rw[c2 a ha,← (vb a ha).1]⟩,⟨Nat.le_refl _,by omega⟩,fun a ha=>(vb a ha).2.2,fun a b ha hb hab=>?_,rfl⟩,?_⟩
 ·by_cases e:a=b
  ·exact e
  ·exfalso
   refine h.ap a b ha hb e (Dj (V a)) ?_ ?_
   ·rw[(vb a ha).1];rfl
   ·rw[(vb b hb).1]
    show some (Dj (V b))=some (Dj (V a))
    rw[hab]
 ·intro k hk
  simp only[List.mem_cons,List.mem_map,List.mem_range] at hk
  rcases hk with rfl|rfl|⟨a,ha,rfl⟩
  ·exact hlo.1
  ·exact hlo.2.1
  ·exact(vb a ha).2.1
end
theorem kY:(Tryz.prog.info? 38).map (fun i=>(i.zero,i.size,i.bytes))=some (some (.slice none 0 0),1,24):=by kernel_rfl
theorem qC (w:World) (n:Nat) (hn:n≤100):∃ w',(Instr.makeSlice 39 (.int .i64 (n:Int)) (.int .i64 (n:Int))).run Tryz.prog w=.ok (.slice (some ⟨w.heap.size,0,none⟩) n n) w'∧Blk w' w.heap.size 38 (List.replicate n (Value.slice none 0 0)).toArray∧Below w.heap.size w w':=by
 obtain⟨iu,hi,hz0,hz1,hz2⟩:=info_parts kY
 obtain⟨w',hm,own,gr⟩:=run_makeSlice_full (P:=Tryz.prog) w w.heap.size 39 38 iu _ 1 Tryz.underlying39 hi hz0 hz1 .i64 .i64 n (by omega) (by rw[hz2];omega) (by unfold maxLen;omega) (Nat.le_refl _)
 refine⟨w',hm,?_,⟨gr.os,gr.tape,gr.output,gr.size,fun k hk=>gr.block k hk (by simp)⟩⟩
 have e:(madeCells (Value.slice none 0 0).cells (n * 1)).toList=List.replicate n (Value.slice none 0 0):=by
  rw[show (Value.slice none 0 0).cells=#[.slice none 0 0] from rfl,toList_madeCells_one,Nat.mul_one]
 rw[e] at own
 rcases own.2 with⟨h0,-⟩|⟨g,cap,cur,hv,-,hh,h1,-,hs,ht⟩
 ·cases h0
 ·have hv2:w.heap.size=g∧n=cap:=by
   have:=hv
   simp only[Value.slice.injEq,Option.some.injEq,Addr.mk.injEq] at this
   omega
  obtain⟨hg,rfl⟩:=hv2
  rw[hg]
  have:cur=(List.replicate n (Value.slice none 0 0)).toArray:=by
   apply Array.toList_inj.1
   rw[List.take_of_length_le (by simp;omega)] at ht
   rw[ht]
  rw[← this]
  exact hh
section
variable {w : World} {F : List Nat} {p : Nat} {s : PS}
theorem Pc.at_ {i a:Nat}(h:Pc w F p s) (hi:i < s.np) (ha:a < s.na):∃ g c R C,w.cell? ⟨p,0,none⟩=some (.slice (some ⟨g,0,none⟩) s.na c)∧w.cell? ⟨g,a,none⟩=some (.slice (some ⟨R,0,none⟩) s.np C)∧w.cell? ⟨R,i,none⟩=some (.int .i64 (s.v i a))∧w.frozen? ⟨R,i,none⟩=false ∧
  ∀ x,WF (put s i a x)→Pc (w.setCell ⟨R,i,none⟩ (.int .i64 x)) F p (put s i a x)∧Fp F F w (w.setCell ⟨R,i,none⟩ (.int .i64 x)):=by
 obtain⟨h0,g,c,R,C,h⟩:=h
 exact⟨g,c,R a,C a,h.p0,h.gi ha,h.rij ha hi,h.fz ha i,fun x hx=>⟨⟨hx,Mx.congr ⟨g,c,R,C,h.set ha i x⟩ (fun b j _ _=>by
  show upd s.v i a x j b=upd (fun a i=>s.v i a) a i x b j
  unfold upd
  by_cases e:j=i∧b=a
  ·rw[if_pos e,if_pos ⟨e.2,e.1⟩]
  ·rw[if_neg e,if_neg (fun k=>e ⟨k.2,k.1⟩)])⟩,h.fp ha _⟩⟩
end
end Purse
namespace Sha
open Go.RowKit
section
variable {w : World} {M : Nat} {T : TypeId}
theorem put2 {a0 a1:Value}(h:Blk w M T #[a0,a1]) (b0 b1:Value):Blk ((w.setCell ⟨M,0,none⟩ b0).setCell ⟨M,1,none⟩ b1) M T #[b0,b1]∧Bar [M] w ((w.setCell ⟨M,0,none⟩ b0).setCell ⟨M,1,none⟩ b1):=by
 refine⟨?_,(Bar.setCell (Bar.setCell (Bar.refl [M] w) (p:=⟨M,0,none⟩) (.inl (by simp)) b0) (p:=⟨M,1,none⟩) (.inl (by simp)) b1)⟩
 have:=((h.set_ 0 b0).set_ 1 b1)
 simpa using this
theorem put4 {a0 a1 a2 a3:Value}(h:Blk w M T #[a0,a1,a2,a3]) (b0 b1 b2 b3:Value):Blk ((((w.setCell ⟨M,0,none⟩ b0).setCell ⟨M,1,none⟩ b1).setCell ⟨M,2,none⟩ b2).setCell ⟨M,3,none⟩ b3) M T #[b0,b1,b2,b3]∧Bar [M] w ((((w.setCell ⟨M,0,none⟩ b0).setCell ⟨M,1,none⟩ b1).setCell ⟨M,2,none⟩ b2).setCell ⟨M,3,none⟩ b3):=by
 refine⟨?_,(Bar.setCell (Bar.setCell (Bar.setCell (Bar.setCell (Bar.refl [M] w) (p:=⟨M,0,none⟩) (.inl (by simp)) b0) (p:=⟨M,1,none⟩) (.inl (by simp)) b1) (p:=⟨M,2,none⟩) (.inl (by simp)) b2) (p:=⟨M,3,none⟩) (.inl (by simp)) b3)⟩
 have:=((((h.set_ 0 b0).set_ 1 b1).set_ 2 b2).set_ 3 b3)
 simpa using this
theorem put5 {a0 a1 a2 a3 a4:Value}(h:Blk w M T #[a0,a1,a2,a3,a4]) (b0 b1 b2 b3 b4:Value):Blk (((((w.setCell ⟨M,0,none⟩ b0).setCell ⟨M,1,none⟩ b1).setCell ⟨M,2,none⟩ b2).setCell ⟨M,3,none⟩ b3).setCell ⟨M,4,none⟩ b4) M T #[b0,b1,b2,b3,b4]∧Bar [M] w (((((w.setCell ⟨M,0,none⟩ b0).setCell ⟨M,1,none⟩ b1).setCell ⟨M,2,none⟩ b2).setCell ⟨M,3,none⟩ b3).setCell ⟨M,4,none⟩ b4):=by
 refine⟨?_,(Bar.setCell (Bar.setCell (Bar.setCell (Bar.setCell (Bar.setCell (Bar.refl [M] w) (p:=⟨M,0,none⟩) (.inl (by simp)) b0) (p:=⟨M,1,none⟩) (.inl (by simp)) b1) (p:=⟨M,2,none⟩) (.inl (by simp)) b2) (p:=⟨M,3,none⟩) (.inl (by simp)) b3) (p:=⟨M,4,none⟩) (.inl (by simp)) b4)⟩
 have:=(((((h.set_ 0 b0).set_ 1 b1).set_ 2 b2).set_ 3 b3).set_ 4 b4)
 simpa using this
end
def jK (n:Nat) (xs:List Int) (w:World) (e:Ending) (w':World):Prop:=∃ v,e=.returned v∧w'.ownsRow w.heap.size 5 1 v n (ints .u8 xs)∧Below w.heap.size w w'
theorem clone_any (A:Option Addr) (n cap:Nat) (xs:List Int) (w:World) (hr:Rd w A n xs) (hn:n < 2147483648) :
  Calls Tryz.prog 32 #[.slice A n cap] w (jK n xs w):=by
 cases A with
 | none =>
  have h0:n=0:=by
   rcases hr.2.2 with h|⟨_,_,h,_⟩
   ·exact h
   ·cases h
  subst h0
  obtain rfl:xs=[]:=List.eq_nil_of_length_eq_zero hr.1
  clear hr
  have hq:=Lib.run_eql_slice_nil (P:=Tryz.prog) w 22 5 none 0 cap 0 0 Tryz.underlying22
  go_enter Tryz.func32,Tryz.ntmps32
  go_wp2
  go_ret
  exact⟨_,rfl,World.ownsRow_nil _ _ _ _,Below.refl _ _⟩
 | some a =>
  obtain⟨N,hN⟩:∃ N,w.heap.size=N:=⟨_,rfl⟩
  have HR:=ae.mk (hr.keep (l:=[]) ((Bar.refl [] w).alloc (.cells #[] 5)) (by simp))
  have hown:=World.ownsRow_made (base:=N) (e:=5) (size:=1) w #[] 0 (by omega) (by unfold maxLen;omega) rfl
  rw[hN] at hown
  have bel:Below N w (w.alloc (.cells #[] 5)):=(Below.refl _ _).alloc (by omega) _
  have Own:=ae.mk hown
  have Bel:=ae.mk bel
  clear hown bel hr
  have hq:=Lib.run_eql_slice_nil (P:=Tryz.prog) w 22 5 (some a) n cap 0 0 Tryz.underlying22
  go_enter Tryz.func32,Tryz.ntmps32
  go_wp2_with ((with_reducible refine sel 7 ?_);refine ai rfl (.tmp 5) (.tmp 6) 22 rfl N 5 Tryz.underlying22 ax (.slice (some ⟨N,0,none⟩) 0 0) 0 [] rfl Own.out (some a) n cap xs rfl HR.out (by omega) (by simp[hN]) ?_;intro v' w' ho hg)
  go_ret
  refine⟨v',rfl,?_,?_⟩
  ·have:=ho.out
   simpa [hN] using this
  ·rw[hN];exact Bel.out.grown hg (by simp;omega) (by intro k hk;injection hk with hk;simp at hk;omega)
end Sha
namespace Purse
open Go.RowKit Sha Num
section
variable {w : World} {F : List Nat} {p : Nat} {s : PS}
end
section
variable {w : World} {F : List Nat} {p : Nat} {s : PS}
end
end Purse
namespace Sha
open Go.RowKit
theorem gV (g o n c l:Nat) (h1:l≤n) (hl:l < c) (li:Int) (e1:li=l) (w':World) :
  (Instr.slice 22 (.slice (some ⟨g,o,none⟩) n c) (some (.int .i64 li)) none none).run Tryz.prog w'=.ok (.slice (some ⟨g,o+l,none⟩) (n - l) (c - l)) w':=by
 subst e1
 rw[run_slice_l w' 22 (some ⟨g,o,none⟩) n c rP .i64 l (by omega) (by omega),kL]
 have hcl:¬ c=l:=by omega
 have ea:(⟨g,o,none⟩:Addr).add l=⟨g,o+l,none⟩:=by cases l<;>simp[Addr.add]
 simp[Result.andThen,sliced,hcl,ea]
theorem dE (A:Option Addr) (n c h:Nat) (h1:h≤c) (hi:Int) (e1:hi=h) (w':World) :
  (Instr.slice 22 (.slice A n c) none (some (.int .i64 hi)) none).run Tryz.prog w'=.ok (.slice A h c) w':=by
 subst e1
 rw[run_slice_h w' 22 A n c rP .i64 h (by omega) (by omega),kL]
 have ea:∀ a:Addr,a.add 0=a:=fun a=>by simp[Addr.add]
 cases A<;>simp[Result.andThen,sliced,ea]
end Sha
namespace Frame
open Go.RowKit Sha Wire
theorem dP (n:Int) (w:World):Calls Tryz.prog 42 #[.int .i64 n] w fun e w'=>e=.returned (.int .i64 (sectorsF n))∧w=w':=by
 by_cases h1:n < 0
 ·rw[show sectorsF n=0 by unfold sectorsF;rw[if_pos (.inl h1)]]
  go_enter Tryz.func42,Tryz.ntmps42
  go_wp2
  go_ret
  exact⟨rfl,rfl⟩
 ·by_cases h2:60000 < n
  ·rw[show sectorsF n=0 by unfold sectorsF;rw[if_pos (.inr h2)]]
   go_enter Tryz.func42,Tryz.ntmps42
   go_wp2
   go_ret
   exact⟨rfl,rfl⟩
  ·have e:sectorsF n=(24+n+62) / 63:=by unfold sectorsF;rw[if_neg (by omega)]
   have hw1:wrap64 (24+n)=24+n:=by unfold wrap64;omega
   have hw2:wrap64 (24+n+63)=24+n+63:=by unfold wrap64;omega
   have hw3:wrap64 (24+n+63 - 1)=24+n+63 - 1:=by unfold wrap64;omega
   have hq:Int.tdiv (24+n+63 - 1) 63=(24+n+63 - 1) / 63:=Int.tdiv_eq_ediv_of_nonneg (by omega)
   have HE:=ae.mk e
   clear e
   go_enter Tryz.func42,Tryz.ntmps42
   go_wp2
   go_ret
   refine⟨?_,rfl⟩
   rw[HE.out,show 24+n+62=24+n+63 - 1 by omega,← hq];rfl
theorem FD (i:Nat) (w:World):Calls Tryz.prog 195 #[.int .i64 i] w fun e w'=>e=.returned (.int .u8 (mk i))∧w=w':=by
 by_cases h:i=0
 ·subst h
  go_enter Tryz.func195,Tryz.ntmps195
  go_wp2
  go_ret
  exact⟨rfl,rfl⟩
 ·have h':¬ (i:Int)=0:=by omega
  rw[show mk i=2 by unfold mk;rw[if_neg h]]
  go_enter Tryz.func195,Tryz.ntmps195
  go_wp2
  go_ret
  exact⟨rfl,rfl⟩
theorem uD (g o n c i:Nat) (w:World) (h:64 * (i+1)≤n) (hc:n≤c) (hm:n≤1073741824) :
  Calls Tryz.prog 194 #[.slice (some ⟨g,o,none⟩) n c,.int .i64 i] w fun e w'=>e=.returned (.slice (some ⟨g,o+64 * i,none⟩) 64 (c - 64 * i))∧w=w':=by
 have hw:wrap64 ((i:Int) * 64)=((64 * i:Nat):Int):=by unfold wrap64;omega
 have s1:=gV g o n c (64 * i) (by omega) (by omega) ((64 * i:Nat):Int) rfl
 have s2:=dE (some ⟨g,o+64 * i,none⟩) (n - 64 * i) (c - 64 * i) 64 (by omega) 64 rfl
 go_enter Tryz.func194,Tryz.ntmps194
 go_wp2
 go_ret
 exact⟨by rw[Nat.mul_comm 64 i];rfl,rfl⟩
def oG (xs:List Int):Bool:=decide (∀ x∈xs,x=0)
theorem at_mem {xs:List Int}{k:Nat}(h:k < xs.length):at_ xs k∈xs:=by
 have:=List.getElem_mem h
 have e:at_ xs k=xs[k]:=by simp[at_,h]
 rw[e];exact this
theorem N7 (A:Option Addr) (n c:Nat) (xs:List Int) (w:World) (hr:Rd w A n xs) (hn:n≤1073741824) :
  Calls Tryz.prog 158 #[.slice A n c] w fun e w'=>e=.returned (.bool (oG xs))∧w=w':=by
 have HR:=ae.mk hr
 have hlen:=ae.mk hr.1
 clear hr
 go_enter Tryz.func158,Tryz.ntmps158
 go_wp2
 go_loopw [4,7] (fun _c i wr=>∃ k:Nat,k≤n∧i=.int .i64 k∧ae (∀ x∈xs.take k,x=0)∧w=wr) (fun _ i _=>n - (Go.RowKit.intOf i).toNat)
 case atStart=>exact⟨0,by omega,rfl,⟨by simp⟩,rfl⟩
 case round =>
  obtain⟨k,hk,rfl,HZ,rfl⟩:=hrel
  by_cases hkn:k < n
  ·have hkn':(k:Int) < n:=by omega
   obtain⟨bb,oo,rfl,hc⟩:=HR.out.2.2.resolve_left (by omega)
   have x0:=hc k hkn
   have hb:=HR.out.2.1.at_ k
   have hmem:at_ xs k∈xs:=at_mem (by rw[hlen.out];exact hkn)
   have HS:ae (xs.take (k+1)=xs.take k++[at_ xs k]):=⟨by
    rw[List.take_succ_eq_append_getElem (by rw[hlen.out];exact hkn)]
    simp[at_,show k < xs.length by rw[hlen.out];exact hkn]⟩
   have HM:=ae.mk hmem
   clear hc hmem
   generalize at_ xs k=x at *
   by_cases hx:x=0
   ·subst hx
    go_wp2
    go_roundw
    case rel=>exact⟨k+1,by omega,by go_num,⟨by
     rw[HS.out]
     intro y hy
     rcases List.mem_append.1 hy with hy|hy
     ·exact HZ.out y hy
     ·simpa using hy⟩,trivial⟩
    case measure=>simp[Go.RowKit.intOf];omega
   ·have hbl:ae (oG xs=false):=⟨by
     unfold oG
     rw[decide_eq_false_iff_not]
     exact fun h=>hx (h x HM.out)⟩
    go_wp2
    go_ret
    exact⟨by rw[hbl.out];rfl,rfl⟩
  ·obtain rfl:k=n:=by omega
   have hkn':¬ (k:Int) < k:=by omega
   have hbl:ae (oG xs=true):=⟨by
    unfold oG
    rw[decide_eq_true_iff]
    have:=HZ.out
    rw[List.take_of_length_le (by rw[hlen.out];omega)] at this
    exact this⟩
   go_wp2
   go_ret
   exact⟨by rw[hbl.out];rfl,rfl⟩
end Frame
namespace Sha
open Go.RowKit
theorem su {P:Program}{w:World}{ops:Array Oper}{o:Oper}{a:Act}{K:Act→World→Prop}{Q:Exit→Act→World→Prop}{E:Prop}(hgd:o.guard=none) (s x:Operand) (t:TypeId)
  (ho:o.op=.call { callee:=.builtin .append,args:=#[s,x],argTypes:=#[t,t] })
  (base:Nat) (e:TypeId) (ht:P.underlying t=some (.slice e)) (hi:(P.info? e).map (fun i=>(i.zero,i.size,i.bytes))=some (some (.int .u8 0),1,1))
  (v:Value) (n:Nat) (xs:List Value) (hs:a.eval s=v) (hown:w.ownsRow base e 1 v n xs)
  (A:Option Addr) (m c:Nat) (news:List Int) (hx:a.eval x=.slice A m c) (hr:Rd w A m news)
  (hsmall:n+m≤4294967296) (hbase:base≤w.heap.size)
  (h:∀ v' w',ae (w'.ownsRow base e 1 v' (n+m) (xs++ints .u8 news))→w.grownBy w' v.ownBlock→Below base w w'→(v'.ownBlock=v.ownBlock∨v'.ownBlock=some w.heap.size)→K (a.put o.dst v') w') :
  if Region.wanted o (yielded ops a.tmps)=true then Oper.wp P o a w K Q else E:=by
 have hw:Region.wanted o (yielded ops a.tmps)=true:=by simp[Region.wanted,hgd]
 rw[if_pos hw]
 obtain⟨iu,hi,hz0,hz1,hz2⟩:=info_parts hi
 obtain⟨h1,-,h3⟩:=hr
 cases A with
 | none =>
  have h0:m=0:=by
   rcases h3 with h3|⟨_,_,h4,_⟩
   ·exact h3
   ·cases h4
  subst h0
  obtain rfl:news=[]:=List.eq_nil_of_length_eq_zero h1
  have hrun:=aN (P:=P) w base t o.type e iu 1 ht hi v n xs hown c
  unfold Oper.wp
  simp[execOp,ho,resolve,invoke,builtin,hs,hx,hrun,Result.andThen]
  exact h v w ⟨by simpa [ints] using hown⟩ (World.grownBy.refl _ _) (Below.refl _ _) (.inl rfl)
 | some ad =>
  have hc:∀ j u,(ints .u8 news)[j]?=some u→w.cell? (ad.add j)=some u:=by
   intro j u hj
   have hjl:j < news.length:=by have:=(List.getElem?_eq_some_iff.1 hj).1;rwa [ints_len] at this
   rcases h3 with h3|⟨b,o',h4,hc⟩
   ·omega
   ·injection h4 with h4
    subst h4
    rw[Sha.ints_at _ _ _ hjl] at hj
    rw[← hj,show (⟨b,o',none⟩:Addr).add j=⟨b,o'+j,none⟩ by cases j<;>simp[Addr.add]]
    exact hc j (by omega)
  obtain⟨v',w',hr,h2,h3,-,h5⟩:=run_append_own_at (P:=P) w base t o.type e iu (.int .u8 0) 1 1 ht hi hz0 hz1 hz2 rfl (by omega) v n xs hown ad m c (ints .u8 news) (by rw[ints_len,h1];omega) hc (ay _ _) (by unfold maxLen;omega) (by omega) hbase
  unfold Oper.wp execOp
  simp only[ho,resolve,invoke,builtin,Sem.run_bind,Sem.run_pure,Result.andThen_ok,List.map_toArray,List.map_cons,List.map_nil,hs,hx,hr]
  exact h v' w' ⟨h2⟩ h3 (own_below hown h3 hbase) h5
theorem Ro (w:World) (n:Nat) (hn:n≤16777216):∃ w',(Instr.makeSlice 22 (.int .i64 (n:Int)) (.int .i64 (n:Int))).run Tryz.prog w=.ok (.slice (some ⟨w.heap.size,0,none⟩) n n) w'∧Blk w' w.heap.size 5 (arr .u8 (List.replicate n 0))∧Below w.heap.size w w':=by
 obtain⟨iu,hi,hz0,hz1,hz2⟩:=info_parts ax
 obtain⟨w',hm,own,gr⟩:=run_makeSlice_full (P:=Tryz.prog) w w.heap.size 22 5 iu _ 1 Tryz.underlying22 hi hz0 hz1 .i64 .i64 n (by omega) (by rw[hz2];omega) (by unfold maxLen;omega) (Nat.le_refl _)
 refine⟨w',hm,?_,⟨gr.os,gr.tape,gr.output,gr.size,fun k hk=>gr.block k hk (by simp)⟩⟩
 have e:(madeCells (Value.int .u8 0).cells (n * 1)).toList=ints .u8 (List.replicate n 0):=by
  rw[show (Value.int .u8 0).cells=#[.int .u8 0] from rfl,toList_madeCells_one,Nat.mul_one]
  simp[ints]
 rw[e] at own
 rcases own.2 with⟨h0,-⟩|⟨g,cap,cur,hv,-,hh,h1,-,hs,ht⟩
 ·cases h0
 ·have hv2:w.heap.size=g∧n=cap:=by
   have:=hv
   simp only[Value.slice.injEq,Option.some.injEq,Addr.mk.injEq] at this
   omega
  obtain⟨hg,rfl⟩:=hv2
  rw[hg]
  have:cur=arr .u8 (List.replicate n 0):=by
   apply Array.toList_inj.1
   rw[List.take_of_length_le (by simp;omega)] at ht
   rw[ht]
   rfl
  rw[← this]
  exact hh
theorem Vu {w:World}{A:Option Addr}{n:Nat}{xs:List Int}(r:Rd w A n xs):0 < (ints .u8 xs).length→∃ ad,A=some ad∧∀ j v,(ints .u8 xs)[j]?=some v→w.cell? (ad.add j)=some v:=by
 intro hp
 obtain⟨h1,h2,h3⟩:=r
 rw[ints_len] at hp
 rcases h3 with h3|⟨b,o,rfl,hc⟩
 ·omega
 ·refine⟨_,rfl,fun j v hj=>?_⟩
  have hjl:j < xs.length:=by
   have:=(List.getElem?_eq_some_iff.1 hj).1
   rwa [ints_len] at this
  rw[Sha.ints_at _ _ _ hjl] at hj
  rw[← hj,show (⟨b,o,none⟩:Addr).add j=⟨b,o+j,none⟩ by cases j<;>simp[Addr.add]]
  exact hc j (by omega)
theorem Dn (k:IntKind) (l m:List Int) (o:Nat):splice (ints k l) o (ints k m)=ints k (splice l o m):=by
 simp[splice,ints,List.map_take,List.map_drop]
def Wr (w:World) (g:Nat) (T:TypeId) (n:Nat) (xs:List Int):Prop:=xs.length=n∧Bytes xs∧∃ cs,Blk w g T cs∧∀ i,i < n→cs[i]?=some (.int .u8 (at_ xs i))
theorem Wr.rd {w:World}{g n:Nat}{T:TypeId}{xs:List Int}(h:Wr w g T n xs):Rd w (some ⟨g,0,none⟩) n xs:=by
 obtain⟨h1,h2,cs,h3,h4⟩:=h
 exact⟨h1,h2,.inr ⟨g,0,rfl,fun i hi=>by rw[Nat.zero_add,h3.cell];exact h4 i hi⟩⟩
theorem Wr.lt {w:World}{g n:Nat}{T:TypeId}{xs:List Int}(h:Wr w g T n xs):g < w.heap.size:=by
 obtain⟨-,-,cs,h3,-⟩:=h
 exact h3.lt
theorem Wr.bar {w w':World}{g n:Nat}{T:TypeId}{xs:List Int}{l:List Nat}(h:Wr w g T n xs) (b:Bar l w w') (hg:g∉l):Wr w' g T n xs:=by
 obtain⟨h1,h2,cs,h3,h4⟩:=h
 exact⟨h1,h2,cs,h3.bar b hg,h4⟩
theorem Wr.cell {w:World}{g n:Nat}{T:TypeId}{xs:List Int}(h:Wr w g T n xs) (i:Nat) (hi:i < n):w.cell? ⟨g,i,none⟩=some (.int .u8 (at_ xs i)):=by
 obtain⟨-,-,cs,h3,h4⟩:=h
 rw[h3.cell];exact h4 i hi
theorem Wr.frozen {w:World}{g n:Nat}{T:TypeId}{xs:List Int}(h:Wr w g T n xs) (i:Nat):w.frozen? ⟨g,i,none⟩=false:=by
 obtain⟨-,-,cs,h3,-⟩:=h
 exact h3.frozen i
theorem Wr.set {w:World}{g n:Nat}{T:TypeId}{xs:List Int}(h:Wr w g T n xs) (i:Nat) (x:Int) (hx:0≤x∧x≤255):Wr (w.setCell ⟨g,i,none⟩ (.int .u8 x)) g T n (xs.set i x):=by
 obtain⟨h1,h2,cs,h3,h4⟩:=h
 refine⟨by simpa using h1,fun y hy=>?_,_,h3.set_ i _,fun j hj=>?_⟩
 ·rcases List.mem_or_eq_of_mem_set hy with h|h
  ·exact h2 y h
  ·rw[h];exact hx
 ·have hc:=h4 j hj
  have hjs:j < cs.size:=(Array.getElem?_eq_some_iff.1 hc).1
  rw[Array.getElem?_setIfInBounds,at_set _ _ _ _ (by omega)]
  by_cases hij:i=j
  ·subst hij;simp[hjs]
  ·rw[if_neg hij,if_neg hij];exact hc
theorem N8 {w:World}{b o n:Nat}{xs:List Int}(r:Rd w (some ⟨b,o,none⟩) n xs) (i:Nat) (hi:i < n):w.cell? ⟨b,o+i,none⟩=some (.int .u8 (at_ xs i)):=by
 rcases r.2.2 with h|⟨b',o',h,hc⟩
 ·omega
 ·injection h with h
  injection h with h1 h2
  subst h1 h2
  exact hc i hi
end Sha
namespace Sha
variable {P : Program} {f : FuncId} {fn : Func}
theorem sD (hf : P.funcs[f]? = some fn) (hname : (fn.name == "runtime.NumGoroutine") = false) (hb : fn.body.isNone = true) (hn : Extern.findNext fn = none)
  (he:Extern.find fn=some (Extern.Atomic.loadT .ptr)) {a:Addr} {x:Option Addr} {w:World} (hc:w.cell? a=some (.pointer x)) :
  (callFunc f #[.pointer (some a)]).run P w=.ok (.value (.pointer x)) w:=by
 rw[run_callFunc_extern hf hname hb hn he]
 change (Sem.run P (do Extern.Atomic.read .ptr (← asAddr (.pointer (some a)))) w).andThen _=_
 simp[Extern.Atomic.read,asAddr,hc,Result.andThen]
theorem rU (hf : P.funcs[f]? = some fn) (hname : (fn.name == "runtime.NumGoroutine") = false) (hb : fn.body.isNone = true) (hn : Extern.findNext fn = none)
  (he:Extern.find fn=some Extern.Atomic.storeT) {a:Addr} {y:Option Addr} {u:Value} {w:World} (hc:w.cell? a=some u) (hz:w.frozen? a=false) :
  (callFunc f #[.pointer (some a),.pointer y]).run P w=.ok (.value (.tuple #[])) (w.setCell a (.pointer y)):=by
 rw[run_callFunc_extern hf hname hb hn he]
 change (Sem.run P (do
  store (← asAddr (.pointer (some a))) (.pointer y) .atomic
  pure Extern.Atomic.none_) w).andThen _=_
 simp[asAddr,hc,hz,run_store P w a (.pointer y) .atomic rfl,Result.andThen,Extern.Atomic.none_]
theorem xg (hf : P.funcs[f]? = some fn) (hname : (fn.name == "runtime.NumGoroutine") = false) (hb : fn.body.isNone = true) (hn : Extern.findNext fn = none)
  (he:Extern.find fn=some (Extern.Atomic.casT .ptr)) {a b:Addr} {y:Option Addr} {w:World} (hc:w.cell? a=some (.pointer (some b))) (hz:w.frozen? a=false) :
  (callFunc f #[.pointer (some a),.pointer (some b),.pointer y]).run P w=.ok (.value (.bool true)) (w.setCell a (.pointer y)):=by
 rw[run_callFunc_extern hf hname hb hn he]
 change (Sem.run P (do
  let a' ← asAddr (.pointer (some a))
  if ← Extern.Atomic.touchesFrozen a' then unsupported (.unsafePointer "a write to bytes that a string shares")
  let eq ← match Extern.Atomic.T.ptr,← Extern.Atomic.read .ptr a',Value.pointer (some b) with
   | _,.int _ x,.int _ y=>pure (x == y)
   | .ptr,.pointer x,.pointer y=>samePointer x y
   | .int _,.pointer (some _),.int _ 0|.int _,.int _ 0,.pointer (some _)=>pure false
   | .int _,.pointer (some _),_|.int _,_,.pointer (some _)=>unsupported .addressObserved
   | _, _, _ => stuck "atomic.CompareAndSwap: old is no T"
  if eq then store a' (.pointer y) .atomic
  pure (Value.bool eq)) w).andThen _=_
 simp[Extern.Atomic.touchesFrozen,Extern.Atomic.read,asAddr,viewAt,World.shape?_isSome_of_cell? hc,hc,hz,samePointer,run_sameAddr_same,run_store P w a (.pointer y) .atomic rfl,Result.andThen]
end Sha
namespace Meter
open Go.RowKit Sha
def Me (w:World) (m:Nat) (cs:List Int):Prop:=cs.length=8∧∃ r,Blk w m 109 #[.pointer (some ⟨r,0,none⟩)]∧Blk w r 112 (arr .i64 cs)
def Mr (w:World) (m:Nat) (cs:List Int) (B:Nat):Prop:=cs.length=8∧∃ r,B≤r∧Blk w m 109 #[.pointer (some ⟨r,0,none⟩)]∧Blk w r 112 (arr .i64 cs)
theorem Mr.me {w:World}{m B:Nat}{cs:List Int}(h:Mr w m cs B):Me w m cs:=by
 obtain⟨h0,r,-,h1⟩:=h
 exact⟨h0,r,h1⟩
theorem Me.lt {w:World}{m:Nat}{cs:List Int}(h:Me w m cs):m < w.heap.size:=by
 obtain⟨-,r,h1,-⟩:=h
 exact h1.lt
theorem Me.other {w w':World}{m n:Nat}{cs ds:List Int}(h:Me w m cs) (k:Me w n ds) (hne:m≠n) (b:Bar [n] w w'):Me w' m cs:=by
 obtain⟨h0,r,h1,h2⟩:=h
 obtain⟨-,s,k1,-⟩:=k
 refine⟨h0,r,h1.bar b (by simpa using hne),h2.bar b ?_⟩
 have:=iP h2 k1 (by decide)
 simpa using this
theorem Me.below {w w':World}{m:Nat}{cs:List Int}(h:Me w m cs) (b:Below w.heap.size w w'):Me w' m cs:=by
 obtain⟨h0,r,h1,h2⟩:=h
 exact⟨h0,r,h1.below b h1.lt,h2.below b h2.lt⟩
theorem Dq (r:Nat) (w:World) (l:List Int) (h:Blk w r 112 (arr .i64 l)) (hl:l.length=8):(convert 105 103 (.pointer (some ⟨r,0,none⟩))).run Tryz.prog w=.ok (.pointer (some ⟨r,0,none⟩)) w:=by
 obtain⟨j,hj⟩:=Option.isSome_iff_exists.1 (show (Tryz.prog.info? 112).isSome=true by kernel_rfl)
 refine Lib.run_from_unsafe (u:=112) (e:=112) (cells:=8) w ⟨r,0,none⟩ Tryz.underlying105 Tryz.underlying103 hj ?_ (by kernel_rfl)
 unfold Blk at h
 simp[World.shape?,h,au,hl]
theorem rV (r:Nat) (w:World) (l:List Int) (h:Blk w r 112 (arr .i64 l)) (hl:l.length=8):(convert 103 105 (.pointer (some ⟨r,0,none⟩))).run Tryz.prog w=.ok (.pointer (some ⟨r,0,none⟩)) w :=
 run_convert_to_unsafe Tryz.underlying103 Tryz.underlying105 (by kernel_rfl) (h.at_ 0 (by omega))
theorem kN (m r:Nat) (w:World) (l:List Int) (hl:l.length=8) (hc:w.cell? ⟨m,0,none⟩=some (.pointer (some ⟨r,0,none⟩))) (hr:Blk w r 112 (arr .i64 l)) :
  Calls Tryz.prog 59 #[.pointer (some ⟨m,0,none⟩)] w fun e w'=>e=.returned (.pointer (some ⟨r,0,none⟩))∧w=w':=by
 have hl:=sD (P:=Tryz.prog) Tryz.func100 (by kernel_rfl) (by kernel_rfl) (by kernel_rfl) (by kernel_rfl) hc
 have hcv:=Dq r w l hr (by assumption)
 go_enter Tryz.func59,Tryz.ntmps59
 go_wp2
 go_ret
 exact⟨rfl,rfl⟩
theorem zg (m r:Nat) (w:World) (u:Value) (l:List Int) (hl:l.length=8) (hc:w.cell? ⟨m,0,none⟩=some u) (hz:w.frozen? ⟨m,0,none⟩=false) (hr:Blk w r 112 (arr .i64 l)) :
  Calls Tryz.prog 43 #[.pointer (some ⟨m,0,none⟩),.pointer (some ⟨r,0,none⟩)] w fun e w'=>e=.returned (.tuple #[])∧w'=w.setCell ⟨m,0,none⟩ (.pointer (some ⟨r,0,none⟩)):=by
 have hst:=rU (P:=Tryz.prog) Tryz.func77 (by kernel_rfl) (by kernel_rfl) (by kernel_rfl) (by kernel_rfl) (y:=some ⟨r,0,none⟩) hc hz
 have hcv:=rV r w l hr hl
 go_enter Tryz.func43,Tryz.ntmps43
 go_wp2
 go_end0
 exact⟨rfl,rfl⟩
theorem Vw (m r s:Nat) (w:World) (l k:List Int) (hl:l.length=8) (hk:k.length=8) (hc:w.cell? ⟨m,0,none⟩=some (.pointer (some ⟨r,0,none⟩))) (hz:w.frozen? ⟨m,0,none⟩=false) (hr:Blk w r 112 (arr .i64 l)) (hs:Blk w s 112 (arr .i64 k)) :
  Calls Tryz.prog 141 #[.pointer (some ⟨m,0,none⟩),.pointer (some ⟨r,0,none⟩),.pointer (some ⟨s,0,none⟩)] w fun e w'=>e=.returned (.bool true)∧w'=w.setCell ⟨m,0,none⟩ (.pointer (some ⟨s,0,none⟩)):=by
 have hst:=xg (P:=Tryz.prog) Tryz.func183 (by kernel_rfl) (by kernel_rfl) (by kernel_rfl) (by kernel_rfl) (y:=some ⟨s,0,none⟩) hc hz
 have hcv:=rV r w l hr hl
 have hcv2:=rV s w k hs hk
 go_enter Tryz.func141,Tryz.ntmps141
 go_wp2
 go_ret
 exact⟨rfl,rfl⟩
def inK (k:Int):Bool:=decide (0≤k∧k < 8)
theorem Vx {k:Int}(h0:0≤k) (h8:k < 8):inK k=true:=by simp[inK,h0,h8]
theorem Vy {k:Int}(h0:k < 0):inK k=false:=by unfold inK;rw[decide_eq_false_iff_not];omega
theorem Rq {k:Int}(h8:8≤k):inK k=false:=by unfold inK;rw[decide_eq_false_iff_not];omega
theorem Tt {k:Int}(h:inK k=true):∃ i:Nat,k=i∧i < 8:=by
 unfold inK at h
 rw[decide_eq_true_iff] at h
 exact⟨k.toNat,by omega,by omega⟩
theorem rW (k:Int) (w:World):Calls Tryz.prog 58 #[.int .i64 k] w fun e w'=>e=.returned (.bool (inK k))∧w=w':=by
 by_cases h0:k < 0
 ·rw[Vy h0]
  have h0':¬ 0≤k:=by omega
  go_enter Tryz.func58,Tryz.ntmps58
  go_wp2
  go_ret
  exact⟨rfl,rfl⟩
 ·have h0':0≤k:=by omega
  by_cases h8:k < 8
  ·rw[Vx h0' h8]
   go_enter Tryz.func58,Tryz.ntmps58
   go_wp2
   go_ret
   exact⟨rfl,rfl⟩
  ·rw[Rq (by omega)]
   go_enter Tryz.func58,Tryz.ntmps58
   go_wp2
   go_ret
   exact⟨rfl,rfl⟩
def r64 (x:Int):Int:=wrap64 x
theorem enters {P : Program} {f : FuncId} {fn : Func} (hf : P.funcs[f]? = some fn) (hname : (fn.name == "runtime.NumGoroutine") = false) (hb : fn.body.isSome = true) (args : Array Value) (w : World) :
  (callFunc f args).run P w=.ok (.enter f args) w:=by
 obtain⟨c,hc⟩:=Option.isSome_iff_exists.1 hb
 have h1 : fn.name ≠ "runtime.NumGoroutine" := by simpa using hname
 simp[callFunc,hf,h1,hc]
def Next (K:FuncId) (nb:Nat) (n:Int) (g:Int→Int):Prop :=
 (∀ args w,(callFunc K args).run Tryz.prog w=.ok (.enter K args) w)∧∀ (w:World) (x:Int),w.cell? ⟨nb,0,none⟩=some (.int .i64 n)→Calls Tryz.prog K #[.int .i64 x,.pointer (some ⟨nb,0,none⟩)] w fun e w'=>e=.returned (.int .i64 (g x))∧w=w'
theorem Rt (nb:Nat) (n:Int):Next 99 nb n fun x=>r64 (x+n):=by
 refine⟨enters Tryz.func99 (by kernel_rfl) (by kernel_rfl),?_⟩
 intro w x hc
 go_enter Tryz.func99,Tryz.ntmps99
 go_wp2
 go_ret
 exact⟨rfl,rfl⟩
def N9 (w:World) (m:Nat) (cs:List Int) (k:Nat) (x:Int) (e:Ending) (w':World):Prop :=
 e=.returned (.tuple #[.int .i64 (at_ cs k),.int .i64 x])∧Mr w' m (cs.set k x) w.heap.size∧Bar [m] w w'
theorem Iq (m k nb:Nat) (cs:List Int) (K:FuncId) (n:Int) (g:Int→Int) (w:World) (hm:Me w m cs) (hk:k < 8) (hK:Next K nb n g) (hn:w.cell? ⟨nb,0,none⟩=some (.int .i64 n)) :
  Calls Tryz.prog 98 #[.pointer (some ⟨m,0,none⟩),.int .i64 k,.func (.func K) #[] #[.pointer (some ⟨nb,0,none⟩)]] w (N9 w m cs k (g (at_ cs k))):=by
 obtain⟨h8,r,h1,h2⟩:=hm
 have hent:=hK.1
 have hk8:(k:Int) < 8:=by omega
 have c1:=ae.mk (kN m r w cs h8 (h1.cell 0) h2)
 have L8:=ae.mk h8
 have H1:=ae.mk h1
 have H2:=ae.mk h2
 have HN:=ae.mk hn
 obtain⟨N,hN⟩:∃ N,w.heap.size=N:=⟨_,rfl⟩
 have EN:=ae.mk hN
 clear h1 h2 h8 hn hN
 go_enter Tryz.func98,Tryz.ntmps98
 go_wp2_with fail
 refine wp_loop_rounds 1 ?_
 rw[rounds_succ]
 go_wp2_with fail
 refine c1.out.mono ?_
 rintro e w' ⟨rfl,rfl⟩
 clear c1
 go_upto_region 3 with(first|((with_reducible refine sel 16 ?_);refine wpList_load_row rfl 112 (.tmp 15) rfl r rfl 112 _ (0,0) _ H2.out Tryz.underlying112 rfl (by rw[au,L8.out];kernel_rfl) ?_)|((with_reducible refine selS 112 (.tmp 9) (.tmp 16) ?_);refine wpList_store_row rfl 112 (.tmp 9) (.tmp 16) rfl w.heap.size (arr .i64 cs) rfl rfl 112 _ (Blk.new _ _ _) (by rw[au,L8.out];kernel_rfl) (by rw[au,L8.out];rfl) (all_oneCell_toArray (ay _ _)) ?_;rw[EN.out];refine uC (fun w'=>ae (Blk w' N 112 (arr .i64 cs))∧ae (Below N w w')) ⟨⟨?_⟩,⟨?_⟩⟩ (fun w1 hw1=>?_)))
 case refine_1=>exact EN.out▸(Blk.new w _ _).row _
 case refine_2=>exact below_setRow ((Below.refl _ _).alloc (by have:=EN.out;omega) _) (Nat.le_refl _) _
 obtain⟨k1,b1⟩:=hw1
 have hne:m≠N:=by have:=H1.out.lt;have:=EN.out;omega
 have hne2:r≠N:=by have:=H2.out.lt;have:=EN.out;omega
 replace H1:=ae.mk (H1.out.below b1.out (by have:=H1.out.lt;have:=EN.out;omega))
 replace H2:=ae.mk (H2.out.below b1.out (by have:=H2.out.lt;have:=EN.out;omega))
 replace HN:ae (w1.cell? ⟨nb,0,none⟩=some (.int .i64 n)):=⟨by
  rw[b1.out.cell (by have:=World.block_lt_of_cell? _ _ HN.out;have:=EN.out;omega)];exact HN.out⟩
 have hc:=H2.out.at_ k (by rw[L8.out];exact hk)
 go_wp2_with fail
 refine(hK.2 w1 _ HN.out).mono ?_
 rintro e w' ⟨rfl,rfl⟩
 have HC:=ae.mk hc
 clear hc
 have x1:=k1.out.at_ k (by rw[L8.out];exact hk)
 have x2:=k1.out.frozen k
 have EX:=ae.mk (show at_ (cs.set k (g (at_ cs k))) k=g (at_ cs k) by rw[at_set _ _ _ _ (by rw[L8.out];exact hk),if_pos rfl])
 have LS:ae ((cs.set k (g (at_ cs k))).length=8):=⟨by rw[List.length_set];exact L8.out⟩
 have k2:=k1.out.set_ k (.int .i64 (g (at_ cs k)))
 rw[bi] at k2
 have b2:=b1.out.setCell (p:=⟨N,k,none⟩) (Nat.le_refl _) (.int .i64 (g (at_ cs k)))
 have H1':=H1.out.far hne (p:=⟨N,k,none⟩) (.int .i64 (g (at_ cs k)))
 have H2':=H2.out.far hne2 (p:=⟨N,k,none⟩) (.int .i64 (g (at_ cs k)))
 generalize g (at_ cs k)=x at *
 have K2:=ae.mk k2;have B2:=ae.mk b2;replace H1:=ae.mk H1';replace H2:=ae.mk H2'
 clear k1 b1 k2 b2 H1' H2'
 go_wp2_with fail
 refine(Vw m r N _ cs (cs.set k x) L8.out LS.out (H1.out.cell 0) (H1.out.frozen 0) H2.out K2.out).mono ?_
 rintro e w' ⟨rfl,rfl⟩
 have H3:=H1.out.set_ 0 (.pointer (some ⟨N,0,none⟩))
 have K3:=K2.out.far (Ne.symm hne) (p:=⟨m,0,none⟩) (.pointer (some ⟨N,0,none⟩))
 have H4:=H2.out.far (p:=⟨m,0,none⟩) (show r≠m from(iP H2.out H1.out (by decide))) (.pointer (some ⟨N,0,none⟩))
 have B3:=(barOf (by rw[EN.out];exact B2.out) [m]).setCell (p:=⟨m,0,none⟩) (by simp) (.pointer (some ⟨N,0,none⟩))
 clear x1 x2
 generalize ((w1.setCell ⟨N,k,none⟩ (.int .i64 x)).setCell ⟨m,0,none⟩ (.pointer (some ⟨N,0,none⟩)))=w3 at *
 have y1:=H4.at_ k (by rw[L8.out];exact hk)
 have y2:=K3.at_ k (by rw[LS.out];exact hk)
 rw[EX.out] at y2
 replace H3:=ae.mk H3;replace K3:=ae.mk K3;replace B3:=ae.mk B3
 clear H4
 go_wp2_with fail
 go_quiet (fail)
 go_wp2
 go_ret2
 exact⟨rfl,⟨LS.out,N,by rw[EN.out];exact Nat.le_refl _,H3.out.drewN _,K3.out.drewN _⟩,B3.out.drewN _⟩
def getC (cs:List Int) (k:Int):Int:=if inK k=true then at_ cs k.toNat else 0
def setC (cs:List Int) (k x:Int):List Int:=if inK k=true then cs.set k.toNat x else cs
theorem xh (w:World):Calls Tryz.prog 20 #[] w fun e w'=>∃ m,e=.returned (.pointer (some ⟨m,0,none⟩))∧Mr w' m (List.replicate 8 0) w.heap.size∧w.heap.size≤m∧Below w.heap.size w w':=by
 obtain⟨N,hN⟩:∃ N,w.heap.size=N:=⟨_,rfl⟩
 have EN:=ae.mk hN
 have h1:Blk (w.alloc (.cells #[.pointer none] 109)) N 109 #[.pointer none]:=Blk.new_at _ _ _ _ hN.symm
 have h2:=h1.alloc (.cells (arr .i64 (List.replicate 8 0)) 112)
 have h3:Blk ((w.alloc (.cells #[.pointer none] 109)).alloc (.cells (arr .i64 (List.replicate 8 0)) 112)) (N+1) 112 (arr .i64 (List.replicate 8 0)):=Blk.new_at _ _ _ _ (by simp[hN])
 have b:Below N w ((w.alloc (.cells #[.pointer none] 109)).alloc (.cells (arr .i64 (List.replicate 8 0)) 112)):=((Below.refl _ _).alloc (by omega) _).alloc (by simp;omega) _
 have c:=ae.mk (zg N (N+1) _ _ _ rfl (h2.cell 0) (h2.frozen 0) h3)
 have H2:=ae.mk h2;have H3:=ae.mk h3;have B:=ae.mk b
 clear h1 h2 h3 b hN
 go_enter Tryz.func20,Tryz.ntmps20
 go_wp2_with fail
 rw[EN.out]
 refine c.out.mono ?_
 rintro e w' ⟨rfl,rfl⟩
 have h4:=H2.out.set_ 0 (.pointer (some ⟨N+1,0,none⟩))
 have h5:=H3.out.far (p:=⟨N,0,none⟩) (by simp) (.pointer (some ⟨N+1,0,none⟩))
 have b4:=B.out.setCell (p:=⟨N,0,none⟩) (Nat.le_refl _) (.pointer (some ⟨N+1,0,none⟩))
 go_wp2
 go_ret
 exact⟨N,rfl,⟨rfl,N+1,by rw[EN.out];omega,h4,h5⟩,Nat.le_of_eq EN.out,by rw[EN.out];exact b4⟩
theorem new_any (w:World):Calls Tryz.prog 20 #[] w fun e w'=>∃ m,e=.returned (.pointer (some ⟨m,0,none⟩))∧Me w' m (List.replicate 8 0)∧w.heap.size≤m∧Below w.heap.size w w' :=
 (xh w).mono (fun _ _ ⟨m,h1,h2,h3⟩=>⟨m,h1,h2.me,h3⟩)
theorem get_any (m:Nat) (k:Int) (cs:List Int) (w:World) (hm:Me w m cs):Calls Tryz.prog 27 #[.pointer (some ⟨m,0,none⟩),.int .i64 k] w fun e w'=>e=.returned (.int .i64 (getC cs k))∧w=w':=by
 obtain⟨h8,r,h1,h2⟩:=hm
 have c0:=ae.mk (rW k w)
 have c1:=ae.mk (kN m r w cs h8 (h1.cell 0) h2)
 cases hk:inK k with
 | true =>
  rw[hk] at c0
  obtain⟨i,rfl,hi⟩:=Tt hk
  have hx:=h2.at_ i (by omega)
  rw[show getC cs i=at_ cs i by unfold getC;rw[if_pos hk];rfl]
  have hi8:(i:Int) < 8:=by omega
  have H:=ae.mk hx
  clear h1 h2 h8 hk hx
  go_enter Tryz.func27,Tryz.ntmps27
  go_wp2_with fail
  refine c0.out.mono ?_
  rintro e w' ⟨rfl,rfl⟩
  go_wp2_with fail
  refine c1.out.mono ?_
  rintro e w' ⟨rfl,rfl⟩
  have hx:=H.out
  go_wp2
  go_ret
  exact⟨rfl,rfl⟩
 | false =>
  rw[hk] at c0
  rw[show getC cs k=0 by unfold getC;rw[if_neg (by rw[hk];decide)]]
  clear h1 h2 h8 hk c1
  go_enter Tryz.func27,Tryz.ntmps27
  go_wp2_with fail
  refine c0.out.mono ?_
  rintro e w' ⟨rfl,rfl⟩
  go_wp2
  go_ret
  exact⟨rfl,rfl⟩
def rX (w:World) (m:Nat) (cs:List Int) (k n:Int) (e:Ending) (w':World):Prop :=
 e=.returned (.bool (inK k))∧Me w' m (setC cs k (r64 (getC cs k+n)))∧Bar [m] w w'
def jG (w:World) (m:Nat) (cs:List Int) (k n:Int) (e:Ending) (w':World):Prop:=rX w m cs k n e w'∧(inK k=true→Mr w' m (setC cs k (r64 (getC cs k+n))) w.heap.size)
theorem Oc (m:Nat) (k n:Int) (cs:List Int) (w:World) (hm:Me w m cs):Calls Tryz.prog 56 #[.pointer (some ⟨m,0,none⟩),.int .i64 k,.int .i64 n] w (jG w m cs k n):=by
 have hmf:∀ (fn:Fn) (first cap:Array Value) (w:World),(Instr.makeFunc fn first cap).run Tryz.prog w=.ok (.func fn first cap) w:=fun _ _ _ _=>rfl
 have c0:=ae.mk (rW k (w.alloc (.cells #[.int .i64 n] 3)))
 have m1:=hm.below ((Below.refl w.heap.size w).alloc (Nat.le_refl _) (.cells #[.int .i64 n] 3))
 have b1:=(Bar.refl [m] w).alloc (.cells #[.int .i64 n] 3)
 have hn:(w.alloc (.cells #[.int .i64 n] 3)).cell? ⟨w.heap.size,0,none⟩=some (.int .i64 n):=(Blk.new w _ _).cell 0
 have M1:=ae.mk m1;have B1:=ae.mk b1;have HN:=ae.mk hn
 clear hm m1 b1 hn
 cases hk:inK k with
 | true =>
  rw[hk] at c0
  obtain⟨i,rfl,hi⟩:=Tt hk
  have P1:∀ e w',N9 (w.alloc (.cells #[.int .i64 n] 3)) m cs i (r64 (at_ cs i+n)) e w'→ae (e=.returned (.tuple #[.int .i64 (at_ cs i),.int .i64 (r64 (at_ cs i+n))]))∧ae (jG w m cs i n (.returned (.bool true)) w'):=by
   rintro e w' ⟨he,me,b⟩
   refine⟨⟨he⟩,⟨?_⟩⟩
   unfold jG rX setC getC
   simp only[hk,if_true]
   refine⟨⟨by trivial,me.me,B1.out.trans b (by simp)⟩,fun _=>?_⟩
   obtain⟨h0,r,h1,h2⟩:=me
   exact⟨h0,r,by simp at h1;omega,h2⟩
  have c1:=ae.mk (Iq m i w.heap.size cs 99 n (fun x=>r64 (x+n)) _ M1.out hi (Rt _ n) HN.out)
  clear hk HN M1 B1
  go_enter Tryz.func56,Tryz.ntmps56
  go_wp2_with fail
  refine c0.out.mono ?_
  rintro e w' ⟨rfl,rfl⟩
  go_wp2_with fail
  refine c1.out.mono ?_
  rintro e w' he
  obtain⟨⟨rfl⟩,he2⟩:=P1 _ _ he
  clear c0 c1 P1 he
  go_wp2
  go_ret
  exact he2.out
 | false =>
  rw[hk] at c0
  have P1:ae (jG w m cs k n (.returned (.bool false)) (w.alloc (.cells #[.int .i64 n] 3))):=by
   constructor
   unfold jG rX setC getC
   simp only[hk,Bool.false_eq_true,if_false]
   exact⟨⟨by trivial,M1.out,B1.out⟩,fun h=>absurd h (by simp)⟩
  clear hk HN M1 B1
  go_enter Tryz.func56,Tryz.ntmps56
  go_wp2_with fail
  refine c0.out.mono ?_
  rintro e w' ⟨rfl,rfl⟩
  go_wp2
  go_ret
  exact P1.out
theorem add_any (m:Nat) (k n:Int) (cs:List Int) (w:World) (hm:Me w m cs):Calls Tryz.prog 56 #[.pointer (some ⟨m,0,none⟩),.int .i64 k,.int .i64 n] w (rX w m cs k n) :=
 (Oc m k n cs w hm).mono (fun _ _ h=>h.1)
end Meter
namespace Sha
open Go.RowKit
def Ru (n:Nat) (xs:List Int) (w:World) (e:Ending) (w':World):Prop:=∃ v,e=.returned v∧w'.ownsRow w.heap.size 5 1 v n (ints .u8 xs)∧Below w.heap.size w w'
theorem pV (A:Option Addr) (n cap:Nat) (xs:List Int) (w:World) (hr:Rd w A n xs) (hn:n < 2147483648) :
  Calls Tryz.prog 33 #[.slice A n cap] w (Ru n xs w):=by
 obtain⟨N,hN⟩:∃ N,w.heap.size=N:=⟨_,rfl⟩
 have HR:=ae.mk (hr.keep (l:=[]) ((Bar.refl [] w).alloc (.cells #[] 5)) (by simp))
 have hown:=World.ownsRow_made (base:=N) (e:=5) (size:=1) w #[] 0 (by omega) (by unfold maxLen;omega) rfl
 rw[hN] at hown
 have bel:Below N w (w.alloc (.cells #[] 5)):=(Below.refl _ _).alloc (by omega) _
 have Own:=ae.mk hown
 have Bel:=ae.mk bel
 clear hown bel hr
 go_enter Tryz.func33,Tryz.ntmps33
 go_wp2_with ((with_reducible refine sel 5 ?_);refine ai rfl (.tmp 3) (.tmp 4) 22 rfl N 5 Tryz.underlying22 ax (.slice (some ⟨N,0,none⟩) 0 0) 0 [] rfl Own.out A n cap xs rfl HR.out (by omega) (by simp[hN]) ?_;intro v' w' ho hg)
 go_ret
 refine⟨v',rfl,?_,?_⟩
 ·have:=ho.out
  simpa [hN] using this
 ·rw[hN];exact Bel.out.grown hg (by simp;omega) (by intro k hk;injection hk with hk;simp at hk;omega)
end Sha
namespace Seal
open Go.RowKit Sha Wire
theorem FH (p h y s:Int) (bd:List Int) (A:Option Addr) (l c:Nat) (w:World) :
  Calls Tryz.prog 181 #[.agg #[.int .i64 p,.int .i64 h,.int .i64 y,.int .i64 s,.slice A l c]] w fun e w'=>e=.returned (.bool (decide (wayN ⟨p,h,y,s,bd⟩)))∧Below w.heap.size w w':=by
 have B:ae (Below w.heap.size w (w.alloc (.cells #[.int .i64 p,.int .i64 h,.int .i64 y,.int .i64 s,.slice A l c] 54))):=⟨(Below.refl _ _).alloc (Nat.le_refl _) _⟩
 by_cases h1:0≤p
 rotate_left
 ·rw[show decide (wayN ⟨p,h,y,s,bd⟩)=false from decide_eq_false (by unfold wayN;dsimp only;omega)]
  go_enter Tryz.func181,Tryz.ntmps181
  go_wp2
  go_ret
  exact⟨rfl,B.out⟩
 by_cases h2:p < 16
 rotate_left
 ·rw[show decide (wayN ⟨p,h,y,s,bd⟩)=false from decide_eq_false (by unfold wayN;dsimp only;omega)]
  go_enter Tryz.func181,Tryz.ntmps181
  go_wp2
  go_ret
  exact⟨rfl,B.out⟩
 by_cases h3:h=0
 ·subst h3
  by_cases h4:y=0
  ·subst h4
   rw[show decide (wayN ⟨p,0,0,s,bd⟩)=true from decide_eq_true (by unfold wayN;dsimp only;omega)]
   go_enter Tryz.func181,Tryz.ntmps181
   go_wp2
   go_ret
   exact⟨rfl,B.out⟩
  ·have h4':(y == 0)=false:=by simpa using h4
   by_cases h5:y=1
   ·subst h5
    rw[show decide (wayN ⟨p,0,1,s,bd⟩)=true from decide_eq_true (by unfold wayN;dsimp only;omega)]
    go_enter Tryz.func181,Tryz.ntmps181
    go_wp2
    go_ret
    exact⟨rfl,B.out⟩
   ·have h5':(y == 1)=false:=by simpa using h5
    rw[show decide (wayN ⟨p,0,y,s,bd⟩)=false from decide_eq_false (by unfold wayN;dsimp only;omega)]
    clear h4 h5
    go_enter Tryz.func181,Tryz.ntmps181
    go_wp2
    go_ret
    exact⟨rfl,B.out⟩
 ·have h3':(h == 0)=false:=by simpa using h3
  by_cases h6:h=1
  ·subst h6
   by_cases h4:y=0
   ·subst h4
    rw[show decide (wayN ⟨p,1,0,s,bd⟩)=true from decide_eq_true (by unfold wayN;dsimp only;omega)]
    go_enter Tryz.func181,Tryz.ntmps181
    go_wp2
    go_ret
    exact⟨rfl,B.out⟩
   ·have h4':(y == 0)=false:=by simpa using h4
    by_cases h5:y=1
    ·subst h5
     rw[show decide (wayN ⟨p,1,1,s,bd⟩)=true from decide_eq_true (by unfold wayN;dsimp only;omega)]
     go_enter Tryz.func181,Tryz.ntmps181
     go_wp2
     go_ret
     exact⟨rfl,B.out⟩
    ·have h5':(y == 1)=false:=by simpa using h5
     rw[show decide (wayN ⟨p,1,y,s,bd⟩)=false from decide_eq_false (by unfold wayN;dsimp only;omega)]
     clear h4 h5
     go_enter Tryz.func181,Tryz.ntmps181
     go_wp2
     go_ret
     exact⟨rfl,B.out⟩
  ·have h6':(h == 1)=false:=by simpa using h6
   rw[show decide (wayN ⟨p,h,y,s,bd⟩)=false from decide_eq_false (by unfold wayN;dsimp only;omega)]
   clear h3 h6
   go_enter Tryz.func181,Tryz.ntmps181
   go_wp2
   go_ret
   exact⟨rfl,B.out⟩
end Seal
namespace Purse
open Go.RowKit Sha Num
def twoX (a b:Int) (r:Nat):List Int:=if r=0 then [a] else [b]
def twoW (w:World) (a b:Int):World:=((w.alloc (.cells #[.int .i64 a] 3)).alloc (.cells #[.int .i64 b] 3)).alloc (.cells #[.slice (some ⟨w.heap.size,0,none⟩) 1 1,.slice (some ⟨w.heap.size+1,0,none⟩) 1 1] 38)
theorem Ir (w:World) (a b:Int):Below w.heap.size w (twoW w a b):=(((Below.refl _ w).alloc (Nat.le_refl _) _).alloc (by simp) _).alloc (by simp;omega) _
theorem Rw (w:World) (a b:Int):Rwi (twoW w a b) (some ⟨w.heap.size+2,0,none⟩) 2 (twoX a b):=by
  refine .inr ⟨_,_,rfl,fun r hr=>?_⟩
  have h1:Blk (twoW w a b) w.heap.size 3 #[.int .i64 a]:=((Blk.new w 3 #[.int .i64 a]).alloc _).alloc _
  have h2:Blk (twoW w a b) (w.heap.size+1) 3 #[.int .i64 b]:=(Blk.new_at (w.alloc (.cells #[.int .i64 a] 3)) 3 #[.int .i64 b] (w.heap.size+1) (by simp)).alloc _
  have h3:Blk (twoW w a b) (w.heap.size+2) 38 #[.slice (some ⟨w.heap.size,0,none⟩) 1 1,.slice (some ⟨w.heap.size+1,0,none⟩) 1 1]:=Blk.new_at ((w.alloc (.cells #[.int .i64 a] 3)).alloc (.cells #[.int .i64 b] 3)) _ _ _ (by simp)
  match r,hr with
  | 0,_=>exact⟨_,1,1,h3.cell 0,by omega,by omega,rfl,.inr ⟨_,0,rfl,fun i hi=>by
      obtain rfl:i=0:=by omega
      exact h1.cell 0⟩⟩
  | 1,_=>exact⟨_,1,1,h3.cell 1,by omega,by omega,rfl,.inr ⟨_,0,rfl,fun i hi=>by
      obtain rfl:i=0:=by omega
      exact h2.cell 0⟩⟩
def Xu (a b:Int):Bool:=(aZ 0 [a,b]).isSome
theorem Vz (a b:Int):col (twoX a b) 2 0=[a,b]:=rfl
theorem Xv {a b:Int}(h:Xu a b=true):mG 2 (twoX a b) :=
 ⟨⟨by omega,by omega⟩,⟨by simp[twoX],by simp[twoX]⟩,fun i _=>by unfold twoX;split<;>simp,fun q hq=>by
  have hl:(twoX a b 0).length=1:=rfl
  obtain rfl:q=0:=by omega
  rw[Vz]
  simp only[sumE]
  rw[show (aZ 0 [a,b]).isSome=true from h]
  rfl⟩
end Purse
namespace Sha
open Go.RowKit
section
variable {α : Type} {C : α → List Value} {z : Nat}
theorem VA {w:World}{ad:Addr}{n:Nat}{l:List α}(hC:∀ x,(C x).length=z) (hz:0 < z) (h:Rc C z w (some ad) n l):∀ j u,(l.flatMap C)[j]?=some u→w.cell? (ad.add j)=some u:=by
 intro j u hj
 have hlt:=(List.getElem?_eq_some_iff.1 hj).1
 rw[rO C z hC] at hlt
 have hk:j / z < l.length:=(Nat.div_lt_iff_lt_mul hz).2 hlt
 have hm:j % z < z:=Nat.mod_lt _ hz
 have e:j / z * z+j % z=j:=by rw[Nat.mul_comm];exact Nat.div_add_mod j z
 rcases h.2 with h0|⟨b,o,hA,hc⟩
 ·have:=h.1;rw[this,h0,Nat.zero_mul] at hlt;omega
 ·injection hA with hA
  subst hA
  have hx:l[j / z]?=some (l[j / z]'hk):=List.getElem?_eq_getElem _
  have h1:=wY C z hC l (j / z) (j % z) _ hx hm
  rw[e,hj] at h1
  have h2:=hc (j / z) _ hx (j % z) u h1.symm
  rw[Nat.add_assoc,e] at h2
  rw[show (⟨b,o,none⟩:Addr).add j=⟨b,o+j,none⟩ by cases j<;>simp[Addr.add]]
  exact h2
theorem Ae {P:Program}{w:World}{o:Oper}{a:Act}{K:Act→World→Prop}{Q:Exit→Act→World→Prop}(s x:Operand) (t:TypeId)
  (ho:o.op=.call { callee:=.builtin .append,args:=#[s,x],argTypes:=#[t,t] })
  (base:Nat) (e:TypeId) (i:TypeInfo) (zv:Value) (bytes:Nat) (ht:P.underlying t=some (.slice e)) (hi:P.info? e=some i) (hz:i.zero=some zv)
  (hsize:i.size=z) (hby:i.bytes=bytes) (hzs:zv.cells.size=z) (hsz:0 < z)
  (v:Value) (n:Nat) (xs:List Value) (hs:a.eval s=v) (hown:w.ownsRow base e z v n xs)
  (A:Option Addr) (m c:Nat) (l:List α) (hx:a.eval x=.slice A m c) (hr:Rc C z w A m l) (hC:∀ x,(C x).length=z) (h1:∀ x,∀ u∈C x,u.oneCell'=true)
  (h63:n+m≤maxLen) (hbytes:(n+m) * bytes≤140737488355328) (hbase:base≤w.heap.size)
  (h:∀ v' w',w'.ownsRow base e z v' (n+m) (xs++l.flatMap C)→w.grownBy w' v.ownBlock→(v'.ownBlock=v.ownBlock∨v'.ownBlock=some w.heap.size)→K (a.put o.dst v') w'):o.wp P a w K Q:=by
 cases A with
 | none =>
  have h0:m=0:=by
   rcases hr.2 with h3|⟨_,_,h4,_⟩
   ·exact h3
   ·cases h4
  subst h0
  obtain rfl:l=[]:=List.eq_nil_of_length_eq_zero hr.1
  have hrun:=aN (P:=P) w base t o.type e i z ht hi v n xs hown c
  unfold Oper.wp execOp
  simp only[ho,resolve,invoke,builtin,Sem.run_bind,Sem.run_pure,Result.andThen_ok,List.map_toArray,List.map_cons,List.map_nil,hs,hx,hrun]
  exact h v w (by simpa using hown) (World.grownBy.refl _ _) (.inl rfl)
 | some ad =>
  obtain⟨v',w',hrun,h2,h3,_,h5⟩:=run_append_own_at (P:=P) w base t o.type e i zv z bytes ht hi hz hsize hby hzs hsz v n xs hown ad m c (l.flatMap C) (by rw[rO C z hC,hr.1]) (VA hC hsz hr) (fun u hu=>by obtain⟨y,-,hy⟩:=List.mem_flatMap.1 hu;exact h1 y u hy) h63 hbytes hbase
  unfold Oper.wp execOp
  simp only[ho,resolve,invoke,builtin,Sem.run_bind,Sem.run_pure,Result.andThen_ok,List.map_toArray,List.map_cons,List.map_nil,hs,hx,hrun]
  exact h v' w' h2 h3 h5
theorem sF {P:Program}{w:World}{ops:Array Oper}{o:Oper}{a:Act}{K:Act→World→Prop}{Q:Exit→Act→World→Prop}{E:Prop}(hgd:o.guard=none) (s x:Operand) (t:TypeId)
  (ho:o.op=.call { callee:=.builtin .append,args:=#[s,x],argTypes:=#[t,t] })
  (base:Nat) (e:TypeId) (i:TypeInfo) (zv:Value) (bytes:Nat) (ht:P.underlying t=some (.slice e)) (hi:P.info? e=some i) (hz:i.zero=some zv)
  (hsize:i.size=z) (hby:i.bytes=bytes) (hzs:zv.cells.size=z) (hsz:0 < z)
  (v:Value) (n:Nat) (xs:List Value) (hs:a.eval s=v) (hown:w.ownsRow base e z v n xs)
  (A:Option Addr) (m c:Nat) (l:List α) (hx:a.eval x=.slice A m c) (hr:Rc C z w A m l) (hC:∀ x,(C x).length=z) (h1:∀ x,∀ u∈C x,u.oneCell'=true)
  (h63:n+m≤maxLen) (hbytes:(n+m) * bytes≤140737488355328) (hbase:base≤w.heap.size)
  (h:∀ v' w',w'.ownsRow base e z v' (n+m) (xs++l.flatMap C)→w.grownBy w' v.ownBlock→(v'.ownBlock=v.ownBlock∨v'.ownBlock=some w.heap.size)→K (a.put o.dst v') w') :
  if Region.wanted o (yielded ops a.tmps)=true then Oper.wp P o a w K Q else E:=by
 have hw:Region.wanted o (yielded ops a.tmps)=true:=by simp[Region.wanted,hgd]
 rw[if_pos hw]
 exact Ae s x t ho base e i zv bytes ht hi hz hsize hby hzs hsz v n xs hs hown A m c l hx hr hC h1 h63 hbytes hbase h
end
end Sha
namespace Purse
open Go.RowKit Sha Num
def Pr (w:World) (F:List Nat) (p:Nat) (s:PS):Prop:=WF s∧Mx 210 w F p s.np s.na s.v
section
variable {w : World} {F : List Nat} {p : Nat} {s : PS}
theorem Pr.at_ {i a:Nat}(h:Pr w F p s) (hi:i < s.np) (ha:a < s.na):∃ g c R C,w.cell? ⟨p,0,none⟩=some (.slice (some ⟨g,0,none⟩) s.np c)∧w.cell? ⟨g,i,none⟩=some (.slice (some ⟨R,0,none⟩) s.na C)∧w.cell? ⟨R,a,none⟩=some (.int .i64 (s.v i a))∧w.frozen? ⟨R,a,none⟩=false ∧
  ∀ x,WF (put s i a x)→Pr (w.setCell ⟨R,a,none⟩ (.int .i64 x)) F p (put s i a x)∧Fp F F w (w.setCell ⟨R,a,none⟩ (.int .i64 x)):=by
 obtain⟨h0,g,c,R,C,h⟩:=h
 exact⟨g,c,R i,C i,h.p0,h.gi hi,h.rij hi ha,h.fz hi a,fun x hx=>⟨⟨hx,⟨g,c,R,C,h.set hi a x⟩⟩,h.fp hi _⟩⟩
end
section
variable {w : World} {F : List Nat} {p : Nat} {s : PS}
end
end Purse
namespace Wire
open Go.RowKit Sha
theorem Oe (n s:Int) (h1:1≤s) (h8:s < 8) (h0:0≤n) (hm:n≤4611686018427387904):decide (n < 2 ^ (8 * s).toNat)=fits n s:=by
 obtain⟨k,rfl⟩:∃ k:Nat,s=k:=⟨s.toNat,by omega⟩
 rw[show (8 * (k:Int)).toNat=8 * k by omega]
 unfold fits
 apply decide_eq_decide.2
 have e:(2:Int) ^ (8 * k)=256 ^ (k:Int).toNat:=by
  rw[Int.toNat_natCast,Int.pow_mul];rfl
 rw[e]
 exact⟨fun h=>⟨h1,by omega,h0,hm,h⟩,fun h=>h.2.2.2.2⟩
theorem errs_cases (n s:Int):(1≤s∧s≤8∧0≤n∧n≤4611686018427387904∧IntKind.u64.wrap (8 * s)=8 * s∧IntKind.i64.wrap (8 * s)=8 * s∧ae ((s == 8 || decide (n < wrap64 (2 ^ (8 * s).toNat)))=fits n s)) ∨
      (fits n s=false∧(decide (1≤s)=false∨(1≤s∧decide (s≤8)=false)∨(1≤s∧s≤8∧decide (0≤n)=false)∨(1≤s∧s≤8∧0≤n∧decide (n≤4611686018427387904)=false))):=by
    by_cases h1:1≤s
    · by_cases h8:s≤8
      · by_cases h0:0≤n
        · by_cases hm:n≤4611686018427387904
          · refine .inl ⟨h1,h8,h0,hm,by rw[IntKind.wrap_u64];omega,by rw[IntKind.wrap_i64];omega,⟨?_⟩⟩
            by_cases h:s=8
            · subst h
              have hf:fits n 8=true:=decide_eq_true ⟨by omega,by omega,h0,hm,by
                have:(256:Int) ^ (8:Int).toNat=18446744073709551616:=by decide +kernel
                rw[this];omega⟩
              rw[hf];rfl
            · rw[← Oe n s h1 (by omega) h0 hm,beq_eq_false_iff_ne.2 h,Bool.false_or]
              have hk:s=1∨s=2∨s=3∨s=4∨s=5∨s=6∨s=7:=by omega
              have hw:wrap64 (2 ^ (8 * s).toNat)=2 ^ (8 * s).toNat:=by
                rcases hk with rfl|rfl|rfl|rfl|rfl|rfl|rfl<;>decide +kernel
              rw[hw]
          · exact .inr ⟨decide_eq_false (fun hc=>hm hc.2.2.2.1),.inr (.inr (.inr ⟨h1,h8,h0,decide_eq_false hm⟩))⟩
        · exact .inr ⟨decide_eq_false (fun hc=>h0 hc.2.2.1),.inr (.inr (.inl ⟨h1,h8,decide_eq_false h0⟩))⟩
      · exact .inr ⟨decide_eq_false (fun hc=>h8 hc.2.1),.inr (.inl ⟨h1,decide_eq_false h8⟩)⟩
    · exact .inr ⟨decide_eq_false (fun hc=>h1 hc.1),.inl (decide_eq_false h1)⟩
end Wire
namespace Sha
open Go.RowKit
theorem Oh (A:Option Addr) (n cap:Nat) (xs:List Int) (w:World) (hr:Ri w A n xs) (hn:n < 2147483648) :
  Calls Tryz.prog 101 #[.slice A n cap] w (Vt n xs w):=by
 obtain⟨N,hN⟩:∃ N,w.heap.size=N:=⟨_,rfl⟩
 have HR:=ae.mk (hr.bar (l:=[]) ((Bar.refl [] w).alloc (.cells #[] 3)) (by simp))
 have hown:=World.ownsRow_made (base:=N) (e:=3) (size:=1) w #[] 0 (by omega) (by unfold maxLen;omega) rfl
 rw[hN] at hown
 have bel:Below N w (w.alloc (.cells #[] 3)):=(Below.refl _ _).alloc (by omega) _
 have Own:=ae.mk hown
 have Bel:=ae.mk bel
 clear hown bel hr
 go_enter Tryz.func101,Tryz.ntmps101
 go_wp2_with ((with_reducible refine sel 5 ?_);refine iQ rfl (.tmp 3) (.tmp 4) 38 rfl N 3 Tryz.underlying38 wZ (.slice (some ⟨N,0,none⟩) 0 0) 0 [] rfl Own.out A n cap xs rfl HR.out (by omega) (by simp[hN]) ?_;intro v' w' ho hg _)
 go_ret
 refine⟨v',rfl,?_,?_⟩
 ·have:=ho.out
  simpa [hN] using this
 ·rw[hN];exact Bel.out.grown hg (by simp;omega) (by intro k hk;injection hk with hk;simp at hk;omega)
end Sha
end Go.Proofs.YtlkeieoecfkkeaaGreat
