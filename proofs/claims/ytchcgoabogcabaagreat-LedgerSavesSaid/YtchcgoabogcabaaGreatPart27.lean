/-
  Parts laid together: LedgerRTri.
-/
import Derived.Test.YtchcgoabogcabaaGreatPart10
import Derived.Deep.AppendLies
namespace Go.Proofs.YtchcgoabogcabaaGreat.Ledger
open Go.RowKit Go.Proofs.YtchcgoabogcabaaGreat.Num Go.Proofs.YtchcgoabogcabaaGreat.Sha Go.Proofs.YtchcgoabogcabaaGreat.Purse Go.Proofs.YtchcgoabogcabaaGreat.Escrow Go.Proofs.YtchcgoabogcabaaGreat.Wire Go.Proofs.YtchcgoabogcabaaGreat.Req
def Nws (w:World) (g:Nat) (l:List Value):Prop:=g < w.heap.size∧∀ j u,l[j]?=some u→w.cell? ((⟨g,0,none⟩:Addr).add j)=some u
theorem nws_at (g j:Nat):(⟨g,0,none⟩:Addr).add j=⟨g,j,none⟩:=by unfold Addr.add;split<;>simp_all
theorem Nws.bar {w w':World}{K:List Nat}{g:Nat}{l:List Value}(h:Nws w g l) (b:Bar K w w') (hg:g∉K):Nws w' g l :=
 ⟨Nat.lt_of_lt_of_le h.1 b.size,fun j u hu=>by
  have e:((⟨g,0,none⟩:Addr).add j).block=g:=by rw[nws_at]
  rw[World.cell?_of_block (b.block _ (by rw[e];exact h.1) (by rw[e];exact hg))];exact h.2 j u hu⟩
theorem own_mem {g k c n:Nat}:k∈(Value.slice (some ⟨g,0,none⟩) n c).ownBlock.toList ↔ k=g:=by simp[Value.ownBlock,eq_comm]
structure Tr (w0 w:World) (d d1 d2 u u1 u2:Value) (l:List VV) (l1 l2:List Int) (ts:List (Nat × List Value)):Prop where
 o0:Ow vvC 9 71 w u l
 o1:Ow iC 1 3 w u1 l1
 o2:Ow iC 1 3 w u2 l2
 n0:∀ g∈u.ownBlock.toList,g∈d.ownBlock.toList∨w0.heap.size≤g
 n1:∀ g∈u1.ownBlock.toList,g∈d1.ownBlock.toList∨w0.heap.size≤g
 n2:∀ g∈u2.ownBlock.toList,g∈d2.ownBlock.toList∨w0.heap.size≤g
 e1:∀ g∈u.ownBlock.toList,g∉u1.ownBlock.toList
 e2:∀ g∈u.ownBlock.toList,g∉u2.ownBlock.toList
 e3:∀ g∈u1.ownBlock.toList,g∉u2.ownBlock.toList
 bar:Bar (own3 d d1 d2) w0 w
 tmp:∀ p∈ts,Nws w p.1 p.2∧p.1∉own3 u u1 u2
section
variable {w0 w w' : World} {d d1 d2 u u1 u2 : Value} {l : List VV} {l1 l2 : List Int} {ts : List (Nat × List Value)}
theorem Tr.start {x b q:Nat}{F0:List Nat}{st:Value}{s:LS}(h:Dp w F0 x b q st d d1 d2 s):Tr w w d d1 d2 d d1 d2 (evs s) (who s) (whens s) [] :=
 ⟨h.re,h.rw_,h.rn,fun _ hg=>.inl hg,fun _ hg=>.inl hg,fun _ hg=>.inl hg,h.e1,h.e2,h.e3,Bar.refl _ _,fun _ hp=>by cases hp⟩
theorem Tr.lt0 (h:Tr w0 w d d1 d2 u u1 u2 l l1 l2 ts):∀ g∈own3 u u1 u2,g < w.heap.size:=fun g hg=>by
 rcases own3_mem.1 hg with k|k|k
 ·exact h.o0.lt g k
 ·exact h.o1.lt g k
 ·exact h.o2.lt g k
theorem Tr.alloc (h:Tr w0 w d d1 d2 u u1 u2 l l1 l2 ts) (cs:Array Value) (t:TypeId):Tr w0 (w.alloc (.cells cs t)) d d1 d2 u u1 u2 l l1 l2 ((w.heap.size,cs.toList) :: ts):=by
 have bb:Below w.heap.size w (w.alloc (.cells cs t)):=(Below.refl _ _).alloc (Nat.le_refl _) _
 have br:Bar [] w (w.alloc (.cells cs t)):=barOf bb []
 refine⟨h.o0.keep br (fun _ _=>by simp),h.o1.keep br (fun _ _=>by simp),h.o2.keep br (fun _ _=>by simp),h.n0,h.n1,h.n2,h.e1,h.e2,h.e3,h.bar.trans br (by simp),fun p hp=>?_⟩
 rcases List.mem_cons.1 hp with rfl|hp
 ·exact⟨⟨by simp,World.news_of_block (heap_alloc_new w _)⟩,fun hm=>Nat.lt_irrefl _ (h.lt0 _ hm)⟩
 ·exact⟨(h.tmp p hp).1.bar br (by simp),(h.tmp p hp).2⟩
theorem grown_far {v:Value}{gg n c:Nat}(hat:v.ownBlock=some gg∨gg=w.heap.size) {g:Nat}(hlt:g < w.heap.size) (hg:g∉v.ownBlock.toList):g∉(Value.slice (some ⟨gg,0,none⟩) n c).ownBlock.toList:=fun hm=>by
 have e:=own_mem.1 hm
 rcases hat with h|h
 ·rw[h] at hg;exact hg (by simp[e])
 ·omega
theorem grown_new {v d:Value}{gg n c:Nat}(hb:w0.heap.size≤w.heap.size) (hat:v.ownBlock=some gg∨gg=w.heap.size) (h:∀ g∈v.ownBlock.toList,g∈d.ownBlock.toList∨w0.heap.size≤g):∀ g∈(Value.slice (some ⟨gg,0,none⟩) n c).ownBlock.toList,g∈d.ownBlock.toList∨w0.heap.size≤g:=fun g hm=>by
 have e:=own_mem.1 hm
 rcases hat with k|k
 ·exact h g (by rw[k];simp[e])
 ·right;omega
theorem Tr.app0 (h:Tr w0 w d d1 d2 u u1 u2 l l1 l2 ts) {v:VV}{gg c:Nat}(hown:w'.ownsRow 0 71 9 (.slice (some ⟨gg,0,none⟩) (l.length+1) c) (l.length+1) (l.flatMap vvC++vvC v)) (hgrow:w.grownBy w' u.ownBlock) (hat:u.ownBlock=some gg∨gg=w.heap.size) :
  Tr w0 w' d d1 d2 (.slice (some ⟨gg,0,none⟩) (l.length+1) c) u1 u2 (l++[v]) l1 l2 ts:=by
 have br:Bar u.ownBlock.toList w w':=Bar.grownRow hgrow
 have hs:=h.bar.size
 refine⟨Ow.snoc hown,h.o1.keep br (fun g hg hm=>h.e1 g hm hg),h.o2.keep br (fun g hg hm=>h.e2 g hm hg),grown_new hs hat h.n0,h.n1,h.n2,fun g hg hm=>?_,fun g hg hm=>?_,h.e3,h.bar.trans br (fun g hg=>?_),fun p hp=>?_⟩
 ·exact grown_far hat (h.o1.lt g hm) (fun k=>h.e1 g k hm) hg
 ·exact grown_far hat (h.o2.lt g hm) (fun k=>h.e2 g k hm) hg
 ·exact(h.n0 g hg).imp (fun k=>own3_mem.2 (.inl k)) id
 ·obtain⟨k1,k2⟩:=h.tmp p hp
  refine⟨k1.bar br (fun hm=>k2 (own3_mem.2 (.inl hm))),fun hm=>?_⟩
  rcases own3_mem.1 hm with k|k
  ·exact grown_far hat k1.1 (fun q=>k2 (own3_mem.2 (.inl q))) k
  ·exact k2 (own3_mem.2 (.inr k))
theorem Tr.app1 (h:Tr w0 w d d1 d2 u u1 u2 l l1 l2 ts) {v:Int}{gg c:Nat}(hown:w'.ownsRow 0 3 1 (.slice (some ⟨gg,0,none⟩) (l1.length+1) c) (l1.length+1) (l1.flatMap iC++iC v)) (hgrow:w.grownBy w' u1.ownBlock) (hat:u1.ownBlock=some gg∨gg=w.heap.size) :
  Tr w0 w' d d1 d2 u (.slice (some ⟨gg,0,none⟩) (l1.length+1) c) u2 l (l1++[v]) l2 ts:=by
 have br:Bar u1.ownBlock.toList w w':=Bar.grownRow hgrow
 have hs:=h.bar.size
 refine⟨h.o0.keep br (fun g hg hm=>h.e1 g hg hm),Ow.snoc hown,h.o2.keep br (fun g hg hm=>h.e3 g hm hg),h.n0,grown_new hs hat h.n1,h.n2,fun g hg hm=>?_,h.e2,fun g hg hm=>?_,h.bar.trans br (fun g hg=>?_),fun p hp=>?_⟩
 ·exact grown_far hat (h.o0.lt g hg) (fun k=>h.e1 g hg k) hm
 ·exact grown_far hat (h.o2.lt g hm) (fun k=>h.e3 g k hm) hg
 ·exact(h.n1 g hg).imp (fun k=>own3_mem.2 (.inr (.inl k))) id
 ·obtain⟨k1,k2⟩:=h.tmp p hp
  refine⟨k1.bar br (fun hm=>k2 (own3_mem.2 (.inr (.inl hm)))),fun hm=>?_⟩
  rcases own3_mem.1 hm with k|k|k
  ·exact k2 (own3_mem.2 (.inl k))
  ·exact grown_far hat k1.1 (fun q=>k2 (own3_mem.2 (.inr (.inl q)))) k
  ·exact k2 (own3_mem.2 (.inr (.inr k)))
theorem Tr.app2 (h:Tr w0 w d d1 d2 u u1 u2 l l1 l2 ts) {v:Int}{gg c:Nat}(hown:w'.ownsRow 0 3 1 (.slice (some ⟨gg,0,none⟩) (l2.length+1) c) (l2.length+1) (l2.flatMap iC++iC v)) (hgrow:w.grownBy w' u2.ownBlock) (hat:u2.ownBlock=some gg∨gg=w.heap.size) :
  Tr w0 w' d d1 d2 u u1 (.slice (some ⟨gg,0,none⟩) (l2.length+1) c) l l1 (l2++[v]) ts:=by
 have br:Bar u2.ownBlock.toList w w':=Bar.grownRow hgrow
 have hs:=h.bar.size
 refine⟨h.o0.keep br (fun g hg hm=>h.e2 g hg hm),h.o1.keep br (fun g hg hm=>h.e3 g hg hm),Ow.snoc hown,h.n0,h.n1,grown_new hs hat h.n2,h.e1,fun g hg hm=>?_,fun g hg hm=>?_,h.bar.trans br (fun g hg=>?_),fun p hp=>?_⟩
 ·exact grown_far hat (h.o0.lt g hg) (fun k=>h.e2 g hg k) hm
 ·exact grown_far hat (h.o1.lt g hg) (fun k=>h.e3 g hg k) hm
 ·exact(h.n2 g hg).imp (fun k=>own3_mem.2 (.inr (.inr k))) id
 ·obtain⟨k1,k2⟩:=h.tmp p hp
  refine⟨k1.bar br (fun hm=>k2 (own3_mem.2 (.inr (.inr hm)))),fun hm=>?_⟩
  rcases own3_mem.1 hm with k|k|k
  ·exact k2 (own3_mem.2 (.inl k))
  ·exact k2 (own3_mem.2 (.inr (.inl k)))
  ·exact grown_far hat k1.1 (fun q=>k2 (own3_mem.2 (.inr (.inr q)))) k
end
theorem iC_one (i:Int):∀ v∈iC i,v.oneCell'=true:=by
 intro v hv
 rw[iC,List.mem_singleton] at hv
 subst hv;rfl
theorem info_event9:(Tryz.prog.info? 71).map (fun i=>(i.zero,i.size,i.bytes))=some (some (.agg #[.int .i64 0,.int .i64 0,.int .i64 0,.int .i64 0,.int .i64 0,.int .i64 0,.int .i64 0,.string ⟨#[]⟩,.string ⟨#[]⟩]),9,88):=by kernel_rfl
theorem info_int9:(Tryz.prog.info? 3).map (fun i=>(i.zero,i.size,i.bytes))=some (some (.int .i64 0),1,8):=by kernel_rfl
section
variable {w0 w w' : World} {d d1 d2 u u1 u2 : Value} {l : List VV} {l1 l2 : List Int} {ts : List (Nat × List Value)}
theorem Tr.step0 {ops:Array Oper}{o:Oper}{a:Act}{K:Act→World→Prop}{Q:Exit→Act→World→Prop}{E:Prop}(h:Tr w0 w d d1 d2 u u1 u2 l l1 l2 ts) (hl:l.length≤400) (g:Nat) (v:VV) (hm:(g,vvC v)∈ts) (s x:Operand)
  (hk:∀ gg c w',Tr w0 w' d d1 d2 (.slice (some ⟨gg,0,none⟩) (l.length+1) c) u1 u2 (l++[v]) l1 l2 ts→K (a.put o.dst (.slice (some ⟨gg,0,none⟩) (l.length+1) c)) w')
  (hgd:o.guard=none:=by rfl) (ho:o.op=.call { callee:=.builtin .append,args:=#[s,x],argTypes:=#[40,40] }:=by rfl) (hu:a.eval s=u:=by rfl) (hx:a.eval x=.slice (some ⟨g,0,none⟩) 1 1:=by rfl) :
  if Region.wanted o (yielded ops a.tmps)=true then Oper.wp Tryz.prog o a w K Q else E:=by
 obtain⟨iu,hi,hz0,hz1,hz2⟩:=info_parts info_event9
 refine step_append_lies _ hgd s x _ ho 0 71 iu (.agg #[.int .i64 0,.int .i64 0,.int .i64 0,.int .i64 0,.int .i64 0,.int .i64 0,.int .i64 0,.string ⟨#[]⟩,.string ⟨#[]⟩]) 9 88 Tryz.underlying40 hi hz0 hz1 hz2 rfl (by omega) u l.length (l.flatMap vvC) hu h.o0 ⟨g,0,none⟩ 1 1 (vvC v) hx rfl (h.tmp _ hm).1.2 (vvC_one _) (by omega) (by unfold maxLen;omega) (by omega) (Nat.zero_le _) w.heap.size rfl ?_
 intro gg c w' hown hgrow hat _
 exact hk gg c w' (h.app0 (v:=v) hown hgrow hat)
theorem Tr.step1 {ops:Array Oper}{o:Oper}{a:Act}{K:Act→World→Prop}{Q:Exit→Act→World→Prop}{E:Prop}(h:Tr w0 w d d1 d2 u u1 u2 l l1 l2 ts) (hl:l1.length≤400) (g:Nat) (v:Int) (hm:(g,iC v)∈ts) (s x:Operand)
  (hk:∀ gg c w',Tr w0 w' d d1 d2 u (.slice (some ⟨gg,0,none⟩) (l1.length+1) c) u2 l (l1++[v]) l2 ts→K (a.put o.dst (.slice (some ⟨gg,0,none⟩) (l1.length+1) c)) w')
  (hgd:o.guard=none:=by rfl) (ho:o.op=.call { callee:=.builtin .append,args:=#[s,x],argTypes:=#[41,41] }:=by rfl) (hu:a.eval s=u1:=by rfl) (hx:a.eval x=.slice (some ⟨g,0,none⟩) 1 1:=by rfl) :
  if Region.wanted o (yielded ops a.tmps)=true then Oper.wp Tryz.prog o a w K Q else E:=by
 obtain⟨iu,hi,hz0,hz1,hz2⟩:=info_parts info_int9
 refine step_append_lies _ hgd s x _ ho 0 3 iu (.int .i64 0) 1 8 Tryz.underlying41 hi hz0 hz1 hz2 rfl (by omega) u1 l1.length (l1.flatMap iC) hu h.o1 ⟨g,0,none⟩ 1 1 (iC v) hx rfl (h.tmp _ hm).1.2 (iC_one _) (by omega) (by unfold maxLen;omega) (by omega) (Nat.zero_le _) w.heap.size rfl ?_
 intro gg c w' hown hgrow hat _
 exact hk gg c w' (h.app1 (v:=v) hown hgrow hat)
theorem Tr.step2 {ops:Array Oper}{o:Oper}{a:Act}{K:Act→World→Prop}{Q:Exit→Act→World→Prop}{E:Prop}(h:Tr w0 w d d1 d2 u u1 u2 l l1 l2 ts) (hl:l2.length≤400) (g:Nat) (v:Int) (hm:(g,iC v)∈ts) (s x:Operand)
  (hk:∀ gg c w',Tr w0 w' d d1 d2 u u1 (.slice (some ⟨gg,0,none⟩) (l2.length+1) c) l l1 (l2++[v]) ts→K (a.put o.dst (.slice (some ⟨gg,0,none⟩) (l2.length+1) c)) w')
  (hgd:o.guard=none:=by rfl) (ho:o.op=.call { callee:=.builtin .append,args:=#[s,x],argTypes:=#[41,41] }:=by rfl) (hu:a.eval s=u2:=by rfl) (hx:a.eval x=.slice (some ⟨g,0,none⟩) 1 1:=by rfl) :
  if Region.wanted o (yielded ops a.tmps)=true then Oper.wp Tryz.prog o a w K Q else E:=by
 obtain⟨iu,hi,hz0,hz1,hz2⟩:=info_parts info_int9
 refine step_append_lies _ hgd s x _ ho 0 3 iu (.int .i64 0) 1 8 Tryz.underlying41 hi hz0 hz1 hz2 rfl (by omega) u2 l2.length (l2.flatMap iC) hu h.o2 ⟨g,0,none⟩ 1 1 (iC v) hx rfl (h.tmp _ hm).1.2 (iC_one _) (by omega) (by unfold maxLen;omega) (by omega) (Nat.zero_le _) w.heap.size rfl ?_
 intro gg c w' hown hgrow hat _
 exact hk gg c w' (h.app2 (v:=v) hown hgrow hat)
theorem Tr.push {x b q:Nat}{F0:List Nat}{st:Value}{s:LS}{e:LE}(h0:Dp w0 F0 x b q st d d1 d2 s) (h:Tr w0 w d d1 d2 u u1 u2 (evs s++[e.v]) (who s++[e.who]) (whens s++[e.at_]) ts) :
  Blk w x 43 #[st,.int .i64 s.cap,.pointer (some ⟨b,0,none⟩),.int .i64 s.clock,d,d1,d2]∧Dp (((w.setCell ⟨x,4,none⟩ u).setCell ⟨x,5,none⟩ u1).setCell ⟨x,6,none⟩ u2) F0 x b q st u u1 u2 ⟨s.cap,s.b,s.clock,s.e++[e]⟩∧Fp (df x F0 d d1 d2) (df x F0 u u1 u2) w0 (((w.setCell ⟨x,4,none⟩ u).setCell ⟨x,5,none⟩ u1).setCell ⟨x,6,none⟩ u2) :=
 h0.push3 h.bar h.o0 h.o1 h.o2 h.n0 h.n1 h.n2 h.e1 h.e2 h.e3
theorem Tr.blk {x b q:Nat}{F0:List Nat}{st:Value}{s:LS}(h0:Dp w0 F0 x b q st d d1 d2 s) (h:Tr w0 w d d1 d2 u u1 u2 l l1 l2 ts):Blk w x 43 #[st,.int .i64 s.cap,.pointer (some ⟨b,0,none⟩),.int .i64 s.clock,d,d1,d2]:=h0.blk.bar h.bar (fun hm=>h0.dx x hm rfl)
end
end Go.Proofs.YtchcgoabogcabaaGreat.Ledger
