/-
  Parts laid together: LedgerPost LedgerMem LedgerC1 LedgerC6 LedgerC2 RowK VaultC10.
-/
import Derived.Test.YtlkeieoecfkkeaaGreatPart3
import Derived.Test.YtlkeieoecfkkeaaGreatPart8
import Derived.Test.YtlkeieoecfkkeaaGreatPart12
import Derived.Test.YtlkeieoecfkkeaaGreatPart6
import Derived.Test.YtlkeieoecfkkeaaGreatPart14
import Derived.Test.YtlkeieoecfkkeaaGreatPart15
import Derived.Test.YtlkeieoecfkkeaaGreatPart1
import Derived.Test.YtlkeieoecfkkeaaGreatPart11
import Derived.Test.YtlkeieoecfkkeaaGreatPart5
import Derived.Deep.RegionHeld3
import Derived.Maps.AppendAt
set_option maxRecDepth 100000
set_option maxHeartbeats 2000000
namespace Go.Proofs.YtlkeieoecfkkeaaGreat
namespace Ledger
open Go.RowKit Num Sha Purse Escrow Wire Req
def jK (w:World) (F:List Nat) (A:Option Addr):Prop:=∀ b o,A=some ⟨b,o,none⟩→w.heap.size≤b∧b∉F
def DJ (Lk:World→Nat→List Nat→Nat→LS→Prop) (w:World) (t n:Nat) (X:Nat→List Int) (cap:Int) (e:Ending) (w':World):Prop :=
 (¬ bU n X cap∧e=.returned (.tuple #[.pointer none,.int .i64 1])∧Below w.heap.size w w')∨(bU n X cap∧∃ x F,e=.returned (.tuple #[.pointer (some ⟨x,0,none⟩),.int .i64 0])∧Lk w' t F x (newL n X cap)∧Below w.heap.size w w'∧∀ k∈F,w.heap.size≤k)
def qi (Lk:World→Nat→List Nat→Nat→LS→Prop) (w:World) (t:Nat) (F:List Nat) (x:Nat) (r:AV × LS) (e:Ending) (w':World):Prop :=
 ∃ F' A n c D m d,e=.returned (.agg #[.int .i64 r.1.clock,.int .i64 r.1.seen,.slice A n c,.slice D m d])∧n≤c∧c≤9223372036854775807∧m≤d∧d≤9223372036854775807∧Rp w' A n r.1.p∧Rv w' D m r.1.v∧jK w (t :: F') A∧jK w (t :: F') D ∧
  Lk w' t F' x r.2∧Bar (t :: F) w w'∧∀ k∈F',k∈F∨w.heap.size≤k
def sU (w:World) (l:List VV) (e:Ending) (w':World):Prop:=∃ A n c,e=.returned (.slice A n c)∧n≤c∧c≤9223372036854775807∧Rv w' A n l∧jK w [] A∧Below w.heap.size w w'
def leC (x:LE):List Value:=.int .i64 x.who :: .int .i64 x.at_ :: vvC x.v
theorem Ua (x:LE):(leC x).length=11:=rfl
def Dl (w:World) (v:Value) (l:List LE):Prop:=Ow leC 11 275 w v l
structure Lp (w:World) (t x b q:Nat) (G:List Nat) (v d:Value) (s:LS):Prop where
 pk:Pk w t b q G v s.b.p s.b.l
 blk:Blk w x 183 #[.pointer (some ⟨b,0,none⟩),.int .i64 s.cap,.int .i64 s.clock,d]
 dl:Dl w d s.e
 xB:x∉fk t b G v
 dB:∀ g∈d.ownBlock.toList,g∉fk t b G v
 dx:∀ g∈d.ownBlock.toList,g≠x
def lf (x b:Nat) (G:List Nat) (v d:Value):List Nat:=x :: (d.ownBlock.toList++(b :: (v.ownBlock.toList++G)))
def Lk (w:World) (t:Nat) (F:List Nat) (x:Nat) (s:LS):Prop:=∃ b q G v d,Lp w t x b q G v d s∧F=lf x b G v d
section
variable {w w' w2 : World} {F K G G' : List Nat} {t x b q : Nat} {v v' d d' : Value} {s : LS} {b' : BS}
theorem lf_mem {k:Nat}:k∈t :: lf x b G v d ↔ k=x∨k∈d.ownBlock.toList∨k∈fk t b G v:=by
 simp only[lf,fk,List.mem_cons,List.mem_append]
 constructor
 ·rintro (h|h|h|h|h|h)
  ·exact .inr (.inr (.inl h))
  ·exact .inl h
  ·exact .inr (.inl h)
  ·exact .inr (.inr (.inr (.inl h)))
  ·exact .inr (.inr (.inr (.inr (.inl h))))
  ·exact .inr (.inr (.inr (.inr (.inr h))))
 ·rintro (h|h|h|h|h|h)
  ·exact .inr (.inl h)
  ·exact .inr (.inr (.inl h))
  ·exact .inl h
  ·exact .inr (.inr (.inr (.inl h)))
  ·exact .inr (.inr (.inr (.inr (.inl h))))
  ·exact .inr (.inr (.inr (.inr (.inr h))))
theorem Lp.lts (h:Lp w t x b q G v d s):∀ k∈t :: lf x b G v d,k < w.heap.size:=by
 intro k hk
 rcases lf_mem.1 hk with rfl|hk|hk
 ·exact h.blk.lt
 ·exact h.dl.lt k hk
 ·exact h.pk.lts k hk
theorem Lp.tF (h:Lp w t x b q G v d s):t∉lf x b G v d:=by
 intro hm
 simp only[lf,List.mem_cons,List.mem_append] at hm
 rcases hm with e|e|e|e|e
 ·exact h.xB (e▸fk_mem.2 (.inl rfl))
 ·exact h.dB t e (fk_mem.2 (.inl rfl))
 ·exact h.pk.xt e.symm
 ·exact h.pk.gt t e rfl
 ·exact h.pk.tG e
theorem Lp.keep (h:Lp w t x b q G v d s) (bb:Bar K w w') (j:Disj (lf x b G v d) K) (ht:Tab w' t):Lp w' t x b q G v d s:=by
 have hx:x∈lf x b G v d:=by simp[lf]
 have hd:∀ g∈d.ownBlock.toList,g∈lf x b G v d:=fun g hg=>by simp only[lf,List.mem_cons,List.mem_append];exact .inr (.inl hg)
 have hb:b∈lf x b G v d:=by simp[lf]
 have hv:∀ g∈v.ownBlock.toList,g∈lf x b G v d:=fun g hg=>by simp only[lf,List.mem_cons,List.mem_append];exact .inr (.inr (.inr (.inl hg)))
 have hG:∀ g∈G,g∈lf x b G v d:=fun g hg=>by simp only[lf,List.mem_cons,List.mem_append];exact .inr (.inr (.inr (.inr hg)))
 refine⟨⟨ht,Dt h.pk.pc bb (fun k hk=>j k (hG k hk)),h.pk.blk.bar bb (j b hb),h.pk.el.keep bb (fun g hg=>j g (hv g hg)),h.pk.gG,h.pk.gx,h.pk.gt,h.pk.xG,h.pk.tG,h.pk.xt⟩,h.blk.bar bb (j x hx),h.dl.keep bb (fun g hg=>j g (hd g hg)),h.xB,h.dB,h.dx⟩
theorem Lp.below (h:Lp w t x b q G v d s) (bb:Below w.heap.size w w'):Lp w' t x b q G v d s:=h.keep (barOf bb []) (fun _ _=>by simp) (eX h.pk.tab (barOf bb []) (by simp))
theorem Lp.book (h:Lp w t x b q G v d s) (hk:Pk w2 t b q G' v' b'.p b'.l) (fp:Fp (fk t b G v) (fk t b G' v') w w2):Lp w2 t x b q G' v' d ⟨s.cap,b',s.clock,s.e⟩∧Fp (t :: lf x b G v d) (t :: lf x b G' v' d) w w2:=by
 refine⟨⟨hk,h.blk.bar fp.1 h.xB,h.dl.keep fp.1 h.dB,fun hm=>?_,fun g hg hm=>?_,h.dx⟩,fp.1.mono (fun k hk=>.inl (lf_mem.2 (.inr (.inr hk)))),fun k hk=>?_⟩
 ·rcases fp.2 x hm with e|e
  ·exact h.xB e
  ·have:=h.blk.lt;omega
 ·rcases fp.2 g hm with e|e
  ·exact h.dB g hg e
  ·have:=h.dl.lt g hg;omega
 ·rcases lf_mem.1 hk with e|e|e
  ·exact .inl (lf_mem.2 (.inl e))
  ·exact .inl (lf_mem.2 (.inr (.inl e)))
  ·rcases fp.2 k e with e|e
   ·exact .inl (lf_mem.2 (.inr (.inr e)))
   ·exact .inr e
theorem Lp.tick (h:Lp w t x b q G v d s) (c:Int):Lp (w.setCell ⟨x,2,none⟩ (.int .i64 c)) t x b q G v d ⟨s.cap,s.b,c,s.e⟩∧Fp (t :: lf x b G v d) (t :: lf x b G v d) w (w.setCell ⟨x,2,none⟩ (.int .i64 c)):=by
 have b2:Bar [x] w (w.setCell ⟨x,2,none⟩ (.int .i64 c)):=(Bar.refl _ w).setCell (by simp) _
 refine⟨⟨h.pk.keep b2 (fun k hk hm=>h.xB (by rw[List.mem_singleton] at hm;exact hm▸hk)),by simpa using h.blk.set_ 2 (.int .i64 c),h.dl.keep b2 (fun g hg hm=>h.dx g hg (by simpa using hm)),h.xB,h.dB,h.dx⟩,b2.mono (fun k hk=>.inl (lf_mem.2 (.inl (by simpa using hk)))),fun _ hk=>.inl hk⟩
theorem Lp.list (h:Lp w t x b q G v d s):∃ A c,d=.slice A s.e.length c∧w.cell? ⟨x,3,none⟩=some (.slice A s.e.length c)∧s.e.length≤c∧c≤9223372036854775807∧Rc leC 11 w A s.e.length s.e:=by
 obtain⟨A,c,rfl,h4,h5,h6⟩:=Ow.rc Ua h.dl
 exact⟨A,c,rfl,h.blk.cell 3,h4,h5,h6⟩
theorem Lp.c0 (h:Lp w t x b q G v d s):w.cell? ⟨x,0,none⟩=some (.pointer (some ⟨b,0,none⟩)):=h.blk.cell 0
theorem Lp.c1 (h:Lp w t x b q G v d s):w.cell? ⟨x,1,none⟩=some (.int .i64 s.cap):=h.blk.cell 1
theorem Lp.c2 (h:Lp w t x b q G v d s):w.cell? ⟨x,2,none⟩=some (.int .i64 s.clock):=h.blk.cell 2
theorem Lk.lts (h:Lk w t F x s):(∀ k∈F,k < w.heap.size)∧t∉F∧Tab w t:=by
 obtain⟨b,q,G,v,d,h,rfl⟩:=h
 exact⟨fun k hk=>h.lts k (List.mem_cons_of_mem _ hk),h.tF,h.pk.tab⟩
theorem Lk.keep (h:Lk w t F x s) (bb:Bar K w w') (j:Disj F K) (ht:Tab w' t):Lk w' t F x s:=by
 obtain⟨b,q,G,v,d,h,rfl⟩:=h
 exact⟨b,q,G,v,d,h.keep bb j ht,rfl⟩
theorem Lk.below (h:Lk w t F x s) (bb:Below w.heap.size w w'):Lk w' t F x s:=by
 obtain⟨b,q,G,v,d,h,rfl⟩:=h
 exact⟨b,q,G,v,d,h.below bb,rfl⟩
end
def StepPost (w:World) (t:Nat) (F:List Nat) (x:Nat) (a:Value) (s':LS) (e:Ending) (w':World):Prop:=e=.returned a∧∃ F',Lk w' t F' x s'∧Fp (t :: F) (t :: F') w w'
section
variable {w : World} {t x b q : Nat} {F G : List Nat} {v d : Value} {s : LS}
def qj (w:World) (n:Nat) (X:Nat→List Int) (cap:Int) (e:Ending) (w':World):Prop :=
 (¬ bU n X cap∧e=.returned (.tuple #[.pointer none,.int .i64 1])∧Below w.heap.size w w')∨(bU n X cap∧∃ p G,e=.returned (.tuple #[.pointer (some ⟨p,0,none⟩),.int .i64 0])∧Pc w' G p (newP n X)∧Below w.heap.size w w'∧∀ g∈G,w.heap.size≤g)
theorem xZ {A:Option Addr}{n c:Nat}{X:Nat→List Int}(cap:Int) (hr:Rwi w A n X):Calls Tryz.prog 76 #[.agg #[.slice A n c,.int .i64 cap]] w (qj w n X cap):=by
 obtain⟨N,hN⟩:∃ N,w.heap.size=N:=⟨_,rfl⟩
 have b0:Below w.heap.size w (w.alloc (.cells #[.slice A n c,.int .i64 cap] 41)):=(Below.refl _ _).alloc (Nat.le_refl _) _
 have X1:ae (Blk (w.alloc (.cells #[.slice A n c,.int .i64 cap] 41)) N 41 #[.slice A n c,.int .i64 cap]):=⟨Blk.new_at w _ _ N hN.symm⟩
 have KN:=ae.mk (new_any A n c X _ (hr.below b0))
 have B:=ae.mk b0
 unfold ig at KN
 clear hr b0
 go_enter Tryz.func76,Tryz.ntmps76
 go_upto_region 1 with(fail)
 generalize w.alloc (.cells #[.slice A n c,.int .i64 cap] 41)=w1 at *
 have x0:=X1.out.cell 0
 go_wp2_with fail
 refine KN.out.mono ?_
 rintro e w2 (⟨hn,rfl,bb⟩|⟨hn,p,G,rfl,hp,fp⟩)
 ·replace B:=ae.mk (B.out.trans (bb.mono B.out.size))
  have HN:=ae.mk (fun h:bU n X cap=>hn h.1)
  clear KN bb x0 hn
  go_wp2
  go_ret2
  exact .inl ⟨HN.out,rfl,B.out⟩
 ·have bb:=fp.below (B:=w1.heap.size) (by simp) (Nat.le_refl _)
  have HG:ae (∀ g∈G,w.heap.size≤g):=⟨fun g hg=>Nat.le_trans B.out.size ((fp.2 g hg).resolve_left (by simp))⟩
  replace X1:=ae.mk (X1.out.below bb X1.out.lt)
  replace B:=ae.mk (B.out.trans (bb.mono B.out.size))
  have HP:=ae.mk hp;have HN:=ae.mk hn
  clear KN bb x0 hn hp fp
  have x1:=X1.out.cell 1
  by_cases h1:cap < 1
  ·go_wp2
   go_ret2
   exact .inl ⟨fun h=>by have:=h.2.1;omega,rfl,B.out⟩
  ·by_cases h2:400 < cap
   ·go_wp2
    go_ret2
    exact .inl ⟨fun h=>by have:=h.2.2;omega,rfl,B.out⟩
   ·go_wp2
    go_ret2
    exact .inr ⟨⟨HN.out,by omega,by omega⟩,p,G,rfl,HP.out,B.out,HG.out⟩
theorem O0 {A:Option Addr}{n c:Nat}{X:Nat→List Int}(cap:Int) (ht:Tab w t) (hr:Rwi w A n X):Calls Tryz.prog 44 #[.pointer (some ⟨t,0,none⟩),.agg #[.slice A n c,.int .i64 cap]] w (DJ Lk w t n X cap):=by
 obtain⟨N,hN⟩:∃ N,w.heap.size=N:=⟨_,rfl⟩
 have b0:Below w.heap.size w (w.alloc (.cells #[.slice A n c,.int .i64 cap] 41)):=(Below.refl _ _).alloc (Nat.le_refl _) _
 have X1:ae (Blk (w.alloc (.cells #[.slice A n c,.int .i64 cap] 41)) N 41 #[.slice A n c,.int .i64 cap]):=⟨Blk.new_at w _ _ N hN.symm⟩
 have KN:=ae.mk (xZ (c:=c) cap (hr.below b0))
 have HT:ae (Tab (w.alloc (.cells #[.slice A n c,.int .i64 cap] 41)) t):=⟨eX ht (barOf b0 []) (by simp)⟩
 have TL:=ae.mk (lZ ht)
 have B:=ae.mk b0
 unfold qj at KN
 clear hr b0 ht
 go_enter Tryz.func44,Tryz.ntmps44
 go_upto_region 1 with(fail)
 generalize w.alloc (.cells #[.slice A n c,.int .i64 cap] 41)=w1 at *
 have x0:=X1.out.cell 0;have x1:=X1.out.cell 1
 go_wp2_with fail
 refine KN.out.mono ?_
 rintro e w2 (⟨hn,rfl,bb⟩|⟨hn,p,G,rfl,hp,bb,hG⟩)
 ·replace B:=ae.mk (B.out.trans (bb.mono B.out.size))
  have HN:=ae.mk hn
  clear KN bb x0 x1 hn
  go_wp2
  go_ret2
  exact .inl ⟨HN.out,rfl,B.out⟩
 ·have HG:ae (∀ g∈G,w.heap.size≤g):=⟨fun g hg=>Nat.le_trans B.out.size (hG g hg)⟩
  replace X1:=ae.mk (X1.out.below bb X1.out.lt)
  replace HT:=ae.mk (eX HT.out (barOf bb []) (by simp))
  replace B:=ae.mk (B.out.trans (bb.mono B.out.size))
  have HP:=ae.mk hp;have HN:=ae.mk hn
  clear KN bb x0 x1 hn hp hG
  have TG:ae (t∉G):=⟨fun hm=>by have:=HG.out t hm;have:=TL.out;omega⟩
  go_upto_region 4 with(fail)
  have CS:∀ {u:World},Blk u N 41 #[.slice A n c,.int .i64 cap]→u.cell? ⟨N,1,none⟩=some (.int .i64 cap):=fun h=>h.cell 1
  refine wp_region_noPanic ?_
  refine wp_region_held_drew (S:=fun w':World=>w'.cell? ⟨N,1,none⟩=some (.int .i64 cap)) (by kernel_rfl) (CS X1.out.drew) (fun _=>?_)
  replace X1:=ae.mk X1.out.drew;replace B:=ae.mk B.out.drew
  replace HT:=ae.mk (eX HT.out (barOf (Below.refl _ _).drew []) (by simp))
  replace HP:=ae.mk (Dt HP.out (barOf (Below.refl _ _).drew []) (fun _ _=>by simp))
  generalize w2.drew=w3 at *
  have KE:=ae.mk (TZ HT.out HP.out TG.out)
  refine tk 0 ?_
  simp only[Act.put,zA,zB,zC]
  refine tk 1 ?_
  simp only[Act.put,zA,zB,zC]
  refine tk 3 ?_
  simp only[Act.put,zA,zB,zC]
  refine tk 4 ?_
  simp only[Act.put,zA,zB,zC]
  refine ld 2 (fun K hK=>?_)
  go_simp
  go_at_call 78
  refine KE.out.mono ?_
  rintro e w4 ⟨y,rfl,hk,bb,hy⟩
  have PK:=ae.mk hk
  have HY:ae (w.heap.size≤y):=⟨Nat.le_trans B.out.size hy⟩
  replace X1:=ae.mk (X1.out.below bb X1.out.lt)
  replace B:=ae.mk (B.out.trans (bb.mono B.out.size))
  refine hK.out _ _ (CS X1.out) (fun _=>?_)
  clear hK K KE hk bb hy HP HT
  refine tk 5 ?_
  simp only[Act.put,zA,zB,zC]
  refine ld 6 (fun K hK=>?_)
  go_simp
  have b5:Below w4.heap.size w4 (w4.alloc (.cells #[.pointer (some ⟨y,0,none⟩),.int .i64 cap,.int .i64 0,.slice none 0 0] 183)):=(Below.refl _ _).alloc (Nat.le_refl _) _
  have X5:=ae.mk (Blk.new w4 183 #[.pointer (some ⟨y,0,none⟩),.int .i64 cap,.int .i64 0,.slice none 0 0])
  refine hK.out _ _ (CS (X1.out.below b5 X1.out.lt)) (fun _=>?_)
  clear hK K
  refine tk 7 ?_
  simp only[Act.put,zA,zB,zC]
  refine tk 8 ?_
  simp only[Act.put,zA,zB,zC]
  refine wpAnyH_done (by kernel_rfl) ?_ _
  refine NoPanic.normal ?_
  have LT:ae (∀ k∈fk t y G (.slice none 0 0),k < w4.heap.size):=⟨PK.out.lts⟩
  replace PK:=ae.mk (PK.out.below b5)
  replace B:=ae.mk (B.out.trans (b5.mono B.out.size))
  have L:ae (Lp (w4.alloc (.cells #[.pointer (some ⟨y,0,none⟩),.int .i64 cap,.int .i64 0,.slice none 0 0] 183)) t w4.heap.size y p G (.slice none 0 0) (.slice none 0 0) (newL n X cap)):=⟨PK.out,X5.out,Ow.nil _,fun hm=>Nat.lt_irrefl _ (LT.out _ hm),fun g hg=>by simp[Value.ownBlock] at hg,fun g hg=>by simp[Value.ownBlock] at hg⟩
  have HW:ae (w.heap.size≤w4.heap.size):=⟨by have:=B.out.size;simp at this;have:=HY.out;have:=LT.out y (fk_mem.2 (.inr (.inl rfl)));omega⟩
  clear b5 X5 X1 CS PK
  generalize w4.alloc (.cells #[.pointer (some ⟨y,0,none⟩),.int .i64 cap,.int .i64 0,.slice none 0 0] 183)=w5 at *
  go_wp2
  go_ret2
  refine .inr ⟨HN.out,w4.heap.size,_,rfl,⟨y,p,G,_,_,L.out,rfl⟩,B.out,fun k hk=>?_⟩
  simp only[lf,Value.ownBlock,List.mem_cons,List.mem_append] at hk
  rcases hk with e|e|e|e|e
  ·rw[e];exact HW.out
  ·simp at e
  ·rw[e];exact HY.out
  ·simp at e
  ·exact HG.out k e
theorem Be (c:Int) (h:Lk w t F x s):Calls Tryz.prog 160 #[.pointer (some ⟨x,0,none⟩),.int .i64 c] w (StepPost w t F x (.tuple #[]) (clockL s c)):=by
 obtain⟨b,q,G,v,d,h,rfl⟩:=h
 have H:=ae.mk h
 have x2:=h.c2
 have f2:=h.blk.frozen 2
 have TI:=ae.mk (lM c w)
 cases ht:tickB c with
 | false =>
  rw[ht] at TI
  have hcl:clockL s c=s:=by
   unfold clockL
   rw[if_neg]
   rintro ⟨h1,-⟩
   unfold tickB at ht
   rw[decide_eq_false_iff_not] at ht
   exact ht h1
  rw[hcl]
  clear h hcl
  go_enter Tryz.func160,Tryz.ntmps160
  go_wp2_with (go_at_call 129;(with_reducible refine TI.out.mono ?_);rintro e w' ⟨rfl,rfl⟩)
  go_end0
  exact⟨rfl,_,⟨b,q,G,v,d,H.out,rfl⟩,Fp.refl _ _⟩
 | true =>
  rw[ht] at TI
  have htc:Tck c:=by
   unfold tickB at ht
   exact of_decide_eq_true ht
  by_cases hc:s.clock < c
  ·have hcl:clockL s c=⟨s.cap,s.b,c,s.e⟩:=by unfold clockL;rw[if_pos ⟨htc,hc⟩]
   rw[hcl]
   have HT:=ae.mk (h.tick c)
   clear h hcl
   go_enter Tryz.func160,Tryz.ntmps160
   go_wp2_with (go_at_call 129;(with_reducible refine TI.out.mono ?_);rintro e w' ⟨rfl,rfl⟩)
   go_end0
   exact⟨rfl,_,⟨b,q,G,v,d,HT.out.1,rfl⟩,HT.out.2⟩
  ·have hcl:clockL s c=s:=by unfold clockL;rw[if_neg (fun k=>hc k.2)]
   rw[hcl]
   clear h hcl
   go_enter Tryz.func160,Tryz.ntmps160
   go_wp2_with (go_at_call 129;(with_reducible refine TI.out.mono ?_);rintro e w' ⟨rfl,rfl⟩)
   go_end0
   exact⟨rfl,_,⟨b,q,G,v,d,H.out,rfl⟩,Fp.refl _ _⟩
theorem Gh (i:Int) (h:Lp w t x b q G v d s):Calls Tryz.prog 199 #[.pointer (some ⟨x,0,none⟩),.int .i64 i] w fun e w'=>e=.returned (.bool (isP s.b.p i))∧w=w':=by
 have x0:=h.c0
 have KP:=ae.mk (Gg h.pk)
 have KN:=ae.mk (kG h.pk.pc)
 have hi:isP s.b.p i=decide (0≤i∧i < s.b.p.np):=rfl
 rw[hi]
 clear h hi
 generalize s.b.p.np=np at *
 by_cases h0:0≤i
 ·by_cases h1:i < np
  ·rw[decide_eq_true (⟨h0,h1⟩:0≤i∧i < (np:Int))]
   go_enter Tryz.func199,Tryz.ntmps199
   go_wp2_with (first|(go_at_call 227;refine KP.out.mono ?_;rintro e w' ⟨rfl,rfl⟩)|(go_at_call 228;refine KN.out.mono ?_;rintro e w' ⟨rfl,rfl⟩))
   go_ret
   exact⟨rfl,rfl⟩
  ·rw[decide_eq_false (fun k:0≤i∧i < (np:Int)=>h1 k.2)]
   go_enter Tryz.func199,Tryz.ntmps199
   go_wp2_with (first|(go_at_call 227;refine KP.out.mono ?_;rintro e w' ⟨rfl,rfl⟩)|(go_at_call 228;refine KN.out.mono ?_;rintro e w' ⟨rfl,rfl⟩))
   go_ret
   exact⟨by simp[h1],rfl⟩
 ·rw[decide_eq_false (fun k:0≤i∧i < (np:Int)=>h0 k.1)]
  go_enter Tryz.func199,Tryz.ntmps199
  go_wp2
  go_ret
  exact⟨rfl,rfl⟩
end
section
variable {w w1 w2 : World} {t x b q N R : Nat} {F F' G : List Nat} {v d : Value} {s : LS}
theorem Gi:(Tryz.prog.info? 275).map (fun i=>(i.zero,i.size,i.bytes))=some (some (.agg #[.int .i64 0,.int .i64 0,.int .i64 0,.int .i64 0,.int .i64 0,.int .i64 0,.int .i64 0,.int .i64 0,.int .i64 0,.string ⟨#[]⟩,.string ⟨#[]⟩]),11,104):=by kernel_rfl
theorem sV:Tryz.prog.elem 181=275:=by kernel_rfl
theorem I7:Tryz.prog.underlying 181=some (.slice (Tryz.prog.elem 181)):=by rw[sV];exact Tryz.underlying181
theorem Gj (w:World):(sizeOf (Tryz.prog.elem 181)).run Tryz.prog w=.ok 11 w:=by
 obtain⟨iu,hi,_,hz1,_⟩:=info_parts Gi
 rw[sV]
 simp[sizeOf,typeInfo,hi,hz1]
theorem Ub (A:Option Addr) (n c l:Nat) (h:l≤n) (hc:n≤c) (li:Int) (e1:li=l) :
  ∃ A',(∀ w',(Instr.slice 181 (.slice A n c) (some (.int .i64 li)) none none).run Tryz.prog w'=.ok (.slice A' (n - l) (c - l)) w')∧∀ w xs,Rc leC 11 w A n xs→Rc leC 11 w A' (n - l) (xs.drop l):=by
 subst e1
 refine⟨if c=l then A else A.map (·.add (l * 11)),fun w'=>?_,fun w xs r=>?_⟩
 ·rw[run_slice_l w' 181 A n c I7 .i64 l (by omega) (by omega),Gj]
  rfl
 ·refine⟨by rw[List.length_drop,r.1],?_⟩
  rcases r.2 with h0|⟨b,o,rfl,hx⟩
  ·exact .inl (by omega)
  ·by_cases hcl:c=l
   ·exact .inl (by omega)
   ·rw[if_neg hcl]
    refine .inr ⟨b,o+l * 11,?_,fun k x hk j v hv=>?_⟩
    ·have ea:(⟨b,o,none⟩:Addr).add (l * 11)=⟨b,o+l * 11,none⟩:=by cases l<;>simp[Addr.add]
     simp only[Option.map_some,ea]
    ·rw[List.getElem?_drop] at hk
     have:=hx (l+k) x hk j v hv
     rw[show o+l * 11+k * 11+j=o+(l+k) * 11+j by omega]
     exact this
theorem I8 (x:VV):(vvC x).length=9:=rfl
theorem Pe (s:LS) (k:Nat):(s.e.drop k).map (·.v)=(evs s).drop k:=by unfold evs;rw[List.map_drop]
theorem mf {α:Type}{l:List α}{k:Nat}{x:α}(h:l[k]?=some x):l.take (k+1)=l.take k++[x]:=by
 obtain⟨hk,rfl⟩:=List.getElem?_eq_some_iff.1 h
 exact List.take_succ_eq_append_getElem hk
theorem Uc {base size n:Nat}{e:TypeId}{v:Value}{xs:List Value}{w w':World}(h:w.ownsRow base e size v n xs) (hg:w.grownBy w' v.ownBlock) (hB:base≤w.heap.size):Below base w w' :=
 ⟨hg.os,hg.tape,hg.output,hg.size,fun k hk=>hg.block k (by omega) (fun e=>by have:=(h.lt k e.symm).1;omega)⟩
theorem Pg (seen:Int) (W:WL s) (h:Lp w t x b q G v d s):Calls Tryz.prog 167 #[.pointer (some ⟨x,0,none⟩),.int .i64 seen] w (sU w (oJ s seen)):=by
 obtain⟨A,c,rfl,x3,hc,hcm,hrc⟩:=h.list
 have hlen:=W.len
 obtain⟨n,hn⟩:∃ n,s.e.length=n:=⟨_,rfl⟩
 rw[hn] at x3 hc hlen hrc
 have HN:=ae.mk hn
 have HRC:=ae.mk hrc
 clear h hrc W
 by_cases h0:seen < 0
 ·rw[yQ (fun k=>by have:=k.1;omega)]
  clear hn
  go_enter Tryz.func167,Tryz.ntmps167
  go_wp2
  go_ret
  exact⟨none,0,0,rfl,Nat.le_refl _,by omega,Rc.nil,fun b o h=>by(cases h),Below.refl _ _⟩
 ·by_cases h1:(n:Int) < seen
  ·rw[yQ (fun k=>by have:=k.2;omega)]
   clear hn
   go_enter Tryz.func167,Tryz.ntmps167
   go_wp2
   go_ret
   exact⟨none,0,0,rfl,Nat.le_refl _,by omega,Rc.nil,fun b o h=>by(cases h),Below.refl _ _⟩
  ·obtain⟨k0,rfl⟩:∃ k:Nat,seen=k:=⟨seen.toNat,by omega⟩
   have hk0:k0≤n:=by omega
   rw[Qq (by omega:k0≤s.e.length),← Pe]
   obtain⟨A',hsl,hdr⟩:=Ub A n c k0 hk0 hc (k0:Int) rfl
   have HD:=ae.mk (hdr w s.e HRC.out)
   obtain⟨l,hl⟩:∃ l,s.e.drop k0=l:=⟨_,rfl⟩
   rw[hl] at HD ⊢
   obtain⟨m,hm⟩:∃ m,n - k0=m:=⟨_,rfl⟩
   obtain⟨c2,hc2⟩:∃ c2,c - k0=c2:=⟨_,rfl⟩
   rw[hm] at HD
   rw[hm,hc2] at hsl
   have hm4:m≤400:=by omega
   have hmc:m≤c2:=by omega
   have hc2m:c2≤9223372036854775807:=by omega
   have O:ae (Ow vvC 9 156 w (.slice none 0 0) ((l.take 0).map (·.v))):=⟨Ow.nil _⟩
   have B:ae (Below w.heap.size w w):=⟨Below.refl _ _⟩
   have O2:ae (w.ownsRow w.heap.size 156 9 (.slice none 0 0) 0 (((l.take 0).map (·.v)).flatMap vvC)):=⟨World.ownsRow_nil _ _ _ _⟩
   clear hdr hl hn hm hc2 O
   go_enter Tryz.func167,Tryz.ntmps167
   go_wp2
   clear hsl x3
   go_loopw [5,26] (fun ov i wr=>∃ (k:Nat),k≤m∧i=.int .i64 k∧ae (wr.ownsRow w.heap.size 156 9 ov k (((l.take k).map (·.v)).flatMap vvC))∧ae (Below w.heap.size w wr)) (fun _ i _=>m - (Go.RowKit.intOf i).toNat)
   case atStart=>exact⟨0,by omega,rfl,O2,B⟩
   case round =>
    clear O2 B
    obtain⟨k,hk,rfl,O2,B⟩:=hrel
    by_cases hkm:k < m
    ·have hkm':(k:Int) < m:=by omega
     obtain⟨g,go,y,hA,hy,hyc⟩:=(HD.out.below B.out).at_ hkm
     subst hA
     have HY:=ae.mk (mf hy)
     obtain⟨⟨ek,es,ed,ea,en,ei,eu,eh,ec⟩,who,at_⟩:=y
     have y0:wr.cell? ⟨g,go+k * 11,none⟩=some (.int .i64 who):=hyc 0 _ rfl;have y1:wr.cell? ⟨g,go+k * 11+1,none⟩=some (.int .i64 at_):=hyc 1 _ rfl;have y2:wr.cell? ⟨g,go+k * 11+2,none⟩=some (.int .i64 ek):=hyc 2 _ rfl;have y3:wr.cell? ⟨g,go+k * 11+3,none⟩=some (.int .i64 es):=hyc 3 _ rfl;have y4:wr.cell? ⟨g,go+k * 11+4,none⟩=some (.int .i64 ed):=hyc 4 _ rfl;have y5:wr.cell? ⟨g,go+k * 11+5,none⟩=some (.int .i64 ea):=hyc 5 _ rfl;have y6:wr.cell? ⟨g,go+k * 11+6,none⟩=some (.int .i64 en):=hyc 6 _ rfl;have y7:wr.cell? ⟨g,go+k * 11+7,none⟩=some (.int .i64 ei):=hyc 7 _ rfl;have y8:wr.cell? ⟨g,go+k * 11+8,none⟩=some (.int .i64 eu):=hyc 8 _ rfl;have y9:wr.cell? ⟨g,go+k * 11+9,none⟩=some (.string (strOfNums eh)):=hyc 9 _ rfl;have y10:wr.cell? ⟨g,go+k * 11+10,none⟩=some (.string (strOfNums ec)):=hyc 10 _ rfl
     clear hyc hy
     have b1:Below wr.heap.size wr (wr.alloc (.cells #[.int .i64 who,.int .i64 at_,.int .i64 ek,.int .i64 es,.int .i64 ed,.int .i64 ea,.int .i64 en,.int .i64 ei,.int .i64 eu,.string (strOfNums eh),.string (strOfNums ec)] 275)):=(Below.refl _ _).alloc (Nat.le_refl _) _
     obtain⟨M,hM⟩:∃ M,wr.heap.size=M:=⟨_,rfl⟩
     have X:ae (Blk (wr.alloc (.cells #[.int .i64 who,.int .i64 at_,.int .i64 ek,.int .i64 es,.int .i64 ed,.int .i64 ea,.int .i64 en,.int .i64 ei,.int .i64 eu,.string (strOfNums eh),.string (strOfNums ec)] 275)) M 275 #[.int .i64 who,.int .i64 at_,.int .i64 ek,.int .i64 es,.int .i64 ed,.int .i64 ea,.int .i64 en,.int .i64 ei,.int .i64 eu,.string (strOfNums eh),.string (strOfNums ec)]):=⟨Blk.new_at _ _ _ M hM.symm⟩
     obtain⟨vs,hov⟩:=aY O2.out
     obtain⟨cs,rfl⟩:=hov
     go_upto_region 7 with(fail)
     replace O2:=ae.mk (own_keep O2.out (barOf b1 []) (fun _ _=>by simp))
     replace B:=ae.mk (B.out.trans (b1.mono B.out.size))
     clear y0 y1 y2 y3 y4 y5 y6 y7 y8 y9 y10 b1
     generalize wr.alloc (.cells #[.int .i64 who,.int .i64 at_,.int .i64 ek,.int .i64 es,.int .i64 ed,.int .i64 ea,.int .i64 en,.int .i64 ei,.int .i64 eu,.string (strOfNums eh),.string (strOfNums ec)] 275)=w3 at *
     have y2:w3.cell? ⟨M,2,none⟩=some (.int .i64 ek):=X.out.cell 2;have y3:w3.cell? ⟨M,3,none⟩=some (.int .i64 es):=X.out.cell 3;have y4:w3.cell? ⟨M,4,none⟩=some (.int .i64 ed):=X.out.cell 4;have y5:w3.cell? ⟨M,5,none⟩=some (.int .i64 ea):=X.out.cell 5;have y6:w3.cell? ⟨M,6,none⟩=some (.int .i64 en):=X.out.cell 6;have y7:w3.cell? ⟨M,7,none⟩=some (.int .i64 ei):=X.out.cell 7;have y8:w3.cell? ⟨M,8,none⟩=some (.int .i64 eu):=X.out.cell 8;have y9:w3.cell? ⟨M,9,none⟩=some (.string (strOfNums eh)):=X.out.cell 9;have y10:w3.cell? ⟨M,10,none⟩=some (.string (strOfNums ec)):=X.out.cell 10
     have b2:Below w3.heap.size w3 (w3.alloc (.cells #[.int .i64 ek,.int .i64 es,.int .i64 ed,.int .i64 ea,.int .i64 en,.int .i64 ei,.int .i64 eu,.string (strOfNums eh),.string (strOfNums ec)] 156)):=(Below.refl _ _).alloc (Nat.le_refl _) _
     replace O2:=ae.mk (own_keep O2.out (barOf b2 []) (fun _ _=>by simp))
     replace B:=ae.mk (B.out.trans (b2.mono B.out.size))
     have NC:=rM w3 156 [.int .i64 ek,.int .i64 es,.int .i64 ed,.int .i64 ea,.int .i64 en,.int .i64 ei,.int .i64 eu,.string (strOfNums eh),.string (strOfNums ec)]
     obtain⟨iu,hi,hz0,hz1,hz2⟩:=info_parts FI
     go_wp2_with ((with_reducible refine sel 34 ?_);refine wpList_append_own_at _ rfl (.tmp 30) (.tmp 33) 66 rfl w.heap.size 156 iu (.agg #[.int .i64 0,.int .i64 0,.int .i64 0,.int .i64 0,.int .i64 0,.int .i64 0,.int .i64 0,.string ⟨#[]⟩,.string ⟨#[]⟩]) 9 88 Tryz.underlying66 hi hz0 hz1 hz2 rfl (by omega) _ k _ rfl O2.out ⟨w3.heap.size,0,none⟩ 1 1 [.int .i64 ek,.int .i64 es,.int .i64 ed,.int .i64 ea,.int .i64 en,.int .i64 ei,.int .i64 eu,.string (strOfNums eh),.string (strOfNums ec)] rfl rfl NC (Ol ⟨ek,es,ed,ea,en,ei,eu,eh,ec⟩) (by unfold maxLen;omega) (by omega) B.out.size ?_;intro v' w' ho hg _ hat)
     have O3:ae (w'.ownsRow w.heap.size 156 9 v' (k+1) (((l.take (k+1)).map (·.v)).flatMap vvC)):=⟨by
      rw[HY.out,List.map_append,List.flatMap_append]
      simpa [vvC] using ho⟩
     replace B:=ae.mk (B.out.trans (Uc O2.out hg B.out.size))
     clear ho hg NC b2 hi hz0 hz1 hz2 X
     go_roundw
     case rel=>exact⟨k+1,by omega,by go_num,O3,B⟩
     case measure=>simp[Go.RowKit.intOf];omega
    ·have hkm':¬ (k:Int) < m:=by omega
     obtain rfl:k=m:=by omega
     obtain⟨Az,cz,hz,z1,z2,z3⟩:=Rc.own I8 O2.out (by rw[List.length_map,List.length_take,HD.out.1];omega)
     subst hz
     have HZ:=ae.mk z3
     clear z3
     go_wp2
     go_ret
     have HTK:l.take k=l:=by rw[← HD.out.1,List.take_length]
     refine⟨Az,k,cz,rfl,z1,z2,by have:=HZ.out;rwa [HTK] at this,fun b o hA=>?_,B.out⟩
     subst hA
     exact⟨(O2.out.lt b rfl).1,by simp⟩
theorem Ph (h:Lp w t x b q G v d s):Calls Tryz.prog 127 #[.pointer (some ⟨x,0,none⟩)] w (nP (.int .i64 s.clock) w):=by
 have x2:=h.c2
 clear h
 go_enter Tryz.func127,Tryz.ntmps127
 go_wp2
 go_ret
 exact⟨rfl,Below.refl _ _⟩
end
section
variable {w : World} {t x b q : Nat} {F G : List Nat} {v d : Value} {s : LS}
theorem rc_one {α:Type}{C:α→List Value}{z:Nat}{w:World}{M:Nat}{T:TypeId}{cs:Array Value}(y:α) (h:Blk w M T cs) (hc:cs=(C y).toArray):Rc C z w (some ⟨M,0,none⟩) 1 [y]:=by
 subst hc
 refine⟨rfl,.inr ⟨M,0,rfl,fun k u hx j v hv=>?_⟩⟩
 have hk:k=0:=by
  have:=(List.getElem?_eq_some_iff.1 hx).1
  simpa using this
 subst hk
 simp at hx
 subst hx
 rw[show 0+0 * z+j=j by omega,h.cell j,List.getElem?_toArray,hv]
theorem I9 (k:Int) (W:WL s) (h:Lp w t x b q G v d s):Calls Tryz.prog 200 #[.pointer (some ⟨x,0,none⟩),.int .i64 k] w (nP (.bool (CW s k)) w):=by
 obtain⟨A,c,rfl,x3,hc,hcm,-⟩:=h.list
 have H:=ae.mk h
 have hr:=W.room;have hcap:=W.cap
 have h0:0≤openB s.b:=by unfold openB;omega
 have KO:=ae.mk (xY (h.pk.below (Below.refl _ _).drew))
 obtain⟨n,hn⟩:∃ n,s.e.length=n:=⟨_,rfl⟩
 obtain⟨o,ho⟩:∃ o,openB s.b=o:=⟨_,rfl⟩
 obtain⟨m,hm⟩:∃ m,s.cap=m:=⟨_,rfl⟩
 have RK:CW s k=if k=1 then decide ((n:Int)+o+1≤m) else if k=2 then decide ((n:Int)+o+2≤m) else true:=by
  unfold CW yM
  rw[hn,ho,hm]
 rw[RK]
 rw[ho,hn,hm] at hr
 rw[ho] at h0 KO
 rw[hm] at hcap
 have CS:∀ {u:World},Lp u t x b q G v (.slice A s.e.length c) s→u.cell? ⟨x,0,none⟩=some (.pointer (some ⟨b,0,none⟩))∧u.cell? ⟨x,1,none⟩=some (.int .i64 m)∧u.cell? ⟨x,3,none⟩=some (.slice A n c):=fun h=>⟨h.c0,by rw[← hm];exact h.c1,by rw[← hn];exact h.blk.cell 3⟩
 rw[hn] at hc
 obtain⟨z,hz⟩:∃ z:Int,(n:Int)+o=z:=⟨_,rfl⟩
 rw[hz]
 rw[hz] at hr
 have W1:IntKind.i64.wrap ((n:Int)+o)=z:=by simp only[IntKind.wrap_i64];omega
 have Z:ae (0≤z∧z≤400):=⟨by omega,by omega⟩
 unfold nP at KO
 have HM:=ae.mk hm
 clear h RK hr hcap h0 hn ho hm hz x3
 go_enter Tryz.func200,Tryz.ntmps200
 go_upto_region 1 with(fail)
 refine wp_region_noPanic ?_
 refine wp_region_held_drew (S:=fun u:World=>u.cell? ⟨x,0,none⟩=some (.pointer (some ⟨b,0,none⟩))∧u.cell? ⟨x,1,none⟩=some (.int .i64 m)∧u.cell? ⟨x,3,none⟩=some (.slice A n c)) (by kernel_rfl) (CS (H.out.below (Below.refl _ _).drew)) (fun _=>?_)
 refine tk 0 ?_
 simp only[Act.put,zA,zB,zC]
 refine tk 1 ?_
 simp only[Act.put,zA,zB,zC]
 refine tk 2 ?_
 simp only[Act.put,zA,zB,zC]
 refine tk 3 ?_
 simp only[Act.put,zA,zB,zC]
 refine tk 4 ?_
 simp only[Act.put,zA,zB,zC]
 refine tk 5 ?_
 simp only[Act.put,zA,zB,zC]
 refine tk 6 ?_
 simp only[Act.put,zA,zB,zC]
 refine tk 7 ?_
 simp only[Act.put,zA,zB,zC]
 refine tk 8 ?_
 simp only[Act.put,zA,zB,zC]
 refine ld 9 (fun K hK=>?_)
 go_simp
 go_at_call 229
 refine KO.out.mono ?_
 rintro e w1 ⟨rfl,b1⟩
 have B1:=ae.mk ((Below.refl _ w).drew.trans b1)
 have H1:=ae.mk (H.out.below B1.out)
 refine hK.out _ _ (CS H1.out) (fun _=>?_)
 clear hK K KO b1
 refine tk 10 ?_
 simp only[Act.put,zA,zB,zC]
 refine tk 11 ?_
 simp only[Act.put,zA,zB,zC]
 refine wpAnyH_done (by kernel_rfl) ?_ _
 refine NoPanic.normal ?_
 clear W1 CS
 obtain⟨z0,z1⟩:=Z.out
 have x1:=H1.out.c1
 rw[HM.out] at x1
 by_cases h1:k=1
 ·subst h1
  rw[if_pos rfl]
  go_wp2
  go_ret
  exact⟨rfl,B1.out⟩
 ·have h1':(k == 1)=false:=beq_eq_false_iff_ne.2 h1
  rw[if_neg h1]
  by_cases h2:k=2
  ·subst h2
   rw[if_pos rfl]
   go_wp2
   go_ret
   exact⟨rfl,B1.out⟩
  ·have h2':(k == 2)=false:=beq_eq_false_iff_ne.2 h2
   rw[if_neg h2]
   go_wp2
   go_ret
   exact⟨rfl,B1.out⟩
theorem Gl (r:RV) (hr:r.ok):Calls Tryz.prog 198 #[rqv r] w (nP (.bool (decide (MayR r))) w):=by
 obtain⟨kind,dst,asset,amount,id,due,hash,sec⟩:=r
 unfold rqv
 dsimp only
 obtain⟨N,hN⟩:∃ N,w.heap.size=N:=⟨_,rfl⟩
 have b0:Below w.heap.size w (w.alloc (.cells #[.int .i64 kind,.int .i64 dst,.int .i64 asset,.int .i64 amount,.int .i64 id,.int .i64 due,.string (strOfNums hash),.string (strOfNums sec)] 164)):=(Below.refl _ _).alloc (Nat.le_refl _) _
 have X1:ae (Blk (w.alloc (.cells #[.int .i64 kind,.int .i64 dst,.int .i64 asset,.int .i64 amount,.int .i64 id,.int .i64 due,.string (strOfNums hash),.string (strOfNums sec)] 164)) N 164 #[.int .i64 kind,.int .i64 dst,.int .i64 asset,.int .i64 amount,.int .i64 id,.int .i64 due,.string (strOfNums hash),.string (strOfNums sec)]):=⟨Blk.new_at w _ _ N hN.symm⟩
 have B:=ae.mk b0
 have HR:=ae.mk hr
 clear hr b0
 go_enter Tryz.func198,Tryz.ntmps198
 go_upto_region 1 with(fail)
 generalize w.alloc (.cells #[.int .i64 kind,.int .i64 dst,.int .i64 asset,.int .i64 amount,.int .i64 id,.int .i64 due,.string (strOfNums hash),.string (strOfNums sec)] 164)=w1 at *
 have x0:=X1.out.cell 0;have x1:=X1.out.cell 1;have x2:=X1.out.cell 2;have x3:=X1.out.cell 3;have x4:=X1.out.cell 4;have x5:=X1.out.cell 5;have x6:=X1.out.cell 6;have x7:=X1.out.cell 7
 have b2:Below w1.heap.size w1 (w1.alloc (.cells #[.int .i64 kind,.int .i64 dst,.int .i64 asset,.int .i64 amount,.int .i64 id,.int .i64 due,.string (strOfNums hash),.string (strOfNums sec)] 164)):=(Below.refl _ _).alloc (Nat.le_refl _) _
 replace B:=ae.mk (B.out.trans (b2.mono B.out.size))
 have KE:=IQ (c:=1) (l:=[⟨kind,dst,asset,amount,id,due,hash,sec⟩]) 0 (rc_one (C:=rvC) (z:=8) ⟨kind,dst,asset,amount,id,due,hash,sec⟩ (Blk.new w1 164 #[.int .i64 kind,.int .i64 dst,.int .i64 asset,.int .i64 amount,.int .i64 id,.int .i64 due,.string (strOfNums hash),.string (strOfNums sec)]) rfl) (by intro r hr;rw[List.mem_singleton] at hr;exact hr▸HR.out)
 unfold uJ at KE
 obtain⟨z,hz⟩:∃ z,(encB ⟨0,[⟨kind,dst,asset,amount,id,due,hash,sec⟩]⟩).1=z:=⟨_,rfl⟩
 obtain⟨q,hq⟩:∃ q,decide (MayR ⟨kind,dst,asset,amount,id,due,hash,sec⟩)=q:=⟨_,rfl⟩
 have hzq:(z=0∧q=true)∨(z=1∧q=false):=by
  rcases whole_code ⟨kind,dst,asset,amount,id,due,hash,sec⟩ with h|h
  ·exact .inl ⟨hz▸h,by rw[← hq];exact decide_eq_true ((zk _).1 h)⟩
  ·exact .inr ⟨hz▸h,by rw[← hq];exact decide_eq_false (fun k=>by rw[(zk _).2 k] at h;cases h)⟩
 rw[hz] at KE
 have HQ:=ae.mk hq
 have KE2:=ae.mk KE
 clear KE b2 hz hq X1
 go_wp2_with fail
 refine KE2.out.mono ?_
 rintro e w2 ⟨A,n,c,rfl,-,-,-,bb⟩
 replace B:=ae.mk (B.out.trans (bb.mono B.out.size))
 clear KE2 bb x0 x1 x2 x3 x4 x5 x6 x7
 rcases hzq with⟨rfl,rfl⟩|⟨rfl,rfl⟩
 ·go_wp2
  go_ret
  exact⟨by rw[HQ.out];rfl,B.out⟩
 ·go_wp2
  go_ret
  exact⟨by rw[HQ.out];rfl,B.out⟩
end
structure RowK {α:Type} (C:α→List Value) (z:Nat) (w:World) (F:List Nat) (A:Option Addr) (n:Nat) (l:List α):Prop where
 rc:Rc C z w A n l
 away:n=0∨∃ b o,A=some ⟨b,o,none⟩∧b < w.heap.size∧b∉F
section
variable {α : Type} {C : α → List Value} {z : Nat} {w w' : World} {F F' : List Nat} {A : Option Addr} {n : Nat} {l : List α}
theorem RowK.step (h:RowK C z w F A n l) (b:Bar F w w') (hF:∀ k∈F',k∈F∨w.heap.size≤k):RowK C z w' F' A n l:=by
 rcases h.away with h0|⟨g,o,rfl,h1,h2⟩
 ·refine⟨⟨h.rc.1,.inl h0⟩,.inl h0⟩
 ·refine⟨h.rc.bar b (fun x hx=>.inr (fun o' ho=>?_)),.inr ⟨g,o,rfl,Nat.lt_of_lt_of_le h1 b.size,fun hm=>?_⟩⟩
  ·injection ho with ho;injection ho with ho;subst ho;exact h2 hx
  ·rcases hF g hm with k|k
   ·exact h2 k
   ·omega
theorem RowK.below (h:RowK C z w F A n l) (b:Below w.heap.size w w'):RowK C z w' F A n l:=h.step (barOf b F) (fun _ hk=>.inl hk)
theorem RowK.new (h:Rc C z w' A n l) (hC:∀ x,C x≠[]) (hn:jK w F A):RowK C z w' F A n l:=by
 refine⟨h,?_⟩
 by_cases h0:n=0
 ·exact .inl h0
 ·obtain⟨b,o,x,hA,hx,hc⟩:=h.at_ (k:=0) (by omega)
  refine .inr ⟨b,o,hA,?_,(hn b o hA).2⟩
  cases hcx:C x with
  | nil=>exact absurd hcx (hC x)
  | cons v r=>exact World.block_lt_of_cell? _ _ (hc 0 v (by rw[hcx];rfl))
end
theorem Sj (x:RV):rvC x≠[]:=by simp[rvC]
theorem Sm (x:PV):pvC x≠[]:=by simp[pvC]
structure BlkK (w:World) (F:List Nat) (N:Nat) (T:TypeId) (cs:Array Value):Prop where
 blk:Blk w N T cs
 away:N∉F
theorem BlkK.step {w w':World}{F F':List Nat}{N:Nat}{T:TypeId}{cs:Array Value}(h:BlkK w F N T cs) (b:Bar F w w') (hF:∀ k∈F',k∈F∨w.heap.size≤k):BlkK w' F' N T cs :=
 ⟨h.blk.bar b h.away,fun hm=>by
  rcases hF N hm with k|k
  ·exact h.away k
  ·have:=h.blk.lt;omega⟩
theorem BlkK.below {w w':World}{F:List Nat}{N:Nat}{T:TypeId}{cs:Array Value}(h:BlkK w F N T cs) (b:Below w.heap.size w w'):BlkK w' F N T cs:=⟨h.blk.below b h.blk.lt,h.away⟩
theorem BlkK.new {w:World}{F:List Nat}(T:TypeId) (cs:Array Value) (N:Nat) (hN:N=w.heap.size) (hF:∀ k∈F,k < w.heap.size):BlkK (w.alloc (.cells cs T)) F N T cs:=⟨Blk.new_at w T cs N hN,fun hm=>by have:=hF N hm;omega⟩
end Ledger
namespace Vault
open Go.RowKit Num Sha Purse Escrow Wire Req Disk Go.Proofs.YtlkeieoecfkkeaaGreat.Frame
section
variable {w : World} {A : Option Addr} {n c : Nat} {X : Nat → List Int} {cap : Int}
open Classical in
noncomputable def checkV (n:Nat) (X:Nat→List Int) (cap:Int):Int:=if Ledger.bU n X cap then 0 else 1
open Classical in
noncomputable def needV (n:Nat) (X:Nat→List Int) (cap:Int):Int:=if Ledger.bU n X cap then 2 * (sectorsF (14+63 * cap+220 * (n:Int))+sectorsF 3300) else 0
theorem Gm (hr:Rwi w A n X):Calls Tryz.prog 41 #[.agg #[.slice A n c,.int .i64 cap]] w fun e w'=>e=.returned (.int .i64 (checkV n X cap))∧Below w.heap.size w w':=by
 obtain⟨N,hN⟩:∃ N,w.heap.size=N:=⟨_,rfl⟩
 have b0:Below w.heap.size w (w.alloc (.cells #[.slice A n c,.int .i64 cap] 41)):=(Below.refl _ _).alloc (Nat.le_refl _) _
 have X1:ae (Blk (w.alloc (.cells #[.slice A n c,.int .i64 cap] 41)) N 41 #[.slice A n c,.int .i64 cap]):=⟨Blk.new_at w _ _ N hN.symm⟩
 have KN:=ae.mk (Ledger.xZ (c:=c) cap (hr.below b0))
 have B:=ae.mk b0
 unfold Ledger.qj at KN
 clear hr b0
 go_enter Tryz.func41,Tryz.ntmps41
 go_upto_region 1 with(fail)
 generalize w.alloc (.cells #[.slice A n c,.int .i64 cap] 41)=w1 at *
 have x0:=X1.out.cell 0;have x1:=X1.out.cell 1
 go_wp2_with fail
 refine KN.out.mono ?_
 rintro e w2 (⟨hn,rfl,bb⟩|⟨hn,p,G,rfl,hp,bb,hG⟩)
 ·have B2:=ae.mk (B.out.trans (bb.mono B.out.size))
  have E:ae (checkV n X cap=1):=⟨if_neg hn⟩
  clear KN bb x0 x1 hn
  go_wp2
  go_ret
  exact⟨by rw[E.out];rfl,B2.out⟩
 ·have B2:=ae.mk (B.out.trans (bb.mono B.out.size))
  have E:ae (checkV n X cap=0):=⟨if_pos hn⟩
  clear KN bb x0 x1 hn hp hG
  go_wp2
  go_ret
  exact⟨by rw[E.out];rfl,B2.out⟩
theorem ql (hr:Rwi w A n X):Calls Tryz.prog 19 #[.agg #[.slice A n c,.int .i64 cap]] w fun e w'=>e=.returned (.int .i64 (needV n X cap))∧Below w.heap.size w w':=by
 obtain⟨N,hN⟩:∃ N,w.heap.size=N:=⟨_,rfl⟩
 have b0:Below w.heap.size w (w.alloc (.cells #[.slice A n c,.int .i64 cap] 41)):=(Below.refl _ _).alloc (Nat.le_refl _) _
 have X1:ae (Blk (w.alloc (.cells #[.slice A n c,.int .i64 cap] 41)) N 41 #[.slice A n c,.int .i64 cap]):=⟨Blk.new_at w _ _ N hN.symm⟩
 have KN:=ae.mk (Gm (c:=c) (cap:=cap) (hr.below b0))
 have B:=ae.mk b0
 clear hr b0
 go_enter Tryz.func19,Tryz.ntmps19
 go_upto_region 1 with(fail)
 generalize w.alloc (.cells #[.slice A n c,.int .i64 cap] 41)=w1 at *
 have x0:=X1.out.cell 0;have x1:=X1.out.cell 1
 go_wp2_with fail
 refine KN.out.mono ?_
 rintro e w2 ⟨rfl,bb⟩
 have B2:=ae.mk (B.out.trans (bb.mono B.out.size))
 have X2:=ae.mk (X1.out.below bb X1.out.lt)
 clear KN bb x0 x1 X1
 by_cases h:Ledger.bU n X cap
 ·have E:ae (needV n X cap=2 * (sectorsF (14+63 * cap+220 * (n:Int))+sectorsF 3300)):=⟨if_pos h⟩
  rw[show checkV n X cap=0 from if_pos h]
  have hcap:=h.2
  have hn16:n≤16:=by have:=h.1;unfold mG at this;omega
  clear h
  obtain⟨h1,h2⟩:=hcap
  have x0:=X2.out.cell 0;have x1:=X2.out.cell 1
  have KS:=ae.mk (dP (14+63 * cap+220 * (n:Int)) w2)
  go_wp2_with fail
  refine KS.out.mono ?_
  rintro e w3 ⟨rfl,rfl⟩
  have KS2:=ae.mk (dP 3300 w2)
  have hs:ae (0≤sectorsF (14+63 * cap+220 * (n:Int))∧sectorsF (14+63 * cap+220 * (n:Int))≤100000∧0≤sectorsF 3300∧sectorsF 3300≤100000):=⟨by
   unfold sectorsF;omega⟩
  obtain⟨s1,hs1⟩:∃ s1,sectorsF (14+63 * cap+220 * (n:Int))=s1:=⟨_,rfl⟩
  obtain⟨s2,hs2⟩:∃ s2,sectorsF 3300=s2:=⟨_,rfl⟩
  rw[hs1,hs2] at hs E
  rw[hs2] at KS2
  rw[hs1]
  clear KS x0 x1 hs1 hs2
  obtain⟨q1,q2,q3,q4⟩:=hs.out
  go_wp2_with fail
  refine KS2.out.mono ?_
  rintro e w3 ⟨rfl,rfl⟩
  clear KS2
  go_wp2
  go_ret
  exact⟨by rw[E.out];rfl,B2.out⟩
 ·have E:ae (needV n X cap=0):=⟨if_neg h⟩
  rw[show checkV n X cap=1 from if_neg h]
  clear h
  go_wp2
  go_ret
  exact⟨by rw[E.out];rfl,B2.out⟩
end
end Vault
end Go.Proofs.YtlkeieoecfkkeaaGreat
