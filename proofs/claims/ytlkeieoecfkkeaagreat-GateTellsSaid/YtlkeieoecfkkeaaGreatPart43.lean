/-
  Parts laid together: VaultC9 VaultQ VaultTab GateMem GateParty VaultNew.
-/
import Derived.Test.YtlkeieoecfkkeaaGreatPart41
import Derived.Test.YtlkeieoecfkkeaaGreatPart23
import Derived.Test.YtlkeieoecfkkeaaGreatPart42
import Derived.Test.YtlkeieoecfkkeaaGreatPart12
import Derived.Test.YtlkeieoecfkkeaaGreatPart8
import Derived.Test.YtlkeieoecfkkeaaGreatPart5
import Derived.Test.YtlkeieoecfkkeaaGreatPart1
import Derived.Test.YtlkeieoecfkkeaaGreatPart26
import Derived.Deep.RegionHeld3
import Derived.Deep.DeepCutAuto
import Derived.Test.YtlkeieoecfkkeaaGreatPart17
import Derived.Test.YtlkeieoecfkkeaaGreatPart19
import Derived.Test.YtlkeieoecfkkeaaGreatPart9
namespace Go.Proofs.YtlkeieoecfkkeaaGreat.Vault
open Go.RowKit Go.Proofs.YtlkeieoecfkkeaaGreat.Num Go.Proofs.YtlkeieoecfkkeaaGreat.Sha Go.Proofs.YtlkeieoecfkkeaaGreat.Purse Go.Proofs.YtlkeieoecfkkeaaGreat.Escrow Go.Proofs.YtlkeieoecfkkeaaGreat.Wire Go.Proofs.YtlkeieoecfkkeaaGreat.Req Go.Proofs.YtlkeieoecfkkeaaGreat.Disk Go.Proofs.YtlkeieoecfkkeaaGreat.Frame
section
variable {w : World} {HJ FL I : List Nat} {x t d j y n : Nat} {lv : Value} {l : List (TV × LM)} {m : MV} {s0 : Ledger.LS} {party seq clock de : Int} {b : List Int} {X : BV}
end
def VQ (b:Nat) (K:List Nat) (w:World) (x t d n:Nat) (m:MV):Prop:=∃ j y HJ FL I lv,(∃ l,Vp w x t d j y n HJ FL I lv l m)∧∀ z∈vf x HJ FL I lv,b≤z∧z∉K
def Far (b:Nat) (K:List Nat) (w w':World):Prop:=∃ F,Bar F w w'∧∀ z∈F,b≤z∧z∉K
section
variable {b : Nat} {K K' H : List Nat} {w w' w2 : World} {x t d n k : Nat} {m : MV} {s0 : Ledger.LS} {party seq clock de : Int} {bs : List Int} {X : BV} {s : DS}
theorem VQ.below (h:VQ b K w x t d n m) (bb:Below w.heap.size w w'):VQ b K w' x t d n m:=by
 obtain⟨j,y,HJ,FL,I,lv,⟨l,h1⟩,h2⟩:=h
 exact⟨j,y,HJ,FL,I,lv,⟨l,h1.below bb⟩,h2⟩
theorem VQ.more (h:VQ b K w x t d n m) (hk:∀ z∈K',w.heap.size≤z∨z∈K):VQ b K' w x t d n m:=by
 obtain⟨j,y,HJ,FL,I,lv,⟨l,h1⟩,h2⟩:=h
 refine⟨j,y,HJ,FL,I,lv,⟨l,h1⟩,fun z hz=>⟨(h2 z hz).1,fun hm=>?_⟩⟩
 rcases hk z hm with e|e
 ·have:=h1.all z hz;omega
 ·exact(h2 z hz).2 e
theorem VQ.size (h:VQ b K w x t d n m):b≤w.heap.size:=by
 obtain⟨j,y,HJ,FL,I,lv,⟨l,h1⟩,h2⟩:=h
 have e:x∈vf x HJ FL I lv:=vf_mem.2 (.inl rfl)
 have:=h1.all x e;have:=(h2 x e).1;omega
theorem Far.of (bb:Below w.heap.size w w'):Far b K w w':=⟨[],barOf bb [],by simp⟩
theorem Far.trans (h:Far b K w w') (h2:Far b K w' w2):Far b K w w2:=by
 obtain⟨F,h1,h3⟩:=h
 obtain⟨G,k1,k3⟩:=h2
 exact⟨F++G,(h1.mono (fun z hz=>.inl (List.mem_append_left _ hz))).trans (k1.mono (fun z hz=>.inl (List.mem_append_right _ hz))) (fun z hz=>.inl hz),fun z hz=>by
  rcases List.mem_append.1 hz with e|e
  ·exact h3 z e
  ·exact k3 z e⟩
theorem Far.below (h:Far b K w w') (hb:b≤w.heap.size):Below b w w':=by
 obtain⟨F,h1,h3⟩:=h
 exact h1.below hb (fun z hz=>(h3 z hz).1)
theorem Far.blk (h:Far b K w w') {z:Nat}{T:TypeId}{cs:Array Value}(hb:Blk w z T cs) (hz:z∈K∨z < b):Blk w' z T cs:=by
 obtain⟨F,h1,h3⟩:=h
 exact hb.bar h1 (fun hm=>by
  rcases hz with e|e
  ·exact(h3 z hm).2 e
  ·have:=(h3 z hm).1;omega)
theorem Far.rd (h:Far b K w w') {A:Option Addr}{l:Nat}{xs:List Int}(r:Rd w A l xs) (hA:In A l K):Rd w' A l xs:=by
 obtain⟨F,h1,h3⟩:=h
 exact r.far h1 (by
  rcases hA with e|⟨g,o,e,hg⟩
  ·exact .inl e
  ·exact .inr ⟨g,o,e,fun hm=>(h3 g hm).2 hg⟩)
theorem VQ.off (h:VQ b K w x t d n m) {A:Option Addr}{l:Nat}(hA:In A l K):∃ j y HJ FL I lv,(∃ l,Vp w x t d j y n HJ FL I lv l m)∧(∀ z∈vf x HJ FL I lv,b≤z∧z∉K)∧Off A l (vf x HJ FL I lv):=by
 obtain⟨j,y,HJ,FL,I,lv,h1,h2⟩:=h
 refine⟨j,y,HJ,FL,I,lv,h1,h2,?_⟩
 rcases hA with e|⟨g,o,e,hg⟩
 ·exact .inl e
 ·exact .inr ⟨g,o,e,fun hm=>(h2 g hm).2 hg⟩
theorem far_size (h:Far b K w w'):w.heap.size≤w'.heap.size:=by
 obtain⟨F,h1,-⟩:=h
 exact h1.size
def VQOPost (b:Nat) (K:List Nat) (w:World) (t d n:Nat) (m:MV) (e:Ending) (w':World):Prop :=
 ∃ x,e=.returned (.tuple #[.pointer (some ⟨x,0,none⟩),.int .i64 0])∧VQ b K w' x t d n m∧Far b K w w'
theorem vq_open {A:Option Addr}{c:Nat}{Y:Nat→List Int}{cap:Int}(sd:Journal.Sd w H t d n s) (hH:∀ z∈H,b≤z∧z∉K) (hK:∀ z∈K,z < w.heap.size) (hb:b≤w.heap.size) (hr:Rwi w A k Y) (hok:Ledger.confOk k Y cap) (hneed:needV k Y cap≤(n:Int)) (hh:(Journal.openJ s).has=false) (hrec:(Journal.openJ s).recs=[]) :
  Calls Tryz.prog 21 #[.pointer (some ⟨t,0,none⟩),.agg #[.slice A k c,.int .i64 cap],.pointer (some ⟨d,0,none⟩)] w (VQOPost b K w t d n ⟨s,Journal.openJ s,newV (Ledger.newL k Y cap) k,false,0⟩):=by
 refine(vopen_new (c:=c) sd hr hok hneed hh hrec).mono ?_
 rintro e w' ⟨x,rfl,j,y,HJ,FL,I,lv,v,fp⟩
 refine⟨x,rfl,⟨j,y,HJ,FL,I,lv,v,fun z hz=>?_⟩,_,fp.1,hH⟩
 rcases fp.2 z hz with e|e
 ·exact hH z e
 ·exact⟨by omega,fun hm=>by have:=hK z hm;omega⟩
end
section
variable {b : Nat} {K : List Nat} {w w' : World} {HJ FL I : List Nat} {x t d j y n : Nat} {lv : Value} {l : List (TV × LM)} {m : MV}
theorem Vp.tab (h:Vp w x t d j y n HJ FL I lv l m) (bb:Bar [t] w w') (ht:Tab w' t):Vp w' x t d j y n HJ FL I lv l m:=by
 have tJ:=h.tJ
 have tF:∀ k∈FL,k∉[t]:=fun k hk hm=>by rw[List.mem_singleton] at hm;exact h.LJ k hk (hm▸tJ)
 have k:=(h.apply (h.lk.keep bb tF ht) (bb.mono (fun z hz=>.inl (by rw[List.mem_singleton] at hz;rw[hz];exact List.mem_cons_self ..))) (fun k hk=>.inl hk)).1
 exact k
theorem VQ.tab (h:VQ b K w x t d n m) (bb:Bar [t] w w') (ht:Tab w' t):VQ b K w' x t d n m:=by
 obtain⟨j,y,HJ,FL,I,lv,⟨l,h1⟩,h2⟩:=h
 exact⟨j,y,HJ,FL,I,lv,⟨l,h1.tab bb ht⟩,h2⟩
theorem VQ.has_tab (h:VQ b K w x t d n m):Tab w t∧b≤t∧t∉K∧b≤x∧x∉K:=by
 obtain⟨j,y,HJ,FL,I,lv,⟨l,h1⟩,h2⟩:=h
 have ht:=h2 t (vf_mem.2 (.inr (.inr (.inl h1.tJ))))
 have hx:=h2 x (vf_mem.2 (.inl rfl))
 exact⟨tab_sy h1.sy,ht.1,ht.2,hx.1,hx.2⟩
theorem Far.tab (h:VQ b K w x t d n m) (bb:Bar [t] w w'):Far b K w w' :=
 ⟨[t],bb,fun z hz=>by rw[List.mem_singleton] at hz;rw[hz];exact⟨h.has_tab.2.1,h.has_tab.2.2.1⟩⟩
theorem VQ.own (h:VQ b K w x t d n m) {F:List Nat}(bb:Bar F w w') (hF:∀ z∈F,z∈K):VQ b K w' x t d n m:=by
 obtain⟨j,y,HJ,FL,I,lv,⟨l,h1⟩,h2⟩:=h
 have hd:∀ z∈vf x HJ FL I lv,z∉F:=fun z hz hm=>(h2 z hz).2 (hF z hm)
 exact⟨j,y,HJ,FL,I,lv,⟨l,h1.keep bb hd⟩,h2⟩
end
end Go.Proofs.YtlkeieoecfkkeaaGreat.Vault
namespace Go.Proofs.YtlkeieoecfkkeaaGreat.Gate
open Go.RowKit Go.Proofs.YtlkeieoecfkkeaaGreat.Sha Go.Proofs.YtlkeieoecfkkeaaGreat.Wire Go.Proofs.YtlkeieoecfkkeaaGreat.Mac Go.Proofs.YtlkeieoecfkkeaaGreat.Seal Go.Proofs.YtlkeieoecfkkeaaGreat.Vault Go.Proofs.YtlkeieoecfkkeaaGreat.Meter
structure GS where
 g:Nat
 t:Nat
 x:Nat
 d:Nat
 n:Nat
 mb:Nat
 k:Nat
 which:Int
 seed:List Int
structure Gp (b:Nat) (K:List Nat) (w:World) (S:GS) (A:Option Addr) (l c r:Nat) (m:MV) (cs:List Int):Prop where
 blk:Blk w S.g 129 #[.pointer (some ⟨S.t,0,none⟩),.int .i64 S.which,.slice A l c,.pointer (some ⟨S.x,0,none⟩),.pointer (some ⟨S.mb,0,none⟩),.int .i64 S.k]
 rd:Rd w A l S.seed
 lc:l≤c∧c≤9223372036854775807∧l≤1000000
 inA:In A l K
 off:Off A l [S.mb]
 c8:cs.length=8
 mblk:Blk w S.mb 109 #[.pointer (some ⟨r,0,none⟩)]
 rblk:Blk w r 112 (arr .i64 cs)
 gK:S.g∈K
 mK:S.mb∈K
 rK:r∈K
 bm:b≤S.mb
 vq:VQ b K w S.x S.t S.d S.n m
def GQ (b:Nat) (K:List Nat) (w:World) (S:GS) (m:MV) (cs:List Int):Prop:=∃ A l c r,Gp b K w S A l c r m cs
def Tar (b:Nat) (K:List Nat) (mb:Nat) (w w':World):Prop:=∃ F,Bar F w w'∧∀ z∈F,b≤z∧(z∈K→z=mb)
section
variable {b : Nat} {K K' K1 : List Nat} {w w' w2 : World} {S : GS} {A B : Option Addr} {l l2 c r mb : Nat} {m m' : MV} {cs cs' : List Int} {xs : List Int}
theorem Tar.refl (b:Nat) (K:List Nat) (mb:Nat) (w:World):Tar b K mb w w:=⟨[],Bar.refl _ _,by simp⟩
theorem Tar.of (h:Far b K w w'):Tar b K mb w w':=by
 obtain⟨F,h1,h2⟩:=h
 exact⟨F,h1,fun z hz=>⟨(h2 z hz).1,fun hk=>absurd hk (h2 z hz).2⟩⟩
theorem Tar.new (h:Below w.heap.size w w'):Tar b K mb w w':=⟨[],barOf h [],by simp⟩
theorem Tar.own (h:Bar [mb] w w') (hb:b≤mb):Tar b K mb w w':=⟨[mb],h,fun z hz=>by rw[List.mem_singleton] at hz;exact⟨by omega,fun _=>hz⟩⟩
theorem Tar.trans (h:Tar b K mb w w') (h2:Tar b K' mb w' w2) (hs:∀ z∈K,z∈K'):Tar b K mb w w2:=by
 obtain⟨F,h1,h3⟩:=h
 obtain⟨G,k1,k3⟩:=h2
 exact⟨F++G,(h1.mono (fun z hz=>.inl (List.mem_append_left _ hz))).trans (k1.mono (fun z hz=>.inl (List.mem_append_right _ hz))) (fun z hz=>.inl hz),fun z hz=>by
  rcases List.mem_append.1 hz with e|e
  ·exact h3 z e
  ·exact⟨(k3 z e).1,fun hk=>(k3 z e).2 (hs z hk)⟩⟩
theorem Tar.below (h:Tar b K mb w w') (hb:b≤w.heap.size):Below b w w':=by
 obtain⟨F,h1,h3⟩:=h
 exact h1.below hb (fun z hz=>(h3 z hz).1)
theorem Tar.size (h:Tar b K mb w w'):w.heap.size≤w'.heap.size:=by
 obtain⟨F,h1,h3⟩:=h
 exact h1.size
theorem Tar.rd (h:Tar b K mb w w') (hr:Rd w A l xs) (hA:In A l K1) (hs:∀ z∈K1,z∈K) (hm:mb∉K1):Rd w' A l xs:=by
 obtain⟨F,h1,h3⟩:=h
 refine hr.far h1 ?_
 rcases hA with e|⟨g,o,e,hg⟩
 ·exact .inl e
 ·exact .inr ⟨g,o,e,fun hf=>hm ((h3 g hf).2 (hs g hg)▸hg)⟩
theorem Gp.below (h:Gp b K w S A l c r m cs) (bb:Below w.heap.size w w'):Gp b K w' S A l c r m cs :=
 ⟨h.blk.below bb h.blk.lt,h.rd.below bb,h.lc,h.inA,h.off,h.c8,h.mblk.below bb h.mblk.lt,h.rblk.below bb h.rblk.lt,h.gK,h.mK,h.rK,h.bm,h.vq.below bb⟩
theorem Gp.far (h:Gp b K w S A l c r m cs) (f:Far b K w w') (v:VQ b K' w' S.x S.t S.d S.n m') (hs:∀ z∈K,z∈K'):Gp b K' w' S A l c r m' cs :=
 ⟨f.blk h.blk (.inl h.gK),f.rd h.rd h.inA,h.lc,h.inA.mono hs,h.off,h.c8,f.blk h.mblk (.inl h.mK),f.blk h.rblk (.inl h.rK),hs _ h.gK,hs _ h.mK,hs _ h.rK,h.bm,v⟩
theorem Gp.tab (h:Gp b K w S A l c r m cs) (bb:Bar [S.t] w w') (ht:Tab w' S.t):Gp b K w' S A l c r m cs:=h.far (Far.tab h.vq bb) (h.vq.tab bb ht) (fun _ hz=>hz)
theorem Gp.more (h:Gp b K w S A l c r m cs) (hs:∀ z∈K,z∈K') (hk:∀ z∈K',w.heap.size≤z∨z∈K):Gp b K' w S A l c r m cs :=
 ⟨h.blk,h.rd,h.lc,h.inA.mono hs,h.off,h.c8,h.mblk,h.rblk,hs _ h.gK,hs _ h.mK,hs _ h.rK,h.bm,h.vq.more hk⟩
theorem Gp.count (h:Gp b K w S A l c r m cs) (bb:Bar [S.mb] w w') (hm:Mr w' S.mb cs' w.heap.size):∃ r',w.heap.size≤r'∧Gp b (r' :: K) w' S A l c r' m cs':=by
 obtain⟨h8,r',h1,h2,h3⟩:=hm
 have hs:∀ z∈K,z∈r' :: K:=fun z hz=>List.mem_cons_of_mem _ hz
 have hgm:S.g∉[S.mb]:=by
  rw[List.mem_singleton]
  exact blk_ne h.blk h.mblk (by decide)
 refine⟨r',h1,h.blk.bar bb hgm,h.rd.far bb h.off,h.lc,h.inA.mono hs,h.off,h8,h2,h3,hs _ h.gK,hs _ h.mK,List.mem_cons_self ..,h.bm,?_⟩
 refine(h.vq.more (K':=r' :: K) (fun z hz=>?_)).own bb (fun z hz=>?_)
 ·rcases List.mem_cons.1 hz with e|e
  ·exact .inl (by omega)
  ·exact .inr e
 ·rw[List.mem_singleton] at hz
  rw[hz];exact hs _ h.mK
theorem Gp.me (h:Gp b K w S A l c r m cs):Me w S.mb cs:=⟨h.c8,r,h.mblk,h.rblk⟩
theorem Gp.tabs (h:Gp b K w S A l c r m cs):Tab w S.t:=h.vq.has_tab.1
theorem Gp.c0 (h:Gp b K w S A l c r m cs):w.cell? ⟨S.g,0,none⟩=some (.pointer (some ⟨S.t,0,none⟩)):=h.blk.cell 0
theorem Gp.c1 (h:Gp b K w S A l c r m cs):w.cell? ⟨S.g,1,none⟩=some (.int .i64 S.which):=h.blk.cell 1
theorem Gp.c2 (h:Gp b K w S A l c r m cs):w.cell? ⟨S.g,2,none⟩=some (.slice A l c):=h.blk.cell 2
theorem Gp.c3 (h:Gp b K w S A l c r m cs):w.cell? ⟨S.g,3,none⟩=some (.pointer (some ⟨S.x,0,none⟩)):=h.blk.cell 3
theorem Gp.c4 (h:Gp b K w S A l c r m cs):w.cell? ⟨S.g,4,none⟩=some (.pointer (some ⟨S.mb,0,none⟩)):=h.blk.cell 4
theorem Gp.c5 (h:Gp b K w S A l c r m cs):w.cell? ⟨S.g,5,none⟩=some (.int .i64 S.k):=h.blk.cell 5
end
theorem in_newA {w w0:World}{A:Option Addr}{n:Nat}{xs:List Int}(r:Rd w A n xs) (h:NewA w0 A):∃ F,In A n F∧∀ k∈F,w0.heap.size≤k∧k < w.heap.size:=in_new r (fun F hF=>by
 by_cases h0:n=0
 ·exact .inl h0
 ·obtain⟨b,o,rfl,-⟩:=r.2.2.resolve_left h0
  exact .inr ⟨b,o,rfl,fun hm=>by have:=hF b hm;have:=h b o rfl;omega⟩)
/-! what the note b comes to -/
def zeroN:NV:=⟨0,0,0,0,[]⟩
def plusC (cs:List Int) (i:Int):List Int:=setC cs i (r64 (getC cs i+1))
end Go.Proofs.YtlkeieoecfkkeaaGreat.Gate
namespace Go.Proofs.YtlkeieoecfkkeaaGreat.Gate
open Go.RowKit Go.Proofs.YtlkeieoecfkkeaaGreat.Num Go.Proofs.YtlkeieoecfkkeaaGreat.Sha Go.Proofs.YtlkeieoecfkkeaaGreat.Purse Go.Proofs.YtlkeieoecfkkeaaGreat.Escrow Go.Proofs.YtlkeieoecfkkeaaGreat.Wire Go.Proofs.YtlkeieoecfkkeaaGreat.Req Go.Proofs.YtlkeieoecfkkeaaGreat.Disk Go.Proofs.YtlkeieoecfkkeaaGreat.Frame Go.Proofs.YtlkeieoecfkkeaaGreat.Vault Go.Proofs.YtlkeieoecfkkeaaGreat.Ledger
theorem apply_none {s:LS}(W:WL s) (party:Int):applyL s party 0 ⟨0,[none4]⟩=(⟨s.clock,(s.e.length:Nat),[⟨if isP s.b.p party=true then 8 else 1,0⟩],fromL s 0⟩,s):=by
 have hc:clockL s 0=s:=by
  unfold clockL
  rw[if_neg]
  rintro ⟨-,h⟩
  have:=W.clock
  unfold Tck at this
  omega
 unfold applyL
 rw[hc]
 simp only[List.take_succ_cons,List.take_nil,manyL,one_none W]
def noneC:Array Value:=#[.int .i64 4,.int .i64 0,.int .i64 0,.int .i64 0,.int .i64 400,.int .i64 0,.string ⟨#[]⟩,.string ⟨#[]⟩]
section
variable {b : Nat} {Z : List Nat} {w : World} {x t d n : Nat} {m : MV}
def ApN (b:Nat) (Z:List Nat) (w0:World) (x t d n:Nat) (m:MV) (party:Int) (e:Ending) (w':World):Prop :=
 ∃ c1 c2 A c D m2 d2,e=.returned (.agg #[.int .i64 c1,.int .i64 c2,.slice A 1 c,.slice D m2 d2])∧Rp w' A 1 [⟨if isP m.v.l.b.p party=true then 8 else 1,0⟩]∧NewA w0 A∧VQ b Z w' x t d n m∧Far b Z w0 w'
theorem apn_any {Z':List Nat}{w':World}{g y:Nat}{FL HJ I:List Nat}{j:Nat}{lv:Value}{l:List (TV × LM)}(vp:Vp w x t d j y n HJ FL I lv l m) (hv:∀ z∈vf x HJ FL I lv,b≤z∧z∉Z) (hb:b≤w.heap.size) (W:WL m.v.l) (WI_:WI m.v.l) (party:Int)
  (bb:Below w.heap.size w w') (hg:Blk w' g 164 noneC) (hgn:w.heap.size≤g) (hZ:∀ z∈Z',z < w'.heap.size∧(z∈Z∨w.heap.size≤z)):Calls Tryz.prog 132 #[.pointer (some ⟨y,0,none⟩),.int .i64 party,.int .i64 0,.agg #[.int .i64 0,.slice (some ⟨g,0,none⟩) 1 1]] w' (ApN b Z' w' x t d n m party):=by
 have vp':=vp.below bb
 have hall:=vp.all
 have hr:Rr w' (some ⟨g,0,none⟩) 1 [none4]:=⟨rfl,.inr ⟨g,0,rfl,fun k y hk i u hu=>by
  match k,hk with
  | 0,hk =>
   injection hk with hk
   subst hk
   rw[show 0+0 * 8+i=i by omega,hg.cell i]
   rw[show noneC=(rvC none4).toArray from rfl,List.getElem?_toArray]
   exact hu
  | k+1,hk=>simp at hk⟩⟩
 have hoff:Off (some ⟨g,0,none⟩) 1 (t :: FL):=.inr ⟨g,0,rfl,fun hm=>by
  rcases List.mem_cons.1 hm with e|e
  ·have:=hall t (vf_mem.2 (.inr (.inr (.inl vp.tJ))));omega
  ·have:=hall g (vf_mem.2 (.inr (.inr (.inr (.inl e)))));omega⟩
 have hv':∀ z∈vf x HJ FL I lv,b≤z∧z∉Z':=fun z hz=>⟨(hv z hz).1,fun hm=>by
  rcases(hZ z hm).2 with e|e
  ·exact(hv z hz).2 e
  ·have:=hall z hz;omega⟩
 refine(lapply_of party 0 0 (askc_none party) vp'.lk W WI_ hr hoff (fun r hr=>by rw[List.mem_singleton] at hr;rw[hr];exact none_ok) (by omega) (by omega) (by omega)).mono ?_
 rw[apply_none W]
 rintro e w2 ⟨F',A,k,c,D,m2,d2,rfl,h1,h2,h3,h4,hp,hv2,hA,hD,lk,bar,hF⟩
 obtain rfl:1=k:=hp.1
 have hk:=vp'.apply lk bar hF
 refine⟨_,_,A,c,D,m2,d2,rfl,hp,fun g o h=>(hA g o h).1,⟨j,y,HJ,F',I,lv,⟨l,hk.1⟩,fun z hz=>?_⟩,vf x HJ FL I lv,hk.2.1,hv'⟩
 have hs:=bb.size
 rcases hk.2.2 z hz with e|e
 ·exact hv' z e
 ·exact⟨by omega,fun hm=>by have:=(hZ z hm).1;omega⟩
def HasMid (b:Nat) (Z:List Nat) (w0:World) (x t d n:Nat) (m:MV) (party:Int) (R:Nat) (w':World):Prop :=
 ∃ c1 c2 A c D m2 d2,Blk w' R 68 #[.int .i64 c1,.int .i64 c2,.slice A 1 c,.slice D m2 d2]∧Rp w' A 1 [⟨if isP m.v.l.b.p party=true then 8 else 1,0⟩]∧VQ b Z w' x t d n m∧Far b Z w0 w'
theorem rp_lt {w:World}{A:Option Addr}{x:PV}(h:Rp w A 1 [x]) {R o:Nat}(e:A=some ⟨R,o,none⟩):R < w.heap.size:=by
 obtain⟨b,o2,e2,hc⟩:=h.2.resolve_left (by omega)
 have h0:=hc 0 x rfl 0 (.int .i64 x.code) rfl
 have:=World.block_lt_of_cell? _ _ h0
 rw[e2] at e
 injection e with e
 injection e with e
 rw[← e];exact this
theorem has_mid {w':World}{party:Int}{R:Nat}{A:Option Addr}(Y:Blk w' R 68 #[.int .i64 0,.int .i64 0,.slice none 0 0,.slice none 0 0]) (hp:Rp w' A 1 [⟨if isP m.v.l.b.p party=true then 8 else 1,0⟩]) (hA:∀ o,A≠some ⟨R,o,none⟩) (V:VQ b (R :: Z) w' x t d n m) (F:Far b Z w w') (hR:w.heap.size≤R) (hZ:b≤w.heap.size∧∀ z∈Z,z < w.heap.size) (c1 c2:Int) (c:Nat) (D:Option Addr) (m2 d2:Nat) :
  HasMid b Z w x t d n m party R ((((w'.setCell ⟨R,0,none⟩ (.int .i64 c1)).setCell ⟨R,1,none⟩ (.int .i64 c2)).setCell ⟨R,2,none⟩ (.slice A 1 c)).setCell ⟨R,3,none⟩ (.slice D m2 d2)):=by
 have P:=put4 Y (.int .i64 c1) (.int .i64 c2) (.slice A 1 c) (.slice D m2 d2)
 refine⟨c1,c2,A,c,D,m2,d2,P.1,hp.bar P.2 (fun z hz=>.inr (by rw[List.mem_singleton] at hz;rw[hz];exact hA)),(V.own P.2 (fun z hz=>by rw[List.mem_singleton] at hz;rw[hz];exact List.mem_cons_self ..)).more (fun z hz=>.inr (List.mem_cons_of_mem _ hz)),F.trans ⟨[R],P.2,fun z hz=>?_⟩⟩
 rw[List.mem_singleton] at hz
 subst hz
 exact⟨by omega,fun hm=>by have:=hZ.2 z hm;omega⟩
theorem zs_same {w2:World}(hZ:b≤w.heap.size∧∀ z∈Z,z < w.heap.size) (h2:Below w.heap.size w w2):∀ z∈Z,z < w2.heap.size∧(z∈Z∨w.heap.size≤z) :=
 fun z hz=>⟨by have:=hZ.2 z hz;have:=h2.size;omega,.inl hz⟩
theorem zs_old {Z':List Nat}{w2:World}{R:Nat}(h:∀ z∈Z',z < w2.heap.size∧(z∈Z∨w.heap.size≤z)) (hR:R < w2.heap.size) (hN:w.heap.size≤R):∀ z∈R :: Z',z < w2.heap.size∧(z∈Z∨w.heap.size≤z):=fun z hz=>by
 rcases List.mem_cons.1 hz with e|e
 ·subst e;exact⟨hR,.inr hN⟩
 ·exact h z e
theorem far_call {Z':List Nat}{w2 w3:World}(h2:Below w.heap.size w w2) (F:Far b Z' w2 w3) (hs:∀ z∈Z,z∈Z'):Far b Z w w3:=by
 obtain⟨H,k1,k2⟩:=F
 exact(Far.of h2).trans ⟨H,k1,fun z hz=>⟨(k2 z hz).1,fun hm=>(k2 z hz).2 (hs z hm)⟩⟩
set_option maxRecDepth 100000 in
set_option maxHeartbeats 1000000 in
theorem hasparty_any (h:VQ b Z w x t d n m) (hZ:∀ z∈Z,z < w.heap.size) (W:WL m.v.l) (WI_:WI m.v.l) (party:Int):Calls Tryz.prog 93 #[.pointer (some ⟨x,0,none⟩),.int .i64 party] w fun e w'=>e=.returned (.bool (isP m.v.l.b.p party))∧VQ b Z w' x t d n m∧Far b Z w w':=by
 have HK:=Kept.mk (And.intro h.size hZ)
 obtain⟨j,y,HJ,FL,I,lv,⟨l,vp⟩,hvf⟩:=h
 obtain⟨N,hN⟩:∃ N,w.heap.size=N:=⟨_,rfl⟩
 have b0:Below w.heap.size w (w.alloc (.cells noneC 164)):=(Below.refl _ _).alloc (Nat.le_refl _) _
 have X:=Kept.mk (Blk.new_at w 164 noneC N hN.symm)
 have XN:Kept (w.heap.size≤N):=⟨by omega⟩
 have CL:Kept (∀ w',Below w.heap.size w w'→Calls Tryz.prog 133 #[.pointer (some ⟨x,0,none⟩)] w' fun e w''=>e=.returned (.pointer (some ⟨y,0,none⟩))∧w'=w''):=⟨fun w' bb=>vledger_any (vp.below bb)⟩
 have CA:Kept (∀ w' g Z',Below w.heap.size w w'→Blk w' g 164 noneC→w.heap.size≤g→(∀ z∈Z',z < w'.heap.size∧(z∈Z∨w.heap.size≤z))→Calls Tryz.prog 132 #[.pointer (some ⟨y,0,none⟩),.int .i64 party,.int .i64 0,.agg #[.int .i64 0,.slice (some ⟨g,0,none⟩) 1 1]] w' (ApN b Z' w' x t d n m party)) :=
  ⟨fun w' g Z' bb hg hgn hz=>apn_any vp hvf HK.out.1 W WI_ party bb hg hgn hz⟩
 have B:=Kept.mk b0
 clear vp hvf b0 hZ W WI_
 unfold noneC at *
 go_enter Tryz.func93,Tryz.ntmps93
 go_upto_region 2 with(fail)
 clear hN
 generalize w.alloc _=w1 at *
 go_cut [6] (fun a wx=>∃ R:Nat,a=.pointer (some ⟨R,0,none⟩)∧HasMid b Z w x t d n m party R wx)
 case first =>
  have CS:∀ {u:World},Blk u N 164 #[.int .i64 4,.int .i64 0,.int .i64 0,.int .i64 0,.int .i64 400,.int .i64 0,.string ⟨#[]⟩,.string ⟨#[]⟩]→u.cell? ⟨N,0,none⟩=some (.int .i64 4)∧u.cell? ⟨N,1,none⟩=some (.int .i64 0)∧u.cell? ⟨N,2,none⟩=some (.int .i64 0)∧u.cell? ⟨N,3,none⟩=some (.int .i64 0)∧u.cell? ⟨N,4,none⟩=some (.int .i64 400)∧u.cell? ⟨N,5,none⟩=some (.int .i64 0)∧u.cell? ⟨N,6,none⟩=some (.string ⟨#[]⟩)∧u.cell? ⟨N,7,none⟩=some (.string ⟨#[]⟩):=fun k=>⟨k.cell 0,k.cell 1,k.cell 2,k.cell 3,k.cell 4,k.cell 5,k.cell 6,k.cell 7⟩
  refine wp_region_noPanic ?_
  refine wp_region_held_drew (S:=fun u:World=>u.cell? ⟨N,0,none⟩=some (.int .i64 4)∧u.cell? ⟨N,1,none⟩=some (.int .i64 0)∧u.cell? ⟨N,2,none⟩=some (.int .i64 0)∧u.cell? ⟨N,3,none⟩=some (.int .i64 0)∧u.cell? ⟨N,4,none⟩=some (.int .i64 400)∧u.cell? ⟨N,5,none⟩=some (.int .i64 0)∧u.cell? ⟨N,6,none⟩=some (.string ⟨#[]⟩)∧u.cell? ⟨N,7,none⟩=some (.string ⟨#[]⟩)) (by kernel_rfl) (CS X.out.drew) (fun _=>?_)
  replace X:=Kept.mk X.out.drew
  have BW:Kept (Below w.heap.size w w1.drew):=⟨B.out.drew⟩
  clear B
  generalize w1.drew=w2 at *
  refine tk 0 (by assumption) ?_
  simp only[Act.put,zA,zB,zC]
  refine tk 2 (by assumption) ?_
  simp only[Act.put,zA,zB,zC]
  refine tk 3 (by assumption) ?_
  simp only[Act.put,zA,zB,zC]
  refine ld3 1 4 7 (fun K hK=>?_) (fun K hK=>?_) (fun K hK=>?_)
  ·go_simp
   go_at_call 133
   refine(CL.out _ BW.out).mono ?_
   rintro e w' ⟨rfl,rfl⟩
   refine hK.out _ _ (CS X.out) (fun _=>?_)
   clear hK K CL
   try simp only[Act.put,zA,zB,zC]
   refine ld2 4 7 (fun K hK=>?_) (fun K hK=>?_)
   ·go_simp
    obtain⟨g,hg⟩:∃ g,w2.heap.size=g:=⟨_,rfl⟩
    have bb:Below w2.heap.size w2 (w2.alloc (.cells #[.int .i64 4,.int .i64 0,.int .i64 0,.int .i64 0,.int .i64 400,.int .i64 0,.string ⟨#[]⟩,.string ⟨#[]⟩] 164)):=(Below.refl _ _).alloc (Nat.le_refl _) _
    have GB:=Kept.mk (Blk.new_at w2 164 #[.int .i64 4,.int .i64 0,.int .i64 0,.int .i64 0,.int .i64 400,.int .i64 0,.string ⟨#[]⟩,.string ⟨#[]⟩] g hg.symm)
    have GBN:Kept (w.heap.size≤g):=⟨by rw[← hg];exact BW.out.size⟩
    replace BW:=Kept.mk (BW.out.trans (bb.mono BW.out.size));replace X:=Kept.mk (X.out.below bb X.out.lt)
    rw[hg]
    clear bb hg
    generalize (w2.alloc (.cells #[.int .i64 4,.int .i64 0,.int .i64 0,.int .i64 0,.int .i64 400,.int .i64 0,.string ⟨#[]⟩,.string ⟨#[]⟩] 164))=w4 at *
    refine hK.out _ _ (CS X.out) (fun _=>?_)
    clear hK K
    try simp only[Act.put,zA,zB,zC]
    refine tk 5 (by assumption) ?_
    simp only[Act.put,zA,zB,zC]
    refine ld2 6 7 (fun K hK=>?_) (fun K hK=>?_)
    ·go_simp
     go_at_call 132
     refine(CA.out _ _ (N :: Z) BW.out GB.out GBN.out (zs_old (zs_same HK.out BW.out) X.out.lt XN.out)).mono ?_
     rintro e w5 ⟨c1,c2,A,c,D,m2,d2,rfl,hp,hn,V,far⟩
     have HP:=Kept.mk hp
     have HV0:=Kept.mk (V.more (K':=Z) (fun z hz=>.inr (List.mem_cons_of_mem _ hz)))
     replace X:=Kept.mk (far.blk X.out (.inl (by simp)))
     have FR:Kept (Far b Z w w5):=⟨far_call BW.out far (fun z hz=>by simp[hz])⟩
     replace BW:Kept (w.heap.size≤w5.heap.size):=⟨Nat.le_trans BW.out.size (far_size far)⟩
     refine hK.out _ _ (CS X.out) (fun _=>?_)
     clear hK K CA hp hn V far GB GBN
     try simp only[Act.put,zA,zB,zC]
     refine ld 7 (fun K hK=>?_)
     go_simp
     obtain⟨R,hR⟩:∃ R,w5.heap.size=R:=⟨_,rfl⟩
     have bb:Below w5.heap.size w5 (w5.alloc (.cells #[.int .i64 0,.int .i64 0,.slice none 0 0,.slice none 0 0] 68)):=(Below.refl _ _).alloc (Nat.le_refl _) _
     have YB:=Kept.mk (Blk.new_at w5 68 #[.int .i64 0,.int .i64 0,.slice none 0 0,.slice none 0 0] R hR.symm)
     have YBN:Kept (w.heap.size≤R):=⟨by rw[← hR];exact BW.out⟩
     have XR:Kept (N < R):=⟨by have:=X.out.lt;omega⟩
     have AR:Kept (∀ o,A≠some ⟨R,o,none⟩):=⟨fun o h=>by have:=rp_lt HP.out h;omega⟩
     replace HP:=Kept.mk (HP.out.below bb);replace X:=Kept.mk (X.out.below bb X.out.lt)
     have HV:=Kept.mk ((HV0.out.more (K':=R :: Z) (fun z hz=>by rcases List.mem_cons.1 hz with e|e;exact .inl (by omega);exact .inr e)).below bb)
     replace FR:=Kept.mk (FR.out.trans (Far.of bb))
     rw[hR]
     clear bb hR HV0 BW
     generalize (w5.alloc (.cells #[.int .i64 0,.int .i64 0,.slice none 0 0,.slice none 0 0] 68))=w6 at *
     refine hK.out _ _ (CS X.out) (fun _=>?_)
     clear hK K
     try simp only[Act.put,zA,zB,zC]
     have y0:=YB.out.cell 0;have y1:=YB.out.cell 1;have y2:=YB.out.cell 2;have y3:=YB.out.cell 3;have z0:=YB.out.frozen 0;have z1:=YB.out.frozen 1;have z2:=YB.out.frozen 2;have z3:=YB.out.frozen 3
     have PB:=Kept.mk (put4 YB.out (.int .i64 c1) (.int .i64 c2) (.slice A 1 c) (.slice D m2 d2)).2
     have PP:=Kept.mk (has_mid YB.out HP.out AR.out HV.out FR.out YBN.out HK.out c1 c2 c D m2 d2)
     refine ld 8 (fun K hK=>?_)
     go_simp
     replace X:=Kept.mk (X.out.bar PB.out (by rw[List.mem_singleton];have:=XR.out;omega))
     clear y0 y1 y2 y3 z0 z1 z2 z3 PB
     generalize ((((w6.setCell ⟨R,0,none⟩ (.int .i64 c1)).setCell ⟨R,1,none⟩ (.int .i64 c2)).setCell ⟨R,2,none⟩ (.slice A 1 c)).setCell ⟨R,3,none⟩ (.slice D m2 d2))=w7 at *
     refine hK.out _ _ (CS X.out) (fun _=>?_)
     clear hK K
     try simp only[Act.put,zA,zB,zC]
     refine wpAnyH_done (by kernel_rfl) ?_ _
     refine NoPanic.normal ?_
     go_wp2_with fail
     go_meet
     case rel=>exact⟨R,rfl,PP.out⟩
    ·go_simp
     obtain⟨R,hR⟩:∃ R,w4.heap.size=R:=⟨_,rfl⟩
     have bb:Below w4.heap.size w4 (w4.alloc (.cells #[.int .i64 0,.int .i64 0,.slice none 0 0,.slice none 0 0] 68)):=(Below.refl _ _).alloc (Nat.le_refl _) _
     have YB:=Kept.mk (Blk.new_at w4 68 #[.int .i64 0,.int .i64 0,.slice none 0 0,.slice none 0 0] R hR.symm)
     have YBN:Kept (w.heap.size≤R):=⟨by rw[← hR];exact BW.out.size⟩
     have XR:Kept (N < R):=⟨by have:=X.out.lt;omega⟩
     replace GB:=Kept.mk (GB.out.below bb GB.out.lt)
     replace BW:=Kept.mk (BW.out.trans (bb.mono BW.out.size));replace X:=Kept.mk (X.out.below bb X.out.lt)
     rw[hR]
     clear bb hR
     generalize (w4.alloc (.cells #[.int .i64 0,.int .i64 0,.slice none 0 0,.slice none 0 0] 68))=w8 at *
     refine hK.out _ _ (CS X.out) (fun _=>?_)
     clear hK K
     try simp only[Act.put,zA,zB,zC]
     refine ld 6 (fun K hK=>?_)
     go_simp
     go_at_call 132
     refine(CA.out _ _ (N :: R :: Z) BW.out GB.out GBN.out (zs_old (zs_old (zs_same HK.out BW.out) YB.out.lt YBN.out) X.out.lt XN.out)).mono ?_
     rintro e w9 ⟨c1,c2,A,c,D,m2,d2,rfl,hp,hn,V,far⟩
     have HP:=Kept.mk hp
     have AR:Kept (∀ o,A≠some ⟨R,o,none⟩):=⟨fun o h=>by have:=hn R o h;have:=YB.out.lt;omega⟩
     replace YB:=Kept.mk (far.blk YB.out (.inl (by simp)))
     have HV:=Kept.mk (V.more (K':=R :: Z) (fun z hz=>.inr (List.mem_cons_of_mem _ hz)))
     replace X:=Kept.mk (far.blk X.out (.inl (by simp)))
     have FR:Kept (Far b Z w w9):=⟨far_call BW.out far (fun z hz=>by simp[hz])⟩
     replace BW:Kept (w.heap.size≤w9.heap.size):=⟨Nat.le_trans BW.out.size (far_size far)⟩
     refine hK.out _ _ (CS X.out) (fun _=>?_)
     clear hK K CA hp hn V far GB GBN
     try simp only[Act.put,zA,zB,zC]
     have y0:=YB.out.cell 0;have y1:=YB.out.cell 1;have y2:=YB.out.cell 2;have y3:=YB.out.cell 3;have z0:=YB.out.frozen 0;have z1:=YB.out.frozen 1;have z2:=YB.out.frozen 2;have z3:=YB.out.frozen 3
     have PB:=Kept.mk (put4 YB.out (.int .i64 c1) (.int .i64 c2) (.slice A 1 c) (.slice D m2 d2)).2
     have PP:=Kept.mk (has_mid YB.out HP.out AR.out HV.out FR.out YBN.out HK.out c1 c2 c D m2 d2)
     refine ld 8 (fun K hK=>?_)
     go_simp
     replace X:=Kept.mk (X.out.bar PB.out (by rw[List.mem_singleton];have:=XR.out;omega))
     clear y0 y1 y2 y3 z0 z1 z2 z3 PB
     generalize ((((w9.setCell ⟨R,0,none⟩ (.int .i64 c1)).setCell ⟨R,1,none⟩ (.int .i64 c2)).setCell ⟨R,2,none⟩ (.slice A 1 c)).setCell ⟨R,3,none⟩ (.slice D m2 d2))=w10 at *
     refine hK.out _ _ (CS X.out) (fun _=>?_)
     clear hK K
     try simp only[Act.put,zA,zB,zC]
     refine wpAnyH_done (by kernel_rfl) ?_ _
     refine NoPanic.normal ?_
     go_wp2_with fail
     go_meet
     case rel=>exact⟨R,rfl,PP.out⟩
   ·go_simp
    obtain⟨R,hR⟩:∃ R,w2.heap.size=R:=⟨_,rfl⟩
    have bb:Below w2.heap.size w2 (w2.alloc (.cells #[.int .i64 0,.int .i64 0,.slice none 0 0,.slice none 0 0] 68)):=(Below.refl _ _).alloc (Nat.le_refl _) _
    have YB:=Kept.mk (Blk.new_at w2 68 #[.int .i64 0,.int .i64 0,.slice none 0 0,.slice none 0 0] R hR.symm)
    have YBN:Kept (w.heap.size≤R):=⟨by rw[← hR];exact BW.out.size⟩
    have XR:Kept (N < R):=⟨by have:=X.out.lt;omega⟩
    replace BW:=Kept.mk (BW.out.trans (bb.mono BW.out.size));replace X:=Kept.mk (X.out.below bb X.out.lt)
    rw[hR]
    clear bb hR
    generalize (w2.alloc (.cells #[.int .i64 0,.int .i64 0,.slice none 0 0,.slice none 0 0] 68))=w11 at *
    refine hK.out _ _ (CS X.out) (fun _=>?_)
    clear hK K
    try simp only[Act.put,zA,zB,zC]
    refine ld 4 (fun K hK=>?_)
    go_simp
    obtain⟨g,hg⟩:∃ g,w11.heap.size=g:=⟨_,rfl⟩
    have bb:Below w11.heap.size w11 (w11.alloc (.cells #[.int .i64 4,.int .i64 0,.int .i64 0,.int .i64 0,.int .i64 400,.int .i64 0,.string ⟨#[]⟩,.string ⟨#[]⟩] 164)):=(Below.refl _ _).alloc (Nat.le_refl _) _
    have GB:=Kept.mk (Blk.new_at w11 164 #[.int .i64 4,.int .i64 0,.int .i64 0,.int .i64 0,.int .i64 400,.int .i64 0,.string ⟨#[]⟩,.string ⟨#[]⟩] g hg.symm)
    have GBN:Kept (w.heap.size≤g):=⟨by rw[← hg];exact BW.out.size⟩
    replace YB:=Kept.mk (YB.out.below bb YB.out.lt)
    replace BW:=Kept.mk (BW.out.trans (bb.mono BW.out.size));replace X:=Kept.mk (X.out.below bb X.out.lt)
    rw[hg]
    clear bb hg
    generalize (w11.alloc (.cells #[.int .i64 4,.int .i64 0,.int .i64 0,.int .i64 0,.int .i64 400,.int .i64 0,.string ⟨#[]⟩,.string ⟨#[]⟩] 164))=w12 at *
    refine hK.out _ _ (CS X.out) (fun _=>?_)
    clear hK K
    try simp only[Act.put,zA,zB,zC]
    refine tk 5 (by assumption) ?_
    simp only[Act.put,zA,zB,zC]
    refine ld 6 (fun K hK=>?_)
    go_simp
    go_at_call 132
    refine(CA.out _ _ (N :: R :: Z) BW.out GB.out GBN.out (zs_old (zs_old (zs_same HK.out BW.out) YB.out.lt YBN.out) X.out.lt XN.out)).mono ?_
    rintro e w13 ⟨c1,c2,A,c,D,m2,d2,rfl,hp,hn,V,far⟩
    have HP:=Kept.mk hp
    have AR:Kept (∀ o,A≠some ⟨R,o,none⟩):=⟨fun o h=>by have:=hn R o h;have:=YB.out.lt;omega⟩
    replace YB:=Kept.mk (far.blk YB.out (.inl (by simp)))
    have HV:=Kept.mk (V.more (K':=R :: Z) (fun z hz=>.inr (List.mem_cons_of_mem _ hz)))
    replace X:=Kept.mk (far.blk X.out (.inl (by simp)))
    have FR:Kept (Far b Z w w13):=⟨far_call BW.out far (fun z hz=>by simp[hz])⟩
    replace BW:Kept (w.heap.size≤w13.heap.size):=⟨Nat.le_trans BW.out.size (far_size far)⟩
    refine hK.out _ _ (CS X.out) (fun _=>?_)
    clear hK K CA hp hn V far GB GBN
    try simp only[Act.put,zA,zB,zC]
    have y0:=YB.out.cell 0;have y1:=YB.out.cell 1;have y2:=YB.out.cell 2;have y3:=YB.out.cell 3;have z0:=YB.out.frozen 0;have z1:=YB.out.frozen 1;have z2:=YB.out.frozen 2;have z3:=YB.out.frozen 3
    have PB:=Kept.mk (put4 YB.out (.int .i64 c1) (.int .i64 c2) (.slice A 1 c) (.slice D m2 d2)).2
    have PP:=Kept.mk (has_mid YB.out HP.out AR.out HV.out FR.out YBN.out HK.out c1 c2 c D m2 d2)
    refine ld 8 (fun K hK=>?_)
    go_simp
    replace X:=Kept.mk (X.out.bar PB.out (by rw[List.mem_singleton];have:=XR.out;omega))
    clear y0 y1 y2 y3 z0 z1 z2 z3 PB
    generalize ((((w13.setCell ⟨R,0,none⟩ (.int .i64 c1)).setCell ⟨R,1,none⟩ (.int .i64 c2)).setCell ⟨R,2,none⟩ (.slice A 1 c)).setCell ⟨R,3,none⟩ (.slice D m2 d2))=w14 at *
    refine hK.out _ _ (CS X.out) (fun _=>?_)
    clear hK K
    try simp only[Act.put,zA,zB,zC]
    refine wpAnyH_done (by kernel_rfl) ?_ _
    refine NoPanic.normal ?_
    go_wp2_with fail
    go_meet
    case rel=>exact⟨R,rfl,PP.out⟩
  ·go_simp
   obtain⟨g,hg⟩:∃ g,w2.heap.size=g:=⟨_,rfl⟩
   have bb:Below w2.heap.size w2 (w2.alloc (.cells #[.int .i64 4,.int .i64 0,.int .i64 0,.int .i64 0,.int .i64 400,.int .i64 0,.string ⟨#[]⟩,.string ⟨#[]⟩] 164)):=(Below.refl _ _).alloc (Nat.le_refl _) _
   have GB:=Kept.mk (Blk.new_at w2 164 #[.int .i64 4,.int .i64 0,.int .i64 0,.int .i64 0,.int .i64 400,.int .i64 0,.string ⟨#[]⟩,.string ⟨#[]⟩] g hg.symm)
   have GBN:Kept (w.heap.size≤g):=⟨by rw[← hg];exact BW.out.size⟩
   replace BW:=Kept.mk (BW.out.trans (bb.mono BW.out.size));replace X:=Kept.mk (X.out.below bb X.out.lt)
   rw[hg]
   clear bb hg
   generalize (w2.alloc (.cells #[.int .i64 4,.int .i64 0,.int .i64 0,.int .i64 0,.int .i64 400,.int .i64 0,.string ⟨#[]⟩,.string ⟨#[]⟩] 164))=w15 at *
   refine hK.out _ _ (CS X.out) (fun _=>?_)
   clear hK K
   try simp only[Act.put,zA,zB,zC]
   refine tk 5 (by assumption) ?_
   simp only[Act.put,zA,zB,zC]
   refine ld2 1 7 (fun K hK=>?_) (fun K hK=>?_)
   ·go_simp
    go_at_call 133
    refine(CL.out _ BW.out).mono ?_
    rintro e w' ⟨rfl,rfl⟩
    refine hK.out _ _ (CS X.out) (fun _=>?_)
    clear hK K CL
    try simp only[Act.put,zA,zB,zC]
    refine ld2 6 7 (fun K hK=>?_) (fun K hK=>?_)
    ·go_simp
     go_at_call 132
     refine(CA.out _ _ (N :: Z) BW.out GB.out GBN.out (zs_old (zs_same HK.out BW.out) X.out.lt XN.out)).mono ?_
     rintro e w17 ⟨c1,c2,A,c,D,m2,d2,rfl,hp,hn,V,far⟩
     have HP:=Kept.mk hp
     have HV0:=Kept.mk (V.more (K':=Z) (fun z hz=>.inr (List.mem_cons_of_mem _ hz)))
     replace X:=Kept.mk (far.blk X.out (.inl (by simp)))
     have FR:Kept (Far b Z w w17):=⟨far_call BW.out far (fun z hz=>by simp[hz])⟩
     replace BW:Kept (w.heap.size≤w17.heap.size):=⟨Nat.le_trans BW.out.size (far_size far)⟩
     refine hK.out _ _ (CS X.out) (fun _=>?_)
     clear hK K CA hp hn V far GB GBN
     try simp only[Act.put,zA,zB,zC]
     refine ld 7 (fun K hK=>?_)
     go_simp
     obtain⟨R,hR⟩:∃ R,w17.heap.size=R:=⟨_,rfl⟩
     have bb:Below w17.heap.size w17 (w17.alloc (.cells #[.int .i64 0,.int .i64 0,.slice none 0 0,.slice none 0 0] 68)):=(Below.refl _ _).alloc (Nat.le_refl _) _
     have YB:=Kept.mk (Blk.new_at w17 68 #[.int .i64 0,.int .i64 0,.slice none 0 0,.slice none 0 0] R hR.symm)
     have YBN:Kept (w.heap.size≤R):=⟨by rw[← hR];exact BW.out⟩
     have XR:Kept (N < R):=⟨by have:=X.out.lt;omega⟩
     have AR:Kept (∀ o,A≠some ⟨R,o,none⟩):=⟨fun o h=>by have:=rp_lt HP.out h;omega⟩
     replace HP:=Kept.mk (HP.out.below bb);replace X:=Kept.mk (X.out.below bb X.out.lt)
     have HV:=Kept.mk ((HV0.out.more (K':=R :: Z) (fun z hz=>by rcases List.mem_cons.1 hz with e|e;exact .inl (by omega);exact .inr e)).below bb)
     replace FR:=Kept.mk (FR.out.trans (Far.of bb))
     rw[hR]
     clear bb hR HV0 BW
     generalize (w17.alloc (.cells #[.int .i64 0,.int .i64 0,.slice none 0 0,.slice none 0 0] 68))=w18 at *
     refine hK.out _ _ (CS X.out) (fun _=>?_)
     clear hK K
     try simp only[Act.put,zA,zB,zC]
     have y0:=YB.out.cell 0;have y1:=YB.out.cell 1;have y2:=YB.out.cell 2;have y3:=YB.out.cell 3;have z0:=YB.out.frozen 0;have z1:=YB.out.frozen 1;have z2:=YB.out.frozen 2;have z3:=YB.out.frozen 3
     have PB:=Kept.mk (put4 YB.out (.int .i64 c1) (.int .i64 c2) (.slice A 1 c) (.slice D m2 d2)).2
     have PP:=Kept.mk (has_mid YB.out HP.out AR.out HV.out FR.out YBN.out HK.out c1 c2 c D m2 d2)
     refine ld 8 (fun K hK=>?_)
     go_simp
     replace X:=Kept.mk (X.out.bar PB.out (by rw[List.mem_singleton];have:=XR.out;omega))
     clear y0 y1 y2 y3 z0 z1 z2 z3 PB
     generalize ((((w18.setCell ⟨R,0,none⟩ (.int .i64 c1)).setCell ⟨R,1,none⟩ (.int .i64 c2)).setCell ⟨R,2,none⟩ (.slice A 1 c)).setCell ⟨R,3,none⟩ (.slice D m2 d2))=w19 at *
     refine hK.out _ _ (CS X.out) (fun _=>?_)
     clear hK K
     try simp only[Act.put,zA,zB,zC]
     refine wpAnyH_done (by kernel_rfl) ?_ _
     refine NoPanic.normal ?_
     go_wp2_with fail
     go_meet
     case rel=>exact⟨R,rfl,PP.out⟩
    ·go_simp
     obtain⟨R,hR⟩:∃ R,w15.heap.size=R:=⟨_,rfl⟩
     have bb:Below w15.heap.size w15 (w15.alloc (.cells #[.int .i64 0,.int .i64 0,.slice none 0 0,.slice none 0 0] 68)):=(Below.refl _ _).alloc (Nat.le_refl _) _
     have YB:=Kept.mk (Blk.new_at w15 68 #[.int .i64 0,.int .i64 0,.slice none 0 0,.slice none 0 0] R hR.symm)
     have YBN:Kept (w.heap.size≤R):=⟨by rw[← hR];exact BW.out.size⟩
     have XR:Kept (N < R):=⟨by have:=X.out.lt;omega⟩
     replace GB:=Kept.mk (GB.out.below bb GB.out.lt)
     replace BW:=Kept.mk (BW.out.trans (bb.mono BW.out.size));replace X:=Kept.mk (X.out.below bb X.out.lt)
     rw[hR]
     clear bb hR
     generalize (w15.alloc (.cells #[.int .i64 0,.int .i64 0,.slice none 0 0,.slice none 0 0] 68))=w20 at *
     refine hK.out _ _ (CS X.out) (fun _=>?_)
     clear hK K
     try simp only[Act.put,zA,zB,zC]
     refine ld 6 (fun K hK=>?_)
     go_simp
     go_at_call 132
     refine(CA.out _ _ (N :: R :: Z) BW.out GB.out GBN.out (zs_old (zs_old (zs_same HK.out BW.out) YB.out.lt YBN.out) X.out.lt XN.out)).mono ?_
     rintro e w21 ⟨c1,c2,A,c,D,m2,d2,rfl,hp,hn,V,far⟩
     have HP:=Kept.mk hp
     have AR:Kept (∀ o,A≠some ⟨R,o,none⟩):=⟨fun o h=>by have:=hn R o h;have:=YB.out.lt;omega⟩
     replace YB:=Kept.mk (far.blk YB.out (.inl (by simp)))
     have HV:=Kept.mk (V.more (K':=R :: Z) (fun z hz=>.inr (List.mem_cons_of_mem _ hz)))
     replace X:=Kept.mk (far.blk X.out (.inl (by simp)))
     have FR:Kept (Far b Z w w21):=⟨far_call BW.out far (fun z hz=>by simp[hz])⟩
     replace BW:Kept (w.heap.size≤w21.heap.size):=⟨Nat.le_trans BW.out.size (far_size far)⟩
     refine hK.out _ _ (CS X.out) (fun _=>?_)
     clear hK K CA hp hn V far GB GBN
     try simp only[Act.put,zA,zB,zC]
     have y0:=YB.out.cell 0;have y1:=YB.out.cell 1;have y2:=YB.out.cell 2;have y3:=YB.out.cell 3;have z0:=YB.out.frozen 0;have z1:=YB.out.frozen 1;have z2:=YB.out.frozen 2;have z3:=YB.out.frozen 3
     have PB:=Kept.mk (put4 YB.out (.int .i64 c1) (.int .i64 c2) (.slice A 1 c) (.slice D m2 d2)).2
     have PP:=Kept.mk (has_mid YB.out HP.out AR.out HV.out FR.out YBN.out HK.out c1 c2 c D m2 d2)
     refine ld 8 (fun K hK=>?_)
     go_simp
     replace X:=Kept.mk (X.out.bar PB.out (by rw[List.mem_singleton];have:=XR.out;omega))
     clear y0 y1 y2 y3 z0 z1 z2 z3 PB
     generalize ((((w21.setCell ⟨R,0,none⟩ (.int .i64 c1)).setCell ⟨R,1,none⟩ (.int .i64 c2)).setCell ⟨R,2,none⟩ (.slice A 1 c)).setCell ⟨R,3,none⟩ (.slice D m2 d2))=w22 at *
     refine hK.out _ _ (CS X.out) (fun _=>?_)
     clear hK K
     try simp only[Act.put,zA,zB,zC]
     refine wpAnyH_done (by kernel_rfl) ?_ _
     refine NoPanic.normal ?_
     go_wp2_with fail
     go_meet
     case rel=>exact⟨R,rfl,PP.out⟩
   ·go_simp
    obtain⟨R,hR⟩:∃ R,w15.heap.size=R:=⟨_,rfl⟩
    have bb:Below w15.heap.size w15 (w15.alloc (.cells #[.int .i64 0,.int .i64 0,.slice none 0 0,.slice none 0 0] 68)):=(Below.refl _ _).alloc (Nat.le_refl _) _
    have YB:=Kept.mk (Blk.new_at w15 68 #[.int .i64 0,.int .i64 0,.slice none 0 0,.slice none 0 0] R hR.symm)
    have YBN:Kept (w.heap.size≤R):=⟨by rw[← hR];exact BW.out.size⟩
    have XR:Kept (N < R):=⟨by have:=X.out.lt;omega⟩
    replace GB:=Kept.mk (GB.out.below bb GB.out.lt)
    replace BW:=Kept.mk (BW.out.trans (bb.mono BW.out.size));replace X:=Kept.mk (X.out.below bb X.out.lt)
    rw[hR]
    clear bb hR
    generalize (w15.alloc (.cells #[.int .i64 0,.int .i64 0,.slice none 0 0,.slice none 0 0] 68))=w23 at *
    refine hK.out _ _ (CS X.out) (fun _=>?_)
    clear hK K
    try simp only[Act.put,zA,zB,zC]
    refine ld 1 (fun K hK=>?_)
    go_simp
    go_at_call 133
    refine(CL.out _ BW.out).mono ?_
    rintro e w' ⟨rfl,rfl⟩
    refine hK.out _ _ (CS X.out) (fun _=>?_)
    clear hK K CL
    try simp only[Act.put,zA,zB,zC]
    refine ld 6 (fun K hK=>?_)
    go_simp
    go_at_call 132
    refine(CA.out _ _ (N :: R :: Z) BW.out GB.out GBN.out (zs_old (zs_old (zs_same HK.out BW.out) YB.out.lt YBN.out) X.out.lt XN.out)).mono ?_
    rintro e w25 ⟨c1,c2,A,c,D,m2,d2,rfl,hp,hn,V,far⟩
    have HP:=Kept.mk hp
    have AR:Kept (∀ o,A≠some ⟨R,o,none⟩):=⟨fun o h=>by have:=hn R o h;have:=YB.out.lt;omega⟩
    replace YB:=Kept.mk (far.blk YB.out (.inl (by simp)))
    have HV:=Kept.mk (V.more (K':=R :: Z) (fun z hz=>.inr (List.mem_cons_of_mem _ hz)))
    replace X:=Kept.mk (far.blk X.out (.inl (by simp)))
    have FR:Kept (Far b Z w w25):=⟨far_call BW.out far (fun z hz=>by simp[hz])⟩
    replace BW:Kept (w.heap.size≤w25.heap.size):=⟨Nat.le_trans BW.out.size (far_size far)⟩
    refine hK.out _ _ (CS X.out) (fun _=>?_)
    clear hK K CA hp hn V far GB GBN
    try simp only[Act.put,zA,zB,zC]
    have y0:=YB.out.cell 0;have y1:=YB.out.cell 1;have y2:=YB.out.cell 2;have y3:=YB.out.cell 3;have z0:=YB.out.frozen 0;have z1:=YB.out.frozen 1;have z2:=YB.out.frozen 2;have z3:=YB.out.frozen 3
    have PB:=Kept.mk (put4 YB.out (.int .i64 c1) (.int .i64 c2) (.slice A 1 c) (.slice D m2 d2)).2
    have PP:=Kept.mk (has_mid YB.out HP.out AR.out HV.out FR.out YBN.out HK.out c1 c2 c D m2 d2)
    refine ld 8 (fun K hK=>?_)
    go_simp
    replace X:=Kept.mk (X.out.bar PB.out (by rw[List.mem_singleton];have:=XR.out;omega))
    clear y0 y1 y2 y3 z0 z1 z2 z3 PB
    generalize ((((w25.setCell ⟨R,0,none⟩ (.int .i64 c1)).setCell ⟨R,1,none⟩ (.int .i64 c2)).setCell ⟨R,2,none⟩ (.slice A 1 c)).setCell ⟨R,3,none⟩ (.slice D m2 d2))=w26 at *
    refine hK.out _ _ (CS X.out) (fun _=>?_)
    clear hK K
    try simp only[Act.put,zA,zB,zC]
    refine wpAnyH_done (by kernel_rfl) ?_ _
    refine NoPanic.normal ?_
    go_wp2_with fail
    go_meet
    case rel=>exact⟨R,rfl,PP.out⟩
  ·go_simp
   obtain⟨R,hR⟩:∃ R,w2.heap.size=R:=⟨_,rfl⟩
   have bb:Below w2.heap.size w2 (w2.alloc (.cells #[.int .i64 0,.int .i64 0,.slice none 0 0,.slice none 0 0] 68)):=(Below.refl _ _).alloc (Nat.le_refl _) _
   have YB:=Kept.mk (Blk.new_at w2 68 #[.int .i64 0,.int .i64 0,.slice none 0 0,.slice none 0 0] R hR.symm)
   have YBN:Kept (w.heap.size≤R):=⟨by rw[← hR];exact BW.out.size⟩
   have XR:Kept (N < R):=⟨by have:=X.out.lt;omega⟩
   replace BW:=Kept.mk (BW.out.trans (bb.mono BW.out.size));replace X:=Kept.mk (X.out.below bb X.out.lt)
   rw[hR]
   clear bb hR
   generalize (w2.alloc (.cells #[.int .i64 0,.int .i64 0,.slice none 0 0,.slice none 0 0] 68))=w27 at *
   refine hK.out _ _ (CS X.out) (fun _=>?_)
   clear hK K
   try simp only[Act.put,zA,zB,zC]
   refine ld2 1 4 (fun K hK=>?_) (fun K hK=>?_)
   ·go_simp
    go_at_call 133
    refine(CL.out _ BW.out).mono ?_
    rintro e w' ⟨rfl,rfl⟩
    refine hK.out _ _ (CS X.out) (fun _=>?_)
    clear hK K CL
    try simp only[Act.put,zA,zB,zC]
    refine ld 4 (fun K hK=>?_)
    go_simp
    obtain⟨g,hg⟩:∃ g,w27.heap.size=g:=⟨_,rfl⟩
    have bb:Below w27.heap.size w27 (w27.alloc (.cells #[.int .i64 4,.int .i64 0,.int .i64 0,.int .i64 0,.int .i64 400,.int .i64 0,.string ⟨#[]⟩,.string ⟨#[]⟩] 164)):=(Below.refl _ _).alloc (Nat.le_refl _) _
    have GB:=Kept.mk (Blk.new_at w27 164 #[.int .i64 4,.int .i64 0,.int .i64 0,.int .i64 0,.int .i64 400,.int .i64 0,.string ⟨#[]⟩,.string ⟨#[]⟩] g hg.symm)
    have GBN:Kept (w.heap.size≤g):=⟨by rw[← hg];exact BW.out.size⟩
    replace YB:=Kept.mk (YB.out.below bb YB.out.lt)
    replace BW:=Kept.mk (BW.out.trans (bb.mono BW.out.size));replace X:=Kept.mk (X.out.below bb X.out.lt)
    rw[hg]
    clear bb hg
    generalize (w27.alloc (.cells #[.int .i64 4,.int .i64 0,.int .i64 0,.int .i64 0,.int .i64 400,.int .i64 0,.string ⟨#[]⟩,.string ⟨#[]⟩] 164))=w29 at *
    refine hK.out _ _ (CS X.out) (fun _=>?_)
    clear hK K
    try simp only[Act.put,zA,zB,zC]
    refine tk 5 (by assumption) ?_
    simp only[Act.put,zA,zB,zC]
    refine ld 6 (fun K hK=>?_)
    go_simp
    go_at_call 132
    refine(CA.out _ _ (N :: R :: Z) BW.out GB.out GBN.out (zs_old (zs_old (zs_same HK.out BW.out) YB.out.lt YBN.out) X.out.lt XN.out)).mono ?_
    rintro e w30 ⟨c1,c2,A,c,D,m2,d2,rfl,hp,hn,V,far⟩
    have HP:=Kept.mk hp
    have AR:Kept (∀ o,A≠some ⟨R,o,none⟩):=⟨fun o h=>by have:=hn R o h;have:=YB.out.lt;omega⟩
    replace YB:=Kept.mk (far.blk YB.out (.inl (by simp)))
    have HV:=Kept.mk (V.more (K':=R :: Z) (fun z hz=>.inr (List.mem_cons_of_mem _ hz)))
    replace X:=Kept.mk (far.blk X.out (.inl (by simp)))
    have FR:Kept (Far b Z w w30):=⟨far_call BW.out far (fun z hz=>by simp[hz])⟩
    replace BW:Kept (w.heap.size≤w30.heap.size):=⟨Nat.le_trans BW.out.size (far_size far)⟩
    refine hK.out _ _ (CS X.out) (fun _=>?_)
    clear hK K CA hp hn V far GB GBN
    try simp only[Act.put,zA,zB,zC]
    have y0:=YB.out.cell 0;have y1:=YB.out.cell 1;have y2:=YB.out.cell 2;have y3:=YB.out.cell 3;have z0:=YB.out.frozen 0;have z1:=YB.out.frozen 1;have z2:=YB.out.frozen 2;have z3:=YB.out.frozen 3
    have PB:=Kept.mk (put4 YB.out (.int .i64 c1) (.int .i64 c2) (.slice A 1 c) (.slice D m2 d2)).2
    have PP:=Kept.mk (has_mid YB.out HP.out AR.out HV.out FR.out YBN.out HK.out c1 c2 c D m2 d2)
    refine ld 8 (fun K hK=>?_)
    go_simp
    replace X:=Kept.mk (X.out.bar PB.out (by rw[List.mem_singleton];have:=XR.out;omega))
    clear y0 y1 y2 y3 z0 z1 z2 z3 PB
    generalize ((((w30.setCell ⟨R,0,none⟩ (.int .i64 c1)).setCell ⟨R,1,none⟩ (.int .i64 c2)).setCell ⟨R,2,none⟩ (.slice A 1 c)).setCell ⟨R,3,none⟩ (.slice D m2 d2))=w31 at *
    refine hK.out _ _ (CS X.out) (fun _=>?_)
    clear hK K
    try simp only[Act.put,zA,zB,zC]
    refine wpAnyH_done (by kernel_rfl) ?_ _
    refine NoPanic.normal ?_
    go_wp2_with fail
    go_meet
    case rel=>exact⟨R,rfl,PP.out⟩
   ·go_simp
    obtain⟨g,hg⟩:∃ g,w27.heap.size=g:=⟨_,rfl⟩
    have bb:Below w27.heap.size w27 (w27.alloc (.cells #[.int .i64 4,.int .i64 0,.int .i64 0,.int .i64 0,.int .i64 400,.int .i64 0,.string ⟨#[]⟩,.string ⟨#[]⟩] 164)):=(Below.refl _ _).alloc (Nat.le_refl _) _
    have GB:=Kept.mk (Blk.new_at w27 164 #[.int .i64 4,.int .i64 0,.int .i64 0,.int .i64 0,.int .i64 400,.int .i64 0,.string ⟨#[]⟩,.string ⟨#[]⟩] g hg.symm)
    have GBN:Kept (w.heap.size≤g):=⟨by rw[← hg];exact BW.out.size⟩
    replace YB:=Kept.mk (YB.out.below bb YB.out.lt)
    replace BW:=Kept.mk (BW.out.trans (bb.mono BW.out.size));replace X:=Kept.mk (X.out.below bb X.out.lt)
    rw[hg]
    clear bb hg
    generalize (w27.alloc (.cells #[.int .i64 4,.int .i64 0,.int .i64 0,.int .i64 0,.int .i64 400,.int .i64 0,.string ⟨#[]⟩,.string ⟨#[]⟩] 164))=w32 at *
    refine hK.out _ _ (CS X.out) (fun _=>?_)
    clear hK K
    try simp only[Act.put,zA,zB,zC]
    refine tk 5 (by assumption) ?_
    simp only[Act.put,zA,zB,zC]
    refine ld 1 (fun K hK=>?_)
    go_simp
    go_at_call 133
    refine(CL.out _ BW.out).mono ?_
    rintro e w' ⟨rfl,rfl⟩
    refine hK.out _ _ (CS X.out) (fun _=>?_)
    clear hK K CL
    try simp only[Act.put,zA,zB,zC]
    refine ld 6 (fun K hK=>?_)
    go_simp
    go_at_call 132
    refine(CA.out _ _ (N :: R :: Z) BW.out GB.out GBN.out (zs_old (zs_old (zs_same HK.out BW.out) YB.out.lt YBN.out) X.out.lt XN.out)).mono ?_
    rintro e w34 ⟨c1,c2,A,c,D,m2,d2,rfl,hp,hn,V,far⟩
    have HP:=Kept.mk hp
    have AR:Kept (∀ o,A≠some ⟨R,o,none⟩):=⟨fun o h=>by have:=hn R o h;have:=YB.out.lt;omega⟩
    replace YB:=Kept.mk (far.blk YB.out (.inl (by simp)))
    have HV:=Kept.mk (V.more (K':=R :: Z) (fun z hz=>.inr (List.mem_cons_of_mem _ hz)))
    replace X:=Kept.mk (far.blk X.out (.inl (by simp)))
    have FR:Kept (Far b Z w w34):=⟨far_call BW.out far (fun z hz=>by simp[hz])⟩
    replace BW:Kept (w.heap.size≤w34.heap.size):=⟨Nat.le_trans BW.out.size (far_size far)⟩
    refine hK.out _ _ (CS X.out) (fun _=>?_)
    clear hK K CA hp hn V far GB GBN
    try simp only[Act.put,zA,zB,zC]
    have y0:=YB.out.cell 0;have y1:=YB.out.cell 1;have y2:=YB.out.cell 2;have y3:=YB.out.cell 3;have z0:=YB.out.frozen 0;have z1:=YB.out.frozen 1;have z2:=YB.out.frozen 2;have z3:=YB.out.frozen 3
    have PB:=Kept.mk (put4 YB.out (.int .i64 c1) (.int .i64 c2) (.slice A 1 c) (.slice D m2 d2)).2
    have PP:=Kept.mk (has_mid YB.out HP.out AR.out HV.out FR.out YBN.out HK.out c1 c2 c D m2 d2)
    refine ld 8 (fun K hK=>?_)
    go_simp
    replace X:=Kept.mk (X.out.bar PB.out (by rw[List.mem_singleton];have:=XR.out;omega))
    clear y0 y1 y2 y3 z0 z1 z2 z3 PB
    generalize ((((w34.setCell ⟨R,0,none⟩ (.int .i64 c1)).setCell ⟨R,1,none⟩ (.int .i64 c2)).setCell ⟨R,2,none⟩ (.slice A 1 c)).setCell ⟨R,3,none⟩ (.slice D m2 d2))=w35 at *
    refine hK.out _ _ (CS X.out) (fun _=>?_)
    clear hK K
    try simp only[Act.put,zA,zB,zC]
    refine wpAnyH_done (by kernel_rfl) ?_ _
    refine NoPanic.normal ?_
    go_wp2_with fail
    go_meet
    case rel=>exact⟨R,rfl,PP.out⟩
 case rest =>
  clear CL CA B X
  obtain⟨R,rfl,c1,c2,A,c,D,m2,d2,Y,hp,V,F⟩:=hcut
  obtain⟨g,o,rfl,hc⟩:=hp.2.resolve_left (by omega)
  have p0:wc.cell? ⟨g,o,none⟩=some (.int .i64 (if isP m.v.l.b.p party=true then 8 else 1)):=by simpa using hc 0 _ rfl 0 _ rfl
  have VV:=Kept.mk (And.intro V F)
  have y2:wc.cell? ⟨R,2,none⟩=some (.slice (some ⟨g,o,none⟩) 1 c):=Y.cell 2
  obtain⟨qp,hqp⟩:∃ q,isP m.v.l.b.p party=q:=⟨_,rfl⟩
  rw[hqp] at p0
  have HQ:=Kept.mk hqp
  clear hqp hc hp Y V F
  cases qp with
  | false =>
   rw[if_neg (by decide)] at p0
   go_wp2
   go_ret
   exact⟨by rw[HQ.out];rfl,VV.out⟩
  | true =>
   rw[if_pos rfl] at p0
   go_wp2
   go_ret
   exact⟨by rw[HQ.out];rfl,VV.out⟩
set_option maxRecDepth 100000 in
set_option maxHeartbeats 1000000 in
theorem parties_any (h:VQ b Z w x t d n m) (hZ:∀ z∈Z,z < w.heap.size) (W:WL m.v.l) (WI_:WI m.v.l) (hk:m.v.l.b.p.np≤100):Calls Tryz.prog 51 #[.pointer (some ⟨x,0,none⟩)] w fun e w'=>e=.returned (.int .i64 m.v.l.b.p.np)∧VQ b Z w' x t d n m∧Far b Z w w':=by
 have CH:Kept (∀ w' (i:Int),VQ b Z w' x t d n m→Far b Z w w'→Calls Tryz.prog 93 #[.pointer (some ⟨x,0,none⟩),.int .i64 i] w' fun e w''=>e=.returned (.bool (isP m.v.l.b.p i))∧VQ b Z w'' x t d n m∧Far b Z w' w'') :=
  ⟨fun w' i h1 f=>hasparty_any h1 (fun z hz=>Nat.lt_of_lt_of_le (hZ z hz) (far_size f)) W WI_ i⟩
 have V0:=Kept.mk h
 have F0:Kept (Far b Z w w):=⟨Far.of (Below.refl _ _)⟩
 obtain⟨k,hkk⟩:∃ k,m.v.l.b.p.np=k:=⟨_,rfl⟩
 have IS:Kept (∀ i:Nat,isP m.v.l.b.p i=decide (i < k)):=⟨fun i=>by
  unfold isP
  rw[hkk,decide_eq_decide]
  omega⟩
 rw[hkk] at hk ⊢
 clear h hZ W WI_ hkk
 go_enter Tryz.func51,Tryz.ntmps51
 go_wp2
 go_loopw [3] (fun i wr=>∃ j:Nat,j≤k∧i=.int .i64 j∧Kept (VQ b Z wr x t d n m)∧Kept (Far b Z w wr)) (fun i _=>k - (Go.RowKit.intOf i).toNat)
 case atStart=>exact⟨0,by omega,rfl,V0,F0⟩
 case round =>
  obtain⟨j,hj,rfl,V,F⟩:=hrel
  clear V0 F0
  have KH:=CH.out _ j V.out F.out
  rw[IS.out j] at KH
  by_cases hjk:j < k
  ·rw[decide_eq_true hjk] at KH
   replace KH:=Kept.mk KH
   go_wp2_with fail
   refine KH.out.mono ?_
   rintro e w2 ⟨rfl,v,f⟩
   replace V:=Kept.mk v;replace F:=Kept.mk (F.out.trans f)
   clear v f KH
   go_wp2
   go_roundw
   case rel=>exact⟨j+1,by omega,by go_num,V,F⟩
   case measure=>simp[Go.RowKit.intOf];omega
  ·obtain rfl:j=k:=by omega
   rw[decide_eq_false hjk] at KH
   replace KH:=Kept.mk KH
   go_wp2_with fail
   refine KH.out.mono ?_
   rintro e w2 ⟨rfl,v,f⟩
   replace V:=Kept.mk v;replace F:=Kept.mk (F.out.trans f)
   clear v f KH
   go_wp2
   go_ret
   exact⟨rfl,V.out,F.out⟩
end
end Go.Proofs.YtlkeieoecfkkeaaGreat.Gate
namespace Go.Proofs.YtlkeieoecfkkeaaGreat.Vault
open Go.RowKit Go.Proofs.YtlkeieoecfkkeaaGreat.Num Go.Proofs.YtlkeieoecfkkeaaGreat.Sha Go.Proofs.YtlkeieoecfkkeaaGreat.Purse Go.Proofs.YtlkeieoecfkkeaaGreat.Escrow Go.Proofs.YtlkeieoecfkkeaaGreat.Wire Go.Proofs.YtlkeieoecfkkeaaGreat.Req Go.Proofs.YtlkeieoecfkkeaaGreat.Disk Go.Proofs.YtlkeieoecfkkeaaGreat.Frame
theorem newt_any (w:World):Calls Tryz.prog 7 #[] w fun e w'=>∃ t,e=.returned (.pointer (some ⟨t,0,none⟩))∧Tab w' t∧Below w.heap.size w w'∧w.heap.size≤t:=by
 refine(newtable_any w).mono ?_
 rintro e w' ⟨rfl,rfl⟩
 exact⟨_,rfl,.inl (Blk.new _ _ _),(Below.refl _ _).alloc (Nat.le_refl _) _,Nat.le_refl _⟩
def S2 (a b cap:Int):Ledger.LS:=Ledger.newL 2 (twoX a b) cap
theorem need_two {a b cap:Int}(h:twoOk a b=true) (h1:1≤cap) (h2:cap≤400):Ledger.confOk 2 (twoX a b) cap∧needV 2 (twoX a b) cap=2 * (sectorsF (14+63 * cap+440)+53):=by
 have hc:Ledger.confOk 2 (twoX a b) cap:=⟨two_ok h,h1,h2⟩
 refine⟨hc,?_⟩
 unfold needV
 rw[if_pos hc]
 rfl
theorem open_newd {n:Nat}(h1:1≤n) (h2:n≤8192):Journal.openJ (newD n)=Journal.noJ :=
 (Journal.keeps_new (wf_new n h1 h2) (fun j hj=>rowOf_replicate n j hj)).open_is rfl
end Go.Proofs.YtlkeieoecfkkeaaGreat.Vault
