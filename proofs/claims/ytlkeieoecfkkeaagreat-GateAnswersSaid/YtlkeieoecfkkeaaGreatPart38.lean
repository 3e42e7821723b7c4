/-
  Parts laid together: VaultC5 VaultC6 VaultC7 VaultC8 VaultMake VaultOpenN.
-/
import Derived.Test.YtlkeieoecfkkeaaGreatPart23
import Derived.Test.YtlkeieoecfkkeaaGreatPart28
import Derived.Test.YtlkeieoecfkkeaaGreatPart29
import Derived.Test.YtlkeieoecfkkeaaGreatPart35
import Derived.Test.YtlkeieoecfkkeaaGreatPart22
import Derived.Test.YtlkeieoecfkkeaaGreatPart1
import Derived.Deep.RegionHeld3
import Derived.Test.YtlkeieoecfkkeaaGreatPart16
import Derived.Test.YtlkeieoecfkkeaaGreatPart20
import Derived.Lib.SmallJoins
import Derived.Test.YtlkeieoecfkkeaaGreatPart37
import Derived.Test.YtlkeieoecfkkeaaGreatPart26
import Derived.Test.YtlkeieoecfkkeaaGreatPart17
import Derived.Deep.OwnRows
import Derived.Deep.DeepCutAuto
import Derived.LoopN
set_option maxRecDepth 100000
set_option maxHeartbeats 4000000
namespace Go.Proofs.YtlkeieoecfkkeaaGreat
namespace Vault
open Go.RowKit Num Sha Purse Escrow Wire Req Disk Go.Proofs.YtlkeieoecfkkeaaGreat.Frame
section
variable {w : World} {HJ FL I : List Nat} {x t d j y n : Nat} {lv : Value} {l : List (TV × LM)} {m : MV} {s0 : Ledger.LS}
theorem Jc {w1:World}{A:Option Addr}{k:Nat}{b:List Int}{F:List Nat}(r:Rd w1 A k b) (hn:Ledger.jK w [] A) (hF:∀ z∈F,z < w.heap.size):Off A k F:=by
 rcases r.2.2 with h0|⟨g,o,e,-⟩
 ·exact .inl h0
 ·refine .inr ⟨g,o,e,fun hm=>?_⟩
  have h1:=(hn g o e).1
  have h2:=hF g hm
  omega
theorem Vp.ljs (h:Vp w x t d j y n HJ FL I lv l m):∀ k∈HJ,k < w.heap.size:=fun k hk=>h.all k (vf_mem.2 (.inr (.inr (.inl hk))))
theorem bf {F:List Nat}{w':World}(b:Below w.heap.size w w'):Fp F F w w':=⟨barOf b _,fun _ hk=>.inl hk⟩
def dV (w:World) (x t d j y n:Nat) (HJ FL I:List Nat) (lv:Value) (l:List (TV × LM)) (m:MV) (dn:Bool) (r:Int × DS × Journal.JV) (e:Ending) (w':World):Prop:=e=.returned (.int .i64 r.1)∧∃ HJ',Vp w' x t d j y n HJ' FL I lv l ⟨r.2.1,r.2.2,m.v,dn,m.served⟩∧Fp (vf x HJ FL I lv) (vf x HJ' FL I lv) w w'
theorem EO {A:Option Addr}{k c:Nat}{b:List Int}(h:Vp w x t d j y n HJ FL I lv l m) (r:Rd w A k b) (o:Off A k HJ) (hc:k≤c) (hcm:c≤9223372036854775807) (hk:k≤100000) :
  Calls Tryz.prog 178 #[.pointer (some ⟨j,0,none⟩),.slice A k c] w (dV w x t d j y n HJ FL I lv l m m.down (Journal.appendJ m.s m.j b)):=by
 refine(Journal.J4 Frame.api h.sy r o hc hcm hk).mono ?_
 rintro e w' ⟨rfl,HJ',sy,fp⟩
 have k:=h.turn sy fp
 exact⟨rfl,HJ',k.1,k.2⟩
theorem Vp.put_down (h:Vp w x t d j y n HJ FL I lv l m) (q:Bool):Vp (w.setCell ⟨x,3,none⟩ (.bool q)) x t d j y n HJ FL I lv l ⟨m.s,m.j,m.v,q,m.served⟩∧Fp (vf x HJ FL I lv) (vf x HJ FL I lv) w (w.setCell ⟨x,3,none⟩ (.bool q)):=by
 have b2:Bar [x] w (w.setCell ⟨x,3,none⟩ (.bool q)):=(Bar.refl _ w).setCell (by simp) _
 have nx:∀ k,k≠x→k∉[x]:=fun k hk hm=>hk (by simpa using hm)
 have hs:=h.sy.keep cj_b b2 (fun k hk=>nx k (fun e=>h.xJ (e▸hk)))
 have ht:Tab (w.setCell ⟨x,3,none⟩ (.bool q)) t:=by
  obtain⟨F,G,ht,-⟩:=hs
  exact ht
 exact⟨⟨by simpa using h.blk.set_ 3 (.bool q),hs,h.lk.keep b2 (fun k hk=>nx k (fun e=>h.xL (e▸hk))) ht,h.row.keep b2 (fun k hk=>nx k (h.vx k hk)),h.fst,
  fun p hp=>(h.el p hp).keep b2 (fun k hk=>nx k (fun e=>h.xI (e▸hk))),fun k hk=>Nat.lt_of_lt_of_le (h.lts k hk) b2.size,h.xJ,h.xL,h.xI,h.LJ,h.IJ,h.IL,h.vJ,h.vL,h.vI,h.vx⟩,b2.mono (fun k hk=>.inl (by rw[List.mem_singleton] at hk;exact vf_mem.2 (.inl hk))),fun _ hk=>.inl hk⟩
theorem Vp.put_served (h:Vp w x t d j y n HJ FL I lv l m) (q:Int):Vp (w.setCell ⟨x,4,none⟩ (.int .i64 q)) x t d j y n HJ FL I lv l ⟨m.s,m.j,m.v,m.down,q⟩∧Fp (vf x HJ FL I lv) (vf x HJ FL I lv) w (w.setCell ⟨x,4,none⟩ (.int .i64 q)):=by
 have b2:Bar [x] w (w.setCell ⟨x,4,none⟩ (.int .i64 q)):=(Bar.refl _ w).setCell (by simp) _
 have nx:∀ k,k≠x→k∉[x]:=fun k hk hm=>hk (by simpa using hm)
 have hs:=h.sy.keep cj_b b2 (fun k hk=>nx k (fun e=>h.xJ (e▸hk)))
 have ht:Tab (w.setCell ⟨x,4,none⟩ (.int .i64 q)) t:=by
  obtain⟨F,G,ht,-⟩:=hs
  exact ht
 exact⟨⟨by simpa using h.blk.set_ 4 (.int .i64 q),hs,h.lk.keep b2 (fun k hk=>nx k (fun e=>h.xL (e▸hk))) ht,h.row.keep b2 (fun k hk=>nx k (h.vx k hk)),h.fst,
  fun p hp=>(h.el p hp).keep b2 (fun k hk=>nx k (fun e=>h.xI (e▸hk))),fun k hk=>Nat.lt_of_lt_of_le (h.lts k hk) b2.size,h.xJ,h.xL,h.xI,h.LJ,h.IJ,h.IL,h.vJ,h.vL,h.vI,h.vx⟩,b2.mono (fun k hk=>.inl (by rw[List.mem_singleton] at hk;exact vf_mem.2 (.inl hk))),fun _ hk=>.inl hk⟩
end
section
variable {w : World} {HJ FL I : List Nat} {x t d j y n : Nat} {lv : Value} {l : List (TV × LM)} {m : MV} {s0 : Ledger.LS}
theorem CY (e:Int):decide (e=13)=(e == 13):=by
 by_cases h:e=13<;>simp[h]
theorem CZ {A:Option Addr}{n:Nat}{F G:List Nat}(o:Off A n F) (hs:∀ k∈G,k∈F):Off A n G:=by
 rcases o with h|⟨g,go,e,h⟩
 ·exact .inl h
 ·exact .inr ⟨g,go,e,fun hm=>h (hs g hm)⟩
theorem vf_j {HJ FL I:List Nat}{lv:Value}:∀ k∈HJ,k∈vf x HJ FL I lv:=fun _ hk=>vf_mem.2 (.inr (.inr (.inl hk)))
def QJ (x t d j y n:Nat) (FL I:List Nat) (lv:Value) (l:List (TV × LM)) (m:MV):Prop:=∀ (w':World) (HJ:List Nat),Vp w' x t d j y n HJ FL I lv l m→Calls Tryz.prog 179 #[.pointer (some ⟨x,0,none⟩)] w' (dV w' x t d j y n HJ FL I lv l m m.down (Journal.compactJ m.s m.j (pictV m.v)))
theorem MG {p:Nat}{seq at_:Int}{b:List Int}{A:Option Addr}{bn c:Nat}(hcp:(Journal.appendJ m.s m.j (recV p seq at_ b)).1=12→QJ x t d j y n FL I lv l ⟨(Journal.appendJ m.s m.j (recV p seq at_ b)).2.1,(Journal.appendJ m.s m.j (recV p seq at_ b)).2.2,m.v,m.down,m.served⟩) (h:Vp w x t d j y n HJ FL I lv l m) (r:Rd w A bn b) (hp:p < 256) (hq:0≤seq∧seq≤4294967295) (ht:Tck at_) (hn:bn≤50000) :
  Calls Tryz.prog 138 #[.pointer (some ⟨x,0,none⟩),.int .i64 p,.int .i64 seq,.int .i64 at_,.slice A bn c] w
   (dV w x t d j y n HJ FL I lv l m (decide ((storeJ m.s m.j (pictV m.v) (recV p seq at_ b)).1=13)) (storeJ m.s m.j (pictV m.v) (recV p seq at_ b))):=by
 have KR:=ae.mk (BF (c:=c) r hp hq ht (by omega))
 have HRL:ae ((recV p seq at_ b).length≤100000):=⟨by rw[lC,r.1];omega⟩
 obtain⟨rec,hrec⟩:∃ rec,recV p seq at_ b=rec:=⟨_,rfl⟩
 rw[hrec] at KR HRL hcp ⊢
 have H:=ae.mk h
 have HCP:=ae.mk hcp
 unfold vP at KR
 obtain⟨R,hR⟩:∃ R,storeJ m.s m.j (pictV m.v) rec=R:=⟨_,rfl⟩
 have HR:=ae.mk hR
 rw[hR]
 clear h hcp r hrec hp hq ht hR hn
 unfold dV
 go_enter Tryz.func138,Tryz.ntmps138
 go_wp2_with fail
 refine KR.out.mono ?_
 rintro e w1 ⟨RA,rc,rfl,h1,h2,r,hn,bb⟩
 have H1:=ae.mk (H.out.below bb)
 have FP1:=ae.mk (bf (F:=vf x HJ FL I lv) bb)
 have OF1:=ae.mk (Jc r hn H.out.all)
 have R1:=ae.mk r
 have HC:=ae.mk (And.intro h1 h2)
 have KA:=ae.mk (EO H1.out r (CZ OF1.out vf_j) h1 h2 HRL.out)
 have x0:=H1.out.c0
 unfold dV at KA
 clear KR r hn bb H h1 h2
 go_wp2_with fail
 refine KA.out.mono ?_
 rintro e w2 ⟨rfl,HJ2,hv,fp⟩
 have OF2:=ae.mk (OF1.out.step R1.out fp)
 have R2:=ae.mk (R1.out.far fp.1 OF1.out)
 have FP2:=ae.mk (FP1.out.trans fp)
 clear KA x0 H1 OF1 R1 FP1 fp
 have HS:ae (R=if (Journal.appendJ m.s m.j rec).1=12 then (if (Journal.compactJ (Journal.appendJ m.s m.j rec).2.1 (Journal.appendJ m.s m.j rec).2.2 (pictV m.v)).1=0 then Journal.appendJ (Journal.compactJ (Journal.appendJ m.s m.j rec).2.1 (Journal.appendJ m.s m.j rec).2.2 (pictV m.v)).2.1 (Journal.compactJ (Journal.appendJ m.s m.j rec).2.1 (Journal.appendJ m.s m.j rec).2.2 (pictV m.v)).2.2 rec else Journal.compactJ (Journal.appendJ m.s m.j rec).2.1 (Journal.appendJ m.s m.j rec).2.2 (pictV m.v)) else Journal.appendJ m.s m.j rec):=⟨HR.out.symm⟩
 obtain⟨r1,hr1⟩:∃ r1,Journal.appendJ m.s m.j rec=r1:=⟨_,rfl⟩
 rw[hr1] at hv HS HCP ⊢
 obtain⟨e1,s1,j1⟩:=r1
 dsimp only at hv HS HCP ⊢
 clear HR hr1
 by_cases h12:e1=12
 ·subst h12
  have KC:=ae.mk (HCP.out rfl _ _ hv)
  unfold dV at KC
  dsimp only at KC
  have HS1:=HS.out
  rw[if_pos rfl] at HS1
  replace HS:=ae.mk HS1
  clear hv HS1
  go_wp2_with fail
  refine KC.out.mono ?_
  rintro e w3 ⟨rfl,HJ3,hv,fp⟩
  have OF3:=ae.mk (OF2.out.step R2.out fp)
  have R3:=ae.mk (R2.out.far fp.1 OF2.out)
  have FP3:=ae.mk (FP2.out.trans fp)
  clear KC OF2 R2 FP2 fp
  obtain⟨r2,hr2⟩:∃ r2,Journal.compactJ s1 j1 (pictV m.v)=r2:=⟨_,rfl⟩
  rw[hr2] at hv HS ⊢
  obtain⟨e2,s2,j2⟩:=r2
  dsimp only at hv HS ⊢
  clear hr2
  by_cases h0:e2=0
  ·subst h0
   have HS1:=HS.out
   rw[if_pos rfl] at HS1
   have KA:=ae.mk (EO hv R3.out (CZ OF3.out vf_j) HC.out.1 HC.out.2 HRL.out)
   unfold dV at KA
   dsimp only at KA
   rw[← HS1] at KA
   have x0:=hv.c0
   clear hv HS HS1
   go_wp2_with fail
   refine KA.out.mono ?_
   rintro e w4 ⟨rfl,HJ4,hv,fp⟩
   have FP4:=ae.mk (FP3.out.trans fp)
   clear KA OF3 R3 FP3 fp x0
   obtain⟨e3,s3,j3⟩:=R
   dsimp only at hv ⊢
   have HV:=ae.mk hv
   have x3:=hv.c3;have z3:=hv.blk.frozen 3
   clear hv
   go_wp2
   go_ret
   rw[← CY]
   have k:=HV.out.put_down (decide (e3=13))
   exact⟨rfl,HJ4,k.1,FP4.out.trans k.2⟩
  ·have HS1:=HS.out
   rw[if_neg h0] at HS1
   subst HS1
   have HV:=ae.mk hv
   have x3:=hv.c3;have z3:=hv.blk.frozen 3
   clear hv HS OF3 R3
   go_wp2
   go_ret
   rw[← CY]
   have k:=HV.out.put_down (decide (e2=13))
   exact⟨rfl,HJ3,k.1,FP3.out.trans k.2⟩
 ·have HS1:=HS.out
  rw[if_neg h12] at HS1
  subst HS1
  have HV:=ae.mk hv
  have x3:=hv.c3;have z3:=hv.blk.frozen 3
  clear hv HS OF2 R2
  go_wp2
  go_ret
  rw[← CY]
  have k:=HV.out.put_down (decide (e1=13))
  exact⟨rfl,HJ2,k.1,FP2.out.trans k.2⟩
end
section
variable {w w' : World} {HJ FL FL' I I' : List Nat} {x t d j y n : Nat} {lv : Value} {l : List (TV × LM)} {m : MV} {s0 : Ledger.LS}
theorem MH {l:List (TV × LM)}:∀ {k:Nat},k < l.length→∀ z:TV × LM,
  ((((((l.flatMap lastC).set (k * 6+0) (.int .i64 z.1.seq)).set (k * 6+1) (.int .i64 z.1.seen)).set (k * 6+2) (.int .i64 z.1.a.clock)).set (k * 6+3) (.int .i64 z.1.a.seen)).set (k * 6+4) (.slice z.2.A z.2.n z.2.c)).set (k * 6+5) (.slice z.2.D z.2.m z.2.d)=(l.set k z).flatMap lastC:=by
 induction l with
 | nil=>intro k hk;exact absurd hk (by simp)
 | cons a r ih =>
  intro k hk z
  cases k with
  | zero=>rfl
  | succ k =>
   have e:∀ i,(k+1) * 6+i=(k * 6+i)+6:=fun i=>by omega
   have c:∀ (i:Nat) (u:Value) (q:List Value),(lastC a++q).set (i+6) u=lastC a++q.set i u:=fun _ _ _=>rfl
   rw[e,e,e,e,e,e,List.flatMap_cons,c,c,c,c,c,c]
   exact congrArg (fun q=>lastC a++q) (ih (by simpa using hk) z)
def set6 (w:World) (g k:Nat) (z:TV × LM):World:=(((((w.setCell ⟨g,k * 6+0,none⟩ (.int .i64 z.1.seq)).setCell ⟨g,k * 6+1,none⟩ (.int .i64 z.1.seen)).setCell ⟨g,k * 6+2,none⟩ (.int .i64 z.1.a.clock)).setCell ⟨g,k * 6+3,none⟩ (.int .i64 z.1.a.seen)).setCell ⟨g,k * 6+4,none⟩ (.slice z.2.A z.2.n z.2.c)).setCell ⟨g,k * 6+5,none⟩ (.slice z.2.D z.2.m z.2.d)
theorem QK (w:World) (g k:Nat) (z:TV × LM):Bar [g] w (set6 w g k z):=((((((Bar.refl _ w).setCell (by simp) _).setCell (by simp) _).setCell (by simp) _).setCell (by simp) _).setCell (by simp) _).setCell (by simp) _
theorem U7 {g c k:Nat}(h:Ow lastC 6 141 w (.slice (some ⟨g,0,none⟩) l.length c) l) (hk:k < l.length) (z:TV × LM):Ow lastC 6 141 (set6 w g k z) (.slice (some ⟨g,0,none⟩) l.length c) (l.set k z):=by
 have h1:=(World.ownsRow.stored h (k * 6+0) (.int .i64 z.1.seq)).1
 have h2:=(World.ownsRow.stored h1 (k * 6+1) (.int .i64 z.1.seen)).1
 have h3:=(World.ownsRow.stored h2 (k * 6+2) (.int .i64 z.1.a.clock)).1
 have h4:=(World.ownsRow.stored h3 (k * 6+3) (.int .i64 z.1.a.seen)).1
 have h5:=(World.ownsRow.stored h4 (k * 6+4) (.slice z.2.A z.2.n z.2.c)).1
 have h6:=(World.ownsRow.stored h5 (k * 6+5) (.slice z.2.D z.2.m z.2.d)).1
 rw[MH hk] at h6
 unfold Ow
 rw[List.length_set]
 exact h6
theorem SS {α:Type}{C:α→List Value}{z k:Nat}{A:Option Addr}{F:List Nat}{q:List α}(r:Rc C z w' A k q) (hC:∀ x,C x≠[]) (hn:Ledger.jK w F A):∃ IA,In A k IA∧∀ b∈IA,w.heap.size≤b∧b < w'.heap.size∧b∉F:=by
 by_cases h0:k=0
 ·exact⟨[],.inl h0,by simp⟩
 ·obtain⟨b,o,u,rfl,-,hc⟩:=r.at_ (k:=0) (by omega)
  have h1:=hn b o rfl
  refine⟨[b],.inr ⟨b,o,rfl,by simp⟩,fun b' hb=>?_⟩
  rw[List.mem_singleton] at hb
  subst hb
  refine⟨h1.1,?_,h1.2⟩
  cases hcx:C u with
  | nil=>exact absurd hcx (hC u)
  | cons v r =>
   have:=World.block_lt_of_cell? _ _ (hc 0 v (by rw[hcx];rfl))
   simpa using this
theorem QL {s:DS}{v:Journal.JV}{H K:List Nat}(h:Journal.Sy Journal.Cj w H t d j n s v) (b:Bar K w w') (q:∀ k∈H,k≠t→k∉K) (ht:Tab w' t):Journal.Sy Journal.Cj w' H t d j n s v:=by
 obtain⟨F,G,h1,h2,h3,h4,h5,h6,rfl⟩:=h
 have a1:Disj F K:=fun k hk=>q k (by simp[hk]) (fun e=>h4 (e▸hk))
 have a2:Disj G K:=fun k hk=>q k (by simp[hk]) (fun e=>h5 (e▸hk))
 exact⟨F,G,ht,h2.keep b a1,h3.keep b a2,h4,h5,h6,rfl⟩
theorem Vp.apply (h:Vp w x t d j y n HJ FL I lv l m) {s':Ledger.LS}(hk:Ledger.Lk w' t FL' y s') (b:Bar (t :: FL) w w') (hF:∀ k∈FL',k∈FL∨w.heap.size≤k) :
  Vp w' x t d j y n HJ FL' I lv l ⟨m.s,m.j,⟨s',m.v.t⟩,m.down,m.served⟩∧Fp (vf x HJ FL I lv) (vf x HJ FL' I lv) w w':=by
 have tJ:=h.tJ
 have out:∀ k,k < w.heap.size→k∉FL→k∉FL':=fun k hk hn hm=>by
  rcases hF k hm with e|e
  ·exact hn e
  ·omega
 have no:∀ k,k≠t→k∉FL→k∉t :: FL:=fun k h1 h2 hm=>by
  rcases List.mem_cons.1 hm with e|e
  ·exact h1 e
  ·exact h2 e
 have xt:x≠t:=fun e=>h.xJ (e▸tJ)
 refine⟨⟨h.blk.bar b (no x xt h.xL),QL h.sy b (fun k hk e=>no k e (fun hm=>h.LJ k hm hk)) hk.lts.2.2,hk,h.row.keep b (fun g hg=>no g (fun e=>h.vJ g hg (e▸tJ)) (h.vL g hg)),h.fst,
  fun p hp=>(h.el p hp).keep b (fun k hk=>no k (fun e=>h.IJ k hk (e▸tJ)) (h.IL k hk)),fun k hk=>Nat.lt_of_lt_of_le (h.lts k hk) b.size,h.xJ,out x h.blk.lt h.xL,h.xI,fun k hk hm=>?_,h.IJ,fun k hk=>out k (h.lts k hk) (h.IL k hk),
  h.vJ,fun g hg=>out g (h.row.lt g hg) (h.vL g hg),h.vI,h.vx⟩,b.mono (fun k hk=>.inl ?_),fun k hk=>?_⟩
 ·rcases hF k hk with e|e
  ·exact h.LJ k e hm
  ·have:=h.ljs k hm;omega
 ·rcases List.mem_cons.1 hk with e|e
  ·subst e;exact vf_mem.2 (.inr (.inr (.inl tJ)))
  ·exact vf_mem.2 (.inr (.inr (.inr (.inl e))))
 ·rcases vf_mem.1 hk with e|e|e|e|e
  ·exact .inl (vf_mem.2 (.inl e))
  ·exact .inl (vf_mem.2 (.inr (.inl e)))
  ·exact .inl (vf_mem.2 (.inr (.inr (.inl e))))
  ·rcases hF k e with e|e
   ·exact .inl (vf_mem.2 (.inr (.inr (.inr (.inl e)))))
   ·exact .inr e
  ·exact .inl (vf_mem.2 (.inr (.inr (.inr (.inr e)))))
theorem Vp.put {B g c p:Nat}(h:Vp w x t d j y n HJ FL I (.slice (some ⟨g,0,none⟩) m.v.t.length c) l m) (hp:p < m.v.t.length) {T:TV}{q:LM}{I':List Nat}(el:El w I' (T,q)) (hB:∀ k∈vf x HJ FL I (.slice (some ⟨g,0,none⟩) m.v.t.length c),k < B∨k∈FL) (hI:∀ k∈I',B≤k∧k < w.heap.size∧k∉FL) :
  Vp (set6 w g p (T,q)) x t d j y n HJ FL (I++I') (.slice (some ⟨g,0,none⟩) m.v.t.length c) (l.set p (T,q)) ⟨m.s,m.j,⟨m.v.l,m.v.t.set p T⟩,m.down,m.served⟩∧Bar [g] w (set6 w g p (T,q)):=by
 have b:=QK w g p (T,q)
 have gv:g∈(Value.ownBlock (.slice (some ⟨g,0,none⟩) m.v.t.length c)).toList:=Option.mem_toList.2 rfl
 have ng:∀ {F:List Nat},g∉F→Disj F [g]:=fun hg k hk hm=>by rw[List.mem_singleton] at hm;exact hg (hm▸hk)
 have far:∀ k∈I',k∉vf x HJ FL I (.slice (some ⟨g,0,none⟩) m.v.t.length c):=fun k hk hm=>by
  have h1:=hI k hk
  rcases hB k hm with e|e
  ·omega
  ·exact h1.2.2 e
 have hs:=h.sy.keep cj_b b (ng (h.vJ g gv))
 have ht:Tab (set6 w g p (T,q)) t:=by
  obtain⟨F,G,ht,-⟩:=hs
  exact ht
 have hlen:=h.len
 have hrow:=h.row
 rw[← hlen] at hrow
 have ho:=U7 (k:=p) hrow (by rw[hlen];exact hp) (T,q)
 rw[hlen] at ho
 refine⟨⟨h.blk.bar b (by simpa using fun e=>h.vx g gv e.symm),hs,h.lk.keep b (ng (h.vL g gv)) ht,ho,?_,fun z hz=>?_,fun k hk=>?_,h.xJ,h.xL,?_,h.LJ,?_,?_,h.vJ,h.vL,?_,h.vx⟩,b⟩
 ·rw[List.map_set,h.fst]
 ·rcases List.mem_or_eq_of_mem_set hz with hz|rfl
  ·exact((h.el z hz).keep b (ng (h.vI g gv))).mono (fun k hk=>List.mem_append_left _ hk)
  ·exact(el.keep b (ng (fun hm=>far g hm (vf_mem.2 (.inr (.inl gv)))))).mono (fun k hk=>List.mem_append_right _ hk)
 ·rcases List.mem_append.1 hk with hk|hk
  ·exact Nat.lt_of_lt_of_le (h.lts k hk) b.size
  ·exact Nat.lt_of_lt_of_le (hI k hk).2.1 b.size
 ·intro hm
  rcases List.mem_append.1 hm with hm|hm
  ·exact h.xI hm
  ·exact far x hm (vf_mem.2 (.inl rfl))
 ·intro k hk hm
  rcases List.mem_append.1 hk with hk|hk
  ·exact h.IJ k hk hm
  ·exact far k hk (vf_mem.2 (.inr (.inr (.inl hm))))
 ·intro k hk hm
  rcases List.mem_append.1 hk with hk|hk
  ·exact h.IL k hk hm
  ·exact(hI k hk).2.2 hm
 ·intro z hz hm
  rcases List.mem_append.1 hm with hm|hm
  ·exact h.vI z hz hm
  ·exact far z hm (vf_mem.2 (.inr (.inl hz)))
end
section
variable {w : World} {HJ FL I : List Nat} {x t d j y n : Nat} {lv : Value} {l : List (TV × LM)} {m : MV} {s0 : Ledger.LS}
def wK (w:World) (x t d j y n:Nat) (HJ FL I:List Nat) (lv:Value) (m':MV) (e:Ending) (w':World):Prop :=
 e=.returned (.tuple #[])∧∃ FL' I',(∃ l',Vp w' x t d j y n HJ FL' I' lv l' m')∧Fp (vf x HJ FL I lv) (vf x HJ FL' I' lv) w w'
theorem Xd {g c:Nat}{I' FL':List Nat}{w w1 w2:World}{k2:Nat}(fp:Fp (vf x HJ FL I (.slice (some ⟨g,0,none⟩) k2 c)) (vf x HJ FL' I (.slice (some ⟨g,0,none⟩) k2 c)) w w1) (b:Bar [g] w1 w2) (hI:∀ k∈I',w.heap.size≤k) :
  Fp (vf x HJ FL I (.slice (some ⟨g,0,none⟩) k2 c)) (vf x HJ FL' (I++I') (.slice (some ⟨g,0,none⟩) k2 c)) w w2:=by
 have gv:g∈(Value.ownBlock (.slice (some ⟨g,0,none⟩) k2 c)).toList:=Option.mem_toList.2 rfl
 refine⟨fp.1.trans b (fun k hk=>.inl (by rw[List.mem_singleton] at hk;subst hk;exact vf_mem.2 (.inr (.inl gv)))),fun k hk=>?_⟩
 rcases vf_mem.1 hk with e|e|e|e|e
 ·exact fp.2 k (vf_mem.2 (.inl e))
 ·exact fp.2 k (vf_mem.2 (.inr (.inl e)))
 ·exact fp.2 k (vf_mem.2 (.inr (.inr (.inl e))))
 ·exact fp.2 k (vf_mem.2 (.inr (.inr (.inr (.inl e)))))
 ·rcases List.mem_append.1 e with e|e
  ·exact fp.2 k (vf_mem.2 (.inr (.inr (.inr (.inr e)))))
  ·exact .inr (hI k e)
theorem U8 (w:World) (g k:Nat) (z:TV × LM):(((((w.setCell ⟨g,k * 6,none⟩ (.int .i64 z.1.seq)).setCell ⟨g,k * 6+1,none⟩ (.int .i64 z.1.seen)).setCell ⟨g,k * 6+2,none⟩ (.int .i64 z.1.a.clock)).setCell ⟨g,k * 6+3,none⟩ (.int .i64 z.1.a.seen)).setCell ⟨g,k * 6+4,none⟩ (.slice z.2.A z.2.n z.2.c)).setCell ⟨g,k * 6+5,none⟩ (.slice z.2.D z.2.m z.2.d)=set6 w g k z:=rfl
def Xe (s:Ledger.LS) (party clock seen:Int) (rs:List RV):Prop:=∀ (w':World) (t y:Nat) (FL:List Nat) (A:Option Addr) (bn c:Nat),Ledger.Lk w' t FL y s→Rr w' A bn rs→Off A bn (t :: FL)→bn≤100000→bn≤c→c≤9223372036854775807→Calls Tryz.prog 132 #[.pointer (some ⟨y,0,none⟩),.int .i64 party,.int .i64 clock,.agg #[.int .i64 seen,.slice A bn c]] w' (Ledger.qi Ledger.Lk w' t FL y (Ledger.applyL s party clock ⟨seen,rs⟩))
theorem Xf {p:Nat}{seq clock seen:Int}{A:Option Addr}{bn c:Nat}{rs:List RV}(hap:Xe m.v.l p clock seen rs) (h:Vp w x t d j y n HJ FL I lv l m) (hp:p < m.v.t.length) (hr:Rr w A bn rs) (off:Off A bn (vf x HJ FL I lv)) (hn:bn≤100000) (hc:bn≤c) (hcm:c≤9223372036854775807) :
  Calls Tryz.prog 92 #[.pointer (some ⟨x,0,none⟩),.int .i64 p,.int .i64 seq,.int .i64 clock,.agg #[.int .i64 seen,.slice A bn c]] w
   (wK w x t d j y n HJ FL I lv ⟨m.s,m.j,doV m.v p seq clock ⟨seen,rs⟩,m.down,m.served⟩):=by
 obtain⟨N,hN⟩:∃ N,w.heap.size=N:=⟨_,rfl⟩
 have b0:Below w.heap.size w (w.alloc (.cells #[.int .i64 seen,.slice A bn c] 72)):=(Below.refl _ _).alloc (Nat.le_refl _) _
 have X:ae (Blk (w.alloc (.cells #[.int .i64 seen,.slice A bn c] 72)) N 72 #[.int .i64 seen,.slice A bn c]):=⟨Blk.new_at w _ _ N hN.symm⟩
 have ALL:=ae.mk h.all
 have NX:ae (N∉vf x HJ FL I lv):=⟨fun hm=>by have:=h.all N hm;omega⟩
 have B:=ae.mk b0
 have H:=ae.mk (h.below b0)
 have HR:=ae.mk (hr.below b0)
 have OFF:=ae.mk off
 have HAP:=ae.mk hap
 obtain⟨ra,rc,hlv,-,hc2,hcm2,hrc⟩:=h.list
 obtain⟨g,go,hra⟩:∃ g go,ra=some ⟨g,go,none⟩:=by
  obtain⟨b,o,-,e,-⟩:=hrc.at_ hp
  exact⟨b,o,e⟩
 clear hrc
 have hgo:go=0:=by
  rcases h.row.2 with⟨hv,hx⟩|⟨g',c',cur,hv,-,-,-,-,-⟩
  ·rw[hlv,hra] at hv
   injection hv with e _ _
   cases e
  ·rw[hlv,hra] at hv
   injection hv with e _ _
   injection e with e
   injection e with _ e _
 subst hgo hra
 have HLV:=ae.mk hlv
 clear h hr off hap b0 hlv
 unfold wK
 go_enter Tryz.func92,Tryz.ntmps92
 go_upto_region 1 with(fail)
 generalize (w.alloc (.cells #[.int .i64 seen,.slice A bn c] 72))=w1 at *
 have CS:∀ {u:World} {FL I:List Nat} {l:List (TV × LM)} {m2:MV},Vp u x t d j y n HJ FL I lv l m2→Blk u N 72 #[.int .i64 seen,.slice A bn c]→u.cell? ⟨x,1,none⟩=some (.pointer (some ⟨y,0,none⟩))∧u.cell? ⟨x,2,none⟩=some (.slice (some ⟨g,0,none⟩) m.v.t.length rc)∧u.cell? ⟨N,0,none⟩=some (.int .i64 seen)∧u.cell? ⟨N,1,none⟩=some (.slice A bn c):=fun h k=>⟨h.c1,by
  have:=h.blk.cell 2
  rw[HLV.out] at this
  exact this,k.cell 0,k.cell 1⟩
 obtain⟨np,hnp⟩:∃ np,m.v.t.length=np:=⟨_,rfl⟩
 rw[hnp] at CS hp
 have HNP:=ae.mk hnp
 clear hnp
 refine wp_region_noPanic ?_
 refine wp_region_held_drew (S:=fun u:World=>u.cell? ⟨x,1,none⟩=some (.pointer (some ⟨y,0,none⟩))∧u.cell? ⟨x,2,none⟩=some (.slice (some ⟨g,0,none⟩) np rc)∧u.cell? ⟨N,0,none⟩=some (.int .i64 seen)∧u.cell? ⟨N,1,none⟩=some (.slice A bn c)) (by kernel_rfl) (CS (H.out.below (Below.refl _ _).drew) X.out.drew) (fun _=>?_)
 replace H:=ae.mk (H.out.below (Below.refl _ w1).drew);replace X:=ae.mk X.out.drew;replace HR:=ae.mk (HR.out.below (Below.refl _ w1).drew);replace B:=ae.mk B.out.drew
 generalize w1.drew=w2 at *
 refine tk 0 ?_
 simp only[Act.put,zA,zB,zC]
 refine tk 1 ?_
 simp only[Act.put,zA,zB,zC]
 refine tk 2 ?_
 simp only[Act.put,zA,zB,zC]
 refine tk 3 ?_
 simp only[Act.put,zA,zB,zC]
 refine tk 4 ?_
 simp only[Act.put,zA,zB,zC]
 refine tk 5 ?_
 simp only[Act.put,zA,zB,zC]
 refine tk 6 ?_
 simp only[Act.put,zA,zB,zC]
 refine tk 7 ?_
 simp only[Act.put,zA,zB,zC]
 refine tk 8 ?_
 simp only[Act.put,zA,zB,zC]
 refine tk 9 ?_
 simp only[Act.put,zA,zB,zC]
 refine tk 10 ?_
 simp only[Act.put,zA,zB,zC]
 refine tk 11 ?_
 simp only[Act.put,zA,zB,zC]
 refine tk 12 ?_
 simp only[Act.put,zA,zB,zC]
 refine tk 13 ?_
 simp only[Act.put,zA,zB,zC]
 refine tk 14 ?_
 simp only[Act.put,zA,zB,zC]
 refine ld 15 (fun K hK=>?_)
 go_simp
 have KA:=ae.mk (HAP.out _ _ _ _ _ _ _ H.out.lk HR.out (CZ OFF.out (fun k hk=>by
  rcases List.mem_cons.1 hk with e|e
  ·subst e;exact vf_mem.2 (.inr (.inr (.inl H.out.tJ)))
  ·exact vf_mem.2 (.inr (.inr (.inr (.inl e)))))) hn hc hcm)
 unfold Ledger.qi at KA
 go_at_call 132
 refine KA.out.mono ?_
 rintro e w3 ⟨FL',PA,pn,pc,D,dm,dd,rfl,h1,h2,h3,h4,rp,rv,nA,nD,lk,bb,hF⟩
 obtain⟨R,hR⟩:∃ R,Ledger.applyL m.v.l p clock ⟨seen,rs⟩=R:=⟨_,rfl⟩
 rw[hR] at rp rv lk ⊢
 obtain⟨v3,fp3⟩:=H.out.apply lk bb hF
 obtain⟨IA,inA,hIA⟩:=SS rp Sm nA
 obtain⟨ID,inD,hID⟩:=SS rv (fun u=>by simp[vvC]) nD
 have EL:ae (El w3 (IA++ID) (⟨seq,seen,R.1⟩,⟨PA,pn,pc,D,dm,dd⟩)):=⟨⟨rp,rv,⟨h1,h2⟩,⟨h3,h4⟩,inA.mono (fun k hk=>List.mem_append_left _ hk),inD.mono (fun k hk=>List.mem_append_right _ hk)⟩⟩
 have HI:ae (∀ k∈IA++ID,w2.heap.size≤k∧k < w3.heap.size∧k∉FL'):=⟨fun k hk=>by
  rcases List.mem_append.1 hk with hk|hk
  ·exact⟨(hIA k hk).1,(hIA k hk).2.1,fun hm=>(hIA k hk).2.2 (List.mem_cons_of_mem _ hm)⟩
  ·exact⟨(hID k hk).1,(hID k hk).2.1,fun hm=>(hID k hk).2.2 (List.mem_cons_of_mem _ hm)⟩⟩
 have HB:ae (∀ k∈vf x HJ FL' I lv,k < w2.heap.size∨k∈FL'):=⟨fun k hk=>by
  rcases vf_mem.1 hk with e|e|e|e|e
  ·exact .inl (H.out.all k (vf_mem.2 (.inl e)))
  ·exact .inl (H.out.all k (vf_mem.2 (.inr (.inl e))))
  ·exact .inl (H.out.all k (vf_mem.2 (.inr (.inr (.inl e)))))
  ·exact .inr e
  ·exact .inl (H.out.all k (vf_mem.2 (.inr (.inr (.inr (.inr e))))))⟩
 have V3:=ae.mk v3
 have FP3:=ae.mk ((bf (F:=vf x HJ FL I lv) B.out).trans fp3)
 have X3:=ae.mk (X.out.bar bb (fun hm=>NX.out (by
  rcases List.mem_cons.1 hm with e|e
  ·rw[e];exact vf_mem.2 (.inr (.inr (.inl H.out.tJ)))
  ·exact vf_mem.2 (.inr (.inr (.inr (.inl e)))))))
 have HRR:=ae.mk hR
 have BSZ:=ae.mk B.out.size
 clear KA h1 h2 h3 h4 rp rv nA nD lk bb hF hR v3 fp3 inA hIA inD hID X H HR
 refine hK.out _ _ (CS V3.out X3.out) (fun _=>?_)
 clear hK K
 try simp only[Act.put,zA,zB,zC]
 refine tk 16 ?_
 simp only[Act.put,zA,zB,zC]
 refine tk 17 ?_
 simp only[Act.put,zA,zB,zC]
 obtain⟨g2,go2,q2,hA2,-,-,hcell⟩:=V3.out.cells (Below.refl _ _) (k:=p) (by rw[HNP.out];exact hp) HLV.out
 injection hA2 with hA2
 injection hA2 with e1 e2 _
 subst e1 e2
 simp only[Nat.zero_add] at hcell
 obtain⟨O,hO⟩:∃ O,tAt m.v p=O:=⟨_,rfl⟩
 have hcell2:∀ i u,(lastC (O,q2))[i]?=some u→w3.cell? ⟨g,p * 6+i,none⟩=some u:=by rw[← hO];exact hcell
 clear hcell hO
 have y0:w3.cell? ⟨g,p * 6,none⟩=some (.int .i64 O.seq):=hcell2 0 _ rfl;have y1:w3.cell? ⟨g,p * 6+1,none⟩=some (.int .i64 O.seen):=hcell2 1 _ rfl;have y2:w3.cell? ⟨g,p * 6+2,none⟩=some (.int .i64 O.a.clock):=hcell2 2 _ rfl;have y3:w3.cell? ⟨g,p * 6+3,none⟩=some (.int .i64 O.a.seen):=hcell2 3 _ rfl;have y4:w3.cell? ⟨g,p * 6+4,none⟩=some (.slice q2.A q2.n q2.c):=hcell2 4 _ rfl;have y5:w3.cell? ⟨g,p * 6+5,none⟩=some (.slice q2.D q2.m q2.d):=hcell2 5 _ rfl
 have ZF:ae (w3.ownsRow 0 141 6 (.slice (some ⟨g,0,none⟩) m.v.t.length rc) m.v.t.length (l.flatMap lastC)):=⟨by
  have:=V3.out.row
  unfold Ow at this
  rw[HLV.out,V3.out.len] at this
  exact this⟩
 have z0:=World.ownsRow.frozenAt ZF.out (p * 6);have z1:=World.ownsRow.frozenAt ZF.out (p * 6+1);have z2:=World.ownsRow.frozenAt ZF.out (p * 6+2);have z3:=World.ownsRow.frozenAt ZF.out (p * 6+3);have z4:=World.ownsRow.frozenAt ZF.out (p * 6+4);have z5:=World.ownsRow.frozenAt ZF.out (p * 6+5)
 refine ld 18 (fun K hK=>?_)
 go_simp
 have VP:=Vp.put (m:=⟨m.s,m.j,⟨R.2,m.v.t⟩,m.down,m.served⟩) (p:=p) (B:=w2.heap.size) (g:=g) (c:=rc) (by have:=V3.out;rw[HLV.out] at this;exact this) (by rw[HNP.out];exact hp) EL.out (by have:=HB.out;rw[HLV.out] at this;exact this) HI.out
 have VP2:=ae.mk VP
 clear VP y0 y1 y2 y3 y4 y5 z0 z1 z2 z3 z4 z5 hcell2
 have SE:=U8 w3 g p (⟨seq,seen,R.1⟩,⟨PA,pn,pc,D,dm,dd⟩)
 dsimp only at SE
 rw[SE]
 generalize set6 w3 g p (⟨seq,seen,R.1⟩,⟨PA,pn,pc,D,dm,dd⟩)=w4 at *
 have X4:=X3.out.bar VP2.out.2 (fun hm=>NX.out (by rw[List.mem_singleton] at hm;rw[hm];exact vf_mem.2 (.inr (.inl (by rw[HLV.out];exact Option.mem_toList.2 rfl)))))
 have CS4:=CS (u:=w4) (FL:=FL') (by have:=VP2.out.1;rw[← HLV.out] at this;exact this) X4
 refine hK.out _ _ CS4 (fun _=>?_)
 clear hK K
 try simp only[Act.put,zA,zB,zC]
 refine wpAnyH_done (by kernel_rfl) ?_ _
 refine NoPanic.normal ?_
 clear CS CS4 X4
 go_wp2
 first|go_end0|(simp only[Exit.inBlock,Exit.then];refine bodyPost_ret (results_none rfl _ _ _) rfl ?_)|refine bodyPost_ret (results_none rfl _ _ _) rfl ?_
 have fp:=FP3.out
 rw[HLV.out] at fp
 refine⟨rfl,FL',I++(IA++ID),⟨l.set p (⟨seq,seen,R.1⟩,⟨PA,pn,pc,D,dm,dd⟩),?_⟩,?_⟩
 ·have:=VP2.out.1
  rw[← HLV.out] at this
  unfold doV
  rw[HRR.out]
  exact this
 ·rw[HLV.out]
  exact Xd fp VP2.out.2 (fun k hk=>Nat.le_trans BSZ.out (HI.out k hk).1)
end
def L0:LM:=⟨none,0,0,none,0,0⟩
def Z6:Array Value:=#[.int .i64 0,.int .i64 0,.int .i64 0,.int .i64 0,.slice none 0 0,.slice none 0 0]
theorem XU:lastC (T0,L0)=Z6.toList:=rfl
theorem Xg (n j:Nat) (hj:j < n * 6):((List.replicate n (T0,L0)).flatMap lastC)[j]?=Z6[j % 6]?:=by
 induction n generalizing j with
 | zero=>omega
 | succ n ih =>
  rw[List.replicate_succ,List.flatMap_cons]
  by_cases h:j < 6
  ·rw[List.getElem?_append_left (by rw[iV];exact h),Nat.mod_eq_of_lt h,XU,Array.getElem?_toList]
  ·rw[List.getElem?_append_right (by rw[iV];omega),iV,ih (j - 6) (by omega)]
   congr 1
   omega
theorem zo (w:World) (n:Nat) (h2:n≤8192):∃ w',(Instr.makeSlice 118 (.int .i64 (n:Int)) (.int .i64 (n:Int))).run Tryz.prog w=.ok (.slice (some ⟨w.heap.size,0,none⟩) n n) w'∧Ow lastC 6 141 w' (.slice (some ⟨w.heap.size,0,none⟩) n n) (List.replicate n (T0,L0))∧Below w.heap.size w w':=by
 have hi0:(Tryz.prog.info? 141).map (fun i=>(i.zero,i.size,i.bytes))=some (some (.agg Z6),6,80):=by kernel_rfl
 obtain⟨iu,hi,hz0,hz1,hz2⟩:=info_parts hi0
 obtain⟨w',hm,own,gr⟩:=run_makeSlice_full (P:=Tryz.prog) w w.heap.size 118 141 iu _ 6 Tryz.underlying118 hi hz0 hz1 .i64 .i64 n (by omega) (by rw[hz2];omega) (by unfold maxLen;omega) (Nat.le_refl _)
 refine⟨w',hm,?_,⟨gr.os,gr.tape,gr.output,gr.size,fun k hk=>gr.block k hk (by simp)⟩⟩
 have e:(madeCells (Value.agg Z6).cells (n * 6)).toList=(List.replicate n (T0,L0)).flatMap lastC:=by
  apply List.ext_getElem?
  intro j
  have hl:((List.replicate n (T0,L0)).flatMap lastC).length=n * 6:=by
   rw[List.length_flatMap];simp[iV]
  by_cases hj:j < n * 6
  ·rw[Xg n j hj]
   rw[show (Value.agg Z6).cells=Z6 from rfl]
   unfold madeCells
   rw[Array.getElem?_toList,Array.getElem?_map,Array.getElem?_range,if_pos hj]
   have h6:j % 6 < 6:=Nat.mod_lt _ (by omega)
   simp only[Option.map_some,show Z6.size=6 from rfl]
   rw[getElem!_def]
   have:∃ v,Z6[j % 6]?=some v:=⟨Z6[j % 6]'h6,Array.getElem?_eq_getElem h6⟩
   obtain⟨v,hv⟩:=this
   rw[hv]
  ·rw[List.getElem?_eq_none (show (madeCells (Value.agg Z6).cells (n * 6)).toList.length≤j by simp[madeCells];omega),List.getElem?_eq_none (by rw[hl];omega)]
 rw[e] at own
 unfold Ow
 rw[List.length_replicate]
 exact Go.Joins.ownsRow_le own (Nat.zero_le _)
theorem Xh {w:World}{H FL:List Nat}{x t d j y n k g c:Nat}{s:DS}{v:Journal.JV}{s0:Ledger.LS}(hb:Blk w x 120 #[.pointer (some ⟨j,0,none⟩),.pointer (some ⟨y,0,none⟩),.slice (some ⟨g,0,none⟩) k c,.bool false,.int .i64 0]) (sy:Journal.Sy Journal.Cj w H t d j n s v) (lk:Ledger.Lk w t FL y s0)
  (row:Ow lastC 6 141 w (.slice (some ⟨g,0,none⟩) k c) (List.replicate k (T0,L0))) (hxH:x∉H) (hxF:x∉FL) (hL:Disj FL H) (hgH:g∉H) (hgF:g∉FL) (hgx:g≠x) :
  Vp w x t d j y n H FL [] (.slice (some ⟨g,0,none⟩) k c) (List.replicate k (T0,L0)) ⟨s,v,newV s0 k,false,0⟩:=by
 have own:∀ z∈(Value.slice (some ⟨g,0,none⟩) k c).ownBlock.toList,z=g:=fun z hz=>by
  have:=Option.mem_toList.1 hz
  injection this with this
  exact this.symm
 exact⟨hb,sy,lk,row,by simp[newV,T0,L0],fun p hp=>by
  have:=List.eq_of_mem_replicate hp
  subst this
  exact⟨Rc.nil,Rc.nil,⟨Nat.le_refl _,by decide⟩,⟨Nat.le_refl _,by decide⟩,.inl rfl,.inl rfl⟩,by simp,hxH,hxF,by simp,hL,fun _ h=>by simp at h,fun _ h=>by simp at h,
  fun z hz=>by rw[own z hz];exact hgH,fun z hz=>by rw[own z hz];exact hgF,by simp,fun z hz=>by rw[own z hz];exact hgx⟩
section
variable {w wz : World} {H HJ FL : List Nat} {t d j y n k g : Nat} {s : DS} {v : Journal.JV} {s0 : Ledger.LS}
def zq (w:World) (H:List Nat) (t d n:Nat) (m:MV) (e:Ending) (w':World):Prop :=
 ∃ x,e=.returned (.tuple #[.pointer (some ⟨x,0,none⟩),.int .i64 0])∧∃ j y HJ FL I lv,(∃ l,Vp w' x t d j y n HJ FL I lv l m)∧Fp H (vf x HJ FL I lv) w w'
theorem MI (sy:Journal.Sy Journal.Cj wz HJ t d j n s v):Tab wz t:=by
 obtain⟨F,G,ht,-⟩:=sy
 exact ht
theorem SV (h:Journal.Sy Journal.Cj w H t d j n s v):WF n s∧∃ G,Journal.Cj w G j t d n v:=by
 obtain⟨F,G,h1,h2,h3,-⟩:=h
 exact⟨h2.1,G,h3⟩
theorem SX (sy:Journal.Sy Journal.Cj wz HJ t d j n s v) (lk:Ledger.Lk wz t FL y s0) (row:Ow lastC 6 141 wz (.slice (some ⟨g,0,none⟩) k k) (List.replicate k (T0,L0))) (hLJ:Disj FL HJ) (hgJ:g∉HJ) (hgF:g∉FL) (hFL:∀ z∈FL,w.heap.size≤z) (hgw:w.heap.size≤g) (fp:Fp H HJ w wz) :
  Vp (wz.alloc (.cells #[.pointer (some ⟨j,0,none⟩),.pointer (some ⟨y,0,none⟩),.slice (some ⟨g,0,none⟩) k k,.bool false,.int .i64 0] 120)) wz.heap.size t d j y n HJ FL [] (.slice (some ⟨g,0,none⟩) k k) (List.replicate k (T0,L0)) ⟨s,v,newV s0 k,false,0⟩ ∧
  Fp H (vf wz.heap.size HJ FL [] (.slice (some ⟨g,0,none⟩) k k)) w (wz.alloc (.cells #[.pointer (some ⟨j,0,none⟩),.pointer (some ⟨y,0,none⟩),.slice (some ⟨g,0,none⟩) k k,.bool false,.int .i64 0] 120)):=by
 have b:Below wz.heap.size wz (wz.alloc (.cells #[.pointer (some ⟨j,0,none⟩),.pointer (some ⟨y,0,none⟩),.slice (some ⟨g,0,none⟩) k k,.bool false,.int .i64 0] 120)):=(Below.refl _ _).alloc (Nat.le_refl _) _
 have hJ:wz.heap.size∉HJ:=fun h=>by have:=sy.lts cj_b _ h;omega
 have hF:wz.heap.size∉FL:=fun h=>by have:=lk.lts.1 _ h;omega
 have hg:g < wz.heap.size:=row.lt g (Option.mem_toList.2 rfl)
 refine⟨Xh (Blk.new _ _ _) (sy.keep cj_b (barOf b []) (fun _ _=>by simp)) (lk.below b) (row.keep (barOf b []) (fun _ _=>by simp)) hJ hF hLJ hgJ hgF (by omega),?_⟩
 refine⟨fp.1.trans (barOf b []) (by simp),fun z hz=>?_⟩
 rcases vf_mem.1 hz with e|e|e|e|e
 ·right;have:=fp.1.size;omega
 ·right
  have h1:=Option.mem_toList.1 e
  injection h1 with h1
  rw[← h1];exact hgw
 ·exact fp.2 z e
 ·exact .inr (hFL z e)
 ·simp at e
theorem MJ {A:Option Addr}{c:Nat}{X:Nat→List Int}{cap:Int}(sd:Journal.Sd w H t d n s) (hr:Rwi w A k X) (hok:Ledger.bU k X cap) (hneed:needV k X cap≤(n:Int)) (hh:(Journal.openJ s).has=false) (hrec:(Journal.openJ s).recs=[]) :
  Calls Tryz.prog 21 #[.pointer (some ⟨t,0,none⟩),.agg #[.slice A k c,.int .i64 cap],.pointer (some ⟨d,0,none⟩)] w (zq w H t d n ⟨s,Journal.openJ s,newV (Ledger.newL k X cap) k,false,0⟩):=by
 obtain⟨N,hN⟩:∃ N,w.heap.size=N:=⟨_,rfl⟩
 have b0:Below w.heap.size w (w.alloc (.cells #[.slice A k c,.int .i64 cap] 41)):=(Below.refl _ _).alloc (Nat.le_refl _) _
 have X1:ae (Blk (w.alloc (.cells #[.slice A k c,.int .i64 cap] 41)) N 41 #[.slice A k c,.int .i64 cap]):=⟨Blk.new_at w _ _ N hN.symm⟩
 have B:=ae.mk b0
 have HL:=ae.mk sd.lts
 have SD:=ae.mk (sd.keep (barOf b0 []) (fun _ _=>by simp))
 have RW:=ae.mk (hr.below b0)
 have HOK:=ae.mk hok
 have hk8:k≤8192:=by have:=hok.1;unfold mG at this;omega
 have TB:ae (Tab (w.alloc (.cells #[.slice A k c,.int .i64 cap] 41)) t):=⟨by
  obtain⟨F,h1,-⟩:=SD.out
  exact h1⟩
 have KN:=Ledger.O0 (c:=c) cap TB.out RW.out
 unfold Ledger.DJ at KN
 obtain⟨s0,hs0⟩:∃ s0,Ledger.newL k X cap=s0:=⟨_,rfl⟩
 rw[hs0] at KN ⊢
 clear hs0
 replace KN:=ae.mk KN
 have HH:=ae.mk hh;have HREC:=ae.mk hrec
 unfold zq
 clear sd hr hok b0 hh hrec
 go_enter Tryz.func21,Tryz.ntmps21
 go_upto_region 1 with(fail)
 generalize w.alloc (.cells #[.slice A k c,.int .i64 cap] 41)=w1 at *
 have x0:=X1.out.cell 0;have x1:=X1.out.cell 1
 go_wp2_with fail
 refine KN.out.mono ?_
 rintro e w2 (⟨hno,-⟩|⟨-,y,FL,rfl,lk,bb,hFL⟩)
 ·exact absurd HOK.out hno
 have hw1:=B.out.size
 have LK:=ae.mk lk
 have HFL:ae (∀ z∈FL,w1.heap.size≤z):=⟨hFL⟩
 replace X1:=ae.mk (X1.out.below bb X1.out.lt)
 replace SD:=ae.mk (SD.out.keep (barOf bb []) (fun _ _=>by simp))
 replace RW:=ae.mk (RW.out.below bb)
 replace B:=ae.mk (B.out.trans (bb.mono hw1))
 clear KN lk hFL bb TB x0 x1
 go_upto_region 4 with(fail)
 refine wp_region_noPanic ?_
 refine wp_region_held_drew (S:=fun u:World=>u.cell? ⟨N,0,none⟩=some (.slice A k c)∧u.cell? ⟨N,1,none⟩=some (.int .i64 cap)) (by kernel_rfl) ⟨X1.out.cell 0,X1.out.cell 1⟩ (fun _=>?_)
 replace X1:=ae.mk X1.out.drew
 replace SD:=ae.mk (SD.out.keep (barOf (Below.refl _ w2).drew []) (fun _ _=>by simp))
 replace RW:=ae.mk (RW.out.below (Below.refl _ w2).drew)
 replace LK:=ae.mk (LK.out.below (Below.refl _ w2).drew)
 replace B:=ae.mk (B.out.drew)
 generalize w2.drew=w3 at *
 refine tk 0 ?_
 simp only[Act.put,zA,zB,zC]
 refine tk 2 ?_
 simp only[Act.put,zA,zB,zC]
 refine ld 1 (fun K hK=>?_)
 go_simp
 obtain⟨F,hT,hD,htF,hH⟩:=SD.out
 go_at_call 45
 refine(jm hD).mono ?_
 rintro e w4 ⟨rfl,rfl⟩
 refine hK.out _ _ ⟨X1.out.cell 0,X1.out.cell 1⟩ (fun _=>?_)
 clear hK K hT hD htF hH F
 try simp only[Act.put,zA,zB,zC]
 have KN:=ae.mk (ql (c:=c) (cap:=cap) RW.out)
 refine ld 3 (fun K hK=>?_)
 go_simp
 go_at_call 19
 refine KN.out.mono ?_
 rintro e w4 ⟨rfl,bb⟩
 replace X1:=ae.mk (X1.out.below bb X1.out.lt)
 replace SD:=ae.mk (SD.out.keep (barOf bb []) (fun _ _=>by simp))
 replace LK:=ae.mk (LK.out.below bb)
 replace B:=ae.mk (B.out.trans (bb.mono B.out.size))
 refine hK.out _ _ ⟨X1.out.cell 0,X1.out.cell 1⟩ (fun _=>?_)
 clear hK K KN RW bb
 try simp only[Act.put,zA,zB,zC]
 refine tk 4 ?_
 simp only[Act.put,zA,zB,zC]
 refine wpAnyH_done (by kernel_rfl) ?_ _
 refine NoPanic.normal ?_
 have hne:((n:Int) < needV k X cap)=False:=eq_false (by omega)
 generalize needV k X cap=nd at *
 go_upto_region 6 with(fail)
 clear hne hneed
 have HFw:ae (∀ z∈FL,w.heap.size≤z):=⟨fun z hz=>by have:=HFL.out z hz;omega⟩
 go_cut [10] (fun q wx=>∃ x j g HJ,q=.pointer (some ⟨x,0,none⟩)∧ae (Vp wx x t d j y n HJ FL [] (.slice (some ⟨g,0,none⟩) k k) (List.replicate k (T0,L0)) ⟨s,Journal.openJ s,newV s0 k,false,0⟩)∧ae (Fp H (vf x HJ FL [] (.slice (some ⟨g,0,none⟩) k k)) w wx))
 case first =>
  refine wp_region_noPanic ?_
  refine wp_region_held_drew (S:=fun u:World=>u.cell? ⟨N,0,none⟩=some (.slice A k c)) (by kernel_rfl) (X1.out.cell 0) (fun _=>?_)
  replace X1:=ae.mk X1.out.drew
  replace SD:=ae.mk (SD.out.keep (barOf (Below.refl _ w4).drew []) (fun _ _=>by simp))
  replace LK:=ae.mk (LK.out.below (Below.refl _ w4).drew)
  replace B:=ae.mk (B.out.drew)
  generalize w4.drew=w5 at *
  refine tk 0 ?_
  simp only[Act.put,zA,zB,zC]
  refine tk 1 ?_
  simp only[Act.put,zA,zB,zC]
  refine tk 3 ?_
  simp only[Act.put,zA,zB,zC]
  refine tk 4 ?_
  simp only[Act.put,zA,zB,zC]
  refine tk 5 ?_
  simp only[Act.put,zA,zB,zC]
  refine tk 6 ?_
  simp only[Act.put,zA,zB,zC]
  refine ld2 2 7 (fun K hK=>?_) (fun K hK=>?_)
  ·go_simp
   go_at_call 46
   refine(Journal.zn Frame.api SD.out).mono ?_
   rintro e w6 ⟨j,HJ,rfl,sy,fp⟩
   have hlk:=LK.out.lts.1
   have hHL:=SD.out.lts
   have LK6:=ae.mk (LK.out.keep fp.1 (fun z hz hm=>by have:=HFw.out z hz;have:=HL.out z hm;omega) (MI sy))
   have X6:=ae.mk (X1.out.bar fp.1 (fun hm=>by have:=HL.out N hm;omega))
   have FP:ae (Fp H HJ w w6):=⟨(bf B.out).trans fp⟩
   have LJ:ae (Disj FL HJ):=⟨fun z hz hm=>by
    rcases fp.2 z hm with h|h
    ·have:=HFw.out z hz;have:=HL.out z h;omega
    ·have:=hlk z hz;omega⟩
   have SY:=ae.mk sy
   have hJs:=sy.lts cj_b
   have hsz:w5.heap.size≤w6.heap.size:=fp.1.size
   refine hK.out _ _ (X6.out.cell 0) (fun _=>?_)
   clear hK K sy fp LK X1 SD
   try simp only[Act.put,zA,zB,zC]
   obtain⟨w7,hmk,row,bb⟩:=zo w6 k hk8
   have ROW:=ae.mk row
   have hwB:=B.out.size
   refine ld 7 (fun K hK=>?_)
   go_simp
   obtain⟨g,hg⟩:∃ g,w6.heap.size=g:=⟨_,rfl⟩
   rw[hg] at ROW ⊢
   have SY7:=ae.mk (SY.out.keep cj_b (barOf bb []) (fun _ _=>by simp))
   have LK7:=ae.mk (LK6.out.below bb)
   have X7:=ae.mk (X6.out.below bb X6.out.lt)
   have VB:=ae.mk (SX (w:=w) SY7.out LK7.out ROW.out LJ.out (fun hm=>by have:=hJs g hm;omega) (fun hm=>by have:=hlk g hm;omega) HFw.out (by omega) (FP.out.trans (bf bb)))
   refine hK.out _ _ (X7.out.cell 0) (fun _=>?_)
   clear hK K hmk row bb ROW SY7 LK7 SY LK6 X6 FP LJ hJs hlk hHL hg
   try simp only[Act.put,zA,zB,zC]
   refine tk 8 ?_
   simp only[Act.put,zA,zB,zC]
   refine ld 9 (fun K hK=>?_)
   go_simp
   obtain⟨x,hx⟩:∃ x,w7.heap.size=x:=⟨_,rfl⟩
   rw[hx] at VB ⊢
   refine hK.out _ _ ((X7.out.alloc _).cell 0) (fun _=>?_)
   clear hK K hx
   try simp only[Act.put,zA,zB,zC]
   refine tk 10 ?_
   simp only[Act.put,zA,zB,zC]
   refine wpAnyH_done (by kernel_rfl) ?_ _
   refine NoPanic.normal ?_
   have V1:=ae.mk VB.out.1;have V2:=ae.mk VB.out.2
   clear VB X7
   go_wp2
   go_meet
   case rel=>exact⟨x,j,g,HJ,rfl,V1,V2⟩
  ·obtain⟨w6,hmk,row,bb⟩:=zo w5 k hk8
   go_simp
   obtain⟨g,hg⟩:∃ g,w5.heap.size=g:=⟨_,rfl⟩
   rw[hg] at row ⊢
   have ROW:=ae.mk row
   have hlk:=LK.out.lts.1
   have SD6:=ae.mk (SD.out.keep (barOf bb []) (fun _ _=>by simp))
   have LK6:=ae.mk (LK.out.below bb)
   have X6:=ae.mk (X1.out.below bb X1.out.lt)
   have FP6:ae (Fp H H w w6):=⟨(bf B.out).trans (bf bb)⟩
   have hwB:=B.out.size
   have hg6:g < w6.heap.size:=row.lt g (Option.mem_toList.2 rfl)
   have hs56:=bb.size
   refine hK.out _ _ (X6.out.cell 0) (fun _=>?_)
   clear hK K hmk row bb SD LK X1 B
   try simp only[Act.put,zA,zB,zC]
   refine ld 2 (fun K hK=>?_)
   go_simp
   go_at_call 46
   refine(Journal.zn Frame.api SD6.out).mono ?_
   rintro e w7 ⟨j,HJ,rfl,sy,fp⟩
   have LK7:=ae.mk (LK6.out.keep fp.1 (fun z hz hm=>by have:=HFw.out z hz;have:=HL.out z hm;omega) (MI sy))
   have X7:=ae.mk (X6.out.bar fp.1 (fun hm=>by have:=HL.out N hm;omega))
   have FP:ae (Fp H HJ w w7):=⟨FP6.out.trans fp⟩
   have LJ:ae (Disj FL HJ):=⟨fun z hz hm=>by
    rcases fp.2 z hm with h|h
    ·have:=HFw.out z hz;have:=HL.out z h;omega
    ·have:=hlk z hz;omega⟩
   have ROW7:=ae.mk (ROW.out.keep fp.1 (fun z hz hm=>by
    have h1:g=z:=by
     have h2:=Option.mem_toList.1 hz
     injection h2
    have:=HL.out z hm;omega))
   have hgJ:g∉HJ:=fun hm=>by
    rcases fp.2 g hm with h|h
    ·have:=HL.out g h;omega
    ·omega
   have VB:=ae.mk (SX (w:=w) sy LK7.out ROW7.out LJ.out hgJ (fun hm=>by have:=hlk g hm;omega) HFw.out (by omega) FP.out)
   refine hK.out _ _ (X7.out.cell 0) (fun _=>?_)
   clear hK K sy fp ROW ROW7 SD6 LK6 LK7 X6 FP FP6 LJ hlk hgJ hg6 hg
   try simp only[Act.put,zA,zB,zC]
   refine tk 8 ?_
   simp only[Act.put,zA,zB,zC]
   refine ld 9 (fun K hK=>?_)
   go_simp
   obtain⟨x,hx⟩:∃ x,w7.heap.size=x:=⟨_,rfl⟩
   rw[hx] at VB ⊢
   refine hK.out _ _ ((X7.out.alloc _).cell 0) (fun _=>?_)
   clear hK K hx
   try simp only[Act.put,zA,zB,zC]
   refine tk 10 ?_
   simp only[Act.put,zA,zB,zC]
   refine wpAnyH_done (by kernel_rfl) ?_ _
   refine NoPanic.normal ?_
   have V1:=ae.mk VB.out.1;have V2:=ae.mk VB.out.2
   clear VB X7
   go_wp2
   go_meet
   case rel=>exact⟨x,j,g,HJ,rfl,V1,V2⟩
 case rest =>
  obtain⟨x,j,g,HJ,rfl,V,FP⟩:=hcut
  clear X1 SD LK B HFL HOK
  generalize wc=w4 at *
  have v0:=V.out.c0
  obtain⟨hwf,G,hcj⟩:=SV V.out.sy
  have KP:=Journal.UC hcj
  unfold Journal.uT at KP
  dsimp only at KP
  rw[HH.out] at KP
  replace KP:=ae.mk KP
  go_wp2_with fail
  refine KP.out.mono ?_
  rintro e w5 ⟨A5,n5,c5,rfl,-,-,-,bb⟩
  replace FP:=ae.mk (FP.out.trans (bf bb))
  replace V:=ae.mk (V.out.below bb)
  clear KP v0 bb hcj hwf G
  have v0:=V.out.c0
  obtain⟨hwf,G,hcj⟩:=SV V.out.sy
  have KR:=Journal.UE hcj hwf.n2
  unfold Journal.uU at KR
  dsimp only at KR
  rw[HREC.out] at KR
  replace KR:=ae.mk KR
  go_wp2_with fail
  refine KR.out.mono ?_
  rintro e w6 ⟨A6,c6,rfl,-,-,-,bb,-⟩
  replace FP:=ae.mk (FP.out.trans (bf bb))
  replace V:=ae.mk (V.out.below bb)
  clear KR v0 bb hcj hwf G
  go_wp2
  refine wp_loop_rounds 1 ?_
  rw[rounds_succ]
  go_wp2
  go_ret2
  exact⟨x,rfl,j,y,HJ,FL,[],_,⟨_,V.out⟩,FP.out⟩
end
end Vault
end Go.Proofs.YtlkeieoecfkkeaaGreat
