/-
  Parts laid together: VaultC5 VaultC6 VaultC7 VaultC8 VaultOpenN.
-/
import Derived.Test.YtlkeieoecfkkeaaGreatPart27
import Derived.Test.YtlkeieoecfkkeaaGreatPart31
import Derived.Test.YtlkeieoecfkkeaaGreatPart37
import Derived.Test.YtlkeieoecfkkeaaGreatPart26
import Derived.Test.YtlkeieoecfkkeaaGreatPart1
import Derived.Deep.RegionHeld3
import Derived.Test.YtlkeieoecfkkeaaGreatPart38
import Derived.Test.YtlkeieoecfkkeaaGreatPart40
import Derived.Test.YtlkeieoecfkkeaaGreatPart29
import Derived.Test.YtlkeieoecfkkeaaGreatPart19
import Derived.Deep.OwnRows
import Derived.Deep.DeepCutAuto
import Derived.LoopN
namespace Go.Proofs.YtlkeieoecfkkeaaGreat.Vault
open Go.RowKit Go.Proofs.YtlkeieoecfkkeaaGreat.Num Go.Proofs.YtlkeieoecfkkeaaGreat.Sha Go.Proofs.YtlkeieoecfkkeaaGreat.Purse Go.Proofs.YtlkeieoecfkkeaaGreat.Escrow Go.Proofs.YtlkeieoecfkkeaaGreat.Wire Go.Proofs.YtlkeieoecfkkeaaGreat.Req Go.Proofs.YtlkeieoecfkkeaaGreat.Disk Go.Proofs.YtlkeieoecfkkeaaGreat.Frame
section
variable {w : World} {HJ FL I : List Nat} {x t d j y n : Nat} {lv : Value} {l : List (TV × LM)} {m : MV} {s0 : Ledger.LS}
theorem Vp.ljs (h:Vp w x t d j y n HJ FL I lv l m):∀ k∈HJ,k < w.heap.size:=fun k hk=>h.all k (vf_mem.2 (.inr (.inr (.inl hk))))
theorem fp_below {F:List Nat}{w':World}(b:Below w.heap.size w w'):Fp F F w w':=⟨barOf b _,fun _ hk=>.inl hk⟩
end
section
variable {w : World} {HJ FL I : List Nat} {x t d j y n : Nat} {lv : Value} {l : List (TV × LM)} {m : MV} {s0 : Ledger.LS}
end
section
variable {w w' : World} {HJ FL FL' I I' : List Nat} {x t d j y n : Nat} {lv : Value} {l : List (TV × LM)} {m : MV} {s0 : Ledger.LS}
theorem set6_flat {l:List (TV × LM)}:∀ {k:Nat},k < l.length→∀ z:TV × LM,
  ((((((l.flatMap lastC).set (k * 6+0) (.int .i64 z.1.seq)).set (k * 6+1) (.int .i64 z.1.seen)).set (k * 6+2) (.int .i64 z.1.a.clock)).set (k * 6+3) (.int .i64 z.1.a.seen)).set (k * 6+4) (.slice z.2.A z.2.n z.2.c)).set (k * 6+5) (.slice z.2.D z.2.m z.2.d)=(l.set k z).flatMap lastC:=by
 induction l with
 | nil=>intro k hk;exact absurd hk (by simp)
 | cons a r ih =>
  intro k hk z
  cases k with
  | zero=>rfl
  | succ k =>
   have e:∀ i,(k+1) * 6+i=(k * 6+i)+6:=fun i=>by omega
   have c:∀ (i:Nat) (u:Value) (q:List Value),(lastC a++q).set (i+6) u=lastC a++q.set i u:=fun _ _ _=>rfl
   rw[e,e,e,e,e,e,List.flatMap_cons,c,c,c,c,c,c]
   exact congrArg (fun q=>lastC a++q) (ih (by simpa using hk) z)
def set6 (w:World) (g k:Nat) (z:TV × LM):World:=(((((w.setCell ⟨g,k * 6+0,none⟩ (.int .i64 z.1.seq)).setCell ⟨g,k * 6+1,none⟩ (.int .i64 z.1.seen)).setCell ⟨g,k * 6+2,none⟩ (.int .i64 z.1.a.clock)).setCell ⟨g,k * 6+3,none⟩ (.int .i64 z.1.a.seen)).setCell ⟨g,k * 6+4,none⟩ (.slice z.2.A z.2.n z.2.c)).setCell ⟨g,k * 6+5,none⟩ (.slice z.2.D z.2.m z.2.d)
theorem set6_bar (w:World) (g k:Nat) (z:TV × LM):Bar [g] w (set6 w g k z):=((((((Bar.refl _ w).setCell (by simp) _).setCell (by simp) _).setCell (by simp) _).setCell (by simp) _).setCell (by simp) _).setCell (by simp) _
theorem ow_set6 {g c k:Nat}(h:Ow lastC 6 141 w (.slice (some ⟨g,0,none⟩) l.length c) l) (hk:k < l.length) (z:TV × LM):Ow lastC 6 141 (set6 w g k z) (.slice (some ⟨g,0,none⟩) l.length c) (l.set k z):=by
 have h1:=(World.ownsRow.stored h (k * 6+0) (.int .i64 z.1.seq)).1
 have h2:=(World.ownsRow.stored h1 (k * 6+1) (.int .i64 z.1.seen)).1
 have h3:=(World.ownsRow.stored h2 (k * 6+2) (.int .i64 z.1.a.clock)).1
 have h4:=(World.ownsRow.stored h3 (k * 6+3) (.int .i64 z.1.a.seen)).1
 have h5:=(World.ownsRow.stored h4 (k * 6+4) (.slice z.2.A z.2.n z.2.c)).1
 have h6:=(World.ownsRow.stored h5 (k * 6+5) (.slice z.2.D z.2.m z.2.d)).1
 rw[set6_flat hk] at h6
 unfold Ow
 rw[List.length_set]
 exact h6
theorem sy_keep2 {s:DS}{v:Journal.JV}{H K:List Nat}(h:Journal.Sy Journal.Cj w H t d j n s v) (b:Bar K w w') (q:∀ k∈H,k≠t→k∉K) (ht:Tab w' t):Journal.Sy Journal.Cj w' H t d j n s v:=by
 obtain⟨F,G,h1,h2,h3,h4,h5,h6,rfl⟩:=h
 have a1:Disj F K:=fun k hk=>q k (by simp[hk]) (fun e=>h4 (e▸hk))
 have a2:Disj G K:=fun k hk=>q k (by simp[hk]) (fun e=>h5 (e▸hk))
 exact⟨F,G,ht,h2.keep b a1,h3.keep b a2,h4,h5,h6,rfl⟩
theorem Vp.apply (h:Vp w x t d j y n HJ FL I lv l m) {s':Ledger.LS}(hk:Ledger.Lk w' t FL' y s') (b:Bar (t :: FL) w w') (hF:∀ k∈FL',k∈FL∨w.heap.size≤k) :
  Vp w' x t d j y n HJ FL' I lv l ⟨m.s,m.j,⟨s',m.v.t⟩,m.down,m.served⟩∧Fp (vf x HJ FL I lv) (vf x HJ FL' I lv) w w':=by
 have tJ:=h.tJ
 have out:∀ k,k < w.heap.size→k∉FL→k∉FL':=fun k hk hn hm=>by
  rcases hF k hm with e|e
  ·exact hn e
  ·omega
 have no:∀ k,k≠t→k∉FL→k∉t :: FL:=fun k h1 h2 hm=>by
  rcases List.mem_cons.1 hm with e|e
  ·exact h1 e
  ·exact h2 e
 have xt:x≠t:=fun e=>h.xJ (e▸tJ)
 refine⟨⟨h.blk.bar b (no x xt h.xL),sy_keep2 h.sy b (fun k hk e=>no k e (fun hm=>h.LJ k hm hk)) hk.lts.2.2,hk,h.row.keep b (fun g hg=>no g (fun e=>h.vJ g hg (e▸tJ)) (h.vL g hg)),h.fst,
  fun p hp=>(h.el p hp).keep b (fun k hk=>no k (fun e=>h.IJ k hk (e▸tJ)) (h.IL k hk)),fun k hk=>Nat.lt_of_lt_of_le (h.lts k hk) b.size,h.xJ,out x h.blk.lt h.xL,h.xI,fun k hk hm=>?_,h.IJ,fun k hk=>out k (h.lts k hk) (h.IL k hk),
  h.vJ,fun g hg=>out g (h.row.lt g hg) (h.vL g hg),h.vI,h.vx⟩,b.mono (fun k hk=>.inl ?_),fun k hk=>?_⟩
 ·rcases hF k hk with e|e
  ·exact h.LJ k e hm
  ·have:=h.ljs k hm;omega
 ·rcases List.mem_cons.1 hk with e|e
  ·subst e;exact vf_mem.2 (.inr (.inr (.inl tJ)))
  ·exact vf_mem.2 (.inr (.inr (.inr (.inl e))))
 ·rcases vf_mem.1 hk with e|e|e|e|e
  ·exact .inl (vf_mem.2 (.inl e))
  ·exact .inl (vf_mem.2 (.inr (.inl e)))
  ·exact .inl (vf_mem.2 (.inr (.inr (.inl e))))
  ·rcases hF k e with e|e
   ·exact .inl (vf_mem.2 (.inr (.inr (.inr (.inl e)))))
   ·exact .inr e
  ·exact .inl (vf_mem.2 (.inr (.inr (.inr (.inr e)))))
theorem Vp.put {B g c p:Nat}(h:Vp w x t d j y n HJ FL I (.slice (some ⟨g,0,none⟩) m.v.t.length c) l m) (hp:p < m.v.t.length) {T:TV}{q:LM}{I':List Nat}(el:El w I' (T,q)) (hB:∀ k∈vf x HJ FL I (.slice (some ⟨g,0,none⟩) m.v.t.length c),k < B∨k∈FL) (hI:∀ k∈I',B≤k∧k < w.heap.size∧k∉FL) :
  Vp (set6 w g p (T,q)) x t d j y n HJ FL (I++I') (.slice (some ⟨g,0,none⟩) m.v.t.length c) (l.set p (T,q)) ⟨m.s,m.j,⟨m.v.l,m.v.t.set p T⟩,m.down,m.served⟩∧Bar [g] w (set6 w g p (T,q)):=by
 have b:=set6_bar w g p (T,q)
 have gv:g∈(Value.ownBlock (.slice (some ⟨g,0,none⟩) m.v.t.length c)).toList:=Option.mem_toList.2 rfl
 have ng:∀ {F:List Nat},g∉F→Disj F [g]:=fun hg k hk hm=>by rw[List.mem_singleton] at hm;exact hg (hm▸hk)
 have far:∀ k∈I',k∉vf x HJ FL I (.slice (some ⟨g,0,none⟩) m.v.t.length c):=fun k hk hm=>by
  have h1:=hI k hk
  rcases hB k hm with e|e
  ·omega
  ·exact h1.2.2 e
 have hs:=h.sy.keep cj_b b (ng (h.vJ g gv))
 have ht:Tab (set6 w g p (T,q)) t:=by
  obtain⟨F,G,ht,-⟩:=hs
  exact ht
 have hlen:=h.len
 have hrow:=h.row
 rw[← hlen] at hrow
 have ho:=ow_set6 (k:=p) hrow (by rw[hlen];exact hp) (T,q)
 rw[hlen] at ho
 refine⟨⟨h.blk.bar b (by simpa using fun e=>h.vx g gv e.symm),hs,h.lk.keep b (ng (h.vL g gv)) ht,ho,?_,fun z hz=>?_,fun k hk=>?_,h.xJ,h.xL,?_,h.LJ,?_,?_,h.vJ,h.vL,?_,h.vx⟩,b⟩
 ·rw[List.map_set,h.fst]
 ·rcases List.mem_or_eq_of_mem_set hz with hz|rfl
  ·exact((h.el z hz).keep b (ng (h.vI g gv))).mono (fun k hk=>List.mem_append_left _ hk)
  ·exact(el.keep b (ng (fun hm=>far g hm (vf_mem.2 (.inr (.inl gv)))))).mono (fun k hk=>List.mem_append_right _ hk)
 ·rcases List.mem_append.1 hk with hk|hk
  ·exact Nat.lt_of_lt_of_le (h.lts k hk) b.size
  ·exact Nat.lt_of_lt_of_le (hI k hk).2.1 b.size
 ·intro hm
  rcases List.mem_append.1 hm with hm|hm
  ·exact h.xI hm
  ·exact far x hm (vf_mem.2 (.inl rfl))
 ·intro k hk hm
  rcases List.mem_append.1 hk with hk|hk
  ·exact h.IJ k hk hm
  ·exact far k hk (vf_mem.2 (.inr (.inr (.inl hm))))
 ·intro k hk hm
  rcases List.mem_append.1 hk with hk|hk
  ·exact h.IL k hk hm
  ·exact(hI k hk).2.2 hm
 ·intro z hz hm
  rcases List.mem_append.1 hm with hm|hm
  ·exact h.vI z hz hm
  ·exact far z hm (vf_mem.2 (.inr (.inl hz)))
end
section
variable {w : World} {HJ FL I : List Nat} {x t d j y n : Nat} {lv : Value} {l : List (TV × LM)} {m : MV} {s0 : Ledger.LS}
end
section
variable {w wz : World} {H HJ FL : List Nat} {t d j y n k g : Nat} {s : DS} {v : Journal.JV} {s0 : Ledger.LS}
def VOpenPost (w:World) (H:List Nat) (t d n:Nat) (m:MV) (e:Ending) (w':World):Prop :=
 ∃ x,e=.returned (.tuple #[.pointer (some ⟨x,0,none⟩),.int .i64 0])∧∃ j y HJ FL I lv,(∃ l,Vp w' x t d j y n HJ FL I lv l m)∧Fp H (vf x HJ FL I lv) w w'
theorem tab_sy (sy:Journal.Sy Journal.Cj wz HJ t d j n s v):Tab wz t:=by
 obtain⟨F,G,ht,-⟩:=sy
 exact ht
theorem vsy_cj (h:Journal.Sy Journal.Cj w H t d j n s v):WF n s∧∃ G,Journal.Cj w G j t d n v:=by
 obtain⟨F,G,h1,h2,h3,-⟩:=h
 exact⟨h2.1,G,h3⟩
theorem vp_box (sy:Journal.Sy Journal.Cj wz HJ t d j n s v) (lk:Ledger.Lk wz t FL y s0) (row:Ow lastC 6 141 wz (.slice (some ⟨g,0,none⟩) k k) (List.replicate k (T0,L0))) (hLJ:Disj FL HJ) (hgJ:g∉HJ) (hgF:g∉FL) (hFL:∀ z∈FL,w.heap.size≤z) (hgw:w.heap.size≤g) (fp:Fp H HJ w wz) :
  Vp (wz.alloc (.cells #[.pointer (some ⟨j,0,none⟩),.pointer (some ⟨y,0,none⟩),.slice (some ⟨g,0,none⟩) k k,.bool false,.int .i64 0] 120)) wz.heap.size t d j y n HJ FL [] (.slice (some ⟨g,0,none⟩) k k) (List.replicate k (T0,L0)) ⟨s,v,newV s0 k,false,0⟩ ∧
  Fp H (vf wz.heap.size HJ FL [] (.slice (some ⟨g,0,none⟩) k k)) w (wz.alloc (.cells #[.pointer (some ⟨j,0,none⟩),.pointer (some ⟨y,0,none⟩),.slice (some ⟨g,0,none⟩) k k,.bool false,.int .i64 0] 120)):=by
 have b:Below wz.heap.size wz (wz.alloc (.cells #[.pointer (some ⟨j,0,none⟩),.pointer (some ⟨y,0,none⟩),.slice (some ⟨g,0,none⟩) k k,.bool false,.int .i64 0] 120)):=(Below.refl _ _).alloc (Nat.le_refl _) _
 have hJ:wz.heap.size∉HJ:=fun h=>by have:=sy.lts cj_b _ h;omega
 have hF:wz.heap.size∉FL:=fun h=>by have:=lk.lts.1 _ h;omega
 have hg:g < wz.heap.size:=row.lt g (Option.mem_toList.2 rfl)
 refine⟨vp_new (Blk.new _ _ _) (sy.keep cj_b (barOf b []) (fun _ _=>by simp)) (lk.below b) (row.keep (barOf b []) (fun _ _=>by simp)) hJ hF hLJ hgJ hgF (by omega),?_⟩
 refine⟨fp.1.trans (barOf b []) (by simp),fun z hz=>?_⟩
 rcases vf_mem.1 hz with e|e|e|e|e
 ·right;have:=fp.1.size;omega
 ·right
  have h1:=Option.mem_toList.1 e
  injection h1 with h1
  rw[← h1];exact hgw
 ·exact fp.2 z e
 ·exact .inr (hFL z e)
 ·simp at e
set_option maxRecDepth 100000 in
set_option maxHeartbeats 2000000 in
theorem vopen_new {A:Option Addr}{c:Nat}{X:Nat→List Int}{cap:Int}(sd:Journal.Sd w H t d n s) (hr:Rwi w A k X) (hok:Ledger.confOk k X cap) (hneed:needV k X cap≤(n:Int)) (hh:(Journal.openJ s).has=false) (hrec:(Journal.openJ s).recs=[]) :
  Calls Tryz.prog 21 #[.pointer (some ⟨t,0,none⟩),.agg #[.slice A k c,.int .i64 cap],.pointer (some ⟨d,0,none⟩)] w (VOpenPost w H t d n ⟨s,Journal.openJ s,newV (Ledger.newL k X cap) k,false,0⟩):=by
 obtain⟨N,hN⟩:∃ N,w.heap.size=N:=⟨_,rfl⟩
 have b0:Below w.heap.size w (w.alloc (.cells #[.slice A k c,.int .i64 cap] 41)):=(Below.refl _ _).alloc (Nat.le_refl _) _
 have X1:Kept (Blk (w.alloc (.cells #[.slice A k c,.int .i64 cap] 41)) N 41 #[.slice A k c,.int .i64 cap]):=⟨Blk.new_at w _ _ N hN.symm⟩
 have B:=Kept.mk b0
 have HL:=Kept.mk sd.lts
 have SD:=Kept.mk (sd.keep (barOf b0 []) (fun _ _=>by simp))
 have RW:=Kept.mk (hr.below b0)
 have HOK:=Kept.mk hok
 have hk8:k≤8192:=by have:=hok.1;unfold newOk at this;omega
 have TB:Kept (Tab (w.alloc (.cells #[.slice A k c,.int .i64 cap] 41)) t):=⟨by
  obtain⟨F,h1,-⟩:=SD.out
  exact h1⟩
 have KN:=Ledger.lnew_any (c:=c) cap TB.out RW.out
 unfold Ledger.NewLPost at KN
 obtain⟨s0,hs0⟩:∃ s0,Ledger.newL k X cap=s0:=⟨_,rfl⟩
 rw[hs0] at KN ⊢
 clear hs0
 replace KN:=Kept.mk KN
 have HH:=Kept.mk hh;have HREC:=Kept.mk hrec
 unfold VOpenPost
 clear sd hr hok b0 hh hrec
 go_enter Tryz.func21,Tryz.ntmps21
 go_upto_region 1 with(fail)
 generalize w.alloc (.cells #[.slice A k c,.int .i64 cap] 41)=w1 at *
 have x0:=X1.out.cell 0;have x1:=X1.out.cell 1
 go_wp2_with fail
 refine KN.out.mono ?_
 rintro e w2 (⟨hno,-⟩|⟨-,y,FL,rfl,lk,bb,hFL⟩)
 ·exact absurd HOK.out hno
 have hw1:=B.out.size
 have LK:=Kept.mk lk
 have HFL:Kept (∀ z∈FL,w1.heap.size≤z):=⟨hFL⟩
 replace X1:=Kept.mk (X1.out.below bb X1.out.lt)
 replace SD:=Kept.mk (SD.out.keep (barOf bb []) (fun _ _=>by simp))
 replace RW:=Kept.mk (RW.out.below bb)
 replace B:=Kept.mk (B.out.trans (bb.mono hw1))
 clear KN lk hFL bb TB x0 x1
 go_upto_region 4 with(fail)
 refine wp_region_noPanic ?_
 refine wp_region_held_drew (S:=fun u:World=>u.cell? ⟨N,0,none⟩=some (.slice A k c)∧u.cell? ⟨N,1,none⟩=some (.int .i64 cap)) (by kernel_rfl) ⟨X1.out.cell 0,X1.out.cell 1⟩ (fun _=>?_)
 replace X1:=Kept.mk X1.out.drew
 replace SD:=Kept.mk (SD.out.keep (barOf (Below.refl _ w2).drew []) (fun _ _=>by simp))
 replace RW:=Kept.mk (RW.out.below (Below.refl _ w2).drew)
 replace LK:=Kept.mk (LK.out.below (Below.refl _ w2).drew)
 replace B:=Kept.mk (B.out.drew)
 generalize w2.drew=w3 at *
 refine tk 0 (by assumption) ?_
 simp only[Act.put,zA,zB,zC]
 refine tk 2 (by assumption) ?_
 simp only[Act.put,zA,zB,zC]
 refine ld 1 (fun K hK=>?_)
 go_simp
 obtain⟨F,hT,hD,htF,hH⟩:=SD.out
 go_at_call 45
 refine(clen_any hD).mono ?_
 rintro e w4 ⟨rfl,rfl⟩
 refine hK.out _ _ ⟨X1.out.cell 0,X1.out.cell 1⟩ (fun _=>?_)
 clear hK K hT hD htF hH F
 try simp only[Act.put,zA,zB,zC]
 have KN:=Kept.mk (vneed_any (c:=c) (cap:=cap) RW.out)
 refine ld 3 (fun K hK=>?_)
 go_simp
 go_at_call 19
 refine KN.out.mono ?_
 rintro e w4 ⟨rfl,bb⟩
 replace X1:=Kept.mk (X1.out.below bb X1.out.lt)
 replace SD:=Kept.mk (SD.out.keep (barOf bb []) (fun _ _=>by simp))
 replace LK:=Kept.mk (LK.out.below bb)
 replace B:=Kept.mk (B.out.trans (bb.mono B.out.size))
 refine hK.out _ _ ⟨X1.out.cell 0,X1.out.cell 1⟩ (fun _=>?_)
 clear hK K KN RW bb
 try simp only[Act.put,zA,zB,zC]
 refine tk 4 (by assumption) ?_
 simp only[Act.put,zA,zB,zC]
 refine wpAnyH_done (by kernel_rfl) ?_ _
 refine NoPanic.normal ?_
 have hne:((n:Int) < needV k X cap)=False:=eq_false (by omega)
 generalize needV k X cap=nd at *
 go_upto_region 6 with(fail)
 clear hne hneed
 have HFw:Kept (∀ z∈FL,w.heap.size≤z):=⟨fun z hz=>by have:=HFL.out z hz;omega⟩
 go_cut [10] (fun q wx=>∃ x j g HJ,q=.pointer (some ⟨x,0,none⟩)∧Kept (Vp wx x t d j y n HJ FL [] (.slice (some ⟨g,0,none⟩) k k) (List.replicate k (T0,L0)) ⟨s,Journal.openJ s,newV s0 k,false,0⟩)∧Kept (Fp H (vf x HJ FL [] (.slice (some ⟨g,0,none⟩) k k)) w wx))
 case first =>
  refine wp_region_noPanic ?_
  refine wp_region_held_drew (S:=fun u:World=>u.cell? ⟨N,0,none⟩=some (.slice A k c)) (by kernel_rfl) (X1.out.cell 0) (fun _=>?_)
  replace X1:=Kept.mk X1.out.drew
  replace SD:=Kept.mk (SD.out.keep (barOf (Below.refl _ w4).drew []) (fun _ _=>by simp))
  replace LK:=Kept.mk (LK.out.below (Below.refl _ w4).drew)
  replace B:=Kept.mk (B.out.drew)
  generalize w4.drew=w5 at *
  refine tk 0 (by assumption) ?_
  simp only[Act.put,zA,zB,zC]
  refine tk 1 (by assumption) ?_
  simp only[Act.put,zA,zB,zC]
  refine tk 3 (by assumption) ?_
  simp only[Act.put,zA,zB,zC]
  refine tk 4 (by assumption) ?_
  simp only[Act.put,zA,zB,zC]
  refine tk 5 (by assumption) ?_
  simp only[Act.put,zA,zB,zC]
  refine tk 6 (by assumption) ?_
  simp only[Act.put,zA,zB,zC]
  refine ld2 2 7 (fun K hK=>?_) (fun K hK=>?_)
  ·go_simp
   go_at_call 46
   refine(Journal.jopen_any Frame.api SD.out).mono ?_
   rintro e w6 ⟨j,HJ,rfl,sy,fp⟩
   have hlk:=LK.out.lts.1
   have hHL:=SD.out.lts
   have LK6:=Kept.mk (LK.out.keep fp.1 (fun z hz hm=>by have:=HFw.out z hz;have:=HL.out z hm;omega) (tab_sy sy))
   have X6:=Kept.mk (X1.out.bar fp.1 (fun hm=>by have:=HL.out N hm;omega))
   have FP:Kept (Fp H HJ w w6):=⟨(fp_below B.out).trans fp⟩
   have LJ:Kept (Disj FL HJ):=⟨fun z hz hm=>by
    rcases fp.2 z hm with h|h
    ·have:=HFw.out z hz;have:=HL.out z h;omega
    ·have:=hlk z hz;omega⟩
   have SY:=Kept.mk sy
   have hJs:=sy.lts cj_b
   have hsz:w5.heap.size≤w6.heap.size:=fp.1.size
   refine hK.out _ _ (X6.out.cell 0) (fun _=>?_)
   clear hK K sy fp LK X1 SD
   try simp only[Act.put,zA,zB,zC]
   obtain⟨w7,hmk,row,bb⟩:=made_last w6 k hk8
   have ROW:=Kept.mk row
   have hwB:=B.out.size
   refine ld 7 (fun K hK=>?_)
   go_simp
   obtain⟨g,hg⟩:∃ g,w6.heap.size=g:=⟨_,rfl⟩
   rw[hg] at ROW ⊢
   have SY7:=Kept.mk (SY.out.keep cj_b (barOf bb []) (fun _ _=>by simp))
   have LK7:=Kept.mk (LK6.out.below bb)
   have X7:=Kept.mk (X6.out.below bb X6.out.lt)
   have VB:=Kept.mk (vp_box (w:=w) SY7.out LK7.out ROW.out LJ.out (fun hm=>by have:=hJs g hm;omega) (fun hm=>by have:=hlk g hm;omega) HFw.out (by omega) (FP.out.trans (fp_below bb)))
   refine hK.out _ _ (X7.out.cell 0) (fun _=>?_)
   clear hK K hmk row bb ROW SY7 LK7 SY LK6 X6 FP LJ hJs hlk hHL hg
   try simp only[Act.put,zA,zB,zC]
   refine tk 8 (by assumption) ?_
   simp only[Act.put,zA,zB,zC]
   refine ld 9 (fun K hK=>?_)
   go_simp
   obtain⟨x,hx⟩:∃ x,w7.heap.size=x:=⟨_,rfl⟩
   rw[hx] at VB ⊢
   refine hK.out _ _ ((X7.out.alloc _).cell 0) (fun _=>?_)
   clear hK K hx
   try simp only[Act.put,zA,zB,zC]
   refine tk 10 (by assumption) ?_
   simp only[Act.put,zA,zB,zC]
   refine wpAnyH_done (by kernel_rfl) ?_ _
   refine NoPanic.normal ?_
   have V1:=Kept.mk VB.out.1;have V2:=Kept.mk VB.out.2
   clear VB X7
   go_wp2
   go_meet
   case rel=>exact⟨x,j,g,HJ,rfl,V1,V2⟩
  ·obtain⟨w6,hmk,row,bb⟩:=made_last w5 k hk8
   go_simp
   obtain⟨g,hg⟩:∃ g,w5.heap.size=g:=⟨_,rfl⟩
   rw[hg] at row ⊢
   have ROW:=Kept.mk row
   have hlk:=LK.out.lts.1
   have SD6:=Kept.mk (SD.out.keep (barOf bb []) (fun _ _=>by simp))
   have LK6:=Kept.mk (LK.out.below bb)
   have X6:=Kept.mk (X1.out.below bb X1.out.lt)
   have FP6:Kept (Fp H H w w6):=⟨(fp_below B.out).trans (fp_below bb)⟩
   have hwB:=B.out.size
   have hg6:g < w6.heap.size:=row.lt g (Option.mem_toList.2 rfl)
   have hs56:=bb.size
   refine hK.out _ _ (X6.out.cell 0) (fun _=>?_)
   clear hK K hmk row bb SD LK X1 B
   try simp only[Act.put,zA,zB,zC]
   refine ld 2 (fun K hK=>?_)
   go_simp
   go_at_call 46
   refine(Journal.jopen_any Frame.api SD6.out).mono ?_
   rintro e w7 ⟨j,HJ,rfl,sy,fp⟩
   have LK7:=Kept.mk (LK6.out.keep fp.1 (fun z hz hm=>by have:=HFw.out z hz;have:=HL.out z hm;omega) (tab_sy sy))
   have X7:=Kept.mk (X6.out.bar fp.1 (fun hm=>by have:=HL.out N hm;omega))
   have FP:Kept (Fp H HJ w w7):=⟨FP6.out.trans fp⟩
   have LJ:Kept (Disj FL HJ):=⟨fun z hz hm=>by
    rcases fp.2 z hm with h|h
    ·have:=HFw.out z hz;have:=HL.out z h;omega
    ·have:=hlk z hz;omega⟩
   have ROW7:=Kept.mk (ROW.out.keep fp.1 (fun z hz hm=>by
    have h1:g=z:=by
     have h2:=Option.mem_toList.1 hz
     injection h2
    have:=HL.out z hm;omega))
   have hgJ:g∉HJ:=fun hm=>by
    rcases fp.2 g hm with h|h
    ·have:=HL.out g h;omega
    ·omega
   have VB:=Kept.mk (vp_box (w:=w) sy LK7.out ROW7.out LJ.out hgJ (fun hm=>by have:=hlk g hm;omega) HFw.out (by omega) FP.out)
   refine hK.out _ _ (X7.out.cell 0) (fun _=>?_)
   clear hK K sy fp ROW ROW7 SD6 LK6 LK7 X6 FP FP6 LJ hlk hgJ hg6 hg
   try simp only[Act.put,zA,zB,zC]
   refine tk 8 (by assumption) ?_
   simp only[Act.put,zA,zB,zC]
   refine ld 9 (fun K hK=>?_)
   go_simp
   obtain⟨x,hx⟩:∃ x,w7.heap.size=x:=⟨_,rfl⟩
   rw[hx] at VB ⊢
   refine hK.out _ _ ((X7.out.alloc _).cell 0) (fun _=>?_)
   clear hK K hx
   try simp only[Act.put,zA,zB,zC]
   refine tk 10 (by assumption) ?_
   simp only[Act.put,zA,zB,zC]
   refine wpAnyH_done (by kernel_rfl) ?_ _
   refine NoPanic.normal ?_
   have V1:=Kept.mk VB.out.1;have V2:=Kept.mk VB.out.2
   clear VB X7
   go_wp2
   go_meet
   case rel=>exact⟨x,j,g,HJ,rfl,V1,V2⟩
 case rest =>
  obtain⟨x,j,g,HJ,rfl,V,FP⟩:=hcut
  clear X1 SD LK B HFL HOK
  generalize wc=w4 at *
  have v0:=V.out.c0
  obtain⟨hwf,G,hcj⟩:=vsy_cj V.out.sy
  have KP:=Journal.cpict_j hcj
  unfold Journal.PictPost at KP
  dsimp only at KP
  rw[HH.out] at KP
  replace KP:=Kept.mk KP
  go_wp2_with fail
  refine KP.out.mono ?_
  rintro e w5 ⟨A5,n5,c5,rfl,-,-,-,bb⟩
  replace FP:=Kept.mk (FP.out.trans (fp_below bb))
  replace V:=Kept.mk (V.out.below bb)
  clear KP v0 bb hcj hwf G
  have v0:=V.out.c0
  obtain⟨hwf,G,hcj⟩:=vsy_cj V.out.sy
  have KR:=Journal.crecs_j hcj hwf.n2
  unfold Journal.RecsPost at KR
  dsimp only at KR
  rw[HREC.out] at KR
  replace KR:=Kept.mk KR
  go_wp2_with fail
  refine KR.out.mono ?_
  rintro e w6 ⟨A6,c6,rfl,-,-,-,bb,-⟩
  replace FP:=Kept.mk (FP.out.trans (fp_below bb))
  replace V:=Kept.mk (V.out.below bb)
  clear KR v0 bb hcj hwf G
  go_wp2
  refine wp_loop_rounds 1 ?_
  rw[rounds_succ]
  go_wp2
  go_ret2
  exact⟨x,rfl,j,y,HJ,FL,[],_,⟨_,V.out⟩,FP.out⟩
end
end Go.Proofs.YtlkeieoecfkkeaaGreat.Vault
