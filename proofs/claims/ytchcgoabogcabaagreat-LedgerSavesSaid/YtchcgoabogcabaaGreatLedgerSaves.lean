/-
 What is saved, and loaded, goes on: P12.4.
-/
import Derived.Test.YtchcgoabogcabaaGreatPart1
import Derived.Test.YtchcgoabogcabaaGreatPart26
import Derived.Test.YtchcgoabogcabaaGreatPart16
import Derived.Test.YtchcgoabogcabaaGreatPart9
import Derived.Deep.RegionHeld3
import Derived.LoopN
import Derived.Deep.DeepCutAuto
import Derived.Deep.CutBlock
import Derived.Deep.CutRange
import Derived.Test.YtchcgoabogcabaaGreatPart34
namespace Go.Proofs.YtchcgoabogcabaaGreat.Ledger
open Go.RowKit Go.Proofs.YtchcgoabogcabaaGreat.Num Go.Proofs.YtchcgoabogcabaaGreat.Sha Go.Proofs.YtchcgoabogcabaaGreat.Purse Go.Proofs.YtchcgoabogcabaaGreat.Escrow Go.Proofs.YtchcgoabogcabaaGreat.Wire Go.Proofs.YtchcgoabogcabaaGreat.Req
structure Two (Lk:World→Nat→List Nat→Nat→LS→Prop) (w wr:World) (t x y N:Nat) (F G:List Nat) (cf:Array Value) (s r:LS):Prop where
 l:LedK Lk w.heap.size wr t F x s
 d:Dk wr G y r
 dn:∀ k∈G,w.heap.size≤k
 dj:Disj (t :: F) G
 X:Blk wr N 24 cf
 n1:N∉t :: F
 n2:N∉G
 b:Below w.heap.size w wr
section
variable {Lk : World → Nat → List Nat → Nat → LS → Prop} {w wr wr' : World} {t x x' y N : Nat} {F F' G G' : List Nat} {cf : Array Value} {s s' r r' : LS}
theorem Two.below (h:Two Lk w wr t x y N F G cf s r) (api:LedgerApi Lk) (b:Below wr.heap.size wr wr'):Two Lk w wr' t x y N F G cf s r :=
 ⟨api.ledBelow h.l b,h.d.below b,h.dn,h.dj,h.X.below b h.X.lt,h.n1,h.n2,h.b.trans (b.mono h.b.size)⟩
theorem Two.led (h:Two Lk w wr t x y N F G cf s r) (hL:LedK Lk w.heap.size wr' t F' x' s') (hb:Bar (t :: F) wr wr') (hF:∀ k∈t :: F',k∈t :: F∨wr.heap.size≤k) (bb:Below w.heap.size wr wr'):Two Lk w wr' t x' y N F' G cf s' r :=
 ⟨hL,h.d.keep hb (fun k hk hm=>h.dj k hm hk),h.dn,fun k hk hg=>by
  rcases hF k hk with e|e
  ·exact h.dj k e hg
  ·have:=h.d.lts k hg;omega,h.X.bar hb h.n1,fun hm=>by
  rcases hF N hm with e|e
  ·exact h.n1 e
  ·have:=h.X.lt;omega,h.n2,h.b.trans bb⟩
theorem Two.doc (h:Two Lk w wr t x y N F G cf s r) (api:LedgerApi Lk) (hd:Dk wr' G' y r') (fp:Fp G G' wr wr'):Two Lk w wr' t x y N F G' cf s r' :=
 ⟨by
  have hl:=h.l
  have h3:=(api.lts hl.lk).2.2
  have ht:t∉G:=h.dj t (List.mem_cons_self ..)
  have tb:Tab wr' t:=h3.imp (fun k=>k.bar fp.1 ht) (fun k=>k.bar fp.1 ht)
  exact⟨api.keep hl.lk fp.1 (fun k hk hg=>h.dj k (List.mem_cons_of_mem _ hk) hg) tb,hl.wl,hl.wi,hl.new,fun k hk=>Nat.lt_of_lt_of_le (hl.lt k hk) fp.1.size⟩,hd,fun k hk=>by
  rcases fp.2 k hk with e|e
  ·exact h.dn k e
  ·have:=h.b.size;omega,fun k hk hg=>by
  rcases fp.2 k hg with e|e
  ·exact h.dj k hk e
  ·have:=h.l.lt k hk;omega,h.X.bar fp.1 h.n2,h.n1,fun hm=>by
  rcases fp.2 N hm with e|e
  ·exact h.n2 e
  ·have:=h.X.lt;omega,h.b.trans (fp.below h.dn h.b.size)⟩
end
def LoadR (Lk:World→Nat→List Nat→Nat→LS→Prop) (B:Nat) (w:World) (t n:Nat) (X:Nat→List Int) (cap:Int) (b:List Int) (u e:Value):Prop :=
 (¬ confOk n X cap∧u=.pointer none∧e=.int .i64 1)∨(confOk n X cap∧u=.pointer none∧e=.int .i64 2∧∀ s,Reach (newL n X cap) s→saveL s≠b) ∨
 (confOk n X cap∧∃ s x F,u=.pointer (some ⟨x,0,none⟩)∧e=.int .i64 0∧Reach (newL n X cap) s∧saveL s=b∧Lk w t F x s∧∀ k∈F,B≤k)
theorem dk_api (w:World) {t x:Nat}{F:List Nat}{s:LS}(h:Dk w F x s):(fun u (_:Nat) F x s=>Dk u F x s) w t F x s:=h
section
variable {Lk : World → Nat → List Nat → Nat → LS → Prop}
set_option maxRecDepth 100000 in
set_option maxHeartbeats 8000000 in
theorem saves_walk (api:LedgerApi Lk) {w:World}{A D:Option Addr}{n c m d:Nat}{X0:Nat→List Int}(cap:Int) {l:List OV}{E:Option Addr}{q0 q1:Nat}{bb0:List Int}(at_:Int) (hr:Rwi w A n X0) (hn:n≤9223372036854775807) (ho:Ops w D m l) (hm:m≤9223372036854775807) (hbb:Rd w E q0 bb0) (hq1:q0≤q1) (hq2:q1≤9223372036854775807) :
  Calls Tryz.prog 3 #[.agg #[.slice A n c,.int .i64 cap],.slice D m d,.int .i64 at_,.slice E q0 q1] w (Holds w):=by
 obtain⟨N,hN⟩:∃ N,w.heap.size=N:=⟨_,rfl⟩
 have b0:Below w.heap.size w (w.alloc (.cells #[.slice A n c,.int .i64 cap] 24)):=(Below.refl _ _).alloc (Nat.le_refl _) _
 have X:Kept (Blk (w.alloc (.cells #[.slice A n c,.int .i64 cap] 24)) N 24 #[.slice A n c,.int .i64 cap]):=⟨Blk.new_at w _ _ N hN.symm⟩
 have HBB:=Kept.mk hbb
 have HR:=Kept.mk hr;have HO:=Kept.mk ho;have HM:=Kept.mk hm;have HNN:=Kept.mk hn
 have B:=Kept.mk b0
 clear hr ho b0
 go_enter Tryz.func3,Tryz.ntmps3
 go_upto_region 1 with(fail)
 generalize w.alloc (.cells #[.slice A n c,.int .i64 cap] 24)=w1 at *
 have KF:=Kept.mk (first_any api w1)
 unfold Holds at KF
 go_wp2_with fail
 refine KF.out.mono ?_
 rintro e w2 ⟨rfl,b⟩
 replace X:=Kept.mk (X.out.below b X.out.lt);replace B:=Kept.mk (B.out.trans (b.mono B.out.size))
 have KL:=Kept.mk (fewl_any (c:=c) (d:=d) (cap:=cap) (HR.out.below B.out) hn (HO.out.below B.out) hm)
 unfold Req.FewPost at KL
 clear KF b
 have x0:=X.out.cell 0;have x1:=X.out.cell 1
 go_wp2_with fail
 refine KL.out.mono ?_
 rintro e w3 ⟨q,rfl,hq,b⟩
 replace X:=Kept.mk (X.out.below b X.out.lt);replace B:=Kept.mk (B.out.trans (b.mono B.out.size))
 have HQ:=Kept.mk hq
 clear KL b hq x0 x1
 cases q with
 | false =>
  have KF:=Kept.mk (first_any api w3)
  unfold Holds at KF
  go_wp2_with fail
  refine KF.out.mono ?_
  rintro e w4 ⟨rfl,b⟩
  replace B:=Kept.mk (B.out.trans (b.mono B.out.size))
  clear KF b
  go_wp2
  go_ret
  exact⟨rfl,B.out⟩
 | true =>
  have HQ2:=Kept.mk (HQ.out rfl)
  clear HQ
  by_cases hq:40000 < q0
  ·as_aux_lemma =>
   have hq':(40000:Int) < q0:=by omega
   have KF:=Kept.mk (first_any api w3)
   unfold Holds at KF
   go_wp2_with fail
   refine KF.out.mono ?_
   rintro e w4 ⟨rfl,b⟩
   replace B:=Kept.mk (B.out.trans (b.mono B.out.size))
   clear KF b
   go_wp2
   go_ret
   exact⟨rfl,B.out⟩
  have hq':((40000:Int) < (q0:Int))=False:=eq_false (by omega)
  have HQ4:Kept (q0≤40000):=⟨by omega⟩
  clear hq
  go_wp2_with fail
  refine(newtab_any _).mono ?_
  rintro e w4 ⟨t,rfl,hf,b,ht⟩
  have NT:Kept (N≠t):=⟨by have:=X.out.lt;omega⟩
  replace X:=Kept.mk (X.out.below b X.out.lt)
  have HT:Kept (w.heap.size≤t):=⟨Nat.le_trans B.out.size ht⟩
  replace B:=Kept.mk (B.out.trans (b.mono B.out.size))
  have TB:Kept (Tab w4 t):=⟨.inl hf⟩
  have barT:∀ {u v:World},Below w.heap.size w u→Bar [t] u v→Below w.heap.size w v:=fun bu bv=>bu.trans (bv.below bu.size (fun k hk=>by rw[List.mem_singleton] at hk;rw[hk];exact HT.out))
  have KL:=Kept.mk (api.load (c:=c) (d:=q1) cap TB.out (fun u hu=>HR.out.below (barT B.out hu)) (fun u hu=>HBB.out.below (barT B.out hu)) (by have:=HQ4.out;omega) hq1 hq2)
  unfold LoadPost at KL
  clear b ht hf hq'
  go_upto_region 6 with(fail)
  have x0:=X.out.cell 0;have x1:=X.out.cell 1
  go_cut [10,11] from 37 to 43 (fun u e wx=>Kept (LoadR Lk w.heap.size wx t n X0 cap bb0 u e)∧Kept (Tab wx t)∧Kept (Blk wx N 24 #[.slice A n c,.int .i64 cap])∧Kept (Below w.heap.size w wx))
  case first =>
   go_wp2_with fail
   refine KL.out.mono ?_
   rintro e w5 ⟨ht,hb,hcs⟩
   have X5:=Kept.mk (X.out.bar hb (by rw[List.mem_singleton];exact NT.out))
   have TB5:=Kept.mk ht
   have B5:=Kept.mk (barT B.out hb)
   clear x0 x1 KL
   rcases hcs with⟨h1,rfl⟩|⟨h1,rfl,h2⟩|⟨h1,s,x,F,rfl,h2,h3,h4,h5⟩
   ·have E:Kept (LoadR Lk w.heap.size w5 t n X0 cap bb0 (.pointer none) (.int .i64 1)):=⟨.inl ⟨h1,rfl,rfl⟩⟩
    clear h1 ht hb
    go_wp2
    go_meet
    case rel=>exact⟨E,TB5,X5,B5⟩
   ·have E:Kept (LoadR Lk w.heap.size w5 t n X0 cap bb0 (.pointer none) (.int .i64 2)):=⟨.inr (.inl ⟨h1,rfl,rfl,h2⟩)⟩
    clear h1 ht hb h2
    go_wp2
    go_meet
    case rel=>exact⟨E,TB5,X5,B5⟩
   ·have E:Kept (LoadR Lk w.heap.size w5 t n X0 cap bb0 (.pointer (some ⟨x,0,none⟩)) (.int .i64 0)):=⟨.inr (.inr ⟨h1,s,x,F,rfl,rfl,h2,h3,h4,fun k hk=>Nat.le_trans B.out.size (h5 k hk)⟩)⟩
    clear h1 ht hb h2 h3 h4 h5
    go_wp2
    go_meet
    case rel=>exact⟨E,TB5,X5,B5⟩
  case rest =>
  clear X TB B KL x0 x1
  obtain⟨EU,TB,X,B⟩:=hcut
  generalize wc=w5 at *
  have KL:=Kept.mk (rload_any (c:=c) (d:=q1) cap (HR.out.below B.out) (HBB.out.below B.out) (by have:=HQ4.out;omega) hq1 hq2)
  unfold RLoadPost at KL
  have x0:=X.out.cell 0;have x1:=X.out.cell 1
  go_upto_region 7 with(fail)
  go_cut [12,13] from 44 to 49 (fun v e wx=>Kept (LoadR (fun u (_:Nat) F x s=>Dk u F x s) w.heap.size wx t n X0 cap bb0 v e)∧Kept (Blk wx N 24 #[.slice A n c,.int .i64 cap])∧Kept (Below w5.heap.size w5 wx))
  case first =>
   go_wp2_with fail
   refine KL.out.mono ?_
   rintro e w6 ⟨b,hcs⟩
   have X5:=Kept.mk (X.out.below b X.out.lt)
   have B5:=Kept.mk b
   clear x0 x1 KL
   rcases hcs with⟨h1,rfl⟩|⟨h1,rfl,h2⟩|⟨h1,s,x,F,rfl,h2,h3,h4,h5⟩
   ·have E:Kept (LoadR (fun u (_:Nat) F x s=>Dk u F x s) w.heap.size w6 t n X0 cap bb0 (.pointer none) (.int .i64 1)):=⟨.inl ⟨h1,rfl,rfl⟩⟩
    clear h1 b
    go_wp2
    go_meet
    case rel=>exact⟨E,X5,B5⟩
   ·have E:Kept (LoadR (fun u (_:Nat) F x s=>Dk u F x s) w.heap.size w6 t n X0 cap bb0 (.pointer none) (.int .i64 2)):=⟨.inr (.inl ⟨h1,rfl,rfl,h2⟩)⟩
    clear h1 b h2
    go_wp2
    go_meet
    case rel=>exact⟨E,X5,B5⟩
   ·have E:Kept (LoadR (fun u (_:Nat) F x s=>Dk u F x s) w.heap.size w6 t n X0 cap bb0 (.pointer (some ⟨x,0,none⟩)) (.int .i64 0)):=⟨.inr (.inr ⟨h1,s,x,F,rfl,rfl,h2,h3,h4,fun k hk=>Nat.le_trans B.out.size (h5 k hk)⟩)⟩
    clear h1 b h2 h3 h4 h5
    go_wp2
    go_meet
    case rel=>exact⟨E,X5,B5⟩
  case rest =>
  clear X KL x0 x1
  obtain⟨EV,X,BB⟩:=hcut
  have B2:=Kept.mk (B.out.trans (BB.out.mono B.out.size))
  have TB2:Kept (Tab wc t):=⟨TB.out.imp (fun h=>h.below BB.out h.lt) (fun h=>h.below BB.out h.lt)⟩
  generalize wc=w6 at *
  go_upto_region 8 with(fail)
  go_cut [82] (fun z wx=>z=.bool false∧Kept (Below w6.heap.size w6 wx))
  case first =>
   rcases EU.out with⟨h1,rfl,rfl⟩|⟨h1,rfl,rfl,h2⟩|⟨h1,s,x,F,rfl,rfl,h2,h3,h4,h5⟩
   ·rcases EV.out with⟨g1,rfl,rfl⟩|⟨g1,-⟩|⟨g1,-⟩
    ·as_aux_lemma =>
     clear h1 g1 EU EV
     go_quiet (fail)
     have B5:=Kept.mk (below_drewN (Below.refl w6.heap.size w6) nq)
     go_wp2
     go_meet
     case rel=>exact⟨rfl,B5⟩
    ·exact absurd g1 h1
    ·exact absurd g1 h1
   ·rcases EV.out with⟨g1,-⟩|⟨g1,rfl,rfl,g2⟩|⟨g1,s',x',F',rfl,rfl,g2,g3,-⟩
    ·exact absurd h1 g1
    ·as_aux_lemma =>
     clear h1 g1 h2 g2 EU EV
     go_quiet (fail)
     have B5:=Kept.mk (below_drewN (Below.refl w6.heap.size w6) nq)
     go_wp2
     go_meet
     case rel=>exact⟨rfl,B5⟩
    ·exact absurd g3 (h2 s' g2)
   ·rcases EV.out with⟨g1,-⟩|⟨g1,rfl,rfl,g2⟩|⟨g1,s',y,G,rfl,rfl,g2,g3,g4,g5⟩
    ·exact absurd h1 g1
    ·exact absurd h3 (g2 s h2)
    ·as_aux_lemma =>
     have W0:=newL_wl h1
     have hss:s'=s:=reach_one W0 (newL_wi n X0 cap) (newL_e n X0 cap) g2 h2 (by rw[g3,h3])
     subst hss
     have K0:=h2.keeps W0 (newL_wi n X0 cap)
     have U:=Kept.mk (api.below ⟨h4⟩ BB.out).out
     have V:=Kept.mk g4
     have WS:=Kept.mk K0.wl
     clear h1 h2 h3 h4 h5 g1 g2 g3 g4 g5 W0 K0 EU EV
     have hln:=WS.out.len
     obtain⟨Ad,cd,y4,y3⟩:=V.out.len
     refine wp_region_noPanic ?_
     have bb:Below w6.heap.size w6 w6.drew:=(Below.refl _ _).drew
     have CS:Kept (∀ u,Below w6.heap.size w6 u→u.cell? ⟨y,4,none⟩=some (.slice Ad s'.e.length cd)∧u.cell? ⟨y,3,none⟩=some (.int .i64 s'.clock)):=⟨fun u hu=>⟨by rw[hu.cell (World.block_lt_of_cell? _ _ y4)];exact y4,by rw[hu.cell (World.block_lt_of_cell? _ _ y3)];exact y3⟩⟩
     refine wp_region_held_drew (S:=fun u:World=>u.cell? ⟨y,4,none⟩=some (.slice Ad s'.e.length cd)∧u.cell? ⟨y,3,none⟩=some (.int .i64 s'.clock)) (by kernel_rfl) (CS.out _ bb) (fun _=>?_)
     have B5:=Kept.mk bb
     clear bb y4 y3
     generalize w6.drew=w7 at *
     have UL:=Kept.mk (api.below ⟨U.out⟩ B5.out).out
     have KC:=api.clock UL.out
     unfold TellB at KC
     refine tk 0 (by assumption) ?_
     simp only[Act.put,zA,zB,zC]
     refine tk 1 (by assumption) ?_
     simp only[Act.put,zA,zB,zC]
     refine tk 2 (by assumption) ?_
     simp only[Act.put,zA,zB,zC]
     refine tk 3 (by assumption) ?_
     simp only[Act.put,zA,zB,zC]
     refine tk 4 (by assumption) ?_
     simp only[Act.put,zA,zB,zC]
     refine tk 5 (by assumption) ?_
     simp only[Act.put,zA,zB,zC]
     refine tk 6 (by assumption) ?_
     simp only[Act.put,zA,zB,zC]
     refine tk 7 (by assumption) ?_
     simp only[Act.put,zA,zB,zC]
     refine tk 8 (by assumption) ?_
     simp only[Act.put,zA,zB,zC]
     refine tk 9 (by assumption) ?_
     simp only[Act.put,zA,zB,zC]
     refine tk 10 (by assumption) ?_
     simp only[Act.put,zA,zB,zC]
     refine tk 11 (by assumption) ?_
     simp only[Act.put,zA,zB,zC]
     refine tk 12 (by assumption) ?_
     simp only[Act.put,zA,zB,zC]
     refine tk 13 (by assumption) ?_
     simp only[Act.put,zA,zB,zC]
     refine tk 14 (by assumption) ?_
     simp only[Act.put,zA,zB,zC]
     refine tk 16 (by assumption) ?_
     simp only[Act.put,zA,zB,zC]
     refine tk 17 (by assumption) ?_
     simp only[Act.put,zA,zB,zC]
     refine tk 18 (by assumption) ?_
     simp only[Act.put,zA,zB,zC]
     refine tk 19 (by assumption) ?_
     simp only[Act.put,zA,zB,zC]
     refine ld 15 (fun K hK=>?_)
     go_simp
     go_at_call 10
     refine KC.mono ?_
     rintro e w8 ⟨rfl,b⟩
     replace UL:=Kept.mk (api.below ⟨UL.out⟩ b).out
     replace B5:=Kept.mk (B5.out.trans (b.mono B5.out.size))
     refine hK.out _ _ (CS.out _ B5.out) (fun _=>?_)
     have KE:=api.events UL.out WS.out
     unfold EventsPost at KE
     clear hK K KC b
     refine tk 20 (by assumption) ?_
     simp only[Act.put,zA,zB,zC]
     refine tk 21 (by assumption) ?_
     simp only[Act.put,zA,zB,zC]
     refine tk 22 (by assumption) ?_
     simp only[Act.put,zA,zB,zC]
     refine tk 24 (by assumption) ?_
     simp only[Act.put,zA,zB,zC]
     refine tk 25 (by assumption) ?_
     simp only[Act.put,zA,zB,zC]
     refine tk 26 (by assumption) ?_
     simp only[Act.put,zA,zB,zC]
     refine tk 27 (by assumption) ?_
     simp only[Act.put,zA,zB,zC]
     refine ld 23 (fun K hK=>?_)
     go_simp
     go_at_call 12
     refine KE.mono ?_
     rintro e w9 ⟨A3,n3,c3,rfl,e1,e2,hv,-,b⟩
     replace B5:=Kept.mk (B5.out.trans (b.mono B5.out.size))
     have V9:=Kept.mk (V.out.below B5.out)
     have KQ:Calls Tryz.prog 11 #[.slice A3 n3 c3,.slice Ad s'.e.length cd] w9 (SamePost (evs s'=evs s') w9):=by
      obtain⟨-,-,-,Ad2,cd2,z4,-,-,hv2,-⟩:=V9.out.cells
      have z5:=(CS.out _ B5.out).1
      rw[z5] at z4
      injection z4 with z4
      injection z4 with z4 _ z5
      subst z4 z5
      exact rsameev_any A3 n3 c3 (evs s') Ad s'.e.length cd (evs s') w9 hv hv2 (by omega) (fun v hv=>evs_ok WS.out v hv) (fun v hv=>evs_ok WS.out v hv)
     unfold SamePost at KQ
     refine hK.out _ _ (CS.out _ B5.out) (fun _=>?_)
     clear hK K KE b hv
     refine ld 28 (fun K hK=>?_)
     go_simp
     go_at_call 11
     refine KQ.mono ?_
     rintro e w10 ⟨q,rfl,hq,b⟩
     obtain rfl:q=true:=hq.2 rfl
     replace B5:=Kept.mk (B5.out.trans (b.mono B5.out.size))
     refine hK.out _ _ (CS.out _ B5.out) (fun _=>?_)
     clear hK K KQ b hq
     refine tk 29 (by assumption) ?_
     simp only[Act.put,zA,zB,zC]
     refine tk 30 (by assumption) ?_
     simp only[Act.put,zA,zB,zC]
     refine tk 31 (by assumption) ?_
     simp only[Act.put,zA,zB,zC]
     refine tk 32 (by assumption) ?_
     simp only[Act.put,zA,zB,zC]
     refine wpAnyH_done (by kernel_rfl) ?_ _
     refine NoPanic.normal ?_
     clear CS UL V9 V U WS
     go_wp2
     go_meet
     case rel=>exact⟨rfl,B5⟩
  case rest =>
  clear EU EV BB TB B
  obtain⟨rfl,BB⟩:=hcut
  have X7:=Kept.mk (X.out.below BB.out X.out.lt)
  have B:=Kept.mk (B2.out.trans (BB.out.mono B2.out.size))
  have TB:Kept (Tab wc t):=⟨TB2.out.imp (fun h=>h.below BB.out h.lt) (fun h=>h.below BB.out h.lt)⟩
  generalize wc=w7 at *
  clear X BB B2 TB2
  have x0:=X7.out.cell 0;have x1:=X7.out.cell 1
  have KN:=Kept.mk (api.new (c:=c) cap TB.out (HR.out.below B.out))
  unfold NewLPost at KN
  go_wp2_with fail
  refine KN.out.mono ?_
  rintro e w8 (⟨hno,rfl,b⟩|⟨hc,x,F,rfl,hk,b,hF⟩)
  ·as_aux_lemma =>
   have HNO:=Kept.mk hno
   replace X7:=Kept.mk (X7.out.below b X7.out.lt)
   replace B:=Kept.mk (B.out.trans (b.mono B.out.size))
   have KM:=Kept.mk (rnewl_any (c:=c) cap (HR.out.below B.out))
   unfold NewDPost at KM
   clear b x0 x1 KN hno
   have x0:=X7.out.cell 0;have x1:=X7.out.cell 1
   go_wp2_with fail
   refine KM.out.mono ?_
   rintro e w9 hh
   obtain⟨-,rfl,b⟩:=hh.resolve_right (fun q=>HNO.out q.1)
   replace B:=Kept.mk (B.out.trans (b.mono B.out.size))
   have KF:=Kept.mk (first_any api w9)
   unfold Holds at KF
   clear b x0 x1 KM
   go_wp2_with fail
   refine KF.out.mono ?_
   rintro e w10 ⟨rfl,b⟩
   replace B:=Kept.mk (B.out.trans (b.mono B.out.size))
   clear KF b
   go_wp2
   go_ret
   exact⟨rfl,B.out⟩
  have HC:=Kept.mk hc
  have L1:=Kept.mk (api.led hk (newL_wl hc) (newL_wi n X0 cap) HT.out (fun k hm=>Nat.le_trans B.out.size (hF k hm)))
  have N1:Kept (N∉t :: F):=⟨fun hm=>by
   rcases List.mem_cons.1 hm with h|h
   ·exact NT.out h
   ·have:=hF N h;have:=X7.out.lt;omega⟩
  replace X7:=Kept.mk (X7.out.below b X7.out.lt)
  replace B:=Kept.mk (B.out.trans (b.mono B.out.size))
  have KM:=Kept.mk (rnewl_any (c:=c) cap (HR.out.below B.out))
  unfold NewDPost at KM
  clear b x0 x1 KN hc hk hF
  have x0:=X7.out.cell 0;have x1:=X7.out.cell 1
  go_wp2_with fail
  refine KM.out.mono ?_
  rintro e w9 hh
  obtain⟨-,y,G,rfl,hk,b,hG⟩:=hh.resolve_left (fun q=>q.1 HC.out)
  have P:Kept (Two Lk w w9 t x y N F G #[.slice A n c,.int .i64 cap] (newL n X0 cap) (newL n X0 cap)):=⟨⟨api.ledBelow L1.out b,hk,fun k hm=>Nat.le_trans B.out.size (hG k hm),fun k h1 h2=>by have:=L1.out.lt k h1;have:=hG k h2;omega,X7.out.below b X7.out.lt,N1.out,fun hm=>by have:=hG N hm;have:=X7.out.lt;omega,B.out.trans (b.mono B.out.size)⟩⟩
  clear b x0 x1 KM hk hG L1 N1 X7 B TB barT
  have RS:Kept (Reach (newL n X0 cap) (newL n X0 cap)):=⟨Reach.start⟩
  go_wp2
  go_loopw [14,18] (fun mm i wr=>∃ (k:Nat) (F G:List Nat) (x:Nat) (s:LS),k≤m∧mm=.pointer (some ⟨x,0,none⟩)∧i=.int .i64 k∧Kept (Two Lk w wr t x y N F G #[.slice A n c,.int .i64 cap] s s)∧Kept (Reach (newL n X0 cap) s)) (fun _ i _=>m - (Go.RowKit.intOf i).toNat)
  case atStart=>exact⟨0,F,G,x,_,by omega,rfl,rfl,P,RS⟩
  case round =>
   clear P RS
   obtain⟨k,F,G,x,s,hk,rfl,rfl,P,RS⟩:=hrel
   by_cases hkn:k < m
   ·have hkn':(k:Int) < m:=by omega
    go_upto_if 122 with(fail)
    go_cut [14,19,20,21,22,120,121,122] from 123 to 154 (fun mm _ _ _ _ _ _ _ wx=>∃ (F:List Nat) (x:Nat),mm=.pointer (some ⟨x,0,none⟩)∧Kept (Two Lk w wx t x y N F G #[.slice A n c,.int .i64 cap] s s))
    case first =>
     by_cases hat:(k:Int)=at_
     ·as_aux_lemma =>
      have hat':((k:Int) == at_)=true:=by rw[hat];simp
      clear hat
      have KS:=Kept.mk (api.save P.out.l.lk P.out.l.wl)
      unfold SavePost at KS
      go_wp2_with fail
      refine KS.out.mono ?_
      rintro e w11 ⟨A1,n1,c1,rfl,e1,e2,r1,new1,b⟩
      have NA:Kept (∀ b o,A1=some ⟨b,o,none⟩→b≠t):=⟨fun b' o hA hb=>by have:=(new1 b' o hA).1;have:=P.out.l.lt t (List.mem_cons_self ..);omega⟩
      replace P:=Kept.mk (P.out.below api b)
      have R1:=Kept.mk r1
      have KT:=Kept.mk (rsave_any P.out.l.wl P.out.d)
      unfold RSavePost at KT
      clear KS b r1 new1
      go_wp2_with fail
      refine KT.out.mono ?_
      rintro e w12 ⟨A2,n2,c2,rfl,g1,g2,r2,b⟩
      replace P:=Kept.mk (P.out.below api b);replace R1:=Kept.mk (R1.out.below b)
      have KB:=Kept.mk (bytes_same A1 A2 n1 n2 c1 c2 (saveL s) w12 R1.out r2)
      clear KT b r2
      go_wp2_with fail
      refine KB.out.mono ?_
      rintro e w13 ⟨rfl,rfl⟩
      have hsl:=saveL_len P.out.l.wl
      have hn1:n1≤100000:=by have:=R1.out.1;omega
      have x0:=P.out.X.cell 0;have x1:=P.out.X.cell 1
      have KL:=Kept.mk (api.load (c:=c) (d:=c1) (D:=A1) (m:=n1) (b:=saveL s) cap (api.lts P.out.l.lk).2.2 (fun u hu=>HR.out.below (P.out.b.trans (hu.below P.out.b.size (fun k hk=>by rw[List.mem_singleton] at hk;rw[hk];exact HT.out)))) (fun u hu=>R1.out.far hu (by
       rcases R1.out.2.2 with h0|⟨g,o,hA,-⟩
       ·exact .inl h0
       ·exact .inr ⟨g,o,hA,fun hm=>NA.out g o hA (by rw[List.mem_singleton] at hm;exact hm)⟩)) hn1 e1 e2)
      unfold LoadPost at KL
      clear KB hsl
      go_wp2_with fail
      refine KL.out.mono ?_
      rintro e w14 ⟨ht,hb,hcs⟩
      have hcs3:=(hcs.resolve_left (fun q=>q.1 HC.out)).resolve_left (fun q=>q.2.2 s RS.out rfl)
      obtain⟨-,s2,x2,F2,rfl,h2,h3,h4,h5⟩:=hcs3
      obtain rfl:s2=s:=reach_one (newL_wl HC.out) (newL_wi n X0 cap) (newL_e n X0 cap) h2 RS.out h3
      have hT:Below w.heap.size w12 w14:=hb.below P.out.b.size (fun k hk=>by rw[List.mem_singleton] at hk;rw[hk];exact HT.out)
      have L2:=api.led h4 P.out.l.wl P.out.l.wi HT.out (fun k hm=>Nat.le_trans P.out.b.size (h5 k hm))
      have P2:=Kept.mk (P.out.led L2 (hb.mono (fun z hz=>.inl (by rw[List.mem_singleton] at hz;rw[hz];exact List.mem_cons_self ..))) (fun k hm=>by
       rcases List.mem_cons.1 hm with e|e
       ·exact .inl (by rw[e];exact List.mem_cons_self ..)
       ·exact .inr (h5 k e)) hT)
      clear KL ht hb hcs h2 h3 h4 h5 hT L2 P R1 x0 x1 NA
      go_wp2
      go_meet
      case rel=>exact⟨F2,x2,rfl,P2⟩
     ·as_aux_lemma =>
      have hat':((k:Int) == at_)=false:=beq_eq_false_iff_ne.2 hat
      clear hat
      go_wp2
      go_meet
      case rel=>exact⟨F,x,rfl,P⟩
    case rest =>
    clear P
    obtain⟨F,x,rfl,P⟩:=hcut
    generalize wc=w20 at *
    obtain⟨g,o,party,clock,seen,ll,A',n',c',hA,hx,hop,co⟩:=op_at HO.out HQ2.out hkn
    subst hA
    have OKV:=fromL_may (applyL_keeps P.out.l.wl P.out.l.wi party clock ⟨seen,ll⟩ hop.ok).1.wl seen
    have hRV:(applyL s party clock ⟨seen,ll⟩).1.v=fromL (applyL s party clock ⟨seen,ll⟩).2 seen:=rfl
    rw[← hRV] at OKV
    have hreach:=RS.out.apply party clock ⟨seen,ll⟩ hop.ok
    obtain⟨V,hV⟩:∃ V,w20.heap.size=V:=⟨_,rfl⟩
    obtain⟨q0_,q1_,q2_,q3_⟩:=co w20 P.out.b
    have b:Below w20.heap.size w20 (w20.alloc (.cells #[.int .i64 party,.int .i64 clock,.int .i64 seen,.slice A' n' c'] 55)):=(Below.refl _ _).alloc (Nat.le_refl _) _
    have XV:Kept (Blk (w20.alloc (.cells #[.int .i64 party,.int .i64 clock,.int .i64 seen,.slice A' n' c'] 55)) V 55 #[.int .i64 party,.int .i64 clock,.int .i64 seen,.slice A' n' c']):=⟨Blk.new_at w20 _ _ V hV.symm⟩
    have VF:Kept (V∉t :: F∧V∉G):=⟨fun hm=>by have:=P.out.l.lt V hm;omega,fun hm=>by have:=P.out.d.lts V hm;omega⟩
    replace P:=Kept.mk (P.out.below api b)
    clear b
    go_upto_region 26 with(fail)
    generalize (w20.alloc (.cells #[.int .i64 party,.int .i64 clock,.int .i64 seen,.slice A' n' c'] 55))=w21 at *
    clear hV q0_ q1_ q2_ q3_ hx
    refine wp_region_noPanic ?_
    have bb:Below w21.heap.size w21 w21.drew:=(Below.refl _ _).drew
    replace P:=Kept.mk (P.out.below api bb);replace XV:=Kept.mk XV.out.drew
    clear bb
    refine wp_region_held_drew (S:=fun u:World=>u.cell? ⟨V,0,none⟩=some (.int .i64 party)∧u.cell? ⟨V,1,none⟩=some (.int .i64 clock)∧u.cell? ⟨V,2,none⟩=some (.int .i64 seen)∧u.cell? ⟨V,3,none⟩=some (.slice A' n' c')) (by kernel_rfl) ⟨XV.out.cell 0,XV.out.cell 1,XV.out.cell 2,XV.out.cell 3⟩ (fun _=>?_)
    generalize w21.drew=w22 at *
    have KA:=api.applyOp hop P.out.l P.out.b party clock seen
    have KD:=fun u G2 (d:Dk u G2 y s) (hd:∀ k∈G2,w.heap.size≤k) (hb:Below w.heap.size w u)=>rapply_any (c:=c') party clock seen d P.out.l.wl P.out.l.wi (hop.rr.below hb) (rc_off hop.rr rvC_ne hd) hop.ok (by have:=hop.n100;omega)
    obtain⟨R,hRR⟩:∃ R,applyL s party clock ⟨seen,ll⟩=R:=⟨_,rfl⟩
    rw[hRR] at KA KD OKV hreach
    have OV':=Kept.mk OKV;have KD2:=Kept.mk KD;have HRE:=Kept.mk hreach
    have KA2:=Kept.mk KA
    unfold AfterPost at KA2
    clear KA KD OKV hRV hRR hreach hop co
    refine tk 0 (by assumption) ?_
    simp only[Act.put,zA,zB,zC]
    refine tk 1 (by assumption) ?_
    simp only[Act.put,zA,zB,zC]
    refine tk 2 (by assumption) ?_
    simp only[Act.put,zA,zB,zC]
    refine tk 3 (by assumption) ?_
    simp only[Act.put,zA,zB,zC]
    refine tk 4 (by assumption) ?_
    simp only[Act.put,zA,zB,zC]
    refine tk 5 (by assumption) ?_
    simp only[Act.put,zA,zB,zC]
    refine tk 6 (by assumption) ?_
    simp only[Act.put,zA,zB,zC]
    refine tk 8 (by assumption) ?_
    simp only[Act.put,zA,zB,zC]
    refine tk 9 (by assumption) ?_
    simp only[Act.put,zA,zB,zC]
    refine tk 10 (by assumption) ?_
    simp only[Act.put,zA,zB,zC]
    refine tk 11 (by assumption) ?_
    simp only[Act.put,zA,zB,zC]
    refine tk 12 (by assumption) ?_
    simp only[Act.put,zA,zB,zC]
    refine tk 13 (by assumption) ?_
    simp only[Act.put,zA,zB,zC]
    refine tk 14 (by assumption) ?_
    simp only[Act.put,zA,zB,zC]
    refine ld 7 (fun K hK=>?_)
    go_simp
    go_at_call 19
    refine KA2.out.mono ?_
    rintro e w23 ⟨F2,A1,n1,c1,D1,m1,d1,rfl,e1,e2,e3,e4,hp,hv,hL,hb,hF,bb,nA,nD⟩
    have P1:=Kept.mk (RowK.made hp.rc pvC_ne nA P.out.d.lts);have V1:=Kept.mk (RowK.made hv.rc vvC_ne nD P.out.d.lts)
    have hXV:=BlkK.step ⟨XV.out,VF.out.1⟩ hb hF
    replace XV:=Kept.mk hXV.blk
    replace P:=Kept.mk (P.out.led hL hb hF bb)
    refine hK.out _ _ ⟨XV.out.cell 0,XV.out.cell 1,XV.out.cell 2,XV.out.cell 3⟩ (fun _=>?_)
    have KY:=KD2.out w23 G P.out.d P.out.dn P.out.b
    unfold RApplyPost at KY
    have KY2:=Kept.mk KY
    clear hK K KA2 KD2 KY hp hv hL hb hF bb nA nD hXV
    refine ld 15 (fun K hK=>?_)
    go_simp
    go_at_call 20
    refine KY2.out.mono ?_
    rintro e w24 ⟨G2,A2,n2,c2,D2,m2,d2,rfl,g1,g2,g3,g4,hp,hv,-,-,hd,fp⟩
    have P2:=Kept.mk hp;have V2:=Kept.mk hv
    replace P1:=Kept.mk (P1.out.step fp.1 fp.2);replace V1:=Kept.mk (V1.out.step fp.1 fp.2)
    replace XV:=Kept.mk (XV.out.bar fp.1 VF.out.2)
    replace P:=Kept.mk (P.out.doc api hd fp)
    refine hK.out _ _ ⟨XV.out.cell 0,XV.out.cell 1,XV.out.cell 2,XV.out.cell 3⟩ (fun _=>?_)
    obtain⟨RA,s2⟩:=R
    obtain⟨rc,rs,rp,rv⟩:=RA
    dsimp only at P1 P2 V1 V2 P OV' HRE
    have KQ:=rsamea_any rc rs A1 n1 c1 rp D1 m1 d1 rv rc rs A2 n2 c2 rp D2 m2 d2 rv w24 P1.out.rc P2.out V1.out.rc V2.out (by omega) (by omega) (fun v hv=>(OV'.out v hv).2) (fun v hv=>(OV'.out v hv).2)
    unfold SamePost at KQ
    have KQ2:=Kept.mk KQ
    clear hK K KY2 hp hv hd fp KQ
    refine ld 16 (fun K hK=>?_)
    go_simp
    go_at_call 18
    refine KQ2.out.mono ?_
    rintro e w25 ⟨q,rfl,hq,b⟩
    obtain rfl:q=true:=hq.2 rfl
    replace P:=Kept.mk (P.out.below api b);replace XV:=Kept.mk (XV.out.below b XV.out.lt)
    refine hK.out _ _ ⟨XV.out.cell 0,XV.out.cell 1,XV.out.cell 2,XV.out.cell 3⟩ (fun _=>?_)
    clear hK K KQ2 b hq P1 P2 V1 V2 e1 e2 e3 e4 g1 g2 g3 g4
    refine tk 17 (by assumption) ?_
    simp only[Act.put,zA,zB,zC]
    refine wpAnyH_done (by kernel_rfl) ?_ _
    refine NoPanic.normal ?_
    go_wp2
    go_roundw
    case rel=>exact⟨k+1,F2,G2,x,s2,by omega,rfl,by go_num,P,HRE⟩
    case measure=>simp[Go.RowKit.intOf];omega
   ·have hkn':¬ (k:Int) < m:=by omega
    have KF:=Kept.mk (first_any api wr)
    unfold Holds at KF
    have B:=Kept.mk P.out.b
    go_wp2_with fail
    refine KF.out.mono ?_
    rintro e w7 ⟨rfl,b⟩
    replace B:=Kept.mk (B.out.trans (b.mono B.out.size))
    clear KF b P
    go_wp2
    go_ret
    exact⟨rfl,B.out⟩
end
end Go.Proofs.YtchcgoabogcabaaGreat.Ledger
