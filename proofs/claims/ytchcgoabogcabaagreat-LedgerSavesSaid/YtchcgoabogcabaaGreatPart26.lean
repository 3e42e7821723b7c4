/-
  Parts laid together: LedgerFirst LedgerRow.
-/
import Derived.Test.YtchcgoabogcabaaGreatPart22
import Derived.Test.YtchcgoabogcabaaGreatPart25
import Derived.Test.YtchcgoabogcabaaGreatPart5
import Derived.Test.YtchcgoabogcabaaGreatPart7
import Derived.Test.YtchcgoabogcabaaGreatPart16
import Derived.Test.YtchcgoabogcabaaGreatPart10
namespace Go.Proofs.YtchcgoabogcabaaGreat.Ledger
open Go.RowKit Go.Proofs.YtchcgoabogcabaaGreat.Num Go.Proofs.YtchcgoabogcabaaGreat.Sha Go.Proofs.YtchcgoabogcabaaGreat.Purse Go.Proofs.YtchcgoabogcabaaGreat.Escrow Go.Proofs.YtchcgoabogcabaaGreat.Wire Go.Proofs.YtchcgoabogcabaaGreat.Req
theorem newtab_any (w:World):Calls Tryz.prog 7 #[] w fun e w'=>∃ t,e=.returned (.pointer (some ⟨t,0,none⟩))∧Fresh w' t∧Below w.heap.size w w'∧w.heap.size≤t:=by
 refine(newtable_any w).mono ?_
 rintro e w' ⟨rfl,rfl⟩
 exact⟨_,rfl,Blk.new _ _ _,(Below.refl _ _).alloc (Nat.le_refl _) _,Nat.le_refl _⟩
theorem rc_len {α:Type}{C:α→List Value}{z:Nat}{w:World}{A:Option Addr}{n:Nat}{l:List α}(h:Rc C z w A n l):n=l.length:=h.1.symm
theorem first_conf:confOk 2 (twoX 5 0) 4:=⟨two_ok (by decide),by omega,by omega⟩
theorem first_apply:applyL (newL 2 (twoX 5 0) 4) 0 7 ⟨0,[]⟩=(⟨7,0,[],[]⟩,⟨4,⟨newP 2 (twoX 5 0),[]⟩,7,[]⟩):=by
 have hc:clockL (newL 2 (twoX 5 0) 4) 7=⟨4,⟨newP 2 (twoX 5 0),[]⟩,7,[]⟩:=by
  unfold clockL
  rw[if_pos ⟨(by decide:Tck 7),(by show (0:Int) < 7;omega)⟩]
  rfl
 unfold applyL
 simp only[List.take_nil,manyL,hc]
 rfl
section
variable {Lk : World → Nat → List Nat → Nat → LS → Prop}
set_option maxRecDepth 100000 in
set_option maxHeartbeats 1000000 in
theorem first_any (api:LedgerApi Lk) (w:World):Calls Tryz.prog 5 #[] w (Holds w):=by
 go_enter Tryz.func5,Tryz.ntmps5
 go_wp2_with fail
 refine(newtab_any w).mono ?_
 rintro e w1 ⟨t,rfl,hf,b1,ht⟩
 have hr:=two_rows w1 5 0
 have b2:=twoW_below w1 5 0
 obtain⟨M,hM⟩:∃ M,w1.heap.size+2=M:=⟨_,rfl⟩
 rw[hM] at hr
 have KN:=Kept.mk (api.new (c:=2) 4 (.inl (hf.below b2 hf.lt)) hr)
 have BW:=Kept.mk (b1.trans (b2.mono b1.size))
 have HT:=Kept.mk ht
 clear hf b1 hr b2 ht
 have HS:=Kept.mk BW.out.size
 unfold twoW at KN BW HS
 unfold NewLPost at KN
 go_wp2_with fail
 refine KN.out.mono ?_
 rintro e w2 (⟨hn,-⟩|⟨-,x,F,rfl,hk,b3,hF⟩)
 ·exact absurd first_conf hn
 have HF:Kept (∀ k∈F,w.heap.size≤k):=⟨fun k hk=>Nat.le_trans HS.out (hF k hk)⟩
 replace BW:=Kept.mk (BW.out.trans (b3.mono BW.out.size))
 have KA:=Kept.mk (api.apply (A:=none) (n:=0) (c:=0) (l:=[]) 0 7 0 hk (newL_wl first_conf) (newL_wi _ _ _) Rc.nil (.inl rfl) (by simp) (by simp) (by omega) (Nat.le_refl _) (by omega))
 rw[first_apply] at KA
 unfold ApplyPost at KA
 clear hk b3 hF KN HS
 go_wp2_with fail
 refine KA.out.mono ?_
 rintro e w3 ⟨F',A,n,c,D,m,d,rfl,-,-,-,-,hp,hv,-,-,hk,hb,-⟩
 have hn:=rc_len hp
 have hm:=rc_len hv
 simp only[List.length_nil] at hn hm
 subst hn hm
 have B3:Kept (Below w.heap.size w w3):=⟨BW.out.trans (hb.below BW.out.size (fun k hk=>by
  rcases List.mem_cons.1 hk with rfl|hk
  ·exact HT.out
  ·exact HF.out k hk))⟩
 have b4:Below w3.heap.size w3 (w3.alloc (.cells #[.int .i64 7,.int .i64 0,.slice A 0 c,.slice D 0 d] 59)):=(Below.refl _ _).alloc (Nat.le_refl _) _
 have KC:=api.clock (api.below ⟨hk⟩ b4).out
 have X:=Kept.mk (Blk.new w3 59 #[.int .i64 7,.int .i64 0,.slice A 0 c,.slice D 0 d])
 have B4:=Kept.mk (B3.out.trans (b4.mono B3.out.size))
 unfold TellB at KC
 have KK:=Kept.mk KC
 clear hp hv hk hb KA b4 KC BW B3 HF
 go_upto_region 5 with(fail)
 generalize w3.alloc (.cells #[.int .i64 7,.int .i64 0,.slice A 0 c,.slice D 0 d] 59)=w4 at *
 have x0:=X.out.cell 0;have x1:=X.out.cell 1;have x2:=X.out.cell 2;have x3:=X.out.cell 3
 go_wp2_with fail
 refine KK.out.mono ?_
 rintro e w5 ⟨rfl,b5⟩
 have B5:=Kept.mk (B4.out.trans (b5.mono B4.out.size))
 clear b5 KK
 go_wp2
 go_ret
 exact⟨rfl,B5.out⟩
def FewL (n:Nat) (l:List OV):Prop:=n≤100∧∀ x∈l,x.b.l.length≤100∧∀ r∈x.b.l,r.small
set_option maxRecDepth 100000 in
set_option maxHeartbeats 2000000 in
theorem fewl_any {w:World}{A D:Option Addr}{n c m d:Nat}{X:Nat→List Int}{cap:Int}{l:List OV}(hr:Rwi w A n X) (hn:n≤9223372036854775807) (ho:Ops w D m l) (hm:m≤9223372036854775807) :
  Calls Tryz.prog 6 #[.agg #[.slice A n c,.int .i64 cap],.slice D m d] w (Req.FewPost (FewL m l) w):=by
 have LN:=Kept.mk ho.1
 obtain⟨Q,hQ⟩:∃ Q:Prop,FewL m l=Q:=⟨_,rfl⟩
 rw[hQ]
 have HQ:=Kept.mk hQ
 obtain⟨N,hN⟩:∃ N,w.heap.size=N:=⟨_,rfl⟩
 have b0:Below w.heap.size w (w.alloc (.cells #[.slice A n c,.int .i64 cap] 24)):=(Below.refl _ _).alloc (Nat.le_refl _) _
 have X0:Kept (Blk (w.alloc (.cells #[.slice A n c,.int .i64 cap] 24)) N 24 #[.slice A n c,.int .i64 cap]):=⟨Blk.new_at w _ _ N hN.symm⟩
 have HR:=Kept.mk hr
 have HO:=Kept.mk ho
 have B:=Kept.mk b0
 clear hr ho hQ b0
 go_enter Tryz.func6,Tryz.ntmps6
 go_upto_region 1 with(fail)
 generalize w.alloc (.cells #[.slice A n c,.int .i64 cap] 24)=w1 at *
 have HA:Kept (∀ x∈l.take 0,x.b.l.length≤100∧∀ r∈x.b.l,r.small):=⟨by simp⟩
 go_wp2
 go_loopw [5,6] (fun s i wr=>∃ k z:Nat,k≤m∧k≤100∧z≤100 * k∧s=.int .i64 z∧i=.int .i64 k∧Kept (∀ x∈l.take k,x.b.l.length≤100∧∀ r∈x.b.l,r.small)∧Kept (Blk wr N 24 #[.slice A n c,.int .i64 cap])∧Kept (Below w.heap.size w wr)) (fun _ i _=>100 - (Go.RowKit.intOf i).toNat)
 case atStart=>exact⟨0,0,by omega,by omega,by omega,rfl,rfl,HA,X0,B⟩
 case round =>
  clear HA X0 B
  obtain⟨k,z,hk,hk1,hz,rfl,rfl,HA,X0,B⟩:=hrel
  by_cases hkn:k < m
  ·have hkn':(k:Int) < m:=by omega
   by_cases hk2:k < 100
   ·have hk2':(k:Int) < 100:=by omega
    obtain⟨b,o,x,rfl,hx,A',n',c',h0,h1,h2,h3,h4,h5,h6,h7⟩:=(HO.out.below B.out).at_ hkn
    obtain⟨party,clock,⟨seen,ll⟩⟩:=x
    dsimp only at h0 h1 h2 h3 h6 h7
    have KF:=Kept.mk (Req.few_any seen A' n' c' ll wr h6 (by omega))
    unfold Req.FewPost at KF
    have HS:Kept ((n'≤100∧∀ r∈ll,r.small)→∀ x∈l.take (k+1),x.b.l.length≤100∧∀ r∈x.b.l,r.small):=⟨fun hh=>all_snoc' hx HA.out ⟨by dsimp only;rw[h6.1];exact hh.1,hh.2⟩⟩
    have HX:Kept (∀ w',Below wr.heap.size wr w'→w'.cell? ⟨b,o+k * 4+3,none⟩=some (.slice A' n' c')):=⟨fun w' bb=>by rw[bb.cell (World.block_lt_of_cell? _ _ h3)];exact h3⟩
    have H6:=Kept.mk h6.1
    clear h0 h1 h6 h7 hx
    go_wp2_with fail
    refine KF.out.mono ?_
    rintro e w2 ⟨t,rfl,ht,bb⟩
    have h3':=HX.out _ bb
    replace X0:=Kept.mk (X0.out.below bb X0.out.lt)
    replace B:=Kept.mk (B.out.trans (bb.mono B.out.size))
    have HT:=Kept.mk ht
    clear ht bb KF h2 h3 HX
    cases t with
    | true =>
     have hp:=HT.out rfl
     have hp1:n'≤100:=hp.1
     replace HA:=Kept.mk (HS.out hp)
     clear hp HS HT
     go_wp2
     go_roundw
     case rel=>exact⟨k+1,z+n',by omega,by omega,by omega,by go_num,by go_num,HA,X0,B⟩
     case measure=>simp[Go.RowKit.intOf];omega
    | false =>
     go_wp2
     go_ret
     exact⟨false,rfl,fun h=>(by cases h),B.out⟩
   ·have hk2':¬ (k:Int) < 100:=by omega
    have x0:=X0.out.cell 0
    have KF:=Kept.mk (Purse.few_any A n c X wr (HR.out.below B.out) hn)
    unfold Purse.FewPost at KF
    go_wp2_with fail
    refine KF.out.mono ?_
    rintro e w2 ⟨t,rfl,-,rfl⟩
    have hm100:(100:Int) < m:=by omega
    clear KF
    cases t with
    | true =>
     go_wp2
     go_ret
     exact⟨false,rfl,fun h=>(by cases h),B.out⟩
    | false =>
     go_wp2
     go_ret
     exact⟨false,rfl,fun h=>(by cases h),B.out⟩
  ·have hkn':¬ (k:Int) < m:=by omega
   obtain rfl:k=m:=by omega
   have x0:=X0.out.cell 0
   have KF:=Kept.mk (Purse.few_any A n c X wr (HR.out.below B.out) hn)
   unfold Purse.FewPost at KF
   go_wp2_with fail
   refine KF.out.mono ?_
   rintro e w2 ⟨t,rfl,-,rfl⟩
   have hL:FewL k l:=⟨by omega,by
    have:=HA.out
    rwa [← LN.out,List.take_length] at this⟩
   have HY:Kept Q:=⟨by rw[← HQ.out];exact hL⟩
   have hk100:(k:Int)≤100:=by omega
   clear hL KF
   cases t with
   | true =>
    go_wp2
    go_ret
    exact⟨decide ((z:Int)≤1000),rfl,fun _=>HY.out,B.out⟩
   | false =>
    go_wp2
    go_ret
    exact⟨false,rfl,fun h=>(by cases h),B.out⟩
end
structure LedK (Lk:World→Nat→List Nat→Nat→LS→Prop) (B:Nat) (w:World) (t:Nat) (F:List Nat) (x:Nat) (s:LS):Prop where
 lk:Lk w t F x s
 wl:WL s
 wi:WI s
 new:∀ k∈t :: F,B≤k
 lt:∀ k∈t :: F,k < w.heap.size
section
variable {Lk : World → Nat → List Nat → Nat → LS → Prop} {B : Nat} {w w' : World} {t x : Nat} {F : List Nat} {s : LS}
theorem LedgerApi.led (api:LedgerApi Lk) (h:Lk w t F x s) (wl:WL s) (wi:WI s) (ht:B≤t) (hF:∀ k∈F,B≤k):LedK Lk B w t F x s:=by
 obtain⟨h1,-,h3⟩:=api.lts h
 refine⟨h,wl,wi,fun k hk=>?_,fun k hk=>?_⟩
 ·rcases List.mem_cons.1 hk with rfl|hk
  ·exact ht
  ·exact hF k hk
 ·rcases List.mem_cons.1 hk with rfl|hk
  ·rcases h3 with h3|h3<;>exact Blk.lt h3
  ·exact h1 k hk
theorem LedgerApi.ledBelow (api:LedgerApi Lk) (h:LedK Lk B w t F x s) (k:Below w.heap.size w w'):LedK Lk B w' t F x s :=
 ⟨(api.below ⟨h.lk⟩ k).out,h.wl,h.wi,h.new,fun g hg=>Nat.lt_of_lt_of_le (h.lt g hg) k.size⟩
theorem fp_cons {F F':List Nat}{t:Nat}{w:World}(h:∀ k∈F',k∈F∨w.heap.size≤k):∀ k∈t :: F',k∈t :: F∨w.heap.size≤k:=fun k hk=>by
 rcases List.mem_cons.1 hk with rfl|hk
 ·exact .inl (List.mem_cons_self ..)
 ·exact(h k hk).imp (List.mem_cons_of_mem _) id
theorem LedgerApi.ledStep (api:LedgerApi Lk) (h:LedK Lk B w t F x s) {F':List Nat}{s':LS}(hk:Lk w' t F' x s') (hF:∀ k∈F',k∈F∨w.heap.size≤k) (K:Keeps s s') (hB:B≤w.heap.size):LedK Lk B w' t F' x s':=by
 refine api.led hk K.wl K.wi (h.new t (List.mem_cons_self ..)) (fun k hm=>?_)
 rcases hF k hm with q|q
 ·exact h.new k (List.mem_cons_of_mem _ q)
 ·omega
def AfterPost (Lk:World→Nat→List Nat→Nat→LS→Prop) (B:Nat) (w:World) (t:Nat) (F:List Nat) (x:Nat) (r:AV × LS) (e:Ending) (w':World):Prop :=
 ∃ F' A n c D m d,e=.returned (.agg #[.int .i64 r.1.clock,.int .i64 r.1.seen,.slice A n c,.slice D m d])∧n≤c∧c≤9223372036854775807∧m≤d∧d≤9223372036854775807∧RowK pvC 2 w' (t :: F') A n r.1.p∧RowK vvC 9 w' (t :: F') D m r.1.v ∧
  LedK Lk B w' t F' x r.2∧Bar (t :: F) w w'∧(∀ k∈t :: F',k∈t :: F∨w.heap.size≤k)∧Below B w w'∧NewRow w [] A∧NewRow w [] D
theorem LedgerApi.after (api:LedgerApi Lk) (h:LedK Lk B w t F x s) (hB:B≤w.heap.size) {r:AV × LS}(K:Keeps s r.2) {e:Ending}(p:ApplyPost Lk w t F x r e w'):AfterPost Lk B w t F x r e w':=by
 obtain⟨F',A,n,c,D,m,d,he,h1,h2,h3,h4,hp,hv,hA,hD,hk,hb,hF⟩:=p
 exact⟨F',A,n,c,D,m,d,he,h1,h2,h3,h4,RowK.new hp pvC_ne hA,RowK.new hv vvC_ne hD,api.ledStep h hk hF K hB,hb,fp_cons hF,hb.below hB h.new,fun b o q=>⟨(hA b o q).1,by simp⟩,fun b o q=>⟨(hD b o q).1,by simp⟩⟩
structure OpK (W:World) (A:Option Addr) (n c:Nat) (ll:List RV):Prop where
 rr:Rr W A n ll
 ok:∀ r∈ll,r.ok
 small:∀ r∈ll,r.small
 n100:n≤100
 nc:n≤c
 cm:c≤9223372036854775807
theorem op_at {W:World}{D:Option Addr}{m k:Nat}{l:List OV}(ho:Ops W D m l) (hq:FewL m l) (hk:k < m):∃ g o party clock seen ll A n c,D=some ⟨g,o,none⟩∧l[k]?=some ⟨party,clock,⟨seen,ll⟩⟩∧OpK W A n c ll ∧
      ∀ u,Below W.heap.size W u→u.cell? ⟨g,o+k * 4,none⟩=some (.int .i64 party)∧u.cell? ⟨g,o+k * 4+1,none⟩=some (.int .i64 clock)∧u.cell? ⟨g,o+k * 4+2,none⟩=some (.int .i64 seen)∧u.cell? ⟨g,o+k * 4+3,none⟩=some (.slice A n c):=by
  obtain⟨g,o,xx,hA,hx,hat⟩:=ho.at_ hk
  obtain⟨party,clock,⟨seen,ll⟩⟩:=xx
  obtain⟨A',n',c',h0,h1,h2,h3,h4,h5,h6,h7⟩:=hat
  dsimp only at h0 h1 h2 h3 h6 h7
  have hsm:=hq.2 _ (List.mem_of_getElem? hx)
  dsimp only at hsm
  have hl:ll.length=n':=h6.1
  have fw:∀ {j:Nat} {v:Value},W.cell? ⟨g,j,none⟩=some v→∀ u,Below W.heap.size W u→u.cell? ⟨g,j,none⟩=some v:=by
    intro j v hh u bb
    rw[bb.cell (World.block_lt_of_cell? _ _ hh)];exact hh
  exact⟨g,o,party,clock,seen,ll,A',n',c',hA,hx,⟨h6,h7,hsm.2,by omega,h4,h5⟩,fun u bb=>⟨fw h0 u bb,fw h1 u bb,fw h2 u bb,fw h3 u bb⟩⟩
theorem LedgerApi.applyOp (api:LedgerApi Lk) {W:World}{A:Option Addr}{n c:Nat}{ll:List RV}(h:OpK W A n c ll) (L:LedK Lk W.heap.size w t F x s) (b:Below W.heap.size W w) (party clock seen:Int) :
  Calls Tryz.prog 19 #[.pointer (some ⟨x,0,none⟩),.int .i64 party,.int .i64 clock,.agg #[.int .i64 seen,.slice A n c]] w (AfterPost Lk W.heap.size w t F x (applyL s party clock ⟨seen,ll⟩)):=by
 have K:=(applyL_keeps L.wl L.wi party clock ⟨seen,ll⟩ h.ok).1
 refine(api.apply (c:=c) party clock seen L.lk L.wl L.wi (h.rr.below b) (rc_off h.rr rvC_ne L.new) h.ok h.small (by have:=h.n100;omega) h.nc h.cm).mono ?_
 intro e w' p
 exact api.after L b.size K p
theorem RowK.made {α:Type}{C:α→List Value}{z:Nat}{A:Option Addr}{n:Nat}{l:List α}{G:List Nat}(h:Rc C z w' A n l) (hC:∀ x,C x≠[]) (hn:NewRow w [] A) (hG:∀ k∈G,k < w.heap.size):RowK C z w' G A n l:=RowK.fresh h hC hn hG
end
end Go.Proofs.YtchcgoabogcabaaGreat.Ledger
