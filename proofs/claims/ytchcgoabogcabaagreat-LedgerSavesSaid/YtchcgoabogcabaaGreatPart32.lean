/-
  Parts laid together: LedgerR3.
-/
import Derived.Test.YtchcgoabogcabaaGreatPart14
import Derived.Test.YtchcgoabogcabaaGreatPart1
import Derived.Test.YtchcgoabogcabaaGreatPart27
import Derived.Test.YtchcgoabogcabaaGreatPart16
import Derived.Test.YtchcgoabogcabaaGreatPart10
import Derived.Test.YtchcgoabogcabaaGreatPart30
import Derived.Test.YtchcgoabogcabaaGreatPart7
import Derived.Test.YtchcgoabogcabaaGreatPart31
import Derived.Deep.CutBlock
import Derived.Deep.CutRange
import Derived.Deep.DeepCutAuto
namespace Go.Proofs.YtchcgoabogcabaaGreat.Ledger
open Go.RowKit Go.Proofs.YtchcgoabogcabaaGreat.Num Go.Proofs.YtchcgoabogcabaaGreat.Sha Go.Proofs.YtchcgoabogcabaaGreat.Purse Go.Proofs.YtchcgoabogcabaaGreat.Escrow Go.Proofs.YtchcgoabogcabaaGreat.Wire Go.Proofs.YtchcgoabogcabaaGreat.Req
theorem reply_size2:(Tryz.prog.info? 63).map (·.size)=some 2:=by kernel_rfl
section
variable {w w1 w2 : World} {x b q N R : Nat} {F F0 F1 G G' : List Nat} {st d d1 d2 : Value} {s : LS} {p : PS}
theorem doff (h:N∉df x F0 d d1 d2) (lt:N < w.heap.size) (fp:Fp (df x F0 d d1 d2) (df x F1 d d1 d2) w w1):N∉df x F1 d d1 d2:=fun hm=>by
 rcases fp.2 N hm with k|k
 ·exact h k
 ·omega
theorem dput (h:Dk w1 F x s) (b:Bar [R] w1 w2) (hR:R∉F):Dk w2 F x s:=h.keep b (fun k hk hm=>hR (by rw[List.mem_singleton] at hm;rw[← hm];exact hk))
theorem dfp (f:Fp F F1 w w1) (b:Bar [R] w1 w2) (h:w.heap.size≤R):Fp F F1 w w2:=⟨f.1.trans b (fun k hk=>.inr (by rw[List.mem_singleton] at hk;rw[hk];exact h)),f.2⟩
theorem Dp.purse (h:Dp w F0 x b q st d d1 d2 s):∃ G v,F0=b :: (v.ownBlock.toList++G)∧Pr w G q s.b.p∧Blk w b 114 #[.pointer (some ⟨q,0,none⟩),v]∧(∀ p' G' w2,Pr w2 G' q p'→Fp G G' w w2→∃ F1,Dp w2 F1 x b q st d d1 d2 ⟨s.cap,⟨p',s.b.l⟩,s.clock,s.e⟩∧Fp (df x F0 d d1 d2) (df x F1 d d1 d2) w w2∧(w2.cell? ⟨b,0,none⟩=some (.pointer (some ⟨q,0,none⟩)))):=by
 obtain⟨G,v,h1,h2,h3,h4,h5,hF⟩:=h.bk
 refine⟨G,v,hF,h1,h2,fun p' G' w2 hp fp=>?_⟩
 obtain⟨k1,k2,k3,k4,k5⟩:=rk_purse h2 h3 h4 h5 hF fp
 have hb:=h.book (b':=⟨p',s.b.l⟩) ⟨G',v,hp,k1,k2,k3,k4,rfl⟩ k5
 exact⟨_,hb.1,hb.2,k1.cell 0⟩
theorem Dp.cb (h:Dp w F0 x b q st d d1 d2 s):w.cell? ⟨b,0,none⟩=some (.pointer (some ⟨q,0,none⟩)):=by
 obtain⟨G,v,h1,h2,h3,h4,h5,hF⟩:=h.bk
 exact h2.cell 0
theorem Dp.cq (h:Dp w F0 x b q st d d1 d2 s):∃ A c,w.cell? ⟨q,0,none⟩=some (.slice A s.b.p.np c):=by
 obtain⟨G,hp⟩:=h.bk.purse
 obtain⟨g,c,R,C,h1,-⟩:=hp.heads
 exact⟨_,c,h1⟩
theorem actL_id {s:LS}{party:Int}{r:RV}(h:r.kind≠2):(actL s party r).1.1=0:=by
 unfold actL
 by_cases h1:r.kind=1
 ·rw[if_pos h1]
  split
  ·rfl
  ·split<;>rfl
 ·rw[if_neg h1,if_neg h]
  split<;>rfl
theorem off_fp (h:N∉F) (lt:N < w.heap.size) (fp:Fp F F1 w w1):N∉F1:=fun hm=>by
 rcases fp.2 N hm with k|k
 ·exact h k
 ·omega
structure Met (w wx:World) (party:Int) (r:RV) (s:LS) (x b q N R M:Nat) (st d d1 d2:Value) (F0 F1:List Nat) (di de:Int) (db:BS) (ve:VV):Prop where
 act:actL s party r=((di,de),db)
 ev:de=0→ve=evOf party di r
 l:Dp wx F1 x b q st d d1 d2 ⟨s.cap,db,s.clock,s.e⟩
 fp:Fp (df x F0 d d1 d2) (df x F1 d d1 d2) w wx
 n:Blk wx N 65 (rvC r).toArray
 r:Blk wx R 63 #[.int .i64 0,.int .i64 0]
 m:Blk wx M 71 (vvC ve).toArray
 on:N∉df x F1 d d1 d2
 or:R∉df x F1 d d1 d2
 om:M∉df x F1 d d1 d2
set_option maxRecDepth 100000 in
set_option maxHeartbeats 24000000 in
theorem rone_any (party:Int) (r:RV) (W:WL s) (hr:r.ok) (h:Dk w F x s):Calls Tryz.prog 46 #[.pointer (some ⟨x,0,none⟩),.int .i64 party,rqv r] w (DStep w F x (pqv (oneL s party r).1) (oneL s party r).2):=by
 have HR:=Kept.mk hr;have HW:=Kept.mk W
 obtain⟨F0,b,q,st,d,d1,d2,h,rfl⟩:=h
 clear W
 obtain⟨O,hO⟩:∃ O,oneL s party r=O:=⟨_,rfl⟩
 rw[hO]
 have HO:=Kept.mk hO
 clear hO
 obtain⟨kind,dst,asset,amount,id,due,hash,sec⟩:=r
 obtain⟨⟨oc,oi⟩,s2⟩:=O
 unfold rqv pqv
 dsimp only
 obtain⟨N,hN⟩:∃ N,w.heap.size=N:=⟨_,rfl⟩
 obtain⟨R,hR⟩:∃ R,(w.alloc (.cells #[.int .i64 kind,.int .i64 dst,.int .i64 asset,.int .i64 amount,.int .i64 id,.int .i64 due,.string (strOfNums hash),.string (strOfNums sec)] 65)).heap.size=R:=⟨_,rfl⟩
 have b0:Below w.heap.size w (w.alloc (.cells #[.int .i64 kind,.int .i64 dst,.int .i64 asset,.int .i64 amount,.int .i64 id,.int .i64 due,.string (strOfNums hash),.string (strOfNums sec)] 65)):=(Below.refl _ _).alloc (Nat.le_refl _) _
 have x0:Blk (w.alloc (.cells #[.int .i64 kind,.int .i64 dst,.int .i64 asset,.int .i64 amount,.int .i64 id,.int .i64 due,.string (strOfNums hash),.string (strOfNums sec)] 65)) N 65 #[.int .i64 kind,.int .i64 dst,.int .i64 asset,.int .i64 amount,.int .i64 id,.int .i64 due,.string (strOfNums hash),.string (strOfNums sec)]:=Blk.new_at w _ _ N hN.symm
 have b1:Below (w.alloc (.cells #[.int .i64 kind,.int .i64 dst,.int .i64 asset,.int .i64 amount,.int .i64 id,.int .i64 due,.string (strOfNums hash),.string (strOfNums sec)] 65)).heap.size (w.alloc (.cells #[.int .i64 kind,.int .i64 dst,.int .i64 asset,.int .i64 amount,.int .i64 id,.int .i64 due,.string (strOfNums hash),.string (strOfNums sec)] 65)) ((w.alloc (.cells #[.int .i64 kind,.int .i64 dst,.int .i64 asset,.int .i64 amount,.int .i64 id,.int .i64 due,.string (strOfNums hash),.string (strOfNums sec)] 65)).alloc (.cells #[.int .i64 0,.int .i64 0] 63)):=(Below.refl _ _).alloc (Nat.le_refl _) _
 have Y:Kept (Blk ((w.alloc (.cells #[.int .i64 kind,.int .i64 dst,.int .i64 asset,.int .i64 amount,.int .i64 id,.int .i64 due,.string (strOfNums hash),.string (strOfNums sec)] 65)).alloc (.cells #[.int .i64 0,.int .i64 0] 63)) R 63 #[.int .i64 0,.int .i64 0]):=⟨Blk.new_at _ _ _ R hR.symm⟩
 have X:Kept (Blk ((w.alloc (.cells #[.int .i64 kind,.int .i64 dst,.int .i64 asset,.int .i64 amount,.int .i64 id,.int .i64 due,.string (strOfNums hash),.string (strOfNums sec)] 65)).alloc (.cells #[.int .i64 0,.int .i64 0] 63)) N 65 #[.int .i64 kind,.int .i64 dst,.int .i64 asset,.int .i64 amount,.int .i64 id,.int .i64 due,.string (strOfNums hash),.string (strOfNums sec)]):=⟨x0.below b1 x0.lt⟩
 have B:Kept (Below w.heap.size w ((w.alloc (.cells #[.int .i64 kind,.int .i64 dst,.int .i64 asset,.int .i64 amount,.int .i64 id,.int .i64 due,.string (strOfNums hash),.string (strOfNums sec)] 65)).alloc (.cells #[.int .i64 0,.int .i64 0] 63))):=⟨b0.trans (b1.mono b0.size)⟩
 have NR:Kept (N < R∧w.heap.size≤N∧w.heap.size≤R):=⟨by have:=x0.lt;rw[hR] at this;omega⟩
 have OF:Kept (∀ k,w.heap.size≤k→k∉df x F0 d d1 d2):=⟨fun k hk hm=>by have:=h.lts k hm;omega⟩
 have L:=Kept.mk (h.below B.out)
 have KM:=Kept.mk (fun w=>rmay_any ⟨kind,dst,asset,amount,id,due,hash,sec⟩ hr w)
 clear b0 b1 x0 h hr
 obtain⟨qw,hqw⟩:∃ qw,decide (MayR ⟨kind,dst,asset,amount,id,due,hash,sec⟩)=qw:=⟨_,rfl⟩
 rw[hqw] at KM
 unfold rqv at KM
 dsimp only at KM
 have HQ:=Kept.mk hqw
 clear hqw
 go_enter Tryz.func46,Tryz.ntmps46
 go_upto_region 1 with(fail)
 generalize ((w.alloc (.cells #[.int .i64 kind,.int .i64 dst,.int .i64 asset,.int .i64 amount,.int .i64 id,.int .i64 due,.string (strOfNums hash),.string (strOfNums sec)] 65)).alloc (.cells #[.int .i64 0,.int .i64 0] 63))=w1 at *
 clear hN hR
 have h0:=X.out.cell 0;have h1:=X.out.cell 1;have h2:=X.out.cell 2;have h3:=X.out.cell 3;have h4:=X.out.cell 4;have h5:=X.out.cell 5;have h6:=X.out.cell 6;have h7:=X.out.cell 7
 go_wp2_with fail
 refine(KM.out w1).mono ?_
 rintro e w2 ⟨rfl,bb⟩
 replace X:=Kept.mk (X.out.below bb X.out.lt);replace Y:=Kept.mk (Y.out.below bb Y.out.lt);replace B:=Kept.mk (B.out.trans (bb.mono B.out.size));replace L:=Kept.mk (L.out.below bb)
 clear KM bb h0 h1 h2 h3 h4 h5 h6 h7
 cases qw with
 | false =>
  have HNM:=Kept.mk (of_decide_eq_false HQ.out)
  have he:=HO.out
  rw[oneL_range (fun k=>HNM.out k.1)] at he
  injection he with he1 he2
  injection he1 with he3 he4
  subst he2 he3 he4
  skip
  have LK:Kept (Dk w2 _ x s):=⟨⟨F0,b,q,st,d,d1,d2,L.out,rfl⟩⟩
  have FP:Kept (Fp (df x F0 d d1 d2) (df x F0 d d1 d2) w w2):=⟨⟨barOf B.out _,fun _ hk=>.inl hk⟩⟩
  have RO:Kept (R∉df x F0 d d1 d2):=⟨OF.out R NR.out.2.2⟩
  have y0:w2.cell? ⟨R,0,none⟩=some (.int .i64 0):=Y.out.cell 0;have y1:w2.cell? ⟨R,1,none⟩=some (.int .i64 0):=Y.out.cell 1
  have z0:=Y.out.frozen 0;have z1:=Y.out.frozen 1
  have PP:=Kept.mk (put2 Y.out (.int .i64 1) (.int .i64 0))
  have WR:Kept (w.heap.size≤R):=⟨NR.out.2.2⟩
  go_wp2
  (try simp only[Exit.inBlock,Exit.then])
  refine bodyPost_ret (results_cell_row rfl _ _ R 63 #[.int .i64 1,.int .i64 0] (0,0) _ rfl PP.out.1 Tryz.underlying63 rfl reply_size2) rfl ?_
  exact⟨rfl,_,dput LK.out PP.out.2 RO.out,dfp FP.out PP.out.2 WR.out⟩
 | true =>
  have HM:=Kept.mk (of_decide_eq_true HQ.out)
  clear HQ
  obtain⟨Aq,cq,hcq⟩:=L.out.cq
  have x2:=L.out.c2;have xb:=L.out.cb
  by_cases hp0:party < 0
  ·as_aux_lemma =>
   have he:=HO.out
   rw[oneL_range (fun k=>by have:=(isP_iff.1 k.2).1;omega)] at he
   injection he with he1 he2
   injection he1 with he3 he4
   subst he2 he3 he4
   skip
   have LK:Kept (Dk w2 _ x s):=⟨⟨F0,b,q,st,d,d1,d2,L.out,rfl⟩⟩
   have FP:Kept (Fp (df x F0 d d1 d2) (df x F0 d d1 d2) w w2):=⟨⟨barOf B.out _,fun _ hk=>.inl hk⟩⟩
   have RO:Kept (R∉df x F0 d d1 d2):=⟨OF.out R NR.out.2.2⟩
   have y0:w2.cell? ⟨R,0,none⟩=some (.int .i64 0):=Y.out.cell 0;have y1:w2.cell? ⟨R,1,none⟩=some (.int .i64 0):=Y.out.cell 1
   have z0:=Y.out.frozen 0;have z1:=Y.out.frozen 1
   have PP:=Kept.mk (put2 Y.out (.int .i64 1) (.int .i64 0))
   have WR:Kept (w.heap.size≤R):=⟨NR.out.2.2⟩
   go_wp2
   (try simp only[Exit.inBlock,Exit.then])
   refine bodyPost_ret (results_cell_row rfl _ _ R 63 #[.int .i64 1,.int .i64 0] (0,0) _ rfl PP.out.1 Tryz.underlying63 rfl reply_size2) rfl ?_
   exact⟨rfl,_,dput LK.out PP.out.2 RO.out,dfp FP.out PP.out.2 WR.out⟩
  ·have hp0':¬ party < 0:=hp0
   by_cases hp1:(s.b.p.np:Int)≤party
   ·as_aux_lemma =>
    have he:=HO.out
    rw[oneL_range (fun k=>by have:=(isP_iff.1 k.2).2;omega)] at he
    injection he with he1 he2
    injection he1 with he3 he4
    subst he2 he3 he4
    skip
    have LK:Kept (Dk w2 _ x s):=⟨⟨F0,b,q,st,d,d1,d2,L.out,rfl⟩⟩
    have FP:Kept (Fp (df x F0 d d1 d2) (df x F0 d d1 d2) w w2):=⟨⟨barOf B.out _,fun _ hk=>.inl hk⟩⟩
    have RO:Kept (R∉df x F0 d d1 d2):=⟨OF.out R NR.out.2.2⟩
    have y0:w2.cell? ⟨R,0,none⟩=some (.int .i64 0):=Y.out.cell 0;have y1:w2.cell? ⟨R,1,none⟩=some (.int .i64 0):=Y.out.cell 1
    have z0:=Y.out.frozen 0;have z1:=Y.out.frozen 1
    have PP:=Kept.mk (put2 Y.out (.int .i64 1) (.int .i64 0))
    have WR:Kept (w.heap.size≤R):=⟨NR.out.2.2⟩
    go_wp2
    (try simp only[Exit.inBlock,Exit.then])
    refine bodyPost_ret (results_cell_row rfl _ _ R 63 #[.int .i64 1,.int .i64 0] (0,0) _ rfl PP.out.1 Tryz.underlying63 rfl reply_size2) rfl ?_
    exact⟨rfl,_,dput LK.out PP.out.2 RO.out,dfp FP.out PP.out.2 WR.out⟩
   ·have HP:Kept (isP s.b.p party=true):=⟨isP_iff.2 ⟨by omega,by omega⟩⟩
    have hp1':¬ (s.b.p.np:Int)≤party:=hp1
    have h0:=X.out.cell 0;have h1:=X.out.cell 1;have h2:=X.out.cell 2;have h3:=X.out.cell 3;have h4:=X.out.cell 4;have h5:=X.out.cell 5;have h6:=X.out.cell 6;have h7:=X.out.cell 7
    obtain⟨M,hM⟩:∃ M,w2.heap.size=M:=⟨_,rfl⟩
    have V:Kept (Blk (w2.alloc (.cells #[.int .i64 kind,.int .i64 party,.int .i64 dst,.int .i64 asset,.int .i64 amount,.int .i64 id,.int .i64 due,.string (strOfNums hash),.string (strOfNums sec)] 71)) M 71 #[.int .i64 kind,.int .i64 party,.int .i64 dst,.int .i64 asset,.int .i64 amount,.int .i64 id,.int .i64 due,.string (strOfNums hash),.string (strOfNums sec)]):=⟨Blk.new_at w2 _ _ M hM.symm⟩
    have bb:Below w2.heap.size w2 (w2.alloc (.cells #[.int .i64 kind,.int .i64 party,.int .i64 dst,.int .i64 asset,.int .i64 amount,.int .i64 id,.int .i64 due,.string (strOfNums hash),.string (strOfNums sec)] 71)):=(Below.refl _ _).alloc (Nat.le_refl _) _
    have NM:Kept (N < M∧R < M∧w.heap.size≤M):=⟨by have:=X.out.lt;have:=Y.out.lt;have:=B.out.size;omega⟩
    replace X:=Kept.mk (X.out.below bb X.out.lt);replace Y:=Kept.mk (Y.out.below bb Y.out.lt);replace B:=Kept.mk (B.out.trans (bb.mono B.out.size));replace L:=Kept.mk (L.out.below bb)
    clear bb
    go_upto_region 5 with(fail)
    generalize (w2.alloc (.cells #[.int .i64 kind,.int .i64 party,.int .i64 dst,.int .i64 asset,.int .i64 amount,.int .i64 id,.int .i64 due,.string (strOfNums hash),.string (strOfNums sec)] 71))=w3 at *
    clear hM x2 xb hcq h0 h1 h2 h3 h4 h5 h6 h7 hp0 hp1 hp0' hp1'
    have h0:=X.out.cell 0
    go_upto_block 0 with(fail)
    go_cut [8] from 52 to 135 (fun c wx=>∃ (F1:List Nat) (di de:Int) (db:BS) (ve:VV),c=.int .i64 de∧Kept (Met w wx party ⟨kind,dst,asset,amount,id,due,hash,sec⟩ s x b q N R M st d d1 d2 F0 F1 di de db ve))
    case first =>
     have FP0:Kept (Fp (df x F0 d d1 d2) (df x F0 d d1 d2) w w3):=⟨⟨barOf B.out _,fun _ hk=>.inl hk⟩⟩
     have RO:Kept (R∉df x F0 d d1 d2):=⟨OF.out R NR.out.2.2⟩
     have MO:Kept (M∉df x F0 d d1 d2):=⟨OF.out M NM.out.2.2⟩
     have NO:Kept (N∉df x F0 d d1 d2):=⟨OF.out N NR.out.2.1⟩
     have HK:=HM.out
     have HK4:kind=1∨kind=2∨kind=3∨kind=4:=by
      rcases HK with⟨k,-⟩|⟨k,-⟩|⟨k,-⟩|⟨k,-⟩
      ·exact .inl k
      ·exact .inr (.inl k)
      ·exact .inr (.inr (.inl k))
      ·exact .inr (.inr (.inr k))
     clear HK
     rcases HK4 with hk|hk|hk|hk
     ·subst hk
      have KFU:=rfull_any 1 (by omega) HW.out L.out
      unfold TellB at KFU
      obtain⟨qf,hqf⟩:∃ qf,roomL s 1=qf:=⟨_,rfl⟩
      rw[show (((1:Nat):Int))=1 from rfl,hqf] at KFU
      have KF2:=Kept.mk KFU
      have HF:=Kept.mk hqf
      clear KFU hqf
      go_wp2_with fail
      refine KF2.out.mono ?_
      rintro e w4 ⟨rfl,bb⟩
      replace X:=Kept.mk (X.out.below bb X.out.lt);replace Y:=Kept.mk (Y.out.below bb Y.out.lt);replace V:=Kept.mk (V.out.below bb V.out.lt);replace B:=Kept.mk (B.out.trans (bb.mono B.out.size));replace L:=Kept.mk (L.out.below bb);replace FP0:=Kept.mk (FP0.out.trans ⟨barOf bb _,fun _ hk=>.inl hk⟩)
      clear KF2 bb h0
      cases qf with
      | false =>
       as_aux_lemma =>
        have MT:Kept (Met w w4 party ⟨1,dst,asset,amount,id,due,hash,sec⟩ s x b q N R M st d d1 d2 F0 F0 0 12 s.b ⟨1,party,dst,asset,amount,id,due,hash,sec⟩):=⟨⟨by unfold actL;rw[if_pos rfl,if_pos HF.out],fun h=>absurd h (by decide),L.out,FP0.out,X.out,Y.out,V.out,NO.out,RO.out,MO.out⟩⟩
        go_wp2
        go_meet
        case rel=>exact⟨_,_,_,_,_,rfl,MT⟩
      | true =>
       have x3:=X.out.cell 3
       by_cases ha:amount=0
       ·as_aux_lemma =>
        have ha':(amount == 0)=true:=by rw[ha];rfl
        have HA0:=Kept.mk ha
        clear ha
        have MT:Kept (Met w w4 party ⟨1,dst,asset,amount,id,due,hash,sec⟩ s x b q N R M st d d1 d2 F0 F0 0 1 s.b ⟨1,party,dst,asset,amount,id,due,hash,sec⟩):=⟨⟨by unfold actL;rw[if_pos rfl,if_neg (by rw[HF.out];simp),if_pos HA0.out],fun h=>absurd h (by decide),L.out,FP0.out,X.out,Y.out,V.out,NO.out,RO.out,MO.out⟩⟩
        go_wp2
        go_meet
        case rel=>exact⟨_,_,_,_,_,rfl,MT⟩
       ·as_aux_lemma =>
        have ha':(amount == 0)=false:=beq_eq_false_iff_ne.2 ha
        go_upto_region 7 with(fail)
        clear x3
        refine wp_region_noPanic ?_
        refine wp_region_held_drew (S:=fun u:World=>u.cell? ⟨x,2,none⟩=some (.pointer (some ⟨b,0,none⟩))∧u.cell? ⟨b,0,none⟩=some (.pointer (some ⟨q,0,none⟩))∧u.cell? ⟨N,1,none⟩=some (.int .i64 dst)∧u.cell? ⟨N,2,none⟩=some (.int .i64 asset)∧u.cell? ⟨N,3,none⟩=some (.int .i64 amount)) (by kernel_rfl) ⟨(L.out.below (Below.refl _ _).drew).c2,(L.out.below (Below.refl _ _).drew).cb,X.out.drew.cell 1,X.out.drew.cell 2,X.out.drew.cell 3⟩ (fun _=>?_)
        have bb:Below w4.heap.size w4 w4.drew:=(Below.refl _ _).drew
        replace L:=Kept.mk (L.out.below bb);replace X:=Kept.mk X.out.drew;replace Y:=Kept.mk Y.out.drew;replace V:=Kept.mk V.out.drew;replace FP0:=Kept.mk (FP0.out.trans ⟨barOf bb _,fun _ hk=>.inl hk⟩)
        clear bb
        generalize w4.drew=w5 at *
        obtain⟨G,vb,hF0,hpr,hbk,hnx⟩:=L.out.purse
        have KV:=rmove_any party dst asset amount hpr
        unfold Purse.StepPost at KV
        obtain⟨⟨me,mp⟩,hme⟩:∃ me,moveP s.b.p party dst asset amount=me:=⟨_,rfl⟩
        rw[hme] at KV
        have KV2:=Kept.mk KV;have HME:=Kept.mk hme;have HNX:=Kept.mk hnx
        have NG:Kept (N∉G∧R∉G∧M∉G∧x∉G):=⟨by
         have e:∀ k,k∈G→k∈df x F0 d d1 d2:=fun k hk=>df_mem.2 (.inr (.inl (by rw[hF0];simp[hk])))
         exact⟨fun hm=>NO.out (e _ hm),fun hm=>RO.out (e _ hm),fun hm=>MO.out (e _ hm),fun hm=>L.out.xF (by rw[hF0];simp[hm])⟩⟩
        clear KV hme hnx hpr hbk hF0
        refine tk 0 (by assumption) ?_
        simp only[Act.put,zA,zB,zC]
        refine tk 1 (by assumption) ?_
        simp only[Act.put,zA,zB,zC]
        refine tk 2 (by assumption) ?_
        simp only[Act.put,zA,zB,zC]
        refine tk 3 (by assumption) ?_
        simp only[Act.put,zA,zB,zC]
        refine tk 4 (by assumption) ?_
        simp only[Act.put,zA,zB,zC]
        refine tk 5 (by assumption) ?_
        simp only[Act.put,zA,zB,zC]
        refine tk 6 (by assumption) ?_
        simp only[Act.put,zA,zB,zC]
        refine tk 7 (by assumption) ?_
        simp only[Act.put,zA,zB,zC]
        refine tk 8 (by assumption) ?_
        simp only[Act.put,zA,zB,zC]
        refine tk 9 (by assumption) ?_
        simp only[Act.put,zA,zB,zC]
        refine tk 10 (by assumption) ?_
        simp only[Act.put,zA,zB,zC]
        refine tk 11 (by assumption) ?_
        simp only[Act.put,zA,zB,zC]
        refine tk 12 (by assumption) ?_
        simp only[Act.put,zA,zB,zC]
        refine tk 13 (by assumption) ?_
        simp only[Act.put,zA,zB,zC]
        refine ld 14 (fun K hK=>?_)
        go_simp
        go_at_call 77
        refine KV2.out.mono ?_
        rintro e w6 ⟨rfl,G',hp,fp⟩
        obtain⟨F1,hL,hfp,hcb⟩:=HNX.out _ _ _ hp fp
        have x2:=hL.c2
        replace RO:=Kept.mk (doff RO.out Y.out.lt hfp);replace NO:=Kept.mk (doff NO.out X.out.lt hfp);replace MO:=Kept.mk (doff MO.out V.out.lt hfp)
        replace X:=Kept.mk (X.out.bar fp.1 NG.out.1);replace Y:=Kept.mk (Y.out.bar fp.1 NG.out.2.1);replace V:=Kept.mk (V.out.bar fp.1 NG.out.2.2.1)
        replace L:=Kept.mk hL;replace FP0:=Kept.mk (FP0.out.trans hfp)
        refine hK.out _ _ ⟨x2,hcb,X.out.cell 1,X.out.cell 2,X.out.cell 3⟩ (fun _=>?_)
        clear hK K KV2 hp fp hL hfp hcb HNX x2
        refine tk 15 (by assumption) ?_
        simp only[Act.put,zA,zB,zC]
        refine wpAnyH_done (by kernel_rfl) ?_ _
        refine NoPanic.normal ?_
        have MT:Kept (Met w w6 party ⟨1,dst,asset,amount,id,due,hash,sec⟩ s x b q N R M st d d1 d2 F0 F1 0 me ⟨mp,s.b.l⟩ ⟨1,party,dst,asset,amount,id,due,hash,sec⟩):=⟨⟨by unfold actL;rw[if_pos rfl,if_neg (by rw[HF.out];simp),if_neg ha,HME.out],fun _=>by simp[evOf],L.out,FP0.out,X.out,Y.out,V.out,NO.out,RO.out,MO.out⟩⟩
        go_wp2
        go_meet
        case rel=>exact⟨_,_,_,_,_,rfl,MT⟩
     ·subst hk
      have KFU:=rfull_any 2 (by omega) HW.out L.out
      unfold TellB at KFU
      obtain⟨qf,hqf⟩:∃ qf,roomL s 2=qf:=⟨_,rfl⟩
      rw[show (((2:Nat):Int))=2 from rfl,hqf] at KFU
      have KF2:=Kept.mk KFU
      have HF:=Kept.mk hqf
      clear KFU hqf
      go_wp2_with fail
      refine KF2.out.mono ?_
      rintro e w4 ⟨rfl,bb⟩
      replace X:=Kept.mk (X.out.below bb X.out.lt);replace Y:=Kept.mk (Y.out.below bb Y.out.lt);replace V:=Kept.mk (V.out.below bb V.out.lt);replace B:=Kept.mk (B.out.trans (bb.mono B.out.size));replace L:=Kept.mk (L.out.below bb);replace FP0:=Kept.mk (FP0.out.trans ⟨barOf bb _,fun _ hk=>.inl hk⟩)
      clear KF2 bb h0
      cases qf with
      | false =>
       as_aux_lemma =>
        have MT:Kept (Met w w4 party ⟨2,dst,asset,amount,id,due,hash,sec⟩ s x b q N R M st d d1 d2 F0 F0 0 12 s.b ⟨2,party,dst,asset,amount,id,due,hash,sec⟩):=⟨⟨by unfold actL;rw[if_neg (show ¬ ((2:Int)=1) by decide),if_pos rfl,if_pos HF.out],fun h=>absurd h (by decide),L.out,FP0.out,X.out,Y.out,V.out,NO.out,RO.out,MO.out⟩⟩
        go_wp2
        go_meet
        case rel=>exact⟨_,_,_,_,_,rfl,MT⟩
      | true =>
       as_aux_lemma =>
        go_upto_region 15 with(fail)
        refine wp_region_noPanic ?_
        refine wp_region_held_drew (S:=fun u:World=>u.cell? ⟨x,2,none⟩=some (.pointer (some ⟨b,0,none⟩))∧u.cell? ⟨x,3,none⟩=some (.int .i64 s.clock)∧u.cell? ⟨N,1,none⟩=some (.int .i64 dst)∧u.cell? ⟨N,2,none⟩=some (.int .i64 asset)∧u.cell? ⟨N,3,none⟩=some (.int .i64 amount)∧u.cell? ⟨N,6,none⟩=some (.string (strOfNums hash))∧u.cell? ⟨N,5,none⟩=some (.int .i64 due)) (by kernel_rfl) ⟨(L.out.below (Below.refl _ _).drew).c2,(L.out.below (Below.refl _ _).drew).c3,X.out.drew.cell 1,X.out.drew.cell 2,X.out.drew.cell 3,X.out.drew.cell 6,X.out.drew.cell 5⟩ (fun _=>?_)
        have bb:Below w4.heap.size w4 w4.drew:=(Below.refl _ _).drew
        replace L:=Kept.mk (L.out.below bb);replace X:=Kept.mk X.out.drew;replace Y:=Kept.mk Y.out.drew;replace V:=Kept.mk V.out.drew;replace FP0:=Kept.mk (FP0.out.trans ⟨barOf bb _,fun _ hk=>.inl hk⟩)
        clear bb
        generalize w4.drew=w5 at *
        have KV:=rlock_any L.out.bk party dst asset amount hash due s.clock (by have h1:=HW.out.locks;have h2:=HW.out.len;omega)
        unfold LockPost at KV
        obtain⟨⟨⟨li,le⟩,lb⟩,hle⟩:∃ me,lockB s.b party dst asset amount hash due s.clock=me:=⟨_,rfl⟩
        rw[hle] at KV
        have KV2:=Kept.mk KV;have HME:=Kept.mk hle
        clear KV hle
        refine tk 0 (by assumption) ?_
        simp only[Act.put,zA,zB,zC]
        refine tk 1 (by assumption) ?_
        simp only[Act.put,zA,zB,zC]
        refine tk 2 (by assumption) ?_
        simp only[Act.put,zA,zB,zC]
        refine tk 3 (by assumption) ?_
        simp only[Act.put,zA,zB,zC]
        refine tk 4 (by assumption) ?_
        simp only[Act.put,zA,zB,zC]
        refine tk 5 (by assumption) ?_
        simp only[Act.put,zA,zB,zC]
        refine tk 6 (by assumption) ?_
        simp only[Act.put,zA,zB,zC]
        refine tk 7 (by assumption) ?_
        simp only[Act.put,zA,zB,zC]
        refine tk 8 (by assumption) ?_
        simp only[Act.put,zA,zB,zC]
        refine tk 9 (by assumption) ?_
        simp only[Act.put,zA,zB,zC]
        refine tk 10 (by assumption) ?_
        simp only[Act.put,zA,zB,zC]
        refine tk 11 (by assumption) ?_
        simp only[Act.put,zA,zB,zC]
        refine tk 12 (by assumption) ?_
        simp only[Act.put,zA,zB,zC]
        refine tk 13 (by assumption) ?_
        simp only[Act.put,zA,zB,zC]
        refine tk 14 (by assumption) ?_
        simp only[Act.put,zA,zB,zC]
        refine tk 15 (by assumption) ?_
        simp only[Act.put,zA,zB,zC]
        refine tk 16 (by assumption) ?_
        simp only[Act.put,zA,zB,zC]
        refine tk 17 (by assumption) ?_
        simp only[Act.put,zA,zB,zC]
        refine tk 18 (by assumption) ?_
        simp only[Act.put,zA,zB,zC]
        refine ld 19 (fun K hK=>?_)
        go_simp
        go_at_call 78
        refine KV2.out.mono ?_
        rintro e w6 ⟨rfl,F1,hk,fp⟩
        have hNF:N∉F0:=fun hm=>NO.out (df_mem.2 (.inr (.inl hm)))
        have hRF:R∉F0:=fun hm=>RO.out (df_mem.2 (.inr (.inl hm)))
        have hMF:M∉F0:=fun hm=>MO.out (df_mem.2 (.inr (.inl hm)))
        obtain⟨hL,hfp⟩:=L.out.book hk fp
        replace RO:=Kept.mk (doff RO.out Y.out.lt hfp);replace NO:=Kept.mk (doff NO.out X.out.lt hfp);replace MO:=Kept.mk (doff MO.out V.out.lt hfp)
        replace X:=Kept.mk (X.out.bar fp.1 hNF);replace Y:=Kept.mk (Y.out.bar fp.1 hRF);replace V:=Kept.mk (V.out.bar fp.1 hMF)
        replace L:=Kept.mk hL;replace FP0:=Kept.mk (FP0.out.trans hfp)
        refine hK.out _ _ ⟨L.out.c2,L.out.c3,X.out.cell 1,X.out.cell 2,X.out.cell 3,X.out.cell 6,X.out.cell 5⟩ (fun _=>?_)
        clear hK K KV2 hk fp hL hfp hNF hRF hMF
        refine tk 20 (by assumption) ?_
        simp only[Act.put,zA,zB,zC]
        refine tk 21 (by assumption) ?_
        simp only[Act.put,zA,zB,zC]
        refine tk 22 (by assumption) ?_
        simp only[Act.put,zA,zB,zC]
        refine tk 23 (by assumption) ?_
        simp only[Act.put,zA,zB,zC]
        have m5:=V.out.cell 5;have mf:=V.out.frozen 5
        have hV2:=V.out.set_ 5 (.int .i64 li)
        have bM:Bar [M] w6 (w6.setCell ⟨M,5,none⟩ (.int .i64 li)):=(Bar.refl _ w6).setCell (.inl (by simp)) _
        have hL2:=L.out.keep bM (fun k hk hm=>MO.out (by rw[List.mem_singleton] at hm;rw[← hm];exact hk))
        have FP2:=Kept.mk (dfp FP0.out bM NM.out.2.2)
        refine ld 24 (fun K hK=>?_)
        go_simp
        have X2:=X.out.bar bM (by rw[List.mem_singleton];have:=NM.out;omega);have Y2:=Y.out.bar bM (by rw[List.mem_singleton];have:=NM.out;omega)
        refine hK.out _ _ ⟨hL2.c2,hL2.c3,X2.cell 1,X2.cell 2,X2.cell 3,X2.cell 6,X2.cell 5⟩ (fun _=>?_)
        replace L:=Kept.mk hL2;replace X:=Kept.mk X2;replace Y:=Kept.mk Y2
        replace V:Kept (Blk (w6.setCell ⟨M,5,none⟩ (.int .i64 li)) M 71 #[.int .i64 2,.int .i64 party,.int .i64 dst,.int .i64 asset,.int .i64 amount,.int .i64 li,.int .i64 due,.string (strOfNums hash),.string (strOfNums sec)]):=⟨by simpa using hV2⟩
        clear hK K hL2 X2 Y2 hV2 bM m5 mf FP0
        generalize (w6.setCell ⟨M,5,none⟩ (.int .i64 li))=w7 at *
        refine tk 25 (by assumption) ?_
        simp only[Act.put,zA,zB,zC]
        refine wpAnyH_done (by kernel_rfl) ?_ _
        refine NoPanic.normal ?_
        have MT:Kept (Met w w7 party ⟨2,dst,asset,amount,id,due,hash,sec⟩ s x b q N R M st d d1 d2 F0 F1 li le lb ⟨2,party,dst,asset,amount,li,due,hash,sec⟩):=⟨⟨by unfold actL;rw[if_neg (show ¬ ((2:Int)=1) by decide),if_pos rfl,if_neg (by rw[HF.out];simp)];exact HME.out,fun _=>by simp[evOf],L.out,FP2.out,X.out,Y.out,V.out,NO.out,RO.out,MO.out⟩⟩
        go_wp2
        go_meet
        case rel=>exact⟨_,_,_,_,_,rfl,MT⟩
     ·as_aux_lemma =>
      subst hk
      have m1:=V.out.cell 1;have mf:=V.out.frozen 1
      have hV2:=V.out.set_ 1 (.int .i64 0)
      have bM:Bar [M] w3 (w3.setCell ⟨M,1,none⟩ (.int .i64 0)):=(Bar.refl _ w3).setCell (.inl (by simp)) _
      have hL2:=L.out.keep bM (fun k hk hm=>MO.out (by rw[List.mem_singleton] at hm;rw[← hm];exact hk))
      have FP2:=Kept.mk (dfp FP0.out bM NM.out.2.2)
      have X2:=X.out.bar bM (by rw[List.mem_singleton];have:=NM.out;omega);have Y2:=Y.out.bar bM (by rw[List.mem_singleton];have:=NM.out;omega)
      replace L:=Kept.mk hL2;replace X:=Kept.mk X2;replace Y:=Kept.mk Y2;replace FP0:=FP2
      have V2:Kept (Blk (w3.setCell ⟨M,1,none⟩ (.int .i64 0)) M 71 #[.int .i64 3,.int .i64 0,.int .i64 dst,.int .i64 asset,.int .i64 amount,.int .i64 id,.int .i64 due,.string (strOfNums hash),.string (strOfNums sec)]):=⟨by simpa using hV2⟩
      clear hL2 X2 Y2 hV2 bM V FP2
      have V:=V2
      clear V2
      go_upto_region 18 with(fail)
      clear m1 mf h0
      generalize (w3.setCell ⟨M,1,none⟩ (.int .i64 0))=w4 at *
      refine wp_region_noPanic ?_
      refine wp_region_held_drew (S:=fun u:World=>u.cell? ⟨x,2,none⟩=some (.pointer (some ⟨b,0,none⟩))∧u.cell? ⟨x,3,none⟩=some (.int .i64 s.clock)∧u.cell? ⟨N,4,none⟩=some (.int .i64 id)∧u.cell? ⟨N,7,none⟩=some (.string (strOfNums sec))) (by kernel_rfl) ⟨(L.out.below (Below.refl _ _).drew).c2,(L.out.below (Below.refl _ _).drew).c3,X.out.drew.cell 4,X.out.drew.cell 7⟩ (fun _=>?_)
      have bb:Below w4.heap.size w4 w4.drew:=(Below.refl _ _).drew
      replace L:=Kept.mk (L.out.below bb);replace X:=Kept.mk X.out.drew;replace Y:=Kept.mk Y.out.drew;replace V:=Kept.mk V.out.drew;replace FP0:=Kept.mk (FP0.out.trans ⟨barOf bb _,fun _ hk=>.inl hk⟩)
      clear bb
      generalize w4.drew=w5 at *
      have KV:=rclaim_any L.out.bk party id s.clock sec HR.out.2 (fun k hk=>(HW.out.wb.each k hk).2.2.2.2.2.1)
      unfold BookPost at KV
      obtain⟨⟨le,lb⟩,hle⟩:∃ me,claimB s.b party id sec s.clock=me:=⟨_,rfl⟩
      rw[hle] at KV
      have KV2:=Kept.mk KV;have HME:=Kept.mk hle
      clear KV hle
      refine tk 0 (by assumption) ?_
      simp only[Act.put,zA,zB,zC]
      refine tk 1 (by assumption) ?_
      simp only[Act.put,zA,zB,zC]
      refine tk 2 (by assumption) ?_
      simp only[Act.put,zA,zB,zC]
      refine tk 3 (by assumption) ?_
      simp only[Act.put,zA,zB,zC]
      refine tk 4 (by assumption) ?_
      simp only[Act.put,zA,zB,zC]
      refine tk 5 (by assumption) ?_
      simp only[Act.put,zA,zB,zC]
      refine tk 6 (by assumption) ?_
      simp only[Act.put,zA,zB,zC]
      refine tk 7 (by assumption) ?_
      simp only[Act.put,zA,zB,zC]
      refine tk 8 (by assumption) ?_
      simp only[Act.put,zA,zB,zC]
      refine tk 9 (by assumption) ?_
      simp only[Act.put,zA,zB,zC]
      refine tk 10 (by assumption) ?_
      simp only[Act.put,zA,zB,zC]
      refine tk 11 (by assumption) ?_
      simp only[Act.put,zA,zB,zC]
      refine tk 12 (by assumption) ?_
      simp only[Act.put,zA,zB,zC]
      refine ld 13 (fun K hK=>?_)
      go_simp
      go_at_call 79
      refine KV2.out.mono ?_
      rintro e w6 ⟨rfl,F1,hk,fp⟩
      have hNF:N∉F0:=fun hm=>NO.out (df_mem.2 (.inr (.inl hm)))
      have hRF:R∉F0:=fun hm=>RO.out (df_mem.2 (.inr (.inl hm)))
      have hMF:M∉F0:=fun hm=>MO.out (df_mem.2 (.inr (.inl hm)))
      obtain⟨hL,hfp⟩:=L.out.book hk fp
      replace RO:=Kept.mk (doff RO.out Y.out.lt hfp);replace NO:=Kept.mk (doff NO.out X.out.lt hfp);replace MO:=Kept.mk (doff MO.out V.out.lt hfp)
      replace X:=Kept.mk (X.out.bar fp.1 hNF);replace Y:=Kept.mk (Y.out.bar fp.1 hRF);replace V:=Kept.mk (V.out.bar fp.1 hMF)
      replace L:=Kept.mk hL;replace FP0:=Kept.mk (FP0.out.trans hfp)
      refine hK.out _ _ ⟨L.out.c2,L.out.c3,X.out.cell 4,X.out.cell 7⟩ (fun _=>?_)
      clear hK K KV2 hk fp hL hfp hNF hRF hMF
      refine tk 14 (by assumption) ?_
      simp only[Act.put,zA,zB,zC]
      refine wpAnyH_done (by kernel_rfl) ?_ _
      refine NoPanic.normal ?_
      have MT:Kept (Met w w6 party ⟨3,dst,asset,amount,id,due,hash,sec⟩ s x b q N R M st d d1 d2 F0 F1 0 le lb ⟨3,0,dst,asset,amount,id,due,hash,sec⟩):=⟨⟨by unfold actL;rw[if_neg (show ¬ ((3:Int)=1) by decide),if_neg (show ¬ ((3:Int)=2) by decide),if_pos rfl,HME.out],fun _=>by simp[evOf],L.out,FP0.out,X.out,Y.out,V.out,NO.out,RO.out,MO.out⟩⟩
      go_wp2
      go_meet
      case rel=>exact⟨_,_,_,_,_,rfl,MT⟩
     ·as_aux_lemma =>
      subst hk
      have m1:=V.out.cell 1;have mf:=V.out.frozen 1
      have hV2:=V.out.set_ 1 (.int .i64 0)
      have bM:Bar [M] w3 (w3.setCell ⟨M,1,none⟩ (.int .i64 0)):=(Bar.refl _ w3).setCell (.inl (by simp)) _
      have hL2:=L.out.keep bM (fun k hk hm=>MO.out (by rw[List.mem_singleton] at hm;rw[← hm];exact hk))
      have FP2:=Kept.mk (dfp FP0.out bM NM.out.2.2)
      have X2:=X.out.bar bM (by rw[List.mem_singleton];have:=NM.out;omega);have Y2:=Y.out.bar bM (by rw[List.mem_singleton];have:=NM.out;omega)
      replace L:=Kept.mk hL2;replace X:=Kept.mk X2;replace Y:=Kept.mk Y2;replace FP0:=FP2
      have V2:Kept (Blk (w3.setCell ⟨M,1,none⟩ (.int .i64 0)) M 71 #[.int .i64 4,.int .i64 0,.int .i64 dst,.int .i64 asset,.int .i64 amount,.int .i64 id,.int .i64 due,.string (strOfNums hash),.string (strOfNums sec)]):=⟨by simpa using hV2⟩
      clear hL2 X2 Y2 hV2 bM V FP2
      have V:=V2
      clear V2
      go_upto_region 21 with(fail)
      clear m1 mf h0
      generalize (w3.setCell ⟨M,1,none⟩ (.int .i64 0))=w4 at *
      refine wp_region_noPanic ?_
      refine wp_region_held_drew (S:=fun u:World=>u.cell? ⟨x,2,none⟩=some (.pointer (some ⟨b,0,none⟩))∧u.cell? ⟨x,3,none⟩=some (.int .i64 s.clock)∧u.cell? ⟨N,4,none⟩=some (.int .i64 id)) (by kernel_rfl) ⟨(L.out.below (Below.refl _ _).drew).c2,(L.out.below (Below.refl _ _).drew).c3,X.out.drew.cell 4⟩ (fun _=>?_)
      have bb:Below w4.heap.size w4 w4.drew:=(Below.refl _ _).drew
      replace L:=Kept.mk (L.out.below bb);replace X:=Kept.mk X.out.drew;replace Y:=Kept.mk Y.out.drew;replace V:=Kept.mk V.out.drew;replace FP0:=Kept.mk (FP0.out.trans ⟨barOf bb _,fun _ hk=>.inl hk⟩)
      clear bb
      generalize w4.drew=w5 at *
      have KV:=rrefund_any L.out.bk party id s.clock
      unfold BookPost at KV
      obtain⟨⟨le,lb⟩,hle⟩:∃ me,refundB s.b party id s.clock=me:=⟨_,rfl⟩
      rw[hle] at KV
      have KV2:=Kept.mk KV;have HME:=Kept.mk hle
      clear KV hle
      refine tk 0 (by assumption) ?_
      simp only[Act.put,zA,zB,zC]
      refine tk 1 (by assumption) ?_
      simp only[Act.put,zA,zB,zC]
      refine tk 2 (by assumption) ?_
      simp only[Act.put,zA,zB,zC]
      refine tk 3 (by assumption) ?_
      simp only[Act.put,zA,zB,zC]
      refine tk 4 (by assumption) ?_
      simp only[Act.put,zA,zB,zC]
      refine tk 5 (by assumption) ?_
      simp only[Act.put,zA,zB,zC]
      refine tk 6 (by assumption) ?_
      simp only[Act.put,zA,zB,zC]
      refine tk 7 (by assumption) ?_
      simp only[Act.put,zA,zB,zC]
      refine tk 8 (by assumption) ?_
      simp only[Act.put,zA,zB,zC]
      refine tk 9 (by assumption) ?_
      simp only[Act.put,zA,zB,zC]
      refine tk 10 (by assumption) ?_
      simp only[Act.put,zA,zB,zC]
      refine ld 11 (fun K hK=>?_)
      go_simp
      go_at_call 80
      refine KV2.out.mono ?_
      rintro e w6 ⟨rfl,F1,hk,fp⟩
      have hNF:N∉F0:=fun hm=>NO.out (df_mem.2 (.inr (.inl hm)))
      have hRF:R∉F0:=fun hm=>RO.out (df_mem.2 (.inr (.inl hm)))
      have hMF:M∉F0:=fun hm=>MO.out (df_mem.2 (.inr (.inl hm)))
      obtain⟨hL,hfp⟩:=L.out.book hk fp
      replace RO:=Kept.mk (doff RO.out Y.out.lt hfp);replace NO:=Kept.mk (doff NO.out X.out.lt hfp);replace MO:=Kept.mk (doff MO.out V.out.lt hfp)
      replace X:=Kept.mk (X.out.bar fp.1 hNF);replace Y:=Kept.mk (Y.out.bar fp.1 hRF);replace V:=Kept.mk (V.out.bar fp.1 hMF)
      replace L:=Kept.mk hL;replace FP0:=Kept.mk (FP0.out.trans hfp)
      refine hK.out _ _ ⟨L.out.c2,L.out.c3,X.out.cell 4⟩ (fun _=>?_)
      clear hK K KV2 hk fp hL hfp hNF hRF hMF
      refine tk 12 (by assumption) ?_
      simp only[Act.put,zA,zB,zC]
      refine wpAnyH_done (by kernel_rfl) ?_ _
      refine NoPanic.normal ?_
      have MT:Kept (Met w w6 party ⟨4,dst,asset,amount,id,due,hash,sec⟩ s x b q N R M st d d1 d2 F0 F1 0 le lb ⟨4,0,dst,asset,amount,id,due,hash,sec⟩):=⟨⟨by unfold actL;rw[if_neg (show ¬ ((4:Int)=1) by decide),if_neg (show ¬ ((4:Int)=2) by decide),if_neg (show ¬ ((4:Int)=3) by decide),HME.out],fun _=>by simp[evOf],L.out,FP0.out,X.out,Y.out,V.out,NO.out,RO.out,MO.out⟩⟩
      go_wp2
      go_meet
      case rel=>exact⟨_,_,_,_,_,rfl,MT⟩
    case rest =>
    clear L X Y V B h0
    obtain⟨F1,di,de,db,ve,rfl,MT⟩:=hcut
    generalize wc=w8 at *
    have L:=Kept.mk MT.out.l;have FP:=Kept.mk MT.out.fp;have X:=Kept.mk MT.out.n;have Y:=Kept.mk MT.out.r;have V:=Kept.mk MT.out.m;have RO:=Kept.mk MT.out.or;have NO:=Kept.mk MT.out.on;have MO:=Kept.mk MT.out.om
    have HA:=Kept.mk MT.out.act;have HV:=Kept.mk MT.out.ev
    clear MT OF
    unfold rvC at X
    dsimp only at X
    have WR:Kept (w.heap.size≤R):=⟨NR.out.2.2⟩
    by_cases hde:de=0
    ·subst hde
     have hve:=HV.out rfl
     subst hve
     have hs2:=HO.out
     unfold oneL at hs2
     rw[if_pos ⟨HM.out,HP.out⟩,HA.out,if_pos rfl] at hs2
     injection hs2 with he1 he2
     injection he1 with he3 he4
     dsimp only at he2 he3 he4
     have HE:=Kept.mk he3;have HS:=Kept.mk he2
     subst he4
     clear he2 he3
     obtain⟨A,c,hd,-,hc,hcm,-⟩:=L.out.events
     obtain⟨A1,c1,hd1,-,hc1,hcm1,-⟩:=L.out.whos
     obtain⟨A2,c2,hd2,-,hc2,hcm2,-⟩:=L.out.nows
     dsimp only at hd hd1 hd2 hc hc1 hc2
     subst hd hd1 hd2
     obtain⟨ve,hve⟩:∃ ve,evOf party di ⟨kind,dst,asset,amount,id,due,hash,sec⟩=ve:=⟨_,rfl⟩
     have HVE:=Kept.mk hve
     rw[hve] at V
     have HEI:Kept (kind=2→ve.id=di):=⟨fun h=>by rw[← hve];simp[evOf,h]⟩
     clear hve HV
     obtain⟨ek,es,ed,ea,en,ei,eu,eh,ec⟩:=ve
     dsimp only at HEI
     have V2:Kept (Blk w8 M 71 #[.int .i64 ek,.int .i64 es,.int .i64 ed,.int .i64 ea,.int .i64 en,.int .i64 ei,.int .i64 eu,.string (strOfNums eh),.string (strOfNums ec)]):=V
     clear V
     have HLN:Kept (s.e.length≤400):=⟨HW.out.len⟩
     have kcl:=L.out.c3
     go_upto_region 24 with(fail)
     clear kcl
     go_cut [140] (fun cz wx=>∃ (v0 v1 v2:Value),Kept (Dp wx F1 x b q st v0 v1 v2 s2)∧Kept (Fp (df x F0 (.slice A s.e.length c) (.slice A1 s.e.length c1) (.slice A2 s.e.length c2)) (df x F1 v0 v1 v2) w wx)∧Kept (Blk wx R 63 #[.int .i64 0,.int .i64 0])∧Kept (R∉df x F1 v0 v1 v2)∧Kept (Blk wx N 65 #[.int .i64 kind,.int .i64 dst,.int .i64 asset,.int .i64 amount,.int .i64 id,.int .i64 due,.string (strOfNums hash),.string (strOfNums sec)])∧Kept (Blk wx M 71 #[.int .i64 ek,.int .i64 es,.int .i64 ed,.int .i64 ea,.int .i64 en,.int .i64 ei,.int .i64 eu,.string (strOfNums eh),.string (strOfNums ec)]))
     case first =>
      have bb:Below w8.heap.size w8 w8.drew:=(Below.refl _ _).drew
      replace L:=Kept.mk (L.out.below bb);replace X:=Kept.mk X.out.drew;replace Y:=Kept.mk Y.out.drew;replace V2:=Kept.mk V2.out.drew;replace FP:=Kept.mk (FP.out.trans ⟨barOf bb _,fun _ hk=>.inl hk⟩)
      have HX:Kept (M∉own3 (.slice A s.e.length c) (.slice A1 s.e.length c1) (.slice A2 s.e.length c2)):=⟨fun hm=>MO.out (df_mem.2 (.inr (.inr hm)))⟩
      have HNS:Kept (∀ u,Bar (own3 (.slice A s.e.length c) (.slice A1 s.e.length c1) (.slice A2 s.e.length c2)) w8.drew u→u.cell? ⟨x,3,none⟩=some (.int .i64 s.clock)∧u.cell? ⟨x,4,none⟩=some (.slice A s.e.length c)∧u.cell? ⟨x,5,none⟩=some (.slice A1 s.e.length c1)∧u.cell? ⟨x,6,none⟩=some (.slice A2 s.e.length c2)∧u.cell? ⟨M,0,none⟩=some (.int .i64 ek)∧u.cell? ⟨M,1,none⟩=some (.int .i64 es)∧u.cell? ⟨M,2,none⟩=some (.int .i64 ed)∧u.cell? ⟨M,3,none⟩=some (.int .i64 ea)∧u.cell? ⟨M,4,none⟩=some (.int .i64 en)∧u.cell? ⟨M,5,none⟩=some (.int .i64 ei)∧u.cell? ⟨M,6,none⟩=some (.int .i64 eu)∧u.cell? ⟨M,7,none⟩=some (.string (strOfNums eh))∧u.cell? ⟨M,8,none⟩=some (.string (strOfNums ec))):=⟨fun u hb=>by
       have k1:=L.out.blk.bar hb (fun hm=>L.out.dx _ hm rfl)
       have k2:=V2.out.bar hb HX.out
       exact⟨k1.cell 3,k1.cell 4,k1.cell 5,k1.cell 6,k2.cell 0,k2.cell 1,k2.cell 2,k2.cell 3,k2.cell 4,k2.cell 5,k2.cell 6,k2.cell 7,k2.cell 8⟩⟩
      refine wp_region_noPanic ?_
      refine wp_region_W [29,32,35] (S:=fun u:World=>u.cell? ⟨x,3,none⟩=some (.int .i64 s.clock)∧u.cell? ⟨x,4,none⟩=some (.slice A s.e.length c)∧u.cell? ⟨x,5,none⟩=some (.slice A1 s.e.length c1)∧u.cell? ⟨x,6,none⟩=some (.slice A2 s.e.length c2)∧u.cell? ⟨M,0,none⟩=some (.int .i64 ek)∧u.cell? ⟨M,1,none⟩=some (.int .i64 es)∧u.cell? ⟨M,2,none⟩=some (.int .i64 ed)∧u.cell? ⟨M,3,none⟩=some (.int .i64 ea)∧u.cell? ⟨M,4,none⟩=some (.int .i64 en)∧u.cell? ⟨M,5,none⟩=some (.int .i64 ei)∧u.cell? ⟨M,6,none⟩=some (.int .i64 eu)∧u.cell? ⟨M,7,none⟩=some (.string (strOfNums eh))∧u.cell? ⟨M,8,none⟩=some (.string (strOfNums ec))) (by kernel_rfl) (HNS.out _ (Bar.refl _ _)) (fun hS9=>?_)
      clear bb
      have T:Kept (Tr w8.drew w8.drew (.slice A s.e.length c) (.slice A1 s.e.length c1) (.slice A2 s.e.length c2) (.slice A s.e.length c) (.slice A1 s.e.length c1) (.slice A2 s.e.length c2) (evs s) (who s) (whens s) []):=⟨Tr.start (s:=⟨s.cap,db,s.clock,s.e⟩) L.out⟩
      have HSZ:Kept ((evs s).length≤400∧(who s).length≤400∧(whens s).length≤400):=⟨by rw[evs_len,who_len,whens_len];have:=HLN.out;omega⟩
      have HS2:Kept ((⟨s.cap,db,s.clock,s.e++[⟨⟨ek,es,ed,ea,en,ei,eu,eh,ec⟩,party,s.clock⟩]⟩:LS)=s2):=⟨by rw[← HVE.out];exact HS.out⟩
      generalize w8.drew=w9 at *
      refine frW 0 (fun _=>by assumption) ?_
      simp only[Act.put,zA,zB,zC]
      refine frW 1 (fun _=>by assumption) ?_
      simp only[Act.put,zA,zB,zC]
      refine frW 2 (fun _=>by assumption) ?_
      simp only[Act.put,zA,zB,zC]
      refine frW 3 (fun _=>by assumption) ?_
      simp only[Act.put,zA,zB,zC]
      refine frW 4 (fun _=>by assumption) ?_
      simp only[Act.put,zA,zB,zC]
      refine frW 5 (fun _=>by assumption) ?_
      simp only[Act.put,zA,zB,zC]
      refine tkW 6 (by assumption) ?_
      simp only[Act.put,zA,zB,zC]
      refine tkW 7 (by assumption) ?_
      simp only[Act.put,zA,zB,zC]
      refine frW 10 (fun _=>by assumption) ?_
      simp only[Act.put,zA,zB,zC]
      refine frW 11 (fun _=>by assumption) ?_
      simp only[Act.put,zA,zB,zC]
      refine frW 12 (fun _=>by assumption) ?_
      simp only[Act.put,zA,zB,zC]
      refine tkW 13 (by assumption) ?_
      simp only[Act.put,zA,zB,zC]
      refine frW 14 (fun _=>by assumption) ?_
      simp only[Act.put,zA,zB,zC]
      refine frW 17 (fun _=>by assumption) ?_
      simp only[Act.put,zA,zB,zC]
      refine frW 18 (fun _=>by assumption) ?_
      simp only[Act.put,zA,zB,zC]
      refine frW 19 (fun _=>by assumption) ?_
      simp only[Act.put,zA,zB,zC]
      refine tkW 20 (by assumption) ?_
      simp only[Act.put,zA,zB,zC]
      refine frW 21 (fun _=>by assumption) ?_
      simp only[Act.put,zA,zB,zC]
      refine frW 22 (fun _=>by assumption) ?_
      simp only[Act.put,zA,zB,zC]
      refine frW 23 (fun _=>by assumption) ?_
      simp only[Act.put,zA,zB,zC]
      refine tkW 24 (by assumption) ?_
      simp only[Act.put,zA,zB,zC]
      refine ldW3 8 15 25 (fun K hK=>?a0_0) (fun K hK=>?a0_1) (fun K hK=>?a0_2)
      case' a0_0 =>
       go_simp
       have hT:=T.out.alloc #[.int .i64 ek,.int .i64 es,.int .i64 ed,.int .i64 ea,.int .i64 en,.int .i64 ei,.int .i64 eu,.string (strOfNums eh),.string (strOfNums ec)] 71
       have hS10:=HNS.out _ hT.bar
       refine hK.out _ _ (fun _=>hS10) (fun _=>?_)
       replace T:=Kept.mk hT
       clear hK K hS9 hT
       generalize (w9.alloc (.cells #[.int .i64 ek,.int .i64 es,.int .i64 ed,.int .i64 ea,.int .i64 en,.int .i64 ei,.int .i64 eu,.string (strOfNums eh),.string (strOfNums ec)] 71))=w10 at *
       generalize w9.heap.size=g10 at *
       try simp only[Act.put,zA,zB,zC]
      refine ldW3 9 15 25 (fun K hK=>?a1_0) (fun K hK=>?a1_1) (fun K hK=>?a1_2)
      case' a1_0 =>
       refine T.out.step0 HSZ.out.1 g10 ⟨ek,es,ed,ea,en,ei,eu,eh,ec⟩ (List.mem_cons_self ..) _ _ ?_
       intro r0 k0 w11 hT
       have hS11:=HNS.out _ hT.bar
       refine hK.out _ _ (fun _=>hS11) (fun _=>?_)
       replace T:=Kept.mk hT
       clear hK K hS10 hT
       try simp only[Act.put,zA,zB,zC]
      refine ldW2 15 25 (fun K hK=>?a2_0) (fun K hK=>?a2_1)
      case' a2_0 =>
       go_simp
       have hT:=T.out.alloc #[.int .i64 party] 3
       have hS12:=HNS.out _ hT.bar
       refine hK.out _ _ (fun _=>hS12) (fun _=>?_)
       replace T:=Kept.mk hT
       clear hK K hS11 hT
       generalize (w11.alloc (.cells #[.int .i64 party] 3))=w12 at *
       generalize w11.heap.size=g12 at *
       try simp only[Act.put,zA,zB,zC]
      refine ldW2 16 25 (fun K hK=>?a3_0) (fun K hK=>?a3_1)
      case' a3_0 =>
       refine T.out.step1 HSZ.out.2.1 g12 party (List.mem_cons_self ..) _ _ ?_
       intro r1 k1 w13 hT
       have hS13:=HNS.out _ hT.bar
       refine hK.out _ _ (fun _=>hS13) (fun _=>?_)
       replace T:=Kept.mk hT
       clear hK K hS12 hT
       try simp only[Act.put,zA,zB,zC]
      refine ldW 25 (fun K hK=>?_)
      go_simp
      have hT:=T.out.alloc #[.int .i64 s.clock] 3
      have hS14:=HNS.out _ hT.bar
      refine hK.out _ _ (fun _=>hS14) (fun _=>?_)
      replace T:=Kept.mk hT
      clear hK K hS13 hT
      generalize (w13.alloc (.cells #[.int .i64 s.clock] 3))=w14 at *
      generalize w13.heap.size=g14 at *
      try simp only[Act.put,zA,zB,zC]
      refine ldW 26 (fun K hK=>?_)
      refine T.out.step2 HSZ.out.2.2 g14 s.clock (List.mem_cons_self ..) _ _ ?_
      intro r2 k2 w15 hT
      have hS15:=HNS.out _ hT.bar
      refine hK.out _ _ (fun _=>hS15) (fun _=>?_)
      replace T:=Kept.mk hT
      clear hK K hS14 hT
      try simp only[Act.put,zA,zB,zC]
      case' a3_1 =>
       go_simp
       have hT:=T.out.alloc #[.int .i64 s.clock] 3
       have hS13:=HNS.out _ hT.bar
       refine hK.out _ _ (fun _=>hS13) (fun _=>?_)
       replace T:=Kept.mk hT
       clear hK K hS12 hT
       generalize (w12.alloc (.cells #[.int .i64 s.clock] 3))=w13 at *
       generalize w12.heap.size=g13 at *
       try simp only[Act.put,zA,zB,zC]
      refine ldW 16 (fun K hK=>?_)
      refine T.out.step1 HSZ.out.2.1 g12 party (List.mem_cons_of_mem _ (List.mem_cons_self ..)) _ _ ?_
      intro r1 k1 w14 hT
      have hS14:=HNS.out _ hT.bar
      refine hK.out _ _ (fun _=>hS14) (fun _=>?_)
      replace T:=Kept.mk hT
      clear hK K hS13 hT
      try simp only[Act.put,zA,zB,zC]
      refine ldW 26 (fun K hK=>?_)
      refine T.out.step2 HSZ.out.2.2 g13 s.clock (List.mem_cons_self ..) _ _ ?_
      intro r2 k2 w15 hT
      have hS15:=HNS.out _ hT.bar
      refine hK.out _ _ (fun _=>hS15) (fun _=>?_)
      replace T:=Kept.mk hT
      clear hK K hS14 hT
      try simp only[Act.put,zA,zB,zC]
      case' a2_1 =>
       go_simp
       have hT:=T.out.alloc #[.int .i64 s.clock] 3
       have hS12:=HNS.out _ hT.bar
       refine hK.out _ _ (fun _=>hS12) (fun _=>?_)
       replace T:=Kept.mk hT
       clear hK K hS11 hT
       generalize (w11.alloc (.cells #[.int .i64 s.clock] 3))=w12 at *
       generalize w11.heap.size=g12 at *
       try simp only[Act.put,zA,zB,zC]
      refine ldW 15 (fun K hK=>?_)
      go_simp
      have hT:=T.out.alloc #[.int .i64 party] 3
      have hS13:=HNS.out _ hT.bar
      refine hK.out _ _ (fun _=>hS13) (fun _=>?_)
      replace T:=Kept.mk hT
      clear hK K hS12 hT
      generalize (w12.alloc (.cells #[.int .i64 party] 3))=w13 at *
      generalize w12.heap.size=g13 at *
      try simp only[Act.put,zA,zB,zC]
      refine ldW 16 (fun K hK=>?_)
      refine T.out.step1 HSZ.out.2.1 g13 party (List.mem_cons_self ..) _ _ ?_
      intro r1 k1 w14 hT
      have hS14:=HNS.out _ hT.bar
      refine hK.out _ _ (fun _=>hS14) (fun _=>?_)
      replace T:=Kept.mk hT
      clear hK K hS13 hT
      try simp only[Act.put,zA,zB,zC]
      refine ldW 26 (fun K hK=>?_)
      refine T.out.step2 HSZ.out.2.2 g12 s.clock (List.mem_cons_of_mem _ (List.mem_cons_self ..)) _ _ ?_
      intro r2 k2 w15 hT
      have hS15:=HNS.out _ hT.bar
      refine hK.out _ _ (fun _=>hS15) (fun _=>?_)
      replace T:=Kept.mk hT
      clear hK K hS14 hT
      try simp only[Act.put,zA,zB,zC]
      case' a1_1 =>
       go_simp
       have hT:=T.out.alloc #[.int .i64 party] 3
       have hS11:=HNS.out _ hT.bar
       refine hK.out _ _ (fun _=>hS11) (fun _=>?_)
       replace T:=Kept.mk hT
       clear hK K hS10 hT
       generalize (w10.alloc (.cells #[.int .i64 party] 3))=w11 at *
       generalize w10.heap.size=g11 at *
       try simp only[Act.put,zA,zB,zC]
      refine ldW2 9 25 (fun K hK=>?a14_0) (fun K hK=>?a14_1)
      case' a14_0 =>
       refine T.out.step0 HSZ.out.1 g10 ⟨ek,es,ed,ea,en,ei,eu,eh,ec⟩ (List.mem_cons_of_mem _ (List.mem_cons_self ..)) _ _ ?_
       intro r0 k0 w12 hT
       have hS12:=HNS.out _ hT.bar
       refine hK.out _ _ (fun _=>hS12) (fun _=>?_)
       replace T:=Kept.mk hT
       clear hK K hS11 hT
       try simp only[Act.put,zA,zB,zC]
      refine ldW2 16 25 (fun K hK=>?a15_0) (fun K hK=>?a15_1)
      case' a15_0 =>
       refine T.out.step1 HSZ.out.2.1 g11 party (List.mem_cons_self ..) _ _ ?_
       intro r1 k1 w13 hT
       have hS13:=HNS.out _ hT.bar
       refine hK.out _ _ (fun _=>hS13) (fun _=>?_)
       replace T:=Kept.mk hT
       clear hK K hS12 hT
       try simp only[Act.put,zA,zB,zC]
      refine ldW 25 (fun K hK=>?_)
      go_simp
      have hT:=T.out.alloc #[.int .i64 s.clock] 3
      have hS14:=HNS.out _ hT.bar
      refine hK.out _ _ (fun _=>hS14) (fun _=>?_)
      replace T:=Kept.mk hT
      clear hK K hS13 hT
      generalize (w13.alloc (.cells #[.int .i64 s.clock] 3))=w14 at *
      generalize w13.heap.size=g14 at *
      try simp only[Act.put,zA,zB,zC]
      refine ldW 26 (fun K hK=>?_)
      refine T.out.step2 HSZ.out.2.2 g14 s.clock (List.mem_cons_self ..) _ _ ?_
      intro r2 k2 w15 hT
      have hS15:=HNS.out _ hT.bar
      refine hK.out _ _ (fun _=>hS15) (fun _=>?_)
      replace T:=Kept.mk hT
      clear hK K hS14 hT
      try simp only[Act.put,zA,zB,zC]
      case' a15_1 =>
       go_simp
       have hT:=T.out.alloc #[.int .i64 s.clock] 3
       have hS13:=HNS.out _ hT.bar
       refine hK.out _ _ (fun _=>hS13) (fun _=>?_)
       replace T:=Kept.mk hT
       clear hK K hS12 hT
       generalize (w12.alloc (.cells #[.int .i64 s.clock] 3))=w13 at *
       generalize w12.heap.size=g13 at *
       try simp only[Act.put,zA,zB,zC]
      refine ldW 16 (fun K hK=>?_)
      refine T.out.step1 HSZ.out.2.1 g11 party (List.mem_cons_of_mem _ (List.mem_cons_self ..)) _ _ ?_
      intro r1 k1 w14 hT
      have hS14:=HNS.out _ hT.bar
      refine hK.out _ _ (fun _=>hS14) (fun _=>?_)
      replace T:=Kept.mk hT
      clear hK K hS13 hT
      try simp only[Act.put,zA,zB,zC]
      refine ldW 26 (fun K hK=>?_)
      refine T.out.step2 HSZ.out.2.2 g13 s.clock (List.mem_cons_self ..) _ _ ?_
      intro r2 k2 w15 hT
      have hS15:=HNS.out _ hT.bar
      refine hK.out _ _ (fun _=>hS15) (fun _=>?_)
      replace T:=Kept.mk hT
      clear hK K hS14 hT
      try simp only[Act.put,zA,zB,zC]
      case' a14_1 =>
       go_simp
       have hT:=T.out.alloc #[.int .i64 s.clock] 3
       have hS12:=HNS.out _ hT.bar
       refine hK.out _ _ (fun _=>hS12) (fun _=>?_)
       replace T:=Kept.mk hT
       clear hK K hS11 hT
       generalize (w11.alloc (.cells #[.int .i64 s.clock] 3))=w12 at *
       generalize w11.heap.size=g12 at *
       try simp only[Act.put,zA,zB,zC]
      refine ldW 9 (fun K hK=>?_)
      refine T.out.step0 HSZ.out.1 g10 ⟨ek,es,ed,ea,en,ei,eu,eh,ec⟩ (List.mem_cons_of_mem _ (List.mem_cons_of_mem _ (List.mem_cons_self ..))) _ _ ?_
      intro r0 k0 w13 hT
      have hS13:=HNS.out _ hT.bar
      refine hK.out _ _ (fun _=>hS13) (fun _=>?_)
      replace T:=Kept.mk hT
      clear hK K hS12 hT
      try simp only[Act.put,zA,zB,zC]
      refine ldW 16 (fun K hK=>?_)
      refine T.out.step1 HSZ.out.2.1 g11 party (List.mem_cons_of_mem _ (List.mem_cons_self ..)) _ _ ?_
      intro r1 k1 w14 hT
      have hS14:=HNS.out _ hT.bar
      refine hK.out _ _ (fun _=>hS14) (fun _=>?_)
      replace T:=Kept.mk hT
      clear hK K hS13 hT
      try simp only[Act.put,zA,zB,zC]
      refine ldW 26 (fun K hK=>?_)
      refine T.out.step2 HSZ.out.2.2 g12 s.clock (List.mem_cons_self ..) _ _ ?_
      intro r2 k2 w15 hT
      have hS15:=HNS.out _ hT.bar
      refine hK.out _ _ (fun _=>hS15) (fun _=>?_)
      replace T:=Kept.mk hT
      clear hK K hS14 hT
      try simp only[Act.put,zA,zB,zC]
      case' a1_2 =>
       go_simp
       have hT:=T.out.alloc #[.int .i64 s.clock] 3
       have hS11:=HNS.out _ hT.bar
       refine hK.out _ _ (fun _=>hS11) (fun _=>?_)
       replace T:=Kept.mk hT
       clear hK K hS10 hT
       generalize (w10.alloc (.cells #[.int .i64 s.clock] 3))=w11 at *
       generalize w10.heap.size=g11 at *
       try simp only[Act.put,zA,zB,zC]
      refine ldW2 9 15 (fun K hK=>?a26_0) (fun K hK=>?a26_1)
      case' a26_0 =>
       refine T.out.step0 HSZ.out.1 g10 ⟨ek,es,ed,ea,en,ei,eu,eh,ec⟩ (List.mem_cons_of_mem _ (List.mem_cons_self ..)) _ _ ?_
       intro r0 k0 w12 hT
       have hS12:=HNS.out _ hT.bar
       refine hK.out _ _ (fun _=>hS12) (fun _=>?_)
       replace T:=Kept.mk hT
       clear hK K hS11 hT
       try simp only[Act.put,zA,zB,zC]
      refine ldW 15 (fun K hK=>?_)
      go_simp
      have hT:=T.out.alloc #[.int .i64 party] 3
      have hS13:=HNS.out _ hT.bar
      refine hK.out _ _ (fun _=>hS13) (fun _=>?_)
      replace T:=Kept.mk hT
      clear hK K hS12 hT
      generalize (w12.alloc (.cells #[.int .i64 party] 3))=w13 at *
      generalize w12.heap.size=g13 at *
      try simp only[Act.put,zA,zB,zC]
      refine ldW 16 (fun K hK=>?_)
      refine T.out.step1 HSZ.out.2.1 g13 party (List.mem_cons_self ..) _ _ ?_
      intro r1 k1 w14 hT
      have hS14:=HNS.out _ hT.bar
      refine hK.out _ _ (fun _=>hS14) (fun _=>?_)
      replace T:=Kept.mk hT
      clear hK K hS13 hT
      try simp only[Act.put,zA,zB,zC]
      refine ldW 26 (fun K hK=>?_)
      refine T.out.step2 HSZ.out.2.2 g11 s.clock (List.mem_cons_of_mem _ (List.mem_cons_self ..)) _ _ ?_
      intro r2 k2 w15 hT
      have hS15:=HNS.out _ hT.bar
      refine hK.out _ _ (fun _=>hS15) (fun _=>?_)
      replace T:=Kept.mk hT
      clear hK K hS14 hT
      try simp only[Act.put,zA,zB,zC]
      case' a26_1 =>
       go_simp
       have hT:=T.out.alloc #[.int .i64 party] 3
       have hS12:=HNS.out _ hT.bar
       refine hK.out _ _ (fun _=>hS12) (fun _=>?_)
       replace T:=Kept.mk hT
       clear hK K hS11 hT
       generalize (w11.alloc (.cells #[.int .i64 party] 3))=w12 at *
       generalize w11.heap.size=g12 at *
       try simp only[Act.put,zA,zB,zC]
      refine ldW 9 (fun K hK=>?_)
      refine T.out.step0 HSZ.out.1 g10 ⟨ek,es,ed,ea,en,ei,eu,eh,ec⟩ (List.mem_cons_of_mem _ (List.mem_cons_of_mem _ (List.mem_cons_self ..))) _ _ ?_
      intro r0 k0 w13 hT
      have hS13:=HNS.out _ hT.bar
      refine hK.out _ _ (fun _=>hS13) (fun _=>?_)
      replace T:=Kept.mk hT
      clear hK K hS12 hT
      try simp only[Act.put,zA,zB,zC]
      refine ldW 16 (fun K hK=>?_)
      refine T.out.step1 HSZ.out.2.1 g12 party (List.mem_cons_self ..) _ _ ?_
      intro r1 k1 w14 hT
      have hS14:=HNS.out _ hT.bar
      refine hK.out _ _ (fun _=>hS14) (fun _=>?_)
      replace T:=Kept.mk hT
      clear hK K hS13 hT
      try simp only[Act.put,zA,zB,zC]
      refine ldW 26 (fun K hK=>?_)
      refine T.out.step2 HSZ.out.2.2 g11 s.clock (List.mem_cons_of_mem _ (List.mem_cons_self ..)) _ _ ?_
      intro r2 k2 w15 hT
      have hS15:=HNS.out _ hT.bar
      refine hK.out _ _ (fun _=>hS15) (fun _=>?_)
      replace T:=Kept.mk hT
      clear hK K hS14 hT
      try simp only[Act.put,zA,zB,zC]
      case' a0_1 =>
       go_simp
       have hT:=T.out.alloc #[.int .i64 party] 3
       have hS10:=HNS.out _ hT.bar
       refine hK.out _ _ (fun _=>hS10) (fun _=>?_)
       replace T:=Kept.mk hT
       clear hK K hS9 hT
       generalize (w9.alloc (.cells #[.int .i64 party] 3))=w10 at *
       generalize w9.heap.size=g10 at *
       try simp only[Act.put,zA,zB,zC]
      refine ldW2 8 25 (fun K hK=>?a35_0) (fun K hK=>?a35_1)
      case' a35_0 =>
       go_simp
       have hT:=T.out.alloc #[.int .i64 ek,.int .i64 es,.int .i64 ed,.int .i64 ea,.int .i64 en,.int .i64 ei,.int .i64 eu,.string (strOfNums eh),.string (strOfNums ec)] 71
       have hS11:=HNS.out _ hT.bar
       refine hK.out _ _ (fun _=>hS11) (fun _=>?_)
       replace T:=Kept.mk hT
       clear hK K hS10 hT
       generalize (w10.alloc (.cells #[.int .i64 ek,.int .i64 es,.int .i64 ed,.int .i64 ea,.int .i64 en,.int .i64 ei,.int .i64 eu,.string (strOfNums eh),.string (strOfNums ec)] 71))=w11 at *
       generalize w10.heap.size=g11 at *
       try simp only[Act.put,zA,zB,zC]
      refine ldW2 9 25 (fun K hK=>?a36_0) (fun K hK=>?a36_1)
      case' a36_0 =>
       refine T.out.step0 HSZ.out.1 g11 ⟨ek,es,ed,ea,en,ei,eu,eh,ec⟩ (List.mem_cons_self ..) _ _ ?_
       intro r0 k0 w12 hT
       have hS12:=HNS.out _ hT.bar
       refine hK.out _ _ (fun _=>hS12) (fun _=>?_)
       replace T:=Kept.mk hT
       clear hK K hS11 hT
       try simp only[Act.put,zA,zB,zC]
      refine ldW2 16 25 (fun K hK=>?a37_0) (fun K hK=>?a37_1)
      case' a37_0 =>
       refine T.out.step1 HSZ.out.2.1 g10 party (List.mem_cons_of_mem _ (List.mem_cons_self ..)) _ _ ?_
       intro r1 k1 w13 hT
       have hS13:=HNS.out _ hT.bar
       refine hK.out _ _ (fun _=>hS13) (fun _=>?_)
       replace T:=Kept.mk hT
       clear hK K hS12 hT
       try simp only[Act.put,zA,zB,zC]
      refine ldW 25 (fun K hK=>?_)
      go_simp
      have hT:=T.out.alloc #[.int .i64 s.clock] 3
      have hS14:=HNS.out _ hT.bar
      refine hK.out _ _ (fun _=>hS14) (fun _=>?_)
      replace T:=Kept.mk hT
      clear hK K hS13 hT
      generalize (w13.alloc (.cells #[.int .i64 s.clock] 3))=w14 at *
      generalize w13.heap.size=g14 at *
      try simp only[Act.put,zA,zB,zC]
      refine ldW 26 (fun K hK=>?_)
      refine T.out.step2 HSZ.out.2.2 g14 s.clock (List.mem_cons_self ..) _ _ ?_
      intro r2 k2 w15 hT
      have hS15:=HNS.out _ hT.bar
      refine hK.out _ _ (fun _=>hS15) (fun _=>?_)
      replace T:=Kept.mk hT
      clear hK K hS14 hT
      try simp only[Act.put,zA,zB,zC]
      case' a37_1 =>
       go_simp
       have hT:=T.out.alloc #[.int .i64 s.clock] 3
       have hS13:=HNS.out _ hT.bar
       refine hK.out _ _ (fun _=>hS13) (fun _=>?_)
       replace T:=Kept.mk hT
       clear hK K hS12 hT
       generalize (w12.alloc (.cells #[.int .i64 s.clock] 3))=w13 at *
       generalize w12.heap.size=g13 at *
       try simp only[Act.put,zA,zB,zC]
      refine ldW 16 (fun K hK=>?_)
      refine T.out.step1 HSZ.out.2.1 g10 party (List.mem_cons_of_mem _ (List.mem_cons_of_mem _ (List.mem_cons_self ..))) _ _ ?_
      intro r1 k1 w14 hT
      have hS14:=HNS.out _ hT.bar
      refine hK.out _ _ (fun _=>hS14) (fun _=>?_)
      replace T:=Kept.mk hT
      clear hK K hS13 hT
      try simp only[Act.put,zA,zB,zC]
      refine ldW 26 (fun K hK=>?_)
      refine T.out.step2 HSZ.out.2.2 g13 s.clock (List.mem_cons_self ..) _ _ ?_
      intro r2 k2 w15 hT
      have hS15:=HNS.out _ hT.bar
      refine hK.out _ _ (fun _=>hS15) (fun _=>?_)
      replace T:=Kept.mk hT
      clear hK K hS14 hT
      try simp only[Act.put,zA,zB,zC]
      case' a36_1 =>
       go_simp
       have hT:=T.out.alloc #[.int .i64 s.clock] 3
       have hS12:=HNS.out _ hT.bar
       refine hK.out _ _ (fun _=>hS12) (fun _=>?_)
       replace T:=Kept.mk hT
       clear hK K hS11 hT
       generalize (w11.alloc (.cells #[.int .i64 s.clock] 3))=w12 at *
       generalize w11.heap.size=g12 at *
       try simp only[Act.put,zA,zB,zC]
      refine ldW 9 (fun K hK=>?_)
      refine T.out.step0 HSZ.out.1 g11 ⟨ek,es,ed,ea,en,ei,eu,eh,ec⟩ (List.mem_cons_of_mem _ (List.mem_cons_self ..)) _ _ ?_
      intro r0 k0 w13 hT
      have hS13:=HNS.out _ hT.bar
      refine hK.out _ _ (fun _=>hS13) (fun _=>?_)
      replace T:=Kept.mk hT
      clear hK K hS12 hT
      try simp only[Act.put,zA,zB,zC]
      refine ldW 16 (fun K hK=>?_)
      refine T.out.step1 HSZ.out.2.1 g10 party (List.mem_cons_of_mem _ (List.mem_cons_of_mem _ (List.mem_cons_self ..))) _ _ ?_
      intro r1 k1 w14 hT
      have hS14:=HNS.out _ hT.bar
      refine hK.out _ _ (fun _=>hS14) (fun _=>?_)
      replace T:=Kept.mk hT
      clear hK K hS13 hT
      try simp only[Act.put,zA,zB,zC]
      refine ldW 26 (fun K hK=>?_)
      refine T.out.step2 HSZ.out.2.2 g12 s.clock (List.mem_cons_self ..) _ _ ?_
      intro r2 k2 w15 hT
      have hS15:=HNS.out _ hT.bar
      refine hK.out _ _ (fun _=>hS15) (fun _=>?_)
      replace T:=Kept.mk hT
      clear hK K hS14 hT
      try simp only[Act.put,zA,zB,zC]
      case' a35_1 =>
       go_simp
       have hT:=T.out.alloc #[.int .i64 s.clock] 3
       have hS11:=HNS.out _ hT.bar
       refine hK.out _ _ (fun _=>hS11) (fun _=>?_)
       replace T:=Kept.mk hT
       clear hK K hS10 hT
       generalize (w10.alloc (.cells #[.int .i64 s.clock] 3))=w11 at *
       generalize w10.heap.size=g11 at *
       try simp only[Act.put,zA,zB,zC]
      refine ldW 8 (fun K hK=>?_)
      go_simp
      have hT:=T.out.alloc #[.int .i64 ek,.int .i64 es,.int .i64 ed,.int .i64 ea,.int .i64 en,.int .i64 ei,.int .i64 eu,.string (strOfNums eh),.string (strOfNums ec)] 71
      have hS12:=HNS.out _ hT.bar
      refine hK.out _ _ (fun _=>hS12) (fun _=>?_)
      replace T:=Kept.mk hT
      clear hK K hS11 hT
      generalize (w11.alloc (.cells #[.int .i64 ek,.int .i64 es,.int .i64 ed,.int .i64 ea,.int .i64 en,.int .i64 ei,.int .i64 eu,.string (strOfNums eh),.string (strOfNums ec)] 71))=w12 at *
      generalize w11.heap.size=g12 at *
      try simp only[Act.put,zA,zB,zC]
      refine ldW 9 (fun K hK=>?_)
      refine T.out.step0 HSZ.out.1 g12 ⟨ek,es,ed,ea,en,ei,eu,eh,ec⟩ (List.mem_cons_self ..) _ _ ?_
      intro r0 k0 w13 hT
      have hS13:=HNS.out _ hT.bar
      refine hK.out _ _ (fun _=>hS13) (fun _=>?_)
      replace T:=Kept.mk hT
      clear hK K hS12 hT
      try simp only[Act.put,zA,zB,zC]
      refine ldW 16 (fun K hK=>?_)
      refine T.out.step1 HSZ.out.2.1 g10 party (List.mem_cons_of_mem _ (List.mem_cons_of_mem _ (List.mem_cons_self ..))) _ _ ?_
      intro r1 k1 w14 hT
      have hS14:=HNS.out _ hT.bar
      refine hK.out _ _ (fun _=>hS14) (fun _=>?_)
      replace T:=Kept.mk hT
      clear hK K hS13 hT
      try simp only[Act.put,zA,zB,zC]
      refine ldW 26 (fun K hK=>?_)
      refine T.out.step2 HSZ.out.2.2 g11 s.clock (List.mem_cons_of_mem _ (List.mem_cons_self ..)) _ _ ?_
      intro r2 k2 w15 hT
      have hS15:=HNS.out _ hT.bar
      refine hK.out _ _ (fun _=>hS15) (fun _=>?_)
      replace T:=Kept.mk hT
      clear hK K hS14 hT
      try simp only[Act.put,zA,zB,zC]
      case' a0_2 =>
       go_simp
       have hT:=T.out.alloc #[.int .i64 s.clock] 3
       have hS10:=HNS.out _ hT.bar
       refine hK.out _ _ (fun _=>hS10) (fun _=>?_)
       replace T:=Kept.mk hT
       clear hK K hS9 hT
       generalize (w9.alloc (.cells #[.int .i64 s.clock] 3))=w10 at *
       generalize w9.heap.size=g10 at *
       try simp only[Act.put,zA,zB,zC]
      refine ldW2 8 15 (fun K hK=>?a53_0) (fun K hK=>?a53_1)
      case' a53_0 =>
       go_simp
       have hT:=T.out.alloc #[.int .i64 ek,.int .i64 es,.int .i64 ed,.int .i64 ea,.int .i64 en,.int .i64 ei,.int .i64 eu,.string (strOfNums eh),.string (strOfNums ec)] 71
       have hS11:=HNS.out _ hT.bar
       refine hK.out _ _ (fun _=>hS11) (fun _=>?_)
       replace T:=Kept.mk hT
       clear hK K hS10 hT
       generalize (w10.alloc (.cells #[.int .i64 ek,.int .i64 es,.int .i64 ed,.int .i64 ea,.int .i64 en,.int .i64 ei,.int .i64 eu,.string (strOfNums eh),.string (strOfNums ec)] 71))=w11 at *
       generalize w10.heap.size=g11 at *
       try simp only[Act.put,zA,zB,zC]
      refine ldW2 9 15 (fun K hK=>?a54_0) (fun K hK=>?a54_1)
      case' a54_0 =>
       refine T.out.step0 HSZ.out.1 g11 ⟨ek,es,ed,ea,en,ei,eu,eh,ec⟩ (List.mem_cons_self ..) _ _ ?_
       intro r0 k0 w12 hT
       have hS12:=HNS.out _ hT.bar
       refine hK.out _ _ (fun _=>hS12) (fun _=>?_)
       replace T:=Kept.mk hT
       clear hK K hS11 hT
       try simp only[Act.put,zA,zB,zC]
      refine ldW 15 (fun K hK=>?_)
      go_simp
      have hT:=T.out.alloc #[.int .i64 party] 3
      have hS13:=HNS.out _ hT.bar
      refine hK.out _ _ (fun _=>hS13) (fun _=>?_)
      replace T:=Kept.mk hT
      clear hK K hS12 hT
      generalize (w12.alloc (.cells #[.int .i64 party] 3))=w13 at *
      generalize w12.heap.size=g13 at *
      try simp only[Act.put,zA,zB,zC]
      refine ldW 16 (fun K hK=>?_)
      refine T.out.step1 HSZ.out.2.1 g13 party (List.mem_cons_self ..) _ _ ?_
      intro r1 k1 w14 hT
      have hS14:=HNS.out _ hT.bar
      refine hK.out _ _ (fun _=>hS14) (fun _=>?_)
      replace T:=Kept.mk hT
      clear hK K hS13 hT
      try simp only[Act.put,zA,zB,zC]
      refine ldW 26 (fun K hK=>?_)
      refine T.out.step2 HSZ.out.2.2 g10 s.clock (List.mem_cons_of_mem _ (List.mem_cons_of_mem _ (List.mem_cons_self ..))) _ _ ?_
      intro r2 k2 w15 hT
      have hS15:=HNS.out _ hT.bar
      refine hK.out _ _ (fun _=>hS15) (fun _=>?_)
      replace T:=Kept.mk hT
      clear hK K hS14 hT
      try simp only[Act.put,zA,zB,zC]
      case' a54_1 =>
       go_simp
       have hT:=T.out.alloc #[.int .i64 party] 3
       have hS12:=HNS.out _ hT.bar
       refine hK.out _ _ (fun _=>hS12) (fun _=>?_)
       replace T:=Kept.mk hT
       clear hK K hS11 hT
       generalize (w11.alloc (.cells #[.int .i64 party] 3))=w12 at *
       generalize w11.heap.size=g12 at *
       try simp only[Act.put,zA,zB,zC]
      refine ldW 9 (fun K hK=>?_)
      refine T.out.step0 HSZ.out.1 g11 ⟨ek,es,ed,ea,en,ei,eu,eh,ec⟩ (List.mem_cons_of_mem _ (List.mem_cons_self ..)) _ _ ?_
      intro r0 k0 w13 hT
      have hS13:=HNS.out _ hT.bar
      refine hK.out _ _ (fun _=>hS13) (fun _=>?_)
      replace T:=Kept.mk hT
      clear hK K hS12 hT
      try simp only[Act.put,zA,zB,zC]
      refine ldW 16 (fun K hK=>?_)
      refine T.out.step1 HSZ.out.2.1 g12 party (List.mem_cons_self ..) _ _ ?_
      intro r1 k1 w14 hT
      have hS14:=HNS.out _ hT.bar
      refine hK.out _ _ (fun _=>hS14) (fun _=>?_)
      replace T:=Kept.mk hT
      clear hK K hS13 hT
      try simp only[Act.put,zA,zB,zC]
      refine ldW 26 (fun K hK=>?_)
      refine T.out.step2 HSZ.out.2.2 g10 s.clock (List.mem_cons_of_mem _ (List.mem_cons_of_mem _ (List.mem_cons_self ..))) _ _ ?_
      intro r2 k2 w15 hT
      have hS15:=HNS.out _ hT.bar
      refine hK.out _ _ (fun _=>hS15) (fun _=>?_)
      replace T:=Kept.mk hT
      clear hK K hS14 hT
      try simp only[Act.put,zA,zB,zC]
      case' a53_1 =>
       go_simp
       have hT:=T.out.alloc #[.int .i64 party] 3
       have hS11:=HNS.out _ hT.bar
       refine hK.out _ _ (fun _=>hS11) (fun _=>?_)
       replace T:=Kept.mk hT
       clear hK K hS10 hT
       generalize (w10.alloc (.cells #[.int .i64 party] 3))=w11 at *
       generalize w10.heap.size=g11 at *
       try simp only[Act.put,zA,zB,zC]
      refine ldW 8 (fun K hK=>?_)
      go_simp
      have hT:=T.out.alloc #[.int .i64 ek,.int .i64 es,.int .i64 ed,.int .i64 ea,.int .i64 en,.int .i64 ei,.int .i64 eu,.string (strOfNums eh),.string (strOfNums ec)] 71
      have hS12:=HNS.out _ hT.bar
      refine hK.out _ _ (fun _=>hS12) (fun _=>?_)
      replace T:=Kept.mk hT
      clear hK K hS11 hT
      generalize (w11.alloc (.cells #[.int .i64 ek,.int .i64 es,.int .i64 ed,.int .i64 ea,.int .i64 en,.int .i64 ei,.int .i64 eu,.string (strOfNums eh),.string (strOfNums ec)] 71))=w12 at *
      generalize w11.heap.size=g12 at *
      try simp only[Act.put,zA,zB,zC]
      refine ldW 9 (fun K hK=>?_)
      refine T.out.step0 HSZ.out.1 g12 ⟨ek,es,ed,ea,en,ei,eu,eh,ec⟩ (List.mem_cons_self ..) _ _ ?_
      intro r0 k0 w13 hT
      have hS13:=HNS.out _ hT.bar
      refine hK.out _ _ (fun _=>hS13) (fun _=>?_)
      replace T:=Kept.mk hT
      clear hK K hS12 hT
      try simp only[Act.put,zA,zB,zC]
      refine ldW 16 (fun K hK=>?_)
      refine T.out.step1 HSZ.out.2.1 g11 party (List.mem_cons_of_mem _ (List.mem_cons_self ..)) _ _ ?_
      intro r1 k1 w14 hT
      have hS14:=HNS.out _ hT.bar
      refine hK.out _ _ (fun _=>hS14) (fun _=>?_)
      replace T:=Kept.mk hT
      clear hK K hS13 hT
      try simp only[Act.put,zA,zB,zC]
      refine ldW 26 (fun K hK=>?_)
      refine T.out.step2 HSZ.out.2.2 g10 s.clock (List.mem_cons_of_mem _ (List.mem_cons_of_mem _ (List.mem_cons_self ..))) _ _ ?_
      intro r2 k2 w15 hT
      have hS15:=HNS.out _ hT.bar
      refine hK.out _ _ (fun _=>hS15) (fun _=>?_)
      replace T:=Kept.mk hT
      clear hK K hS14 hT
      try simp only[Act.put,zA,zB,zC]
      all_goals
       as_aux_lemma =>
        have PS:=Kept.mk (Tr.push (s:=⟨s.cap,db,s.clock,s.e⟩) (e:=⟨⟨ek,es,ed,ea,en,ei,eu,eh,ec⟩,party,s.clock⟩) L.out T.out)
        have y4:=PS.out.1.cell 4;have y5:=PS.out.1.cell 5;have y6:=PS.out.1.cell 6
        have f4:=PS.out.1.frozen 4;have f5:=PS.out.1.frozen 5;have f6:=PS.out.1.frozen 6
        refine frW 27 (fun _=>by assumption) ?_
        simp only[Act.put,zA,zB,zC]
        refine frW 28 (fun _=>by assumption) ?_
        simp only[Act.put,zA,zB,zC]
        clear hS15
        refine ldW 29 (fun K hK=>?_)
        go_simp
        refine hK.out _ _ (late_come (by kernel_rfl)) (fun _=>?_)
        clear hK K
        try simp only[Act.put,zA,zB,zC]
        refine ldW 30 (fun K hK=>?_)
        go_simp
        refine hK.out _ _ (late_come (by kernel_rfl)) (fun _=>?_)
        clear hK K
        try simp only[Act.put,zA,zB,zC]
        refine ldW 31 (fun K hK=>?_)
        go_simp
        refine hK.out _ _ (late_come (by kernel_rfl)) (fun _=>?_)
        clear hK K
        try simp only[Act.put,zA,zB,zC]
        refine ldW 32 (fun K hK=>?_)
        go_simp
        refine hK.out _ _ (late_come (by kernel_rfl)) (fun _=>?_)
        clear hK K
        try simp only[Act.put,zA,zB,zC]
        refine ldW 33 (fun K hK=>?_)
        go_simp
        refine hK.out _ _ (late_come (by kernel_rfl)) (fun _=>?_)
        clear hK K
        try simp only[Act.put,zA,zB,zC]
        refine ldW 34 (fun K hK=>?_)
        go_simp
        refine hK.out _ _ (late_come (by kernel_rfl)) (fun _=>?_)
        clear hK K
        try simp only[Act.put,zA,zB,zC]
        refine ldW 35 (fun K hK=>?_)
        go_simp
        refine hK.out _ _ (late_come (by kernel_rfl)) (fun _=>?_)
        clear hK K
        try simp only[Act.put,zA,zB,zC]
        refine wpAnyW_done (by kernel_rfl) ?_ _
        refine NoPanic.normal ?_
        clear y4 y5 y6 f4 f5 f6 T
        obtain⟨we,hwe⟩:∃ we,(((w15.setCell ⟨x,4,none⟩ (.slice (some ⟨r0,0,none⟩) ((evs s).length+1) k0)).setCell ⟨x,5,none⟩ (.slice (some ⟨r1,0,none⟩) ((who s).length+1) k1)).setCell ⟨x,6,none⟩ (.slice (some ⟨r2,0,none⟩) ((whens s).length+1) k2))=we:=⟨_,rfl⟩
        have PT:=Kept.mk PS.out.2
        rw[hwe] at PT
        have E1:=PT.out.1
        rw[HS2.out] at E1
        have END:=Kept.mk (And.intro E1 (And.intro (FP.out.trans PT.out.2) (And.intro (Y.out.bar PT.out.2.1 RO.out) (And.intro (off_fp RO.out Y.out.lt PT.out.2) (And.intro (X.out.bar PT.out.2.1 NO.out) (V2.out.bar PT.out.2.1 MO.out))))))
        clear PS PT E1 L X Y V2 FP HNS
        subst hwe
        go_wp2
        go_meet
        case rel=>exact⟨_,_,_,⟨END.out.1⟩,⟨END.out.2.1⟩,⟨END.out.2.2.1⟩,⟨END.out.2.2.2.1⟩,⟨END.out.2.2.2.2.1⟩,⟨END.out.2.2.2.2.2⟩⟩
     case rest =>
     clear L X Y V2 FP RO NO MO HLN hc hc1 hc2 hcm hcm1 hcm2
     obtain⟨v0,v1,v2,L,FP,Y,RO,X,V2⟩:=hcut
     generalize wc=w20 at *
     have LK:=Kept.mk (show Dk w20 _ x s2 from⟨F1,b,q,st,v0,v1,v2,L.out,rfl⟩)
     have h0:=X.out.cell 0
     have m5:=V2.out.cell 5
     have y0:w20.cell? ⟨R,0,none⟩=some (.int .i64 0):=Y.out.cell 0;have y1:w20.cell? ⟨R,1,none⟩=some (.int .i64 0):=Y.out.cell 1
     have z0:=Y.out.frozen 0;have z1:=Y.out.frozen 1
     by_cases hk2:kind=2
     ·as_aux_lemma =>
      have hei:=HEI.out hk2
      subst hei
      have hk2':(kind == 2)=true:=by rw[hk2];rfl
      have PP:=Kept.mk (put2 Y.out (.int .i64 0) (.int .i64 ei))
      go_wp2
      (try simp only[Exit.inBlock,Exit.then])
      refine bodyPost_ret (results_cell_row rfl _ _ R 63 #[.int .i64 0,.int .i64 ei] (0,0) _ rfl PP.out.1 Tryz.underlying63 rfl reply_size2) rfl ?_
      exact⟨by rw[HE.out],_,dput LK.out PP.out.2 RO.out,dfp FP.out PP.out.2 WR.out⟩
     ·as_aux_lemma =>
      have hk2':(kind == 2)=false:=beq_eq_false_iff_ne.2 hk2
      have hdi:di=0:=by
       have:=actL_id (s:=s) (party:=party) (r:=⟨kind,dst,asset,amount,id,due,hash,sec⟩) hk2
       rw[HA.out] at this
       exact this
      have HDI:=Kept.mk hdi
      clear hdi
      have PP:=Kept.mk (put2 Y.out (.int .i64 0) (.int .i64 0))
      go_wp2
      (try simp only[Exit.inBlock,Exit.then])
      refine bodyPost_ret (results_cell_row rfl _ _ R 63 #[.int .i64 0,.int .i64 0] (0,0) _ rfl PP.out.1 Tryz.underlying63 rfl reply_size2) rfl ?_
      exact⟨by rw[← HE.out,HDI.out],_,dput LK.out PP.out.2 RO.out,dfp FP.out PP.out.2 WR.out⟩
    ·as_aux_lemma =>
     have hde1:(de != 0)=true:=by simpa using hde
     have hno:=actL_no HW.out (party:=party) (r:=⟨kind,dst,asset,amount,id,due,hash,sec⟩) HR.out (by rw[HA.out];exact hde)
     rw[HA.out] at hno
     obtain⟨hdb,-⟩:=hno
     dsimp only at hdb
     subst hdb
     have he:=HO.out
     unfold oneL at he
     rw[if_pos ⟨HM.out,HP.out⟩,HA.out,if_neg hde] at he
     injection he with he1 he2
     injection he1 with he3 he4
     dsimp only at he3
     subst he2 he3 he4
     skip
     have LK:=Kept.mk (show Dk w8 _ x s from⟨F1,b,q,st,d,d1,d2,L.out,rfl⟩)
     have y0:w8.cell? ⟨R,0,none⟩=some (.int .i64 0):=Y.out.cell 0;have y1:w8.cell? ⟨R,1,none⟩=some (.int .i64 0):=Y.out.cell 1
     have z0:=Y.out.frozen 0;have z1:=Y.out.frozen 1
     have PP:=Kept.mk (put2 Y.out (.int .i64 de) (.int .i64 0))
     go_wp2
     (try simp only[Exit.inBlock,Exit.then])
     refine bodyPost_ret (results_cell_row rfl _ _ R 63 #[.int .i64 de,.int .i64 0] (0,0) _ rfl PP.out.1 Tryz.underlying63 rfl reply_size2) rfl ?_
     exact⟨rfl,_,dput LK.out PP.out.2 RO.out,dfp FP.out PP.out.2 WR.out⟩
end
end Go.Proofs.YtchcgoabogcabaaGreat.Ledger
