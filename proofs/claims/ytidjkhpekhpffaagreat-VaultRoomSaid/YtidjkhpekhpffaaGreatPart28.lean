/-
  Parts laid together: EscrowCLock.
-/
import Derived.Test.YtidjkhpekhpffaaGreatPart26
import Derived.Test.YtidjkhpekhpffaaGreatPart15
import Derived.Test.YtidjkhpekhpffaaGreatPart8
import Derived.Test.YtidjkhpekhpffaaGreatPart7
import Derived.Test.YtidjkhpekhpffaaGreatPart27
import Derived.Deep.AppendLies
namespace Go.Proofs.YtidjkhpekhpffaaGreat.Escrow
open Go.RowKit Go.Proofs.YtidjkhpekhpffaaGreat.Sha Go.Proofs.YtidjkhpekhpffaaGreat.Purse Go.Proofs.YtidjkhpekhpffaaGreat.Num
section
variable {w : World} {F G : List Nat} {t x q : Nat} {v : Value} {p : PS} {l : List EV} {b : BS}
theorem Pk.push {w3:World}{v':Value}{e:EV}(h:Pk w t x q G v p l) (hg:w.grownBy w3 v.ownBlock) (ho:w3.ownsRow 0 261 8 v' (l.length+1) (evF l++evC e)) (hat:v.ownBlock=v'.ownBlock∨v'.ownBlock=some w.heap.size) :
  Blk w3 x 235 #[.pointer (some ⟨t,0,none⟩),.pointer (some ⟨q,0,none⟩),v]∧Pk (w3.setCell ⟨x,2,none⟩ v') t x q G v' p (l++[e])∧Fp (fk t x G v) (fk t x G v') w (w3.setCell ⟨x,2,none⟩ v'):=by
 have b1:Bar v.ownBlock.toList w w3:=(Bar.refl _ w).grown hg (fun k hk=>.inl (by simp[hk]))
 have hb3:=h.blk.bar b1 (fun hm=>h.gx x hm rfl)
 have b2:Bar [x] w3 (w3.setCell ⟨x,2,none⟩ v'):=(Bar.refl _ w3).setCell (by simp) _
 have nw:∀ g∈v'.ownBlock.toList,g∈v.ownBlock.toList∨w.heap.size≤g:=fun g hg2=>by
  rcases hat with h|h
  ·rw[← h] at hg2;exact .inl hg2
  ·rw[h] at hg2;simp at hg2;exact .inr (by omega)
 have gx:∀ g∈v'.ownBlock.toList,g≠x:=fun g hg2 e=>by
  rcases nw g hg2 with h1|h1
  ·exact h.gx g h1 e
  ·have:=h.blk.lt;omega
 have gt:∀ g∈v'.ownBlock.toList,g≠t:=fun g hg2 e=>by
  rcases nw g hg2 with h1|h1
  ·exact h.gt g h1 e
  ·have:=ctab_lt h.tab;omega
 have gG:∀ g∈v'.ownBlock.toList,g∉G:=fun g hg2 e=>by
  rcases nw g hg2 with h1|h1
  ·exact h.gG g h1 e
  ·have:=h.pc.2.lts g e;omega
 have el:El w3 v' (l++[e]):=by
  unfold El
  rw[List.length_append,List.length_singleton,evF_snoc]
  exact ho
 refine⟨hb3,⟨ctab_bar (ctab_bar h.tab b1 (fun hm=>h.gt t hm rfl)) b2 (by simpa using h.xt.symm),⟨h.pc.1,(h.pc.2.keep b1 (fun k hk hm=>h.gG k hm hk)).keep b2 (fun k hk hm=>by rw[List.mem_singleton] at hm;exact h.xG (hm▸hk))⟩,by simpa using hb3.set_ 2 v',el.keep b2 (fun g hg2 hm=>gx g hg2 (by simpa using hm)),gG,gx,gt,h.xG,h.tG,h.xt⟩,?_,fun k hk=>?_⟩
 ·refine(b1.mono (l':=fk t x G v) (fun z hz=>.inl (fk_mem.2 (.inr (.inr (.inl hz)))))).trans b2 (fun z hz=>.inl (fk_mem.2 (.inr (.inl (by simpa using hz)))))
 ·rcases fk_mem.1 hk with e|e|e|e
  ·exact .inl (fk_mem.2 (.inl e))
  ·exact .inl (fk_mem.2 (.inr (.inl e)))
  ·rcases nw k e with h1|h1
   ·exact .inl (fk_mem.2 (.inr (.inr (.inl h1))))
   ·exact .inr h1
  ·exact .inl (fk_mem.2 (.inr (.inr (.inr e))))
set_option maxRecDepth 100000 in
set_option maxHeartbeats 2000000 in
theorem clock_any (h:Ct t w F x q b) (i j a n:Int) (hs:List Int) (due clock:Int) (hl:b.l.length≤100000):Calls Tryz.prog 237 #[.pointer (some ⟨x,0,none⟩),.int .i64 i,.int .i64 j,.int .i64 a,.int .i64 n,.string (strOfNums hs),.int .i64 due,.int .i64 clock] w (LockPost (fun w' F' b'=>Ct t w' F' x q b') w F (lockB b i j a n hs due clock)):=by
 obtain⟨G,v,h,rfl⟩:=h
 have P:=Kept.mk (cparty_any h i)
 have Q:=Kept.mk (cparty_any h j)
 have R:=Kept.mk (casset_any h a)
 have M:=Kept.mk (amount_any n w)
 have D:=Kept.mk (tick_any due w)
 have C:=Kept.mk (tick_any clock w)
 have x1:=h.c1
 have H:=Kept.mk h
 clear h
 cases c0:isP b.p i with
 | false =>
  rw[c0] at P
  rw[lock_range (fun k=>by rw[k.1] at c0;cases c0)]
  go_enter Tryz.func237,Tryz.ntmps237
  go_wp2_with (first|(go_at_call 260;(with_reducible refine P.out.mono ?_);rintro e w' ⟨rfl,rfl⟩)|(go_at_call 260;(with_reducible refine Q.out.mono ?_);rintro e w' ⟨rfl,rfl⟩)|(go_at_call 261;(with_reducible refine R.out.mono ?_);rintro e w' ⟨rfl,rfl⟩)|(go_at_call 262;(with_reducible refine M.out.mono ?_);rintro e w' ⟨rfl,rfl⟩)|(go_at_call 114;(with_reducible refine D.out.mono ?_);rintro e w' ⟨rfl,rfl⟩)|(go_at_call 114;(with_reducible refine C.out.mono ?_);rintro e w' ⟨rfl,rfl⟩))
  go_ret2
  exact⟨rfl,_,⟨G,v,H.out,rfl⟩,Fp.refl _ _⟩
 | true =>
  rw[c0] at P
  cases c1:isP b.p j with
  | false =>
   rw[c1] at Q
   rw[lock_range (fun k=>by rw[k.2.1] at c1;cases c1)]
   go_enter Tryz.func237,Tryz.ntmps237
   go_wp2_with (first|(go_at_call 260;(with_reducible refine P.out.mono ?_);rintro e w' ⟨rfl,rfl⟩)|(go_at_call 260;(with_reducible refine Q.out.mono ?_);rintro e w' ⟨rfl,rfl⟩)|(go_at_call 261;(with_reducible refine R.out.mono ?_);rintro e w' ⟨rfl,rfl⟩)|(go_at_call 262;(with_reducible refine M.out.mono ?_);rintro e w' ⟨rfl,rfl⟩)|(go_at_call 114;(with_reducible refine D.out.mono ?_);rintro e w' ⟨rfl,rfl⟩)|(go_at_call 114;(with_reducible refine C.out.mono ?_);rintro e w' ⟨rfl,rfl⟩))
   go_ret2
   exact⟨rfl,_,⟨G,v,H.out,rfl⟩,Fp.refl _ _⟩
  | true =>
   rw[c1] at Q
   cases c2:isA b.p a with
   | false =>
    rw[c2] at R
    rw[lock_range (fun k=>by rw[k.2.2.1] at c2;cases c2)]
    go_enter Tryz.func237,Tryz.ntmps237
    go_wp2_with (first|(go_at_call 260;(with_reducible refine P.out.mono ?_);rintro e w' ⟨rfl,rfl⟩)|(go_at_call 260;(with_reducible refine Q.out.mono ?_);rintro e w' ⟨rfl,rfl⟩)|(go_at_call 261;(with_reducible refine R.out.mono ?_);rintro e w' ⟨rfl,rfl⟩)|(go_at_call 262;(with_reducible refine M.out.mono ?_);rintro e w' ⟨rfl,rfl⟩)|(go_at_call 114;(with_reducible refine D.out.mono ?_);rintro e w' ⟨rfl,rfl⟩)|(go_at_call 114;(with_reducible refine C.out.mono ?_);rintro e w' ⟨rfl,rfl⟩))
    go_ret2
    exact⟨rfl,_,⟨G,v,H.out,rfl⟩,Fp.refl _ _⟩
   | true =>
    rw[c2] at R
    by_cases c4:n=0
    ·subst c4
     rw[lock_range (fun k=>k.2.2.2.2.1 rfl)]
     go_enter Tryz.func237,Tryz.ntmps237
     go_wp2_with (first|(go_at_call 260;(with_reducible refine P.out.mono ?_);rintro e w' ⟨rfl,rfl⟩)|(go_at_call 260;(with_reducible refine Q.out.mono ?_);rintro e w' ⟨rfl,rfl⟩)|(go_at_call 261;(with_reducible refine R.out.mono ?_);rintro e w' ⟨rfl,rfl⟩)|(go_at_call 262;(with_reducible refine M.out.mono ?_);rintro e w' ⟨rfl,rfl⟩)|(go_at_call 114;(with_reducible refine D.out.mono ?_);rintro e w' ⟨rfl,rfl⟩)|(go_at_call 114;(with_reducible refine C.out.mono ?_);rintro e w' ⟨rfl,rfl⟩))
     go_ret2
     exact⟨rfl,_,⟨G,v,H.out,rfl⟩,Fp.refl _ _⟩
    ·have c4':(n == 0)=false:=beq_eq_false_iff_ne.2 c4
     cases c3:amtB n with
     | false =>
      rw[c3] at M
      rw[lock_range (fun k=>by rw[k.2.2.2.1] at c3;cases c3)]
      go_enter Tryz.func237,Tryz.ntmps237
      go_wp2_with (first|(go_at_call 260;(with_reducible refine P.out.mono ?_);rintro e w' ⟨rfl,rfl⟩)|(go_at_call 260;(with_reducible refine Q.out.mono ?_);rintro e w' ⟨rfl,rfl⟩)|(go_at_call 261;(with_reducible refine R.out.mono ?_);rintro e w' ⟨rfl,rfl⟩)|(go_at_call 262;(with_reducible refine M.out.mono ?_);rintro e w' ⟨rfl,rfl⟩)|(go_at_call 114;(with_reducible refine D.out.mono ?_);rintro e w' ⟨rfl,rfl⟩)|(go_at_call 114;(with_reducible refine C.out.mono ?_);rintro e w' ⟨rfl,rfl⟩))
      go_ret2
      exact⟨rfl,_,⟨G,v,H.out,rfl⟩,Fp.refl _ _⟩
     | true =>
      rw[c3] at M
      cases c5:tickB due with
      | false =>
       rw[c5] at D
       rw[lock_range (fun k=>by rw[k.2.2.2.2.2.1] at c5;cases c5)]
       go_enter Tryz.func237,Tryz.ntmps237
       go_wp2_with (first|(go_at_call 260;(with_reducible refine P.out.mono ?_);rintro e w' ⟨rfl,rfl⟩)|(go_at_call 260;(with_reducible refine Q.out.mono ?_);rintro e w' ⟨rfl,rfl⟩)|(go_at_call 261;(with_reducible refine R.out.mono ?_);rintro e w' ⟨rfl,rfl⟩)|(go_at_call 262;(with_reducible refine M.out.mono ?_);rintro e w' ⟨rfl,rfl⟩)|(go_at_call 114;(with_reducible refine D.out.mono ?_);rintro e w' ⟨rfl,rfl⟩)|(go_at_call 114;(with_reducible refine C.out.mono ?_);rintro e w' ⟨rfl,rfl⟩))
       go_ret2
       exact⟨rfl,_,⟨G,v,H.out,rfl⟩,Fp.refl _ _⟩
      | true =>
       rw[c5] at D
       cases c6:tickB clock with
       | false =>
        rw[c6] at C
        rw[lock_range (fun k=>by rw[k.2.2.2.2.2.2] at c6;cases c6)]
        go_enter Tryz.func237,Tryz.ntmps237
        go_wp2_with (first|(go_at_call 260;(with_reducible refine P.out.mono ?_);rintro e w' ⟨rfl,rfl⟩)|(go_at_call 260;(with_reducible refine Q.out.mono ?_);rintro e w' ⟨rfl,rfl⟩)|(go_at_call 261;(with_reducible refine R.out.mono ?_);rintro e w' ⟨rfl,rfl⟩)|(go_at_call 262;(with_reducible refine M.out.mono ?_);rintro e w' ⟨rfl,rfl⟩)|(go_at_call 114;(with_reducible refine D.out.mono ?_);rintro e w' ⟨rfl,rfl⟩)|(go_at_call 114;(with_reducible refine C.out.mono ?_);rintro e w' ⟨rfl,rfl⟩))
        go_ret2
        exact⟨rfl,_,⟨G,v,H.out,rfl⟩,Fp.refl _ _⟩
       | true =>
        rw[c6] at C
        have LB:Kept (lockB b i j a n hs due clock=if hs.length≠32 then ((0,2),b) else if i=j then ((0,14),b) else if due≤clock then ((0,11),b) else if (takeP b.p i a n).1≠0 then ((0,(takeP b.p i a n).1),b) else ((((b.l.length:Nat):Int),0),(⟨(takeP b.p i a n).2,b.l++[⟨i,j,a,n,due,0,hs,[]⟩]⟩:BS))):=⟨by unfold lockB;rw[if_neg (fun k=>k ⟨c0,c1,c2,c3,c4,c5,c6⟩)]⟩
        rw[LB.out]
        clear c0 c1 c2 c3 c5 c6 LB
        obtain⟨L,hL⟩:∃ L,hs.length=L:=⟨_,rfl⟩
        have hsz:(strOfNums hs).size=L:=by rw[strOfNums_size,hL]
        rw[hL]
        have LS:=Kept.mk hL
        clear hL
        by_cases h32:L≠32
        ·rw[if_pos h32]
         have h32':¬ (L:Int)=32:=by omega
         go_enter Tryz.func237,Tryz.ntmps237
         go_wp2_with (first|(go_at_call 260;(with_reducible refine P.out.mono ?_);rintro e w' ⟨rfl,rfl⟩)|(go_at_call 260;(with_reducible refine Q.out.mono ?_);rintro e w' ⟨rfl,rfl⟩)|(go_at_call 261;(with_reducible refine R.out.mono ?_);rintro e w' ⟨rfl,rfl⟩)|(go_at_call 262;(with_reducible refine M.out.mono ?_);rintro e w' ⟨rfl,rfl⟩)|(go_at_call 114;(with_reducible refine D.out.mono ?_);rintro e w' ⟨rfl,rfl⟩)|(go_at_call 114;(with_reducible refine C.out.mono ?_);rintro e w' ⟨rfl,rfl⟩))
         go_ret2
         exact⟨rfl,_,⟨G,v,H.out,rfl⟩,Fp.refl _ _⟩
        ·rw[if_neg h32]
         obtain rfl:L=32:=Decidable.not_not.1 h32
         clear h32
         by_cases hij:i=j
         ·subst hij
          rw[if_pos rfl]
          go_enter Tryz.func237,Tryz.ntmps237
          go_wp2_with (first|(go_at_call 260;(with_reducible refine P.out.mono ?_);rintro e w' ⟨rfl,rfl⟩)|(go_at_call 260;(with_reducible refine Q.out.mono ?_);rintro e w' ⟨rfl,rfl⟩)|(go_at_call 261;(with_reducible refine R.out.mono ?_);rintro e w' ⟨rfl,rfl⟩)|(go_at_call 262;(with_reducible refine M.out.mono ?_);rintro e w' ⟨rfl,rfl⟩)|(go_at_call 114;(with_reducible refine D.out.mono ?_);rintro e w' ⟨rfl,rfl⟩)|(go_at_call 114;(with_reducible refine C.out.mono ?_);rintro e w' ⟨rfl,rfl⟩))
          go_ret2
          exact⟨rfl,_,⟨G,v,H.out,rfl⟩,Fp.refl _ _⟩
         ·rw[if_neg hij]
          have hij':(i == j)=false:=beq_eq_false_iff_ne.2 hij
          by_cases hdc:due≤clock
          ·rw[if_pos hdc]
           go_enter Tryz.func237,Tryz.ntmps237
           go_wp2_with (first|(go_at_call 260;(with_reducible refine P.out.mono ?_);rintro e w' ⟨rfl,rfl⟩)|(go_at_call 260;(with_reducible refine Q.out.mono ?_);rintro e w' ⟨rfl,rfl⟩)|(go_at_call 261;(with_reducible refine R.out.mono ?_);rintro e w' ⟨rfl,rfl⟩)|(go_at_call 262;(with_reducible refine M.out.mono ?_);rintro e w' ⟨rfl,rfl⟩)|(go_at_call 114;(with_reducible refine D.out.mono ?_);rintro e w' ⟨rfl,rfl⟩)|(go_at_call 114;(with_reducible refine C.out.mono ?_);rintro e w' ⟨rfl,rfl⟩))
           go_ret2
           exact⟨rfl,_,⟨G,v,H.out,rfl⟩,Fp.refl _ _⟩
          ·rw[if_neg hdc]
           obtain⟨te,ts,hT⟩:∃ te ts,takeP b.p i a n=(te,ts):=⟨_,_,rfl⟩
           have TK:=Kept.mk (take_any i a n H.out.pc)
           rw[hT] at TK ⊢
           by_cases h0:te=0
           ·subst h0
            rw[if_neg (by simp)]
            go_enter Tryz.func237,Tryz.ntmps237
            go_wp2_with (first|(go_at_call 260;(with_reducible refine P.out.mono ?_);rintro e w' ⟨rfl,rfl⟩)|(go_at_call 260;(with_reducible refine Q.out.mono ?_);rintro e w' ⟨rfl,rfl⟩)|(go_at_call 261;(with_reducible refine R.out.mono ?_);rintro e w' ⟨rfl,rfl⟩)|(go_at_call 262;(with_reducible refine M.out.mono ?_);rintro e w' ⟨rfl,rfl⟩)|(go_at_call 114;(with_reducible refine D.out.mono ?_);rintro e w' ⟨rfl,rfl⟩)|(go_at_call 114;(with_reducible refine C.out.mono ?_);rintro e w' ⟨rfl,rfl⟩))
            refine TK.out.mono ?_
            rintro e w2 ⟨rfl,G',hp,fp⟩
            have PP:=H.out.purse hp fp
            have P2:=Kept.mk PP.1
            have F2:=Kept.mk PP.2
            clear PP hp fp TK P Q R M D C x1
            go_upto_region 14 with fail
            have P3:=Kept.mk (P2.out.below (Below.refl _ _).drew)
            have F3:=Kept.mk (F2.out.trans (fp_below (Below.refl _ _).drew))
            clear P2 F2
            refine wp_region_noPanic ?_
            refine wp_region_U 17 (S:=fun w':World=>w'.cell? ⟨x,2,none⟩=some v) (by kernel_rfl) (P3.out.blk.cell 2) (fun hS0=>?_)
            generalize w2.drew=w3 at *
            refine tkU 0 (by assumption) ?_
            simp only[Act.put,zA,zB,zC]
            refine tkU 1 (by assumption) ?_
            simp only[Act.put,zA,zB,zC]
            refine tkU 2 (by assumption) ?_
            simp only[Act.put,zA,zB,zC]
            refine tkU 3 (by assumption) ?_
            simp only[Act.put,zA,zB,zC]
            refine tkU 4 (by assumption) ?_
            simp only[Act.put,zA,zB,zC]
            refine tkU 5 (by assumption) ?_
            simp only[Act.put,zA,zB,zC]
            refine tkU 6 (by assumption) ?_
            simp only[Act.put,zA,zB,zC]
            refine tkU 7 (by assumption) ?_
            simp only[Act.put,zA,zB,zC]
            refine tkU 8 (by assumption) ?_
            simp only[Act.put,zA,zB,zC]
            refine tkU 9 (by assumption) ?_
            simp only[Act.put,zA,zB,zC]
            refine tkU 10 (by assumption) ?_
            simp only[Act.put,zA,zB,zC]
            refine ldU 11 (fun K hK=>?_)
            go_simp
            go_at_call 240
            refine(clone32_any hs LS.out w3).mono ?_
            rintro e w4 ⟨rfl,b4⟩
            have P4:=Kept.mk (P3.out.below b4)
            have F4:=Kept.mk (F3.out.trans (fp_below b4))
            have hS4:w4.cell? ⟨x,2,none⟩=some v:=P4.out.blk.cell 2
            refine hK.out _ _ (fun _=>hS4) (fun _=>?_)
            clear hK K hS0 P3 F3 b4
            try simp only[Act.put,zA,zB,zC]
            refine tkU 12 (by assumption) ?_
            simp only[Act.put,zA,zB,zC]
            refine ldU 13 (fun K hK=>?_)
            go_simp
            have b5:Below w4.heap.size w4 (w4.alloc (.cells #[.int .i64 i,.int .i64 j,.int .i64 a,.int .i64 n,.int .i64 due,.int .i64 0,.string (strOfNums hs),.string ⟨#[]⟩] 261)):=(Below.refl _ _).alloc (Nat.le_refl _) _
            have P5:=Kept.mk (P4.out.below b5)
            have F5:=Kept.mk (F4.out.trans (fp_below b5))
            have NW:=Kept.mk (World.news_of_block (cs:=#[.int .i64 i,.int .i64 j,.int .i64 a,.int .i64 n,.int .i64 due,.int .i64 0,.string (strOfNums hs),.string ⟨#[]⟩]) (t:=261) (fr:=(0,0)) (heap_alloc_new w4 _))
            refine hK.out _ _ (fun _=>P5.out.blk.cell 2) (fun _=>?_)
            clear hK K P4 F4 b5 hS4
            try simp only[Act.put,zA,zB,zC]
            generalize w4.alloc (.cells #[.int .i64 i,.int .i64 j,.int .i64 a,.int .i64 n,.int .i64 due,.int .i64 0,.string (strOfNums hs),.string ⟨#[]⟩] 261)=w5 at *
            generalize w4.heap.size=gB at *
            obtain⟨iu,hi,hz0,hz1,hz2⟩:=info_parts info_ev
            refine ldU 14 (fun K hK=>?_)
            refine step_append_lies _ (by rfl) _ _ _ (by rfl) 0 261 iu zeroE 8 80 Tryz.underlying159 hi hz0 hz1 hz2 rfl (by omega) v b.l.length (evF b.l) (by rfl) P5.out.el
             ⟨gB,0,none⟩ 1 1 (evC ⟨i,j,a,n,due,0,hs,[]⟩) (by rfl) (by rfl) NW.out (evC_one _) (by omega) (by unfold maxLen;omega) (by omega) (Nat.zero_le _) w5.heap.size rfl ?_
            intro gg cg w6 hown hgrow hat hlt
            have PS:=Kept.mk (P5.out.push (v':=.slice (some ⟨gg,0,none⟩) (b.l.length+1) cg) (e:=⟨i,j,a,n,due,0,hs,[]⟩) hgrow hown (hat.imp id (fun h1=>by rw[h1];rfl)))
            have x6:w6.cell? ⟨x,2,none⟩=some v:=PS.out.1.cell 2
            have f6:=PS.out.1.frozen 2
            clear hown hgrow hat hlt NW hi hz0 hz1 hz2 P5
            refine hK.out _ _ (fun _=>x6) (fun _=>?_)
            clear hK K
            try simp only[Act.put,zA,zB,zC]
            refine ldU 15 (fun K hK=>?_)
            go_simp
            refine hK.out _ _ (fun _=>x6) (fun _=>?_)
            clear hK K
            try simp only[Act.put,zA,zB,zC]
            refine ldU 16 (fun K hK=>?_)
            go_simp
            refine hK.out _ _ (fun _=>x6) (fun _=>?_)
            clear hK K
            try simp only[Act.put,zA,zB,zC]
            refine ldU 17 (fun K hK=>?_)
            go_simp
            refine hK.out _ _ (fun h=>absurd rfl h) (fun _=>?_)
            clear hK K
            try simp only[Act.put,zA,zB,zC]
            refine wpAnyU_done (by kernel_rfl) ?_ _
            refine NoPanic.normal ?_
            have x7:(w6.setCell ⟨x,2,none⟩ (.slice (some ⟨gg,0,none⟩) (b.l.length+1) cg)).cell? ⟨x,2,none⟩=some (.slice (some ⟨gg,0,none⟩) (b.l.length+1) cg):=PS.out.2.1.blk.cell 2
            clear x6 f6
            generalize (w6.setCell ⟨x,2,none⟩ (.slice (some ⟨gg,0,none⟩) (b.l.length+1) cg))=w7 at *
            go_wp2
            go_ret2
            exact⟨rfl,_,⟨G',_,PS.out.2.1,rfl⟩,F5.out.trans PS.out.2.2⟩
           ·rw[if_pos h0]
            obtain rfl:ts=b.p:=take_same H.out.pc.1 hT h0
            have h0':(te == 0)=false:=beq_eq_false_iff_ne.2 h0
            go_enter Tryz.func237,Tryz.ntmps237
            go_wp2_with (first|(go_at_call 260;(with_reducible refine P.out.mono ?_);rintro e w' ⟨rfl,rfl⟩)|(go_at_call 260;(with_reducible refine Q.out.mono ?_);rintro e w' ⟨rfl,rfl⟩)|(go_at_call 261;(with_reducible refine R.out.mono ?_);rintro e w' ⟨rfl,rfl⟩)|(go_at_call 262;(with_reducible refine M.out.mono ?_);rintro e w' ⟨rfl,rfl⟩)|(go_at_call 114;(with_reducible refine D.out.mono ?_);rintro e w' ⟨rfl,rfl⟩)|(go_at_call 114;(with_reducible refine C.out.mono ?_);rintro e w' ⟨rfl,rfl⟩))
            refine TK.out.mono ?_
            rintro e w2 ⟨rfl,G',hp,fp⟩
            have PP:=H.out.purse hp fp
            have P2:=Kept.mk PP.1
            have F2:=Kept.mk PP.2
            clear PP hp fp TK P Q R M D C x1
            go_wp2
            go_ret2
            exact⟨rfl,_,⟨G',v,P2.out,rfl⟩,F2.out⟩
end
end Go.Proofs.YtidjkhpekhpffaaGreat.Escrow
