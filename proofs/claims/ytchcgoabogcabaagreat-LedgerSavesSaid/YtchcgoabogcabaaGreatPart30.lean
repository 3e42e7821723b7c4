/-
  Parts laid together: EscrowRef4.
-/
import Derived.Test.YtchcgoabogcabaaGreatPart1
import Derived.Test.YtchcgoabogcabaaGreatPart10
import Derived.Test.YtchcgoabogcabaaGreatPart29
namespace Go.Proofs.YtchcgoabogcabaaGreat.Escrow
open Go.RowKit Go.Proofs.YtchcgoabogcabaaGreat.Sha Go.Proofs.YtchcgoabogcabaaGreat.Purse Go.Proofs.YtchcgoabogcabaaGreat.Num
section
variable {w : World} {F : List Nat} {x q : Nat} {b : BS}
set_option maxRecDepth 100000 in
set_option maxHeartbeats 4000000 in
theorem rclaim_any (h:Rk w F x q b) (who id clock:Int) (s:List Int) (hb:Bytes s) (hh:∀ k,k < b.l.length→Bytes (atE b.l k).hash):Calls Tryz.prog 79 #[.pointer (some ⟨x,0,none⟩),.int .i64 who,.int .i64 id,.string (strOfNums s),.int .i64 clock] w (BookPost (fun w' F' b'=>Rk w' F' x q b') w F (claimB b who id s clock)):=by
 obtain⟨A,c,x1,hc,hcm⟩:=h.list
 have H:=Kept.mk h
 clear h
 by_cases h0:id < 0
 ·rw[claim_none (.inl h0)]
  clear hb hh
  go_enter Tryz.func79,Tryz.ntmps79
  go_wp2
  go_ret
  exact⟨rfl,F,H.out,Fp.refl _ _⟩
 ·by_cases h1:(b.l.length:Int)≤id
  ·rw[claim_none (.inr h1)]
   clear hb hh
   generalize b.l.length=n at *
   go_enter Tryz.func79,Tryz.ntmps79
   go_wp2
   go_ret
   exact⟨rfl,F,H.out,Fp.refl _ _⟩
  ·obtain ⟨k,rfl⟩:∃ k:Nat,id=k:=⟨id.toNat,by omega⟩
   have hk:k < b.l.length:=by omega
   rw[claim_some hk]
   obtain⟨G,v,g1,h2,h3,h4,h5,h6⟩:=H.out
   obtain⟨g,c',hv,-,-,fz,y0,y1,y2,y3,y4,y5,y6,y7⟩:=h3.cells hk
   subst hv
   have x1':=h2.cell 1
   have x0:w.cell? ⟨x,0,none⟩=some (.pointer (some ⟨q,0,none⟩)):=h2.cell 0
   rw[x1] at x1'
   simp only[Array.getElem?_eq_getElem,List.size_toArray,List.length_cons,List.length_nil,Nat.lt_add_one,List.getElem_toArray,List.getElem_cons_succ,List.getElem_cons_zero,Option.some.injEq,Value.slice.injEq] at x1'
   obtain⟨rfl,-,rfl⟩:=x1'
   have gl:g < w.heap.size:=World.block_lt_of_cell? _ _ y0
   have xl:x < w.heap.size:=h2.lt
   have bz:∀ o,Below w.heap.size w (w.alloc o):=fun o=>(Below.refl _ _).alloc (Nat.le_refl _) o
   have PE0:Kept (∀ w',Below w.heap.size w w'→Rk w' F x q b∧Fp F F w w'):=⟨fun w' bb=>⟨H.out.below bb,barOf bb _,fun _ hk=>.inl hk⟩⟩
   have hT0:Kept (∀ w',Below w.heap.size w w'→∀ i a m,Calls Tryz.prog 106 #[.pointer (some ⟨q,0,none⟩),.int .i64 i,.int .i64 a,.int .i64 m] w' (StepPost (fun w' F' s'=>Pr w' F' q s') w' G (giveP b.p i a m))):=⟨fun w' bb i a m=>rgive_any i a m ⟨g1.1,g1.2.below bb⟩⟩
   have B0:Kept (∀ w',Below w.heap.size w w'→Blk w' x 114 #[.pointer (some ⟨q,0,none⟩),.slice (some ⟨g,0,none⟩) b.l.length c]):=⟨fun w' bb=>h2.bar (barOf bb []) (by simp)⟩
   have E0:Kept (∀ w',Below w.heap.size w w'→El w' (.slice (some ⟨g,0,none⟩) b.l.length c) b.l):=⟨fun w' bb=>h3.keep (barOf bb []) (fun _ _=>by simp)⟩
   have D0:=Kept.mk h4;have X0:=Kept.mk h5;have H6:=Kept.mk h6
   have GX:=Kept.mk (h4 g (Option.mem_toList.2 rfl)).2
   clear g1 h2 h3 h4 h5 h6
   have TI:=Kept.mk (fun w=>rtick_any clock w)
   have hE:=hh k hk
   obtain⟨es,ed,ea,en,eu,et,eh,ec,hev⟩:∃ es ed ea en eu et eh ec,atE b.l k=⟨es,ed,ea,en,eu,et,eh,ec⟩:=⟨_,_,_,_,_,_,_,_,rfl⟩
   rw[hev] at y0 y1 y2 y3 y4 y5 y6 y7 hE ⊢
   dsimp only at y0 y1 y2 y3 y4 y5 y6 y7 hE ⊢
   have HE:=Kept.mk hev
   clear hev hh
   have PE:=Kept.mk (PE0.out _ (bz (.cells #[.int .i64 es,.int .i64 ed,.int .i64 ea,.int .i64 en,.int .i64 eu,.int .i64 et,.string (strOfNums eh),.string (strOfNums ec)] 67)))
   have BZ:=Kept.mk (bz (.cells #[.int .i64 es,.int .i64 ed,.int .i64 ea,.int .i64 en,.int .i64 eu,.int .i64 et,.string (strOfNums eh),.string (strOfNums ec)] 67))
   clear bz
   have x2:=(BZ.out.cell (p:=⟨x,1,none⟩) (World.block_lt_of_cell? _ _ x1)).trans x1
   have x3:=(BZ.out.cell (p:=⟨x,0,none⟩) (World.block_lt_of_cell? _ _ x0)).trans x0
   have NEWS:=(new_cells w 67 (evC ⟨es,ed,ea,en,eu,et,eh,ec⟩))
   have n1:(w.alloc (.cells #[.int .i64 es,.int .i64 ed,.int .i64 ea,.int .i64 en,.int .i64 eu,.int .i64 et,.string (strOfNums eh),.string (strOfNums ec)] 67)).cell? ⟨w.heap.size,1,none⟩=some (.int .i64 ed):=NEWS 1 _ rfl
   have n2:(w.alloc (.cells #[.int .i64 es,.int .i64 ed,.int .i64 ea,.int .i64 en,.int .i64 eu,.int .i64 et,.string (strOfNums eh),.string (strOfNums ec)] 67)).cell? ⟨w.heap.size,2,none⟩=some (.int .i64 ea):=NEWS 2 _ rfl
   have n3:(w.alloc (.cells #[.int .i64 es,.int .i64 ed,.int .i64 ea,.int .i64 en,.int .i64 eu,.int .i64 et,.string (strOfNums eh),.string (strOfNums ec)] 67)).cell? ⟨w.heap.size,3,none⟩=some (.int .i64 en):=NEWS 3 _ rfl
   have n6:(w.alloc (.cells #[.int .i64 es,.int .i64 ed,.int .i64 ea,.int .i64 en,.int .i64 eu,.int .i64 et,.string (strOfNums eh),.string (strOfNums ec)] 67)).cell? ⟨w.heap.size,6,none⟩=some (.string (strOfNums eh)):=NEWS 6 _ rfl
   clear NEWS
   obtain⟨n,hn⟩:∃ n,b.l.length=n:=⟨_,rfl⟩
   have HN:=Kept.mk hn
   rw[hn] at x1 x2 hc hk h1
   clear hn
   obtain⟨L,hL⟩:∃ L,s.length=L:=⟨_,rfl⟩
   have hsz:(strOfNums s).size=L:=by rw[strOfNums_size,hL]
   rw[hL]
   by_cases hw:ed=who
   ·subst hw
    rw[if_neg (fun e=>e rfl)]
    by_cases hs:et=0
    ·subst hs
     rw[if_neg (fun e=>e rfl)]
     by_cases hd:eu≤clock
     ·rw[if_pos (.inl hd)]
      go_enter Tryz.func79,Tryz.ntmps79
      go_wp2_with (go_at_call 30;(with_reducible refine(TI.out _).mono ?_);rintro e w' ⟨rfl,rfl⟩)
      go_ret
      exact⟨rfl,F,PE.out⟩
     ·cases ht:tickB clock with
      | false =>
       rw[if_pos (.inr rfl)]
       rw[ht] at TI
       go_enter Tryz.func79,Tryz.ntmps79
       go_wp2_with (go_at_call 30;(with_reducible refine(TI.out _).mono ?_);rintro e w' ⟨rfl,rfl⟩)
       go_ret
       exact⟨rfl,F,PE.out⟩
      | true =>
       rw[if_neg (fun e=>e.elim hd (by simp))]
       rw[ht] at TI
       clear ht
       by_cases h32:L≠32
       ·rw[if_pos h32]
        have h32':¬ (L:Int)=32:=by omega
        go_enter Tryz.func79,Tryz.ntmps79
        go_wp2_with (go_at_call 30;(with_reducible refine(TI.out _).mono ?_);rintro e w' ⟨rfl,rfl⟩)
        go_ret
        exact⟨rfl,F,PE.out⟩
       ·rw[if_neg h32]
        obtain rfl:L=32:=Decidable.not_not.1 h32
        clear h32 PE
        by_cases hsh:sha s=eh
        ·rw[if_neg (fun e=>e hsh)]
         have heq:((strOfNums (sha s)).toList == (strOfNums eh).toList)=true:=by rw[hsh];exact beq_self_eq_true _
         obtain⟨te,ts,hT⟩:∃ te ts,giveP b.p ed ea en=(te,ts):=⟨_,_,rfl⟩
         rw[hT]
         by_cases h0:te=0
         ·subst h0
          rw[if_neg (fun e=>e rfl)]
          go_enter Tryz.func79,Tryz.ntmps79
          go_upto_region 12 with(go_at_call 30;(with_reducible refine(TI.out _).mono ?_);rintro e w' ⟨rfl,rfl⟩)
          generalize (w.alloc (.cells #[.int .i64 es,.int .i64 ed,.int .i64 ea,.int .i64 en,.int .i64 eu,.int .i64 0,.string (strOfNums eh),.string (strOfNums ec)] 67))=wz at *
          clear y0 y1 y2 y3 y4 y5 y6 y7 x0 x1 fz TI
          obtain⟨w1,c1,hcv,r1,b1⟩:∃ w1 c1,(convert 9 26 (.string (strOfNums s))).run Tryz.prog wz.drew=.ok (.slice (some ⟨wz.heap.size,0,none⟩) s.length c1) w1∧Rd w1 (some ⟨wz.heap.size,0,none⟩) s.length s∧Below wz.heap.size wz.drew w1:=to_bytes wz.drew s hb
          rw[hL] at hcv r1
          have HH:=Kept.mk (rhash_any _ 32 c1 s w1 r1 (by decide))
          have b1':Below wz.heap.size wz w1:=⟨b1.os,b1.tape,b1.output,b1.size,b1.block⟩
          have NB:Kept (∀ w',Below w1.heap.size w1 w'→w'.cell? ⟨w.heap.size,6,none⟩=some (.string (strOfNums eh))):=⟨fun w' bb=>((b1'.trans (bb.mono b1'.size)).cell (p:=⟨w.heap.size,6,none⟩) (World.block_lt_of_cell? _ _ n6)).trans n6⟩
          have NK:=NB.out _ (Below.refl _ _)
          have B1:=Kept.mk b1'
          clear r1 b1 b1'
          have HELD0:(fun w':World=>w'.cell? ⟨w.heap.size,6,none⟩=some (.string (strOfNums eh))) wz.drew:=n6
          refine wp_region_noPanic ?_
          refine wp_region_held_drew (S:=fun w':World=>w'.cell? ⟨w.heap.size,6,none⟩=some (.string (strOfNums eh))) (by kernel_rfl) HELD0 (fun hHeld=>?_)
          refine tk 0 (by assumption) ?_
          simp only[Act.put,zA,zB,zC]
          refine tk 4 (by assumption) ?_
          simp only[Act.put,zA,zB,zC]
          refine tk 5 (by assumption) ?_
          simp only[Act.put,zA,zB,zC]
          refine ld 1 (fun K hK=>?_)
          go_simp
          refine hK.out _ _ NK (fun hHeld2=>?_)
          clear hK K hHeld HELD0
          try simp only[Act.put,zA,zB,zC]
          refine ld 2 (fun K hK=>?_)
          go_simp
          go_at_call 105
          refine HH.out.mono ?_
          rintro e w3 ⟨M,mc,rfl,hM,m1,m2,rd,b3⟩
          have hcv2:=conv_same (cap:=mc) rd
          refine hK.out _ _ (NB.out _ b3) (fun hHeld3=>?_)
          clear hK K hHeld2
          try simp only[Act.put,zA,zB,zC]
          refine ld 3 (fun K hK=>?_)
          go_simp
          refine hK.out _ _ hHeld3 (fun hHeld4=>?_)
          clear hK K hHeld3
          try simp only[Act.put,zA,zB,zC]
          refine tk 6 (by assumption) ?_
          simp only[Act.put,zA,zB,zC]
          refine tk 7 (by assumption) ?_
          simp only[Act.put,zA,zB,zC]
          refine wpAnyH_done (by kernel_rfl) ?_ _
          refine NoPanic.normal ?_
          go_wp2_with fail
          have B3:=Kept.mk (B1.out.trans (b3.mono B1.out.size))
          have BW:=Kept.mk (BZ.out.trans (B3.out.mono BZ.out.size))
          have bd:=BW.out.drew
          have GT:=Kept.mk (hT0.out w3.drew bd ed ea en)
          have Bz:=Kept.mk (B0.out w3.drew bd)
          have Ez:=Kept.mk (E0.out w3.drew bd)
          have PE:=Kept.mk (PE0.out w3.drew bd)
          have k0:=(B3.out.cell (p:=⟨x,0,none⟩) (World.block_lt_of_cell? _ _ x3)).trans x3
          have k1:=(B3.out.cell (p:=⟨w.heap.size,1,none⟩) (World.block_lt_of_cell? _ _ n1)).trans n1
          have k2:=(B3.out.cell (p:=⟨w.heap.size,2,none⟩) (World.block_lt_of_cell? _ _ n2)).trans n2
          have k3:=(B3.out.cell (p:=⟨w.heap.size,3,none⟩) (World.block_lt_of_cell? _ _ n3)).trans n3
          rw[hT] at GT
          clear bd n1 n2 n3 n6 x2 x3 hcv hcv2 rd b3 B1 B3 BZ BW hT0 B0 E0 PE0 NB NK HH
          refine wp_region_still_tail 10 (by kernel_rfl) (by kernel_rfl) ?_
          simp only[List.take_succ_cons,List.take_zero,List.drop_succ_cons,List.drop_zero]
          repeat still_step
          refine wpStill_nil ?_
          change wpList _ _ _ _ _ w3.drew
          go_wp2_with fail
          refine GT.out.mono ?_
          rintro e w2 ⟨rfl,G',hp,fp⟩
          have hp:Pr w2.drew G' q ts:=⟨hp.1,hp.2.keep ((Bar.refl [] w2).drew) (fun _ _=>by simp)⟩
          have fp:Fp G G' w3.drew w2.drew:=⟨fp.1.drew,fp.2⟩
          have RP:=rk_purse Bz.out Ez.out D0.out X0.out H6.out fp
          have PP:=Kept.mk hp
          have B2:=Kept.mk RP.1;have E2:=Kept.mk RP.2.1;have D2:=Kept.mk RP.2.2.1;have X2:=Kept.mk RP.2.2.2.1
          have FF:Kept (Fp F _ w w2.drew):=⟨Fp.trans PE.out.2 RP.2.2.2.2⟩
          clear RP hp fp Bz Ez D0 X0 H6 GT PE
          have R5:=Kept.mk (rk_turn (k:=k) (j:=5) (u:=.int .i64 1) (e:=⟨es,ed,ea,en,eu,1,eh,ec⟩) PP.out B2.out E2.out (D2.out g (Option.mem_toList.2 rfl)).1 GX.out (by rw[HN.out];exact hk) (by decide) (by rw[HE.out];rfl))
          have hk5:k < (b.l.set k ⟨es,ed,ea,en,eu,1,eh,ec⟩).length:=by rw[List.length_set,HN.out];exact hk
          have R7:=Kept.mk (rk_turn (k:=k) (j:=7) (u:=.string (strOfNums s)) (e:=⟨es,ed,ea,en,eu,1,eh,s⟩) R5.out.1 R5.out.2.1 R5.out.2.2.1 (D2.out g (Option.mem_toList.2 rfl)).1 GX.out hk5 (by decide) (by rw[atE_set _ (by rw[HN.out];exact hk),if_pos rfl];rfl))
          rw[List.set_set] at R7
          have x1:w2.drew.cell? ⟨x,1,none⟩=some (.slice (some ⟨g,0,none⟩) b.l.length c):=B2.out.cell 1
          have x5:(w2.drew.setCell ⟨g,k * 8+5,none⟩ (.int .i64 1)).cell? ⟨x,1,none⟩=some (.slice (some ⟨g,0,none⟩) (b.l.set k ⟨es,ed,ea,en,eu,1,eh,ec⟩).length c):=R5.out.2.1.cell 1
          have x7:((w2.drew.setCell ⟨g,k * 8+5,none⟩ (.int .i64 1)).setCell ⟨g,k * 8+7,none⟩ (.string (strOfNums s))).cell? ⟨x,1,none⟩=some (.slice (some ⟨g,0,none⟩) (b.l.set k ⟨es,ed,ea,en,eu,1,eh,s⟩).length c):=R7.out.2.1.cell 1
          rw[List.length_set,HN.out] at x5 x7
          rw[HN.out] at x1
          obtain⟨g',c',hv,-,-,fz,-,-,-,-,-,y5,-,y7⟩:=E2.out.cells (k:=k) (by rw[HN.out];exact hk)
          obtain⟨rfl,-,-⟩:=by simpa using hv
          have fz5:=fz (k * 8+5)
          have fz7:w2.frozen? ⟨g,k * 8+7,none⟩=false:=fz (k * 8+7)
          have z7:w2.cell? ⟨g,k * 8+7,none⟩=some (.string (strOfNums (atE b.l k).secret)):=y7
          clear fz hk5
          go_wp2_with fail
          have HELD0:(fun w':World=>w'.cell? ⟨x,1,none⟩=some (.slice (some ⟨g,0,none⟩) n c)) w2.drew:=x1
          refine wp_region_noPanic ?_
          refine wp_region_held_drew (S:=fun w':World=>w'.cell? ⟨x,1,none⟩=some (.slice (some ⟨g,0,none⟩) n c)) (by kernel_rfl) HELD0 (fun hHeld=>?_)
          refine tk 0 (by assumption) ?_
          simp only[Act.put,zA,zB,zC]
          refine tk 1 (by assumption) ?_
          simp only[Act.put,zA,zB,zC]
          refine tk 2 (by assumption) ?_
          simp only[Act.put,zA,zB,zC]
          refine tk 3 (by assumption) ?_
          simp only[Act.put,zA,zB,zC]
          refine tk 4 (by assumption) ?_
          simp only[Act.put,zA,zB,zC]
          refine tk 5 (by assumption) ?_
          simp only[Act.put,zA,zB,zC]
          refine tk 6 (by assumption) ?_
          simp only[Act.put,zA,zB,zC]
          refine tk 7 (by assumption) ?_
          simp only[Act.put,zA,zB,zC]
          refine tk 8 (by assumption) ?_
          simp only[Act.put,zA,zB,zC]
          refine tk 9 (by assumption) ?_
          simp only[Act.put,zA,zB,zC]
          refine tk 10 (by assumption) ?_
          simp only[Act.put,zA,zB,zC]
          refine tk 11 (by assumption) ?_
          simp only[Act.put,zA,zB,zC]
          refine tk 12 (by assumption) ?_
          simp only[Act.put,zA,zB,zC]
          refine ld 13 (fun K hK=>?_)
          go_simp
          refine hK.out _ _ x5 (fun hHeld2=>?_)
          clear hK K hHeld HELD0
          try simp only[Act.put,zA,zB,zC]
          refine tk 14 (by assumption) ?_
          simp only[Act.put,zA,zB,zC]
          refine tk 15 (by assumption) ?_
          simp only[Act.put,zA,zB,zC]
          refine ld 16 (fun K hK=>?_)
          go_simp
          refine hK.out _ _ x7 (fun hHeld3=>?_)
          clear hK K hHeld2
          try simp only[Act.put,zA,zB,zC]
          refine wpAnyH_done (by kernel_rfl) ?_ _
          refine NoPanic.normal ?_
          go_wp2
          go_ret
          exact⟨rfl,_,⟨G',_,R7.out.1,R7.out.2.1,R7.out.2.2.1,fun z hz=>by
           obtain rfl:z=g:=(Option.some.inj (show some g=some z from Option.mem_toList.1 hz)).symm
           exact⟨(D2.out z (Option.mem_toList.2 rfl)).1,GX.out⟩,X2.out,rfl⟩,FF.out.trans (R5.out.2.2.2.trans R7.out.2.2.2)⟩
         ·rw[if_pos h0]
          obtain rfl:ts=b.p:=give_same hT h0
          have h0':(te == 0)=false:=beq_eq_false_iff_ne.2 h0
          go_enter Tryz.func79,Tryz.ntmps79
          go_upto_region 12 with(go_at_call 30;(with_reducible refine(TI.out _).mono ?_);rintro e w' ⟨rfl,rfl⟩)
          generalize (w.alloc (.cells #[.int .i64 es,.int .i64 ed,.int .i64 ea,.int .i64 en,.int .i64 eu,.int .i64 0,.string (strOfNums eh),.string (strOfNums ec)] 67))=wz at *
          clear y0 y1 y2 y3 y4 y5 y6 y7 x0 x1 fz TI
          obtain⟨w1,c1,hcv,r1,b1⟩:∃ w1 c1,(convert 9 26 (.string (strOfNums s))).run Tryz.prog wz.drew=.ok (.slice (some ⟨wz.heap.size,0,none⟩) s.length c1) w1∧Rd w1 (some ⟨wz.heap.size,0,none⟩) s.length s∧Below wz.heap.size wz.drew w1:=to_bytes wz.drew s hb
          rw[hL] at hcv r1
          have HH:=Kept.mk (rhash_any _ 32 c1 s w1 r1 (by decide))
          have b1':Below wz.heap.size wz w1:=⟨b1.os,b1.tape,b1.output,b1.size,b1.block⟩
          have NB:Kept (∀ w',Below w1.heap.size w1 w'→w'.cell? ⟨w.heap.size,6,none⟩=some (.string (strOfNums eh))):=⟨fun w' bb=>((b1'.trans (bb.mono b1'.size)).cell (p:=⟨w.heap.size,6,none⟩) (World.block_lt_of_cell? _ _ n6)).trans n6⟩
          have NK:=NB.out _ (Below.refl _ _)
          have B1:=Kept.mk b1'
          clear r1 b1 b1'
          have HELD0:(fun w':World=>w'.cell? ⟨w.heap.size,6,none⟩=some (.string (strOfNums eh))) wz.drew:=n6
          refine wp_region_noPanic ?_
          refine wp_region_held_drew (S:=fun w':World=>w'.cell? ⟨w.heap.size,6,none⟩=some (.string (strOfNums eh))) (by kernel_rfl) HELD0 (fun hHeld=>?_)
          refine tk 0 (by assumption) ?_
          simp only[Act.put,zA,zB,zC]
          refine tk 4 (by assumption) ?_
          simp only[Act.put,zA,zB,zC]
          refine tk 5 (by assumption) ?_
          simp only[Act.put,zA,zB,zC]
          refine ld 1 (fun K hK=>?_)
          go_simp
          refine hK.out _ _ NK (fun hHeld2=>?_)
          clear hK K hHeld HELD0
          try simp only[Act.put,zA,zB,zC]
          refine ld 2 (fun K hK=>?_)
          go_simp
          go_at_call 105
          refine HH.out.mono ?_
          rintro e w3 ⟨M,mc,rfl,hM,m1,m2,rd,b3⟩
          have hcv2:=conv_same (cap:=mc) rd
          refine hK.out _ _ (NB.out _ b3) (fun hHeld3=>?_)
          clear hK K hHeld2
          try simp only[Act.put,zA,zB,zC]
          refine ld 3 (fun K hK=>?_)
          go_simp
          refine hK.out _ _ hHeld3 (fun hHeld4=>?_)
          clear hK K hHeld3
          try simp only[Act.put,zA,zB,zC]
          refine tk 6 (by assumption) ?_
          simp only[Act.put,zA,zB,zC]
          refine tk 7 (by assumption) ?_
          simp only[Act.put,zA,zB,zC]
          refine wpAnyH_done (by kernel_rfl) ?_ _
          refine NoPanic.normal ?_
          go_wp2_with fail
          have B3:=Kept.mk (B1.out.trans (b3.mono B1.out.size))
          have BW:=Kept.mk (BZ.out.trans (B3.out.mono BZ.out.size))
          have bd:=BW.out.drew
          have GT:=Kept.mk (hT0.out w3.drew bd ed ea en)
          have Bz:=Kept.mk (B0.out w3.drew bd)
          have Ez:=Kept.mk (E0.out w3.drew bd)
          have PE:=Kept.mk (PE0.out w3.drew bd)
          have k0:=(B3.out.cell (p:=⟨x,0,none⟩) (World.block_lt_of_cell? _ _ x3)).trans x3
          have k1:=(B3.out.cell (p:=⟨w.heap.size,1,none⟩) (World.block_lt_of_cell? _ _ n1)).trans n1
          have k2:=(B3.out.cell (p:=⟨w.heap.size,2,none⟩) (World.block_lt_of_cell? _ _ n2)).trans n2
          have k3:=(B3.out.cell (p:=⟨w.heap.size,3,none⟩) (World.block_lt_of_cell? _ _ n3)).trans n3
          rw[hT] at GT
          clear bd n1 n2 n3 n6 x2 x3 hcv hcv2 rd b3 B1 B3 BZ BW hT0 B0 E0 PE0 NB NK HH
          refine wp_region_still_tail 10 (by kernel_rfl) (by kernel_rfl) ?_
          simp only[List.take_succ_cons,List.take_zero,List.drop_succ_cons,List.drop_zero]
          repeat still_step
          refine wpStill_nil ?_
          change wpList _ _ _ _ _ w3.drew
          go_wp2_with fail
          refine GT.out.mono ?_
          rintro e w2 ⟨rfl,G',hp,fp⟩
          have RP:=rk_purse Bz.out Ez.out D0.out X0.out H6.out fp
          have PP:=Kept.mk hp
          have B2:=Kept.mk RP.1;have E2:=Kept.mk RP.2.1;have D2:=Kept.mk RP.2.2.1;have X2:=Kept.mk RP.2.2.2.1
          have FF:Kept (Fp F _ w w2):=⟨Fp.trans PE.out.2 RP.2.2.2.2⟩
          clear RP hp fp Bz Ez D0 X0 H6 GT PE
          go_wp2
          go_ret
          exact⟨rfl,_,⟨G',_,PP.out,B2.out,E2.out,D2.out,X2.out,rfl⟩,FF.out⟩
        ·rw[if_pos hsh]
         have heq:((strOfNums (sha s)).toList == (strOfNums eh).toList)=false:=beq_eq_false_iff_ne.2 (fun e=>hsh (strOfNums_inj (sha_bytes s) hE e))
         go_enter Tryz.func79,Tryz.ntmps79
         go_upto_region 12 with(go_at_call 30;(with_reducible refine(TI.out _).mono ?_);rintro e w' ⟨rfl,rfl⟩)
         generalize (w.alloc (.cells #[.int .i64 es,.int .i64 ed,.int .i64 ea,.int .i64 en,.int .i64 eu,.int .i64 0,.string (strOfNums eh),.string (strOfNums ec)] 67))=wz at *
         clear y0 y1 y2 y3 y4 y5 y6 y7 x0 x1 fz TI
         obtain⟨w1,c1,hcv,r1,b1⟩:∃ w1 c1,(convert 9 26 (.string (strOfNums s))).run Tryz.prog wz.drew=.ok (.slice (some ⟨wz.heap.size,0,none⟩) s.length c1) w1∧Rd w1 (some ⟨wz.heap.size,0,none⟩) s.length s∧Below wz.heap.size wz.drew w1:=to_bytes wz.drew s hb
         rw[hL] at hcv r1
         have HH:=Kept.mk (rhash_any _ 32 c1 s w1 r1 (by decide))
         have b1':Below wz.heap.size wz w1:=⟨b1.os,b1.tape,b1.output,b1.size,b1.block⟩
         have NB:Kept (∀ w',Below w1.heap.size w1 w'→w'.cell? ⟨w.heap.size,6,none⟩=some (.string (strOfNums eh))):=⟨fun w' bb=>((b1'.trans (bb.mono b1'.size)).cell (p:=⟨w.heap.size,6,none⟩) (World.block_lt_of_cell? _ _ n6)).trans n6⟩
         have NK:=NB.out _ (Below.refl _ _)
         have B1:=Kept.mk b1'
         clear r1 b1 b1'
         have HELD0:(fun w':World=>w'.cell? ⟨w.heap.size,6,none⟩=some (.string (strOfNums eh))) wz.drew:=n6
         refine wp_region_noPanic ?_
         refine wp_region_held_drew (S:=fun w':World=>w'.cell? ⟨w.heap.size,6,none⟩=some (.string (strOfNums eh))) (by kernel_rfl) HELD0 (fun hHeld=>?_)
         refine tk 0 (by assumption) ?_
         simp only[Act.put,zA,zB,zC]
         refine tk 4 (by assumption) ?_
         simp only[Act.put,zA,zB,zC]
         refine tk 5 (by assumption) ?_
         simp only[Act.put,zA,zB,zC]
         refine ld 1 (fun K hK=>?_)
         go_simp
         refine hK.out _ _ NK (fun hHeld2=>?_)
         clear hK K hHeld HELD0
         try simp only[Act.put,zA,zB,zC]
         refine ld 2 (fun K hK=>?_)
         go_simp
         go_at_call 105
         refine HH.out.mono ?_
         rintro e w3 ⟨M,mc,rfl,hM,m1,m2,rd,b3⟩
         have hcv2:=conv_same (cap:=mc) rd
         refine hK.out _ _ (NB.out _ b3) (fun hHeld3=>?_)
         clear hK K hHeld2
         try simp only[Act.put,zA,zB,zC]
         refine ld 3 (fun K hK=>?_)
         go_simp
         refine hK.out _ _ hHeld3 (fun hHeld4=>?_)
         clear hK K hHeld3
         try simp only[Act.put,zA,zB,zC]
         refine tk 6 (by assumption) ?_
         simp only[Act.put,zA,zB,zC]
         refine tk 7 (by assumption) ?_
         simp only[Act.put,zA,zB,zC]
         refine wpAnyH_done (by kernel_rfl) ?_ _
         refine NoPanic.normal ?_
         go_wp2_with fail
         go_ret
         exact⟨rfl,F,PE0.out _ (BZ.out.trans ((B1.out.trans (b3.mono B1.out.size)).mono BZ.out.size))⟩
    ·rw[if_pos hs]
     have hs':(et == 0)=false:=beq_eq_false_iff_ne.2 hs
     go_enter Tryz.func79,Tryz.ntmps79
     go_wp2_with (go_at_call 30;(with_reducible refine(TI.out _).mono ?_);rintro e w' ⟨rfl,rfl⟩)
     go_ret
     exact⟨rfl,F,PE.out⟩
   ·rw[if_pos hw]
    have hw':(ed == who)=false:=beq_eq_false_iff_ne.2 hw
    go_enter Tryz.func79,Tryz.ntmps79
    go_wp2_with (go_at_call 30;(with_reducible refine(TI.out _).mono ?_);rintro e w' ⟨rfl,rfl⟩)
    go_ret
    exact⟨rfl,F,PE.out⟩
end
end Go.Proofs.YtchcgoabogcabaaGreat.Escrow
