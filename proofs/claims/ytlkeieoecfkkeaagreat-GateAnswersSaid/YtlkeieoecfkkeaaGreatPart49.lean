/-
  Parts laid together: GateKey GateOpen GateTell GateTake GateNew GateFirst GateRow GatePoll GateDocs GateAns.
-/
import Derived.Test.YtlkeieoecfkkeaaGreatPart1
import Derived.Test.YtlkeieoecfkkeaaGreatPart40
import Derived.Test.YtlkeieoecfkkeaaGreatPart44
import Derived.Deep.RegionHeld3
import Derived.Test.YtlkeieoecfkkeaaGreatPart45
import Derived.Test.YtlkeieoecfkkeaaGreatPart46
import Derived.Test.YtlkeieoecfkkeaaGreatPart47
import Derived.Test.YtlkeieoecfkkeaaGreatPart18
import Derived.Test.YtlkeieoecfkkeaaGreatPart6
import Derived.Test.YtlkeieoecfkkeaaGreatPart20
import Derived.Test.YtlkeieoecfkkeaaGreatPart48
set_option maxRecDepth 100000
set_option maxHeartbeats 2000000
namespace Go.Proofs.YtlkeieoecfkkeaaGreat
namespace Gate
open Go.RowKit Sha Wire Mac Seal Vault Meter
section
variable {b : Nat} {Z : List Nat} {w : World} {G : GS} {A : Option Addr} {l c r : Nat} {m : MV} {cs : List Int}
theorem Fe (h:Gp b Z w G A l c r m cs) (party:Int):Calls Tryz.prog 136 #[.pointer (some ⟨G.g,0,none⟩),.int .i64 party] w (bD G.t (keyV G.seed party G.which) w):=by
 have H:=ae.mk h
 clear h
 go_enter Tryz.func136,Tryz.ntmps136
 go_upto_region 1 with(fail)
 refine wp_region_noPanic ?_
 refine wp_region_held_drew (S:=fun u:World=>u.cell? ⟨G.g,0,none⟩=some (.pointer (some ⟨G.t,0,none⟩))∧u.cell? ⟨G.g,1,none⟩=some (.int .i64 G.which)∧u.cell? ⟨G.g,2,none⟩=some (.slice A l c)) (by kernel_rfl) ⟨H.out.c0,H.out.c1,H.out.c2⟩ (fun _=>?_)
 have H1:=ae.mk (H.out.below (Below.refl _ w).drew)
 have WS:ae (w.drew.heap.size=w.heap.size∧Bar [G.t] w w.drew):=⟨rfl,(Bar.refl _ _).drew⟩
 clear H
 generalize w.drew=w1 at *
 have KC:=ae.mk (Nw party G.which H1.out.tabs H1.out.rd H1.out.lc.1 H1.out.lc.2.1 (by have:=H1.out.lc.2.2;omega))
 unfold bD at KC
 refine tk 0 ?_
 simp only[Act.put,zA,zB,zC]
 refine tk 1 ?_
 simp only[Act.put,zA,zB,zC]
 refine tk 2 ?_
 simp only[Act.put,zA,zB,zC]
 refine tk 3 ?_
 simp only[Act.put,zA,zB,zC]
 refine tk 4 ?_
 simp only[Act.put,zA,zB,zC]
 refine tk 5 ?_
 simp only[Act.put,zA,zB,zC]
 refine tk 6 ?_
 simp only[Act.put,zA,zB,zC]
 refine tk 7 ?_
 simp only[Act.put,zA,zB,zC]
 refine tk 8 ?_
 simp only[Act.put,zA,zB,zC]
 refine tk 9 ?_
 simp only[Act.put,zA,zB,zC]
 refine tk 10 ?_
 simp only[Act.put,zA,zB,zC]
 refine tk 11 ?_
 simp only[Act.put,zA,zB,zC]
 refine tk 12 ?_
 simp only[Act.put,zA,zB,zC]
 refine ld 13 (fun K hK=>?_)
 go_simp
 go_at_call 11
 refine KC.out.mono ?_
 rintro e w2 ⟨M,rfl,hM,k,tt,bb⟩
 have H2:=ae.mk (H1.out.tab bb (.inr tt))
 have RK:=ae.mk k;have TT:=ae.mk tt
 have BB:=ae.mk (WS.out.2.trans bb (fun z hz=>.inl hz))
 have HM:ae (w.heap.size≤M):=⟨by rw[← WS.out.1];exact hM⟩
 refine hK.out _ _ ⟨H2.out.c0,H2.out.c1,H2.out.c2⟩ (fun _=>?_)
 clear hK K KC k tt bb hM H1 H2
 try simp only[Act.put,zA,zB,zC]
 refine tk 14 ?_
 simp only[Act.put,zA,zB,zC]
 refine wpAnyH_done (by kernel_rfl) ?_ _
 refine NoPanic.normal ?_
 go_wp2
 go_ret
 exact⟨M,rfl,HM.out,RK.out,TT.out,BB.out⟩
end
section
variable {b : Nat} {Z : List Nat} {w w2 : World} {G : GS} {A B : Option Addr} {l c r n cb R t : Nat} {m : MV} {cs xs : List Int}
theorem Vh (X:Blk w2 R 54 #[.int .i64 0,.int .i64 0,.int .i64 0,.int .i64 0,.slice none 0 0]) (tt:Tab w2 t) (bb:Bar [t] w w2) (hR:w.heap.size≤R) (ht:t < w.heap.size) (e:Int) :
  aX t (Xl,e) w (.returned (.tuple #[.agg #[.int .i64 0,.int .i64 0,.int .i64 0,.int .i64 0,.slice none 0 0],.int .i64 e])) (((((w2.setCell ⟨R,0,none⟩ (.int .i64 0)).setCell ⟨R,1,none⟩ (.int .i64 0)).setCell ⟨R,2,none⟩ (.int .i64 0)).setCell ⟨R,3,none⟩ (.int .i64 0)).setCell ⟨R,4,none⟩ (.slice none 0 0)):=by
 have P5:=put5 X (.int .i64 0) (.int .i64 0) (.int .i64 0) (.int .i64 0) (.slice none 0 0)
 exact⟨none,0,0,rfl,Nat.le_refl _,by omega,Rd.nil_,tt.bar P5.2 (by rw[List.mem_singleton];omega),bb.trans P5.2 (fun k hk=>.inr (by rw[List.mem_singleton] at hk;omega)),lQ _⟩
theorem Ip (h:Gp b Z w G A l c r m cs) (hr:Rd w B n xs) (hc:n≤cb) (hn:n≤1000000) (hf:(peekN xs).2.2.2≠0∨(peekN xs).2.1≠G.which∨(peekN xs).2.2.1≠0):Calls Tryz.prog 95 #[.pointer (some ⟨G.g,0,none⟩),.slice B n cb] w (aX G.t (Xl,2) w):=by
 obtain⟨R,hR⟩:∃ R,w.heap.size=R:=⟨_,rfl⟩
 have b0:Below w.heap.size w (w.alloc (.cells #[.int .i64 0,.int .i64 0,.int .i64 0,.int .i64 0,.slice none 0 0] 54)):=(Below.refl _ _).alloc (Nat.le_refl _) _
 have X:=ae.mk (Blk.new_at w 54 #[.int .i64 0,.int .i64 0,.int .i64 0,.int .i64 0,.slice none 0 0] R hR.symm)
 have H:=ae.mk (h.below b0);have W0:=ae.mk b0
 have RX:ae (w.heap.size≤R∧G.t < w.heap.size):=⟨by omega,h.tabs.lt⟩
 have CP:=zQ B n cb xs _ (hr.below b0) hc hn
 unfold dW at CP
 generalize peekN xs=pk at *
 obtain⟨p,hh,y,e⟩:=pk
 dsimp only at CP hf
 have HF:=ae.mk hf
 clear hf
 replace CP:=ae.mk CP
 clear h hr b0
 go_enter Tryz.func95,Tryz.ntmps95
 go_upto_region 1 with(fail)
 clear hR
 generalize w.alloc (.cells #[.int .i64 0,.int .i64 0,.int .i64 0,.int .i64 0,.slice none 0 0] 54)=w1 at *
 go_wp2_with fail
 refine CP.out.mono ?_
 rintro e1 w2 ⟨rfl,bb⟩
 replace H:=ae.mk (H.out.below bb);replace X:=ae.mk (X.out.below bb X.out.lt);replace W0:=ae.mk (W0.out.trans (bb.mono W0.out.size))
 clear CP
 have F5:=ae.mk (Vh X.out H.out.tabs (barOf W0.out _) RX.out.1 RX.out.2 2)
 have P5:=ae.mk (put5 X.out (.int .i64 0) (.int .i64 0) (.int .i64 0) (.int .i64 0) (.slice none 0 0))
 have g1:=H.out.c1;have g5:=H.out.c5
 have x0:=X.out.cell 0;have x1:=X.out.cell 1;have x2:=X.out.cell 2;have x3:=X.out.cell 3;have x4:=X.out.cell 4
 have z0:=X.out.frozen 0;have z1:=X.out.frozen 1;have z2:=X.out.frozen 2;have z3:=X.out.frozen 3;have z4:=X.out.frozen 4
 clear bb W0
 by_cases h0:e=0
 ·subst h0
  have h0b:((0:Int) != 0)=false:=rfl
  by_cases h1:hh=G.which
  ·have h1b:(hh != G.which)=false:=by simpa using h1
   have h2b:(y != 0)=true:=by simpa using (HF.out.resolve_left (fun k=>k rfl)).resolve_left (fun k=>k h1)
   clear h1
   go_wp2
   (try simp only[Exit.inBlock,Exit.then])
   refine bodyPost_ret (Seal.results_cell_tmp rfl _ _ R 54 #[.int .i64 0,.int .i64 0,.int .i64 0,.int .i64 0,.slice none 0 0] (0,0) _ rfl P5.out.1 Tryz.underlying54 rfl aG) rfl ?_
   exact F5.out
  ·have h1b:(hh != G.which)=true:=by simpa using h1
   clear h1
   go_wp2
   (try simp only[Exit.inBlock,Exit.then])
   refine bodyPost_ret (Seal.results_cell_tmp rfl _ _ R 54 #[.int .i64 0,.int .i64 0,.int .i64 0,.int .i64 0,.slice none 0 0] (0,0) _ rfl P5.out.1 Tryz.underlying54 rfl aG) rfl ?_
   exact F5.out
 ·have h0b:(e != 0)=true:=by simpa using h0
  clear h0
  go_wp2
  (try simp only[Exit.inBlock,Exit.then])
  refine bodyPost_ret (Seal.results_cell_tmp rfl _ _ R 54 #[.int .i64 0,.int .i64 0,.int .i64 0,.int .i64 0,.slice none 0 0] (0,0) _ rfl P5.out.1 Tryz.underlying54 rfl aG) rfl ?_
  exact F5.out
theorem NE (h:Gp b Z w G A l c r m cs) (hr:Rd w B n xs) (hc:n≤cb) (hcm:cb≤9223372036854775807) (hn:n≤1000000) {p:Int}(hp:peekN xs=(p,G.which,0,0)) (hk:p < (G.k:Int)) (hB:In B n Z):Calls Tryz.prog 95 #[.pointer (some ⟨G.g,0,none⟩),.slice B n cb] w (aX G.t (openN (keyV G.seed p G.which) xs) w):=by
 obtain⟨R,hR⟩:∃ R,w.heap.size=R:=⟨_,rfl⟩
 have b0:Below w.heap.size w (w.alloc (.cells #[.int .i64 0,.int .i64 0,.int .i64 0,.int .i64 0,.slice none 0 0] 54)):=(Below.refl _ _).alloc (Nat.le_refl _) _
 have X:=ae.mk (Blk.new_at w 54 #[.int .i64 0,.int .i64 0,.int .i64 0,.int .i64 0,.slice none 0 0] R hR.symm)
 have H:=ae.mk (h.below b0);have W0:=ae.mk b0
 have RX:ae (w.heap.size≤R∧G.t < w.heap.size):=⟨by omega,h.tabs.lt⟩
 have CP:=zQ B n cb xs _ (hr.below b0) hc hn
 unfold dW at CP
 rw[hp] at CP
 dsimp only at CP
 clear hp
 have RB:ae (∀ w',Below w.heap.size w w'→Rd w' B n xs):=⟨fun w' bb=>hr.below bb⟩
 replace CP:=ae.mk CP
 clear h hr b0
 go_enter Tryz.func95,Tryz.ntmps95
 go_upto_region 1 with(fail)
 clear hR
 generalize w.alloc (.cells #[.int .i64 0,.int .i64 0,.int .i64 0,.int .i64 0,.slice none 0 0] 54)=w1 at *
 go_wp2_with fail
 refine CP.out.mono ?_
 rintro e1 w2 ⟨rfl,bb⟩
 replace H:=ae.mk (H.out.below bb);replace X:=ae.mk (X.out.below bb X.out.lt);replace W0:=ae.mk (W0.out.trans (bb.mono W0.out.size))
 clear CP
 clear bb
 have g1:=H.out.c1;have g5:=H.out.c5
 have h5:((G.k:Int)≤p)=False:=eq_false (by omega)
 have h0b:((0:Int) != 0)=false:=rfl
 have h1b:(G.which != G.which)=false:=by simp
 go_upto_region 6 with(fail)
 clear g1 g5 h5 h0b h1b
 refine wp_region_noPanic ?_
 refine wp_region_held_drew (S:=fun u:World=>u.cell? ⟨G.g,0,none⟩=some (.pointer (some ⟨G.t,0,none⟩))) (by kernel_rfl) H.out.c0 (fun _=>?_)
 replace H:=ae.mk (H.out.below (Below.refl _ w2).drew);replace X:=ae.mk X.out.drew;replace W0:=ae.mk W0.out.drew
 generalize w2.drew=w3 at *
 have KK:=Fe H.out p
 unfold bD at KK
 replace KK:=ae.mk KK
 refine tk 0 ?_
 simp only[Act.put,zA,zB,zC]
 refine tk 1 ?_
 simp only[Act.put,zA,zB,zC]
 refine tk 2 ?_
 simp only[Act.put,zA,zB,zC]
 refine tk 3 ?_
 simp only[Act.put,zA,zB,zC]
 refine tk 4 ?_
 simp only[Act.put,zA,zB,zC]
 refine tk 5 ?_
 simp only[Act.put,zA,zB,zC]
 refine tk 7 ?_
 simp only[Act.put,zA,zB,zC]
 refine ld 6 (fun K hK=>?_)
 go_simp
 go_at_call 136
 refine KK.out.mono ?_
 rintro e2 w4 ⟨M,rfl,hM,k,tt,bb⟩
 have hXt:R∉[G.t]:=by rw[List.mem_singleton];have:=RX.out;omega
 have RB4:=ae.mk ((Far.tab H.out.vq bb).rd (RB.out _ W0.out) hB)
 replace H:=ae.mk (H.out.tab bb (.inr tt));replace X:=ae.mk (X.out.bar bb hXt)
 have BB:=ae.mk ((barOf W0.out [G.t]).trans bb (fun z hz=>.inl hz))
 have RK:=ae.mk k;have TT:=ae.mk tt
 refine hK.out _ _ H.out.c0 (fun _=>?_)
 clear hK K KK k tt bb W0 hM RB
 try simp only[Act.put,zA,zB,zC]
 have KO:=zS G.t (some ⟨M,0,none⟩) 32 32 (keyV G.seed p G.which) B n cb xs w4 (.inr TT.out) (Rd.blk RK.out (iI _ _) (dG _ _)) (by omega) (by omega) (by omega) RB4.out hc hcm hn
 unfold aX at KO
 generalize openN (keyV G.seed p G.which) xs=O at *
 obtain⟨⟨op,oh,oy,os,ob⟩,oe⟩:=O
 dsimp only at KO
 replace KO:=ae.mk KO
 clear RK TT RB4
 refine ld 8 (fun K hK=>?_)
 go_simp
 go_at_call 135
 refine KO.out.mono ?_
 rintro e3 w5 ⟨A',l',c',rfl,hl,hm,rd,tt,bb,nw⟩
 have OFR:ae (Off A' l' [R]):=⟨by
  have hx:=X.out.lt
  by_cases h0:l'=0
  ·exact .inl h0
  ·obtain⟨g,o,rfl,-⟩:=rd.2.2.resolve_left h0
   exact .inr ⟨g,o,rfl,fun hm=>by rw[List.mem_singleton] at hm;have:=nw g o rfl;omega⟩⟩
 replace H:=ae.mk (H.out.tab bb tt);replace X:=ae.mk (X.out.bar bb hXt)
 have NW:ae (NewA w A'):=⟨fun g o h=>Nat.le_trans BB.out.size (nw g o h)⟩
 replace BB:=ae.mk (BB.out.trans bb (fun z hz=>.inl hz))
 have RK:=ae.mk rd;have TT:=ae.mk tt
 have LM:ae (l'≤c'∧c'≤9223372036854775807):=⟨hl,hm⟩
 refine hK.out _ _ H.out.c0 (fun _=>?_)
 clear hK K KO bb tt rd hl hm nw
 try simp only[Act.put,zA,zB,zC]
 refine tk 9 ?_
 simp only[Act.put,zA,zB,zC]
 refine tk 10 ?_
 simp only[Act.put,zA,zB,zC]
 have x0:=X.out.cell 0;have x1:=X.out.cell 1;have x2:=X.out.cell 2;have x3:=X.out.cell 3;have x4:=X.out.cell 4
 have z0:=X.out.frozen 0;have z1:=X.out.frozen 1;have z2:=X.out.frozen 2;have z3:=X.out.frozen 3;have z4:=X.out.frozen 4
 have P5:=ae.mk (put5 X.out (.int .i64 op) (.int .i64 oh) (.int .i64 oy) (.int .i64 os) (.slice A' l' c'))
 have hgR:G.g∉[R]:=by rw[List.mem_singleton];exact iP H.out.blk X.out (by decide)
 have hS9:(((((w5.setCell ⟨R,0,none⟩ (.int .i64 op)).setCell ⟨R,1,none⟩ (.int .i64 oh)).setCell ⟨R,2,none⟩ (.int .i64 oy)).setCell ⟨R,3,none⟩ (.int .i64 os)).setCell ⟨R,4,none⟩ (.slice A' l' c')).cell? ⟨G.g,0,none⟩=some (.pointer (some ⟨G.t,0,none⟩)):=(H.out.blk.bar P5.out.2 hgR).cell 0
 have F5:ae (aX G.t (⟨op,oh,oy,os,ob⟩,oe) w (.returned (.tuple #[.agg #[.int .i64 op,.int .i64 oh,.int .i64 oy,.int .i64 os,.slice A' l' c'],.int .i64 oe])) (((((w5.setCell ⟨R,0,none⟩ (.int .i64 op)).setCell ⟨R,1,none⟩ (.int .i64 oh)).setCell ⟨R,2,none⟩ (.int .i64 oy)).setCell ⟨R,3,none⟩ (.int .i64 os)).setCell ⟨R,4,none⟩ (.slice A' l' c'))) :=
  ⟨A',l',c',rfl,LM.out.1,LM.out.2,RK.out.far P5.out.2 OFR.out,TT.out.bar P5.out.2 (by rw[List.mem_singleton];have:=RX.out;omega),BB.out.trans P5.out.2 (fun k hk=>.inr (by rw[List.mem_singleton] at hk;have:=RX.out;omega)),NW.out⟩
 have P1:=ae.mk P5.out.1
 refine ld 11 (fun K hK=>?_)
 go_simp
 clear x0 x1 x2 x3 x4 z0 z1 z2 z3 z4 P5
 generalize (((((w5.setCell ⟨R,0,none⟩ (.int .i64 op)).setCell ⟨R,1,none⟩ (.int .i64 oh)).setCell ⟨R,2,none⟩ (.int .i64 oy)).setCell ⟨R,3,none⟩ (.int .i64 os)).setCell ⟨R,4,none⟩ (.slice A' l' c'))=w6 at *
 refine hK.out _ _ hS9 (fun _=>?_)
 clear hK K
 try simp only[Act.put,zA,zB,zC]
 refine tk 12 ?_
 simp only[Act.put,zA,zB,zC]
 refine wpAnyH_done (by kernel_rfl) ?_ _
 refine NoPanic.normal ?_
 go_wp2
 (try simp only[Exit.inBlock,Exit.then])
 refine bodyPost_ret (Seal.results_cell_tmp rfl _ _ R 54 #[.int .i64 op,.int .i64 oh,.int .i64 oy,.int .i64 os,.slice A' l' c'] (0,0) _ rfl P1.out Tryz.underlying54 rfl aG) rfl ?_
 exact F5.out
end
def two (xs ys:List Int) (i:Nat):List Int:=if i=0 then xs else ys
theorem Tj (xs ys:List Int):cat (two xs ys) 2=xs++ys:=by simp[cat,two]
theorem Vj {w:World}{g:Nat}{T:TypeId}{xs ys:List Int}{A0 A1:Option Addr}{n0 n1 c0 c1:Nat}(h:Blk w g T #[.slice A0 n0 c0,.slice A1 n1 c1])
  (h0:n0≤c0) (h1:n1≤c1) (k0:c0≤9223372036854775807) (k1:c1≤9223372036854775807) (r0:Rd w A0 n0 xs) (r1:Rd w A1 n1 ys):Rws w (some ⟨g,0,none⟩) 2 (two xs ys):=by
 refine .inr ⟨g,0,rfl,fun r hr=>?_⟩
 rw[Nat.zero_add,h.cell]
 match r,hr with
 | 0,_=>exact⟨A0,n0,c0,rfl,h0,k0,r0⟩
 | 1,_=>exact⟨A1,n1,c1,rfl,h1,k1,r1⟩
theorem nK {w:World}{A:Option Addr}{l R:Nat}{xs:List Int}(r:Rd w A l xs) (h:w.heap.size≤R):Off A l [R]:=by
 by_cases h0:l=0
 ·exact .inl h0
 ·obtain⟨g,o,rfl,hc⟩:=r.2.2.resolve_left h0
  exact .inr ⟨g,o,rfl,fun hm=>by
   have h1:g < w.heap.size:=World.block_lt_of_cell? _ _ (hc 0 (by omega))
   rw[List.mem_singleton] at hm
   omega⟩
section
variable {b : Nat} {Z : List Nat} {w : World} {G : GS} {A A1 B : Option Addr} {l c r na ca nb cb : Nat} {m : MV} {cs ans : List Int} {p y : Int} {s : Nat}
theorem Gp.note {w':World}{R:Nat}{T:Array Value}(h:Gp b Z w G A l c r m cs) (X:Blk w R 54 T) (o:Off A l [R]) (hR:R∈Z) (bb:Bar [R] w w'):Gp b Z w' G A l c r m cs :=
 ⟨h.blk.bar bb (by rw[List.mem_singleton];exact iP h.blk X (by decide)),h.rd.far bb o,h.lc,h.inA,h.off,h.c8,h.mblk.bar bb (by rw[List.mem_singleton];exact iP h.mblk X (by decide)),h.rblk.bar bb (by rw[List.mem_singleton];exact iP h.rblk X (by decide)),h.gK,h.mK,h.rK,h.bm,
  h.vq.own bb (fun z hz=>by rw[List.mem_singleton] at hz;rw[hz];exact hR)⟩
theorem NG (h:Gp b Z w G A l c r m cs) (ha:Rd w A1 na ans) (hA:In A1 na Z) (hac:na≤ca∧ca≤9223372036854775807) (hn:na≤100000) (bd:List Int) (hw:Int) :
  Calls Tryz.prog 97 #[.pointer (some ⟨G.g,0,none⟩),.agg #[.int .i64 p,.int .i64 hw,.int .i64 y,.int .i64 s,.slice B nb cb],.slice A1 na ca] w (gU G.t (gtellV G.which G.seed ⟨p,hw,y,s,bd⟩ ans) w):=by
 obtain⟨R,hR⟩:∃ R,w.heap.size=R:=⟨_,rfl⟩
 have b0:Below w.heap.size w (w.alloc (.cells #[.int .i64 p,.int .i64 hw,.int .i64 y,.int .i64 s,.slice B nb cb] 54)):=(Below.refl _ _).alloc (Nat.le_refl _) _
 have X:=ae.mk (Blk.new_at w 54 #[.int .i64 p,.int .i64 hw,.int .i64 y,.int .i64 s,.slice B nb cb] R hR.symm)
 have RX:ae (w.heap.size≤R∧G.t < w.heap.size∧R∉[G.t]):=⟨by omega,h.tabs.lt,by rw[List.mem_singleton];have:=h.tabs.lt;omega⟩
 have E:gtellV G.which G.seed ⟨p,hw,y,s,bd⟩ ans=sealN (keyV G.seed p G.which) ⟨p,hw,1,s,ans++rcpV (stampV G.seed G.which) p G.which s ans⟩:=by
  unfold gtellV rG
  rw[Int.toNat_natCast]
 rw[E]
 have OA:ae (Off A1 na [R]):=⟨nK ha (by omega)⟩
 have OFF:ae (Off A l [R]):=⟨nK h.rd (by omega)⟩
 replace hA:In A1 na (R :: Z):=hA.mono (fun z hz=>List.mem_cons_of_mem _ hz)
 have H:=ae.mk ((h.more (K':=R :: Z) (fun z hz=>List.mem_cons_of_mem _ hz) (fun z hz=>by
  rcases List.mem_cons.1 hz with e|e
  ·exact .inl (by omega)
  ·exact .inr e)).below b0)
 have RA:=ae.mk (ha.below b0);have BB:=ae.mk (barOf b0 [G.t])
 have HN:=ae.mk hn;have HAC:=ae.mk hac
 clear h ha b0 hn hac E
 go_enter Tryz.func97,Tryz.ntmps97
 go_upto_region 1 with(fail)
 clear hR
 generalize w.alloc (.cells #[.int .i64 p,.int .i64 hw,.int .i64 y,.int .i64 s,.slice B nb cb] 54)=w1 at *
 refine wp_region_noPanic ?_
 refine wp_region_held_drew (S:=fun u:World=>u.cell? ⟨G.g,0,none⟩=some (.pointer (some ⟨G.t,0,none⟩))∧u.cell? ⟨G.g,1,none⟩=some (.int .i64 G.which)∧u.cell? ⟨G.g,2,none⟩=some (.slice A l c)) (by kernel_rfl) ⟨H.out.c0,H.out.c1,H.out.c2⟩ (fun _=>?_)
 replace H:=ae.mk (H.out.below (Below.refl _ w1).drew);replace X:=ae.mk X.out.drew;replace BB:=ae.mk BB.out.drew;replace RA:=ae.mk RA.out.drew
 generalize w1.drew=w2 at *
 have KC:=ae.mk (Il G.which H.out.tabs H.out.rd H.out.lc.1 H.out.lc.2.1 (by have:=H.out.lc.2.2;omega))
 unfold bD at KC
 refine tk 0 ?_
 simp only[Act.put,zA,zB,zC]
 refine tk 1 ?_
 simp only[Act.put,zA,zB,zC]
 refine tk 2 ?_
 simp only[Act.put,zA,zB,zC]
 refine tk 3 ?_
 simp only[Act.put,zA,zB,zC]
 refine tk 4 ?_
 simp only[Act.put,zA,zB,zC]
 refine tk 5 ?_
 simp only[Act.put,zA,zB,zC]
 refine tk 6 ?_
 simp only[Act.put,zA,zB,zC]
 refine tk 7 ?_
 simp only[Act.put,zA,zB,zC]
 refine tk 8 ?_
 simp only[Act.put,zA,zB,zC]
 refine tk 9 ?_
 simp only[Act.put,zA,zB,zC]
 refine tk 10 ?_
 simp only[Act.put,zA,zB,zC]
 refine tk 11 ?_
 simp only[Act.put,zA,zB,zC]
 refine ld 12 (fun K hK=>?_)
 go_simp
 go_at_call 13
 refine KC.out.mono ?_
 rintro e w3 ⟨M,rfl,hM,k,tt,bb⟩
 replace RA:=ae.mk ((Far.tab H.out.vq bb).rd RA.out hA)
 replace H:=ae.mk (H.out.tab bb (.inr tt));replace X:=ae.mk (X.out.bar bb RX.out.2.2)
 replace BB:=ae.mk (BB.out.trans bb (fun z hz=>.inl hz))
 have RK:ae (Rd w3 (some ⟨M,0,none⟩) 32 (stampV G.seed G.which)):=⟨Rd.blk k (iI _ _) (dG _ _)⟩
 refine hK.out _ _ ⟨H.out.c0,H.out.c1,H.out.c2⟩ (fun _=>?_)
 clear hK K KC k tt bb hM
 try simp only[Act.put,zA,zB,zC]
 refine tk 13 ?_
 simp only[Act.put,zA,zB,zC]
 refine wpAnyH_done (by kernel_rfl) ?_ _
 refine NoPanic.normal ?_
 go_upto_region 2 with(fail)
 refine wp_region_noPanic ?_
 refine wp_region_held_drew (S:=fun u:World=>u.cell? ⟨G.g,0,none⟩=some (.pointer (some ⟨G.t,0,none⟩))∧u.cell? ⟨G.g,1,none⟩=some (.int .i64 G.which)∧u.cell? ⟨R,0,none⟩=some (.int .i64 p)∧u.cell? ⟨R,3,none⟩=some (.int .i64 s)) (by kernel_rfl) ⟨H.out.c0,H.out.c1,X.out.cell 0,X.out.cell 3⟩ (fun _=>?_)
 replace H:=ae.mk (H.out.below (Below.refl _ w3).drew);replace X:=ae.mk X.out.drew;replace BB:=ae.mk BB.out.drew;replace RA:=ae.mk RA.out.drew;replace RK:=ae.mk RK.out.drew
 generalize w3.drew=w4 at *
 have KR:=ae.mk (zN (c:=32) p G.which s H.out.tabs RK.out (by omega) (by omega) (by omega) RA.out HAC.out.1 HAC.out.2 (by have:=HN.out;omega))
 unfold bD at KR
 refine tk 0 ?_
 simp only[Act.put,zA,zB,zC]
 refine tk 1 ?_
 simp only[Act.put,zA,zB,zC]
 refine tk 2 ?_
 simp only[Act.put,zA,zB,zC]
 refine tk 3 ?_
 simp only[Act.put,zA,zB,zC]
 refine tk 4 ?_
 simp only[Act.put,zA,zB,zC]
 refine tk 5 ?_
 simp only[Act.put,zA,zB,zC]
 refine tk 6 ?_
 simp only[Act.put,zA,zB,zC]
 refine tk 7 ?_
 simp only[Act.put,zA,zB,zC]
 refine tk 8 ?_
 simp only[Act.put,zA,zB,zC]
 refine tk 9 ?_
 simp only[Act.put,zA,zB,zC]
 refine tk 10 ?_
 simp only[Act.put,zA,zB,zC]
 refine tk 11 ?_
 simp only[Act.put,zA,zB,zC]
 refine tk 12 ?_
 simp only[Act.put,zA,zB,zC]
 refine tk 13 ?_
 simp only[Act.put,zA,zB,zC]
 refine ld 14 (fun K hK=>?_)
 go_simp
 go_at_call 15
 refine KR.out.mono ?_
 rintro e w5 ⟨M2,rfl,hM,k,tt,bb⟩
 have MR:ae (Off (some ⟨M2,0,none⟩) 32 [R]):=⟨.inr ⟨M2,0,rfl,by rw[List.mem_singleton];have:=X.out.lt;omega⟩⟩
 replace RA:=ae.mk ((Far.tab H.out.vq bb).rd RA.out hA)
 replace H:=ae.mk (H.out.tab bb (.inr tt));replace X:=ae.mk (X.out.bar bb RX.out.2.2)
 replace BB:=ae.mk (BB.out.trans bb (fun z hz=>.inl hz))
 have RR:ae (Rd w5 (some ⟨M2,0,none⟩) 32 (rcpV (stampV G.seed G.which) p G.which s ans)):=⟨Rd.blk k (iI _ _) (dG _ _)⟩
 refine hK.out _ _ ⟨H.out.c0,H.out.c1,X.out.cell 0,X.out.cell 3⟩ (fun _=>?_)
 clear hK K KR k tt bb hM RK
 try simp only[Act.put,zA,zB,zC]
 refine tk 15 ?_
 simp only[Act.put,zA,zB,zC]
 refine wpAnyH_done (by kernel_rfl) ?_ _
 refine NoPanic.normal ?_
 have x2:=X.out.cell 2;have z2:=X.out.frozen 2
 go_upto_region 4 with(fail)
 have bs:Bar [R] w5 (w5.setCell ⟨R,2,none⟩ (.int .i64 1)):=(Bar.refl _ _).setCell (by simp) _
 have hx5:Blk (w5.setCell ⟨R,2,none⟩ (.int .i64 1)) R 54 #[.int .i64 p,.int .i64 hw,.int .i64 1,.int .i64 s,.slice B nb cb]:=by
  have:=X.out.set_ 2 (.int .i64 1)
  simpa using this
 replace RA:=ae.mk (RA.out.far bs OA.out)
 replace RR:=ae.mk (RR.out.far bs MR.out)
 replace H:=ae.mk (H.out.note X.out OFF.out (List.mem_cons_self ..) bs)
 replace BB:=ae.mk (BB.out.trans bs (fun z hz=>.inr (by rw[List.mem_singleton] at hz;have:=RX.out.1;omega)))
 replace X:=ae.mk hx5
 clear x2 z2 bs hx5 MR OA
 generalize w5.setCell ⟨R,2,none⟩ (.int .i64 1)=w6 at *
 obtain⟨Q,hQ⟩:∃ Q,w6.heap.size=Q:=⟨_,rfl⟩
 have b7:Below w6.heap.size w6 (w6.alloc (.cells #[.slice A1 na ca,.slice (some ⟨M2,0,none⟩) 32 32] 22)):=(Below.refl _ _).alloc (Nat.le_refl _) _
 replace RA:=ae.mk (RA.out.below b7);replace RR:=ae.mk (RR.out.below b7);replace H:=ae.mk (H.out.below b7);replace X:=ae.mk (X.out.below b7 X.out.lt)
 replace BB:=ae.mk (BB.out.trans (barOf b7 []) (by simp))
 have LA:=ae.mk RA.out.1
 have RWS:=Vj (Blk.new_at w6 22 #[.slice A1 na ca,.slice (some ⟨M2,0,none⟩) 32 32] Q hQ.symm) HAC.out.1 (Nat.le_refl _) HAC.out.2 (by omega) RA.out RR.out
 have CC:=mD (some ⟨Q,0,none⟩) 2 2 _ _ RWS (by omega) (by rw[Tj,List.length_append,LA.out,RR.out.1];have:=HN.out;omega)
 rw[Tj] at CC
 unfold jo at CC
 have BY:ae (Bytes (ans++rcpV (stampV G.seed G.which) p G.which s ans)):=⟨RA.out.2.1.append RR.out.2.1⟩
 have LL:ae ((ans++rcpV (stampV G.seed G.which) p G.which s ans).length=na+32):=⟨by rw[List.length_append,LA.out,RR.out.1]⟩
 rw[LL.out] at CC
 replace CC:=ae.mk CC
 clear RWS RA RR b7 LA
 go_wp2_with fail
 clear hQ
 generalize w6.alloc (.cells #[.slice A1 na ca,.slice (some ⟨M2,0,none⟩) 32 32] 22)=w7 at *
 refine CC.out.mono ?_
 rintro e w8 ⟨v,rfl,o,bb⟩
 obtain⟨A8,c8,rfl,hc8,hm8,r8⟩:=aO o BY.out
 have RB:=ae.mk r8
 have OB:ae (Off A8 (na+32) [R]):=⟨eH o (fun k hk hm=>by
  have:=(o.lt k (by simpa using hk)).1
  have:=X.out.lt
  rw[List.mem_singleton] at hm;omega)⟩
 have OT:ae (Off A8 (na+32) [G.t]):=⟨eH o (fun k hk hm=>by
  have:=(o.lt k (by simpa using hk)).1
  have:=H.out.tabs.lt
  rw[List.mem_singleton] at hm;omega)⟩
 have C8:ae (na+32≤c8∧c8≤9223372036854775807):=⟨hc8,hm8⟩
 replace H:=ae.mk (H.out.below bb);replace X:=ae.mk (X.out.below bb X.out.lt)
 replace BB:=ae.mk (BB.out.trans (barOf bb []) (by simp))
 clear CC o bb hc8 hm8 r8
 have x4:=X.out.cell 4;have z4:=X.out.frozen 4
 have bs:Bar [R] w8 (w8.setCell ⟨R,4,none⟩ (.slice A8 (na+32) c8)):=(Bar.refl _ _).setCell (by simp) _
 have hx8:Blk (w8.setCell ⟨R,4,none⟩ (.slice A8 (na+32) c8)) R 54 #[.int .i64 p,.int .i64 hw,.int .i64 1,.int .i64 s,.slice A8 (na+32) c8]:=by
  have:=X.out.set_ 4 (.slice A8 (na+32) c8)
  simpa using this
 replace RB:=ae.mk (RB.out.far bs OB.out)
 replace H:=ae.mk (H.out.note X.out OFF.out (List.mem_cons_self ..) bs)
 replace BB:=ae.mk (BB.out.trans bs (fun z hz=>.inr (by rw[List.mem_singleton] at hz;have:=RX.out.1;omega)))
 have X9:=ae.mk hx8
 clear bs hx8 X
 go_upto_region 5 with(fail)
 clear x4 z4
 generalize w8.setCell ⟨R,4,none⟩ (.slice A8 (na+32) c8)=w9 at *
 refine wp_region_noPanic ?_
 refine wp_region_held_drew (S:=fun u:World=>u.cell? ⟨G.g,0,none⟩=some (.pointer (some ⟨G.t,0,none⟩))∧u.cell? ⟨R,0,none⟩=some (.int .i64 p)∧u.cell? ⟨R,1,none⟩=some (.int .i64 hw)∧u.cell? ⟨R,2,none⟩=some (.int .i64 1)∧u.cell? ⟨R,3,none⟩=some (.int .i64 s)∧u.cell? ⟨R,4,none⟩=some (.slice A8 (na+32) c8)) (by kernel_rfl) ⟨H.out.c0,X9.out.cell 0,X9.out.cell 1,X9.out.cell 2,X9.out.cell 3,X9.out.cell 4⟩ (fun _=>?_)
 replace H:=ae.mk (H.out.below (Below.refl _ w9).drew);replace X9:=ae.mk X9.out.drew;replace BB:=ae.mk BB.out.drew;replace RB:=ae.mk RB.out.drew
 generalize w9.drew=w10 at *
 have KK:=Fe H.out p
 unfold bD at KK
 replace KK:=ae.mk KK
 refine tk 0 ?_
 simp only[Act.put,zA,zB,zC]
 refine tk 1 ?_
 simp only[Act.put,zA,zB,zC]
 refine tk 2 ?_
 simp only[Act.put,zA,zB,zC]
 refine tk 3 ?_
 simp only[Act.put,zA,zB,zC]
 refine tk 4 ?_
 simp only[Act.put,zA,zB,zC]
 refine tk 5 ?_
 simp only[Act.put,zA,zB,zC]
 refine tk 6 ?_
 simp only[Act.put,zA,zB,zC]
 refine tk 8 ?_
 simp only[Act.put,zA,zB,zC]
 refine ld 7 (fun K hK=>?_)
 go_simp
 go_at_call 136
 refine KK.out.mono ?_
 rintro e w11 ⟨M3,rfl,hM,k,tt,bb⟩
 replace RB:=ae.mk (RB.out.far bb OT.out)
 replace H:=ae.mk (H.out.tab bb (.inr tt));replace X9:=ae.mk (X9.out.bar bb RX.out.2.2)
 replace BB:=ae.mk (BB.out.trans bb (fun z hz=>.inl hz))
 have RK:ae (Rd w11 (some ⟨M3,0,none⟩) 32 (keyV G.seed p G.which)):=⟨Rd.blk k (iI _ _) (dG _ _)⟩
 refine hK.out _ _ ⟨H.out.c0,X9.out.cell 0,X9.out.cell 1,X9.out.cell 2,X9.out.cell 3,X9.out.cell 4⟩ (fun _=>?_)
 clear hK K KK k tt bb hM
 try simp only[Act.put,zA,zB,zC]
 have KS:=ND G.t (some ⟨M3,0,none⟩) 32 32 (keyV G.seed p G.which) ⟨p,hw,1,s,ans++rcpV (stampV G.seed G.which) p G.which s ans⟩ A8 (na+32) c8 w11 H.out.tabs RK.out (by omega) (by omega) (by omega) RB.out C8.out.1 C8.out.2 (by have:=HN.out;omega)
 unfold gU at KS
 dsimp only at KS
 generalize sealN (keyV G.seed p G.which) ⟨p,hw,1,s,ans++rcpV (stampV G.seed G.which) p G.which s ans⟩=SN at *
 obtain⟨se,so⟩:=SN
 dsimp only at KS
 replace KS:=ae.mk KS
 refine ld 9 (fun K hK=>?_)
 go_simp
 go_at_call 140
 refine KS.out.mono ?_
 rintro e w12 ⟨A',l',c',rfl,hl,hm,rd,tt,bb,nw⟩
 have NW:ae (NewA w A'):=⟨fun g o h=>Nat.le_trans BB.out.size (nw g o h)⟩
 replace H:=ae.mk (H.out.tab bb tt);replace X9:=ae.mk (X9.out.bar bb RX.out.2.2)
 replace BB:=ae.mk (BB.out.trans bb (fun z hz=>.inl hz))
 have RD:=ae.mk rd;have TT:=ae.mk tt;have LM:=ae.mk (And.intro hl hm)
 refine hK.out _ _ ⟨H.out.c0,X9.out.cell 0,X9.out.cell 1,X9.out.cell 2,X9.out.cell 3,X9.out.cell 4⟩ (fun _=>?_)
 clear hK K KS tt bb rd hl hm nw
 try simp only[Act.put,zA,zB,zC]
 refine tk 10 ?_
 simp only[Act.put,zA,zB,zC]
 refine tk 11 ?_
 simp only[Act.put,zA,zB,zC]
 refine tk 12 ?_
 simp only[Act.put,zA,zB,zC]
 refine tk 13 ?_
 simp only[Act.put,zA,zB,zC]
 refine wpAnyH_done (by kernel_rfl) ?_ _
 refine NoPanic.normal ?_
 go_wp2
 go_ret2
 exact⟨A',l',c',rfl,LM.out.1,LM.out.2,RD.out,TT.out,BB.out,NW.out⟩
end
def Ff (b:Nat) (Z:List Nat) (w:World) (G:GS) (A0:Option Addr) (l0 c0 r0:Nat) (m:MV) (cs:List Int) (r:Int × List Int) (cnt:Int) (e:Ending) (w':World):Prop :=
 ∃ A l c F,e=.returned (.tuple #[.slice A l c,.int .i64 cnt,.int .i64 r.1])∧l≤c∧c≤9223372036854775807∧Rd w' A l r.2∧In A l F∧(∀ z∈F,w.heap.size≤z∧z < w'.heap.size)∧Gp b (F++Z) w' G A0 l0 c0 r0 m cs∧Tar b Z G.mb w w'
section
variable {b : Nat} {Z : List Nat} {w : World} {G : GS} {A B : Option Addr} {l c r n cb : Nat} {m m' : MV} {cs xs out : List Int} {N : NV} {oe : Int}
theorem QY (clock:Int) (h:Gp b Z w G A l c r m cs) (HO:Calls Tryz.prog 95 #[.pointer (some ⟨G.g,0,none⟩),.slice B n cb] w (aX G.t (N,oe) w)) (he:oe≠0) :
  Calls Tryz.prog 55 #[.pointer (some ⟨G.g,0,none⟩),.slice B n cb,.int .i64 clock] w (Ff b Z w G A l c r m cs (oe,[]) 2):=by
 have H:=ae.mk h;have KO:=ae.mk HO
 have heb:(oe != 0)=true:=by simpa using he
 unfold aX at KO
 clear h HO he
 go_enter Tryz.func55,Tryz.ntmps55
 go_wp2_with fail
 refine KO.out.mono ?_
 rintro e w1 ⟨A1,l1,c1,rfl,-,-,-,tt,bb,-⟩
 have T:=ae.mk (Tar.of (mb:=G.mb) (Far.tab H.out.vq bb))
 replace H:=ae.mk (H.out.tab bb tt)
 have b2:Below w1.heap.size w1 (w1.alloc (.cells #[.int .i64 N.party,.int .i64 N.which,.int .i64 N.way,.int .i64 N.seq,.slice A1 l1 c1] 54)):=(Below.refl _ _).alloc (Nat.le_refl _) _
 have H2:=ae.mk (H.out.below b2)
 have T2:=ae.mk (T.out.trans (Tar.new (K:=Z) b2) (fun z hz=>hz))
 clear KO bb tt b2 H T
 go_wp2
 (try simp only[Exit.inBlock,Exit.then])
 refine bodyPost_ret (results_tmp3 rfl _ _ _) rfl ?_
 exact⟨none,0,0,[],rfl,Nat.le_refl _,by omega,Rd.nil_,.inl rfl,by simp,H2.out,T2.out⟩
theorem QZ {p hw y:Int}{s:Nat}{bd:List Int}(clock:Int) (h:Gp b Z w G A l c r m cs) (hZ:∀ z∈Z,z < w.heap.size) (HO:Calls Tryz.prog 95 #[.pointer (some ⟨G.g,0,none⟩),.slice B n cb] w (aX G.t (⟨p,hw,y,s,bd⟩,0) w))
  (HH:∀ (w':World) (Z':List Nat) (A':Option Addr) (l' c':Nat),VQ b Z' w' G.x G.t G.d G.n m→(∀ z∈Z',z < w'.heap.size)→Rd w' A' l' bd→In A' l' Z'→Calls Tryz.prog 96 #[.pointer (some ⟨G.x,0,none⟩),.int .i64 p,.int .i64 s,.int .i64 clock,.slice A' l' c'] w' (wO b Z' w' G.x G.t G.d G.n ((0,out),m'))) (hl:out.length≤100000) :
  Calls Tryz.prog 55 #[.pointer (some ⟨G.g,0,none⟩),.slice B n cb,.int .i64 clock] w (Ff b Z w G A l c r m' cs (gtellV G.which G.seed ⟨p,hw,y,s,bd⟩ out) 4):=by
 have H:=ae.mk h;have H0:=H;have KO:=ae.mk HO;have KH:=ae.mk HH;have HL:=ae.mk hl;have HZ:=ae.mk hZ
 unfold aX at KO
 dsimp only at KO
 clear h HO HH hl hZ
 go_enter Tryz.func55,Tryz.ntmps55
 go_wp2_with fail
 refine KO.out.mono ?_
 rintro e w1 ⟨A1,l1,c1,rfl,hc1,hm1,rd,tt,bb,nw⟩
 obtain⟨F,hin,hF⟩:=rF rd nw
 have T:=ae.mk (Tar.of (mb:=G.mb) (Far.tab H.out.vq bb))
 have hb1:=bb.size
 have HH1:=ae.mk (H.out.vq.more (K':=F++Z) (fun z hz=>by
  rcases List.mem_append.1 hz with e|e
  ·exact .inl (hF z e).1
  ·exact .inr e))
 replace H:=ae.mk ((H.out.more (K':=F++Z) (fun z hz=>List.mem_append_right _ hz) (fun z hz=>by
  rcases List.mem_append.1 hz with e|e
  ·exact .inl (hF z e).1
  ·exact .inr e)).tab bb tt)
 have HZ1:ae (∀ z∈F++Z,z < w1.heap.size):=⟨fun z hz=>by
  rcases List.mem_append.1 hz with e|e
  ·exact(hF z e).2
  ·have:=HZ.out z e;omega⟩
 have IN:=ae.mk (hin.mono (G':=F++Z) (fun z hz=>List.mem_append_left _ hz))
 obtain⟨M,hM⟩:∃ M,w1.heap.size=M:=⟨_,rfl⟩
 have b2:Below w1.heap.size w1 (w1.alloc (.cells #[.int .i64 p,.int .i64 hw,.int .i64 y,.int .i64 s,.slice A1 l1 c1] 54)):=(Below.refl _ _).alloc (Nat.le_refl _) _
 have X:=ae.mk (Blk.new_at w1 54 #[.int .i64 p,.int .i64 hw,.int .i64 y,.int .i64 s,.slice A1 l1 c1] M hM.symm)
 have OFF:ae (Off A l [M]):=⟨nK H.out.rd (by omega)⟩
 replace H:=ae.mk ((H.out.more (K':=M :: (F++Z)) (fun z hz=>List.mem_cons_of_mem _ hz) (fun z hz=>by
  rcases List.mem_cons.1 hz with e|e
  ·exact .inl (by omega)
  ·exact .inr e)).below b2)
 have HZ2:ae (∀ z∈M :: (F++Z),z < (w1.alloc (.cells #[.int .i64 p,.int .i64 hw,.int .i64 y,.int .i64 s,.slice A1 l1 c1] 54)).heap.size):=⟨fun z hz=>by
  simp only[World.size_alloc]
  rcases List.mem_cons.1 hz with e|e
  ·omega
  ·have:=HZ1.out z e;omega⟩
 have RD:=ae.mk (rd.below b2)
 replace T:=ae.mk (T.out.trans (Tar.new (K:=Z) b2) (fun z hz=>hz))
 have SF:ae (∀ z∈F,w.heap.size≤z):=⟨fun z hz=>(hF z hz).1⟩
 have WM:ae (w.heap.size≤M):=⟨by omega⟩
 clear KO bb tt nw hin hF rd HH1 b2 HZ1 hc1 hm1 hb1 HZ
 go_upto_region 4 with(fail)
 clear hM
 generalize (w1.alloc (.cells #[.int .i64 p,.int .i64 hw,.int .i64 y,.int .i64 s,.slice A1 l1 c1] 54))=w2 at *
 refine wp_region_noPanic ?_
 refine wp_region_held_drew (S:=fun u:World=>u.cell? ⟨G.g,3,none⟩=some (.pointer (some ⟨G.x,0,none⟩))∧u.cell? ⟨M,0,none⟩=some (.int .i64 p)∧u.cell? ⟨M,3,none⟩=some (.int .i64 s)∧u.cell? ⟨M,4,none⟩=some (.slice A1 l1 c1)) (by kernel_rfl) ⟨H.out.c3,X.out.cell 0,X.out.cell 3,X.out.cell 4⟩ (fun _=>?_)
 have b3:Below w2.heap.size w2 w2.drew:=(Below.refl _ w2).drew
 replace H:=ae.mk (H.out.below b3);replace X:=ae.mk X.out.drew;replace RD:=ae.mk RD.out.drew
 replace T:=ae.mk (T.out.trans (Tar.new (K:=Z) b3) (fun z hz=>hz))
 replace HZ2:ae (∀ z∈M :: (F++Z),z < w2.drew.heap.size):=HZ2
 clear b3
 generalize w2.drew=w3 at *
 have K1:=KH.out w3 _ A1 l1 c1 H.out.vq HZ2.out RD.out (IN.out.mono (fun z hz=>List.mem_cons_of_mem _ hz))
 unfold wO at K1
 replace K1:=ae.mk K1
 refine tk 0 ?_
 simp only[Act.put,zA,zB,zC]
 refine tk 1 ?_
 simp only[Act.put,zA,zB,zC]
 refine tk 2 ?_
 simp only[Act.put,zA,zB,zC]
 refine tk 3 ?_
 simp only[Act.put,zA,zB,zC]
 refine tk 4 ?_
 simp only[Act.put,zA,zB,zC]
 refine tk 5 ?_
 simp only[Act.put,zA,zB,zC]
 refine tk 6 ?_
 simp only[Act.put,zA,zB,zC]
 refine tk 7 ?_
 simp only[Act.put,zA,zB,zC]
 refine tk 8 ?_
 simp only[Act.put,zA,zB,zC]
 refine tk 9 ?_
 simp only[Act.put,zA,zB,zC]
 refine tk 10 ?_
 simp only[Act.put,zA,zB,zC]
 refine ld 11 (fun K hK=>?_)
 go_simp
 go_at_call 96
 refine K1.out.mono ?_
 rintro e w4 ⟨A2,l2,c2,rfl,hc2,hm2,rd,far,g,v,hin,hg⟩
 dsimp only at rd v
 replace X:=ae.mk (far.blk X.out (.inl (List.mem_cons_self ..)))
 have ha:In A2 l2 (g :: M :: (F++Z)):=hin.mono (fun z hz=>by rw[List.mem_singleton] at hz;rw[hz];exact List.mem_cons_self ..)
 replace H:=ae.mk (H.out.far far v (fun z hz=>List.mem_cons_of_mem _ hz))
 replace T:=ae.mk (T.out.trans (Tar.of (mb:=G.mb) far) (fun z hz=>List.mem_cons_of_mem _ (List.mem_append_right _ hz)))
 have RA:=ae.mk rd;have LA:=ae.mk (And.intro hc2 hm2)
 have L2:ae (l2≤100000):=⟨by have:=rd.1;have:=HL.out;omega⟩
 refine hK.out _ _ ⟨H.out.c3,X.out.cell 0,X.out.cell 3,X.out.cell 4⟩ (fun _=>?_)
 clear hK K K1 KH rd far v hin hg hc2 hm2 RD IN HZ2
 refine tk 12 ?_
 simp only[Act.put,zA,zB,zC]
 refine tk 13 ?_
 simp only[Act.put,zA,zB,zC]
 refine tk 14 ?_
 simp only[Act.put,zA,zB,zC]
 refine tk 15 ?_
 simp only[Act.put,zA,zB,zC]
 refine tk 16 ?_
 simp only[Act.put,zA,zB,zC]
 refine wpAnyH_done (by kernel_rfl) ?_ _
 refine NoPanic.normal ?_
 have x0:=X.out.cell 0;have x1:=X.out.cell 1;have x2:=X.out.cell 2;have x3:=X.out.cell 3;have x4:=X.out.cell 4
 have KT:=NG (p:=p) (y:=y) (s:=s) (B:=A1) (nb:=l1) (cb:=c1) H.out RA.out ha LA.out L2.out bd hw
 unfold gU at KT
 generalize gtellV G.which G.seed ⟨p,hw,y,s,bd⟩ out=TV at *
 obtain⟨te,tb⟩:=TV
 dsimp only at KT
 replace KT:=ae.mk KT
 go_wp2_with fail
 refine KT.out.mono ?_
 rintro e w5 ⟨A3,l3,c3,rfl,hc3,hm3,rd,tt,bb,nw⟩
 obtain⟨F3,hin3,hF3⟩:=rF rd nw
 have GG:ae (Gp b (F3++Z) w5 G A l c r m' cs):=⟨((H.out.more (K':=F3++(g :: M :: (F++Z))) (fun z hz=>List.mem_append_right _ hz) (fun z hz=>by
  rcases List.mem_append.1 hz with e|e
  ·exact .inl (hF3 z e).1
  ·exact .inr e)).tab bb tt).less H0.out (fun z hz=>List.mem_append_right _ hz) (fun z hz=>by
  rcases List.mem_append.1 hz with e|e
  ·exact List.mem_append_left _ e
  ·exact List.mem_append_right _ (List.mem_cons_of_mem _ (List.mem_cons_of_mem _ (List.mem_append_right _ e))))⟩
 have T5:ae (Tar b Z G.mb w w5):=⟨T.out.trans (Tar.of (mb:=G.mb) (Far.tab H.out.vq bb)) (fun z hz=>List.mem_cons_of_mem _ (List.mem_cons_of_mem _ (List.mem_append_right _ hz)))⟩
 have SZ:ae (∀ z∈F3,w.heap.size≤z∧z < w5.heap.size):=⟨fun z hz=>⟨Nat.le_trans T.out.size (hF3 z hz).1,(hF3 z hz).2⟩⟩
 have RR:=ae.mk rd;have LL:=ae.mk (And.intro hc3 hm3);have IN3:=ae.mk hin3
 clear KT rd tt bb nw hin3 hF3 hc3 hm3 H H0 X T RA LA ha x0 x1 x2 x3 x4
 go_wp2
 (try simp only[Exit.inBlock,Exit.then])
 refine bodyPost_ret (results_tmp3 rfl _ _ _) rfl ?_
 exact⟨A3,l3,c3,F3,rfl,LL.out.1,LL.out.2,RR.out,IN3.out,SZ.out,GG.out,T5.out⟩
end
end Gate
namespace Gate
open Go.RowKit Sha Wire Mac Seal Vault Meter Ledger
def Q7 (b:Nat) (Z:List Nat) (w:World) (G:GS) (m:MV) (cs:List Int) (r:Int × List Int) (e:Ending) (w':World):Prop :=
 ∃ A l c F,e=.returned (.tuple #[.slice A l c,.int .i64 r.1])∧l≤c∧c≤9223372036854775807∧Rd w' A l r.2∧In A l F∧(∀ z∈F,w.heap.size≤z∧z < w'.heap.size)∧GQ b (F++Z) w' G m cs∧Tar b Z G.mb w w'
def rH (b:Nat) (Z:List Nat) (w:World) (G:GS) (A0:Option Addr) (l0 c0:Nat) (m:MV) (cs:List Int) (r:Int × List Int) (e:Ending) (w':World):Prop :=
 ∃ A l c F r0,e=.returned (.tuple #[.slice A l c,.int .i64 r.1])∧l≤c∧c≤9223372036854775807∧Rd w' A l r.2∧In A l F∧(∀ z∈F,w.heap.size≤z∧z < w'.heap.size)∧w.heap.size≤r0∧Gp b (F++Z) w' G A0 l0 c0 r0 m cs∧Tar b Z G.mb w w'
def Fg (b:Nat) (Z:List Nat) (w:World) (x t d n mb:Nat) (which:Int) (seed:List Int) (m:MV) (cs:List Int) (e:Ending) (w':World):Prop :=
 ∃ g F,e=.returned (.pointer (some ⟨g,0,none⟩))∧(∀ z∈F,w.heap.size≤z∧z < w'.heap.size)∧GQ b (F++Z) w' ⟨g,t,x,d,n,mb,m.v.l.b.p.np,which,seed⟩ m cs∧Far b Z w w'
def zU (b:Nat) (Z:List Nat) (w:World) (x t d n mb r0:Nat) (which:Int) (seed:List Int) (m:MV) (cs:List Int) (e:Ending) (w':World):Prop :=
 ∃ g F A l c,e=.returned (.pointer (some ⟨g,0,none⟩))∧(∀ z∈F,w.heap.size≤z∧z < w'.heap.size)∧Gp b (F++Z) w' ⟨g,t,x,d,n,mb,m.v.l.b.p.np,which,seed⟩ A l c r0 m cs∧Far b Z w w'∧In A l F∧g∈F
section
variable {b : Nat} {Z : List Nat} {w : World} {G : GS} {A B A0 : Option Addr} {l c n cb l0 c0 r1 : Nat} {m m' : MV} {cs : List Int} {r : Int × List Int} {cnt : Int}
theorem Fh (clock:Int) (HT:Calls Tryz.prog 55 #[.pointer (some ⟨G.g,0,none⟩),.slice B n cb,.int .i64 clock] w (Ff b Z w G A0 l0 c0 r1 m' cs r cnt)) (hc:inK cnt=true) (hmb:G.mb < w.heap.size) :
  Calls Tryz.prog 25 #[.pointer (some ⟨G.g,0,none⟩),.slice B n cb,.int .i64 clock] w (rH b Z w G A0 l0 c0 m' (zF cs cnt) r):=by
 have KT:=ae.mk HT;have HC:=ae.mk hc;have HM:=ae.mk hmb
 unfold Ff at KT
 clear HT hc hmb
 go_enter Tryz.func25,Tryz.ntmps25
 go_wp2_with fail
 refine KT.out.mono ?_
 rintro e w1 ⟨A1,l1,c1,F,rfl,h1,h2,rd,hin,hF,gp,tar⟩
 have H:=ae.mk gp;have T:=ae.mk tar;have RD:=ae.mk rd;have IN:=ae.mk hin;have SF:=ae.mk hF;have LL:=ae.mk (And.intro h1 h2)
 clear KT rd hin hF h1 h2 tar gp
 have KA:=ae.mk (Oc G.mb cnt 1 cs w1 H.out.me)
 have g4:=H.out.c4
 unfold jG rX at KA
 go_wp2_with fail
 refine KA.out.mono ?_
 rintro e w2 ⟨⟨rfl,-,bb⟩,mr⟩
 have KM:=ae.mk (mr HC.out)
 obtain⟨r2,hr2,gp⟩:=H.out.count bb KM.out
 have hs:=T.out.size
 have hb:=bb.size
 have RD2:=ae.mk (RD.out.far bb (by
  rcases IN.out with e|⟨g,o,e,hg⟩
  ·exact .inl e
  ·exact .inr ⟨g,o,e,fun hm=>by rw[List.mem_singleton] at hm;have:=(SF.out g hg).1;have:=HM.out;omega⟩))
 have IN2:=ae.mk (IN.out.mono (G':=r2 :: F) (fun z hz=>List.mem_cons_of_mem _ hz))
 have SF2:ae (∀ z∈r2 :: F,w.heap.size≤z∧z < w2.heap.size):=⟨fun z hz=>by
  rcases List.mem_cons.1 hz with e|e
  ·subst e;exact⟨by omega,gp.rblk.lt⟩
  ·have:=SF.out z e;omega⟩
 have GG:ae (Gp b ((r2 :: F)++Z) w2 G A0 l0 c0 r2 m' (setC cs cnt (r64 (getC cs cnt+1)))):=⟨gp⟩
 have NR:ae (w.heap.size≤r2):=⟨by omega⟩
 have T2:ae (Tar b Z G.mb w w2):=⟨T.out.trans (K':=Z) (Tar.own bb gp.bm) (fun z hz=>hz)⟩
 clear KA mr KM gp bb hr2 hs hb g4 H RD IN SF T HC HM
 go_wp2
 go_ret2
 exact⟨A1,l1,c1,r2 :: F,r2,rfl,LL.out.1,LL.out.2,RD2.out,IN2.out,SF2.out,NR.out,GG.out,T2.out⟩
theorem uA {x t d n2 mb r0:Nat}{which:Int}{seed:List Int}(V:VQ b Z w x t d n2 m) (hZ:∀ z∈Z,z < w.heap.size) (W:WL m.v.l) (WI_:WI m.v.l) (hk:m.v.l.b.p.np≤100) (h8:cs.length=8) (mblk:Blk w mb 109 #[.pointer (some ⟨r0,0,none⟩)]) (rblk:Blk w r0 112 (arr .i64 cs)) (mK:mb∈Z) (rK:r0∈Z) (bm:b≤mb) (rs:Rd w B l seed) (hl:l≤1000000) :
    Calls Tryz.prog 22 #[.pointer (some ⟨t,0,none⟩),.int .i64 which,.slice B l cb,.pointer (some ⟨x,0,none⟩),.pointer (some ⟨mb,0,none⟩)] w (zU b Z w x t d n2 mb r0 which seed m cs):=by
  have KC:=ae.mk (clone_any B l cb seed w rs (by omega))
  have BY:=ae.mk rs.2.1
  have HV:=ae.mk V;have HZ:=ae.mk hZ;have HW:=ae.mk (And.intro W WI_);have HK:=ae.mk hk;have H8:=ae.mk h8;have MB:=ae.mk mblk;have RB:=ae.mk rblk;have MK:=ae.mk (And.intro mK rK);have BM:=ae.mk bm;have HL:=ae.mk hl
  have ML:=ae.mk mblk.lt
  unfold Sha.jK at KC
  clear V hZ W WI_ hk h8 mblk rblk mK rK bm rs hl
  go_enter Tryz.func22,Tryz.ntmps22
  go_wp2_with fail
  refine KC.out.mono ?_
  rintro e w1 ⟨v,rfl,o,bb⟩
  obtain⟨A1,c1,rfl,hc1,hm1,rd⟩:=aO o BY.out
  obtain⟨F,hin,hF⟩:=rF rd (pR (w0:=w) o (Nat.le_refl _))
  have RD:=ae.mk rd;have IN:=ae.mk hin;have SF:=ae.mk hF;have LL:=ae.mk (And.intro hc1 hm1)
  replace HV:=ae.mk ((HV.out.more (K':=F++Z) (fun z hz=>by
    rcases List.mem_append.1 hz with e|e
    · exact .inl (hF z e).1
    · exact .inr e)).below bb)
  have HZ1:ae (∀ z∈F++Z,z < w1.heap.size):=⟨fun z hz=>by
    rcases List.mem_append.1 hz with e|e
    · exact(hF z e).2
    · have:=HZ.out z e;have:=bb.size;omega⟩
  replace MB:=ae.mk (MB.out.below bb MB.out.lt);replace RB:=ae.mk (RB.out.below bb RB.out.lt)
  have FB:=ae.mk (Far.of (b:=b) (K:=Z) bb)
  have KP:=ae.mk (kG HV.out HZ1.out HW.out.1 HW.out.2 HK.out)
  clear KC o bb rd hin hF hc1 hm1 BY HW HK
  go_wp2_with fail
  refine KP.out.mono ?_
  rintro e w2 ⟨rfl,v2,far⟩
  have hs2:=bH far
  have hs1:=bH FB.out
  replace RD:=ae.mk (far.rd RD.out (IN.out.mono (fun z hz=>List.mem_append_left _ hz)))
  replace MB:=ae.mk (far.blk MB.out (.inl (List.mem_append_right _ MK.out.1)));replace RB:=ae.mk (far.blk RB.out (.inl (List.mem_append_right _ MK.out.2)))
  have FR:ae (Far b Z w w2):=⟨by
    obtain⟨H,k1,k2⟩:=far
    exact FB.out.trans ⟨H,k1,fun z hz=>⟨(k2 z hz).1,fun hm=>(k2 z hz).2 (List.mem_append_right _ hm)⟩⟩⟩
  have HV2:=ae.mk v2
  obtain⟨g,hg⟩:∃ g,w2.heap.size=g:=⟨_,rfl⟩
  have GB:=ae.mk (Blk.new_at w2 129 #[.pointer (some ⟨t,0,none⟩),.int .i64 which,.slice A1 l c1,.pointer (some ⟨x,0,none⟩),.pointer (some ⟨mb,0,none⟩),.int .i64 m.v.l.b.p.np] g hg.symm)
  have bb:Below w2.heap.size w2 (w2.alloc (.cells #[.pointer (some ⟨t,0,none⟩),.int .i64 which,.slice A1 l c1,.pointer (some ⟨x,0,none⟩),.pointer (some ⟨mb,0,none⟩),.int .i64 m.v.l.b.p.np] 129)):=(Below.refl _ _).alloc (Nat.le_refl _) _
  have SF2:ae (∀ z∈g :: F,w.heap.size≤z∧z < (w2.alloc (.cells #[.pointer (some ⟨t,0,none⟩),.int .i64 which,.slice A1 l c1,.pointer (some ⟨x,0,none⟩),.pointer (some ⟨mb,0,none⟩),.int .i64 m.v.l.b.p.np] 129)).heap.size):=⟨fun z hz=>by
    simp only[World.size_alloc]
    rcases List.mem_cons.1 hz with e|e
    · omega
    · have:=SF.out z e;omega⟩
  have GG:ae (Gp b ((g :: F)++Z) (w2.alloc (.cells #[.pointer (some ⟨t,0,none⟩),.int .i64 which,.slice A1 l c1,.pointer (some ⟨x,0,none⟩),.pointer (some ⟨mb,0,none⟩),.int .i64 m.v.l.b.p.np] 129)) ⟨g,t,x,d,n2,mb,m.v.l.b.p.np,which,seed⟩ A1 l c1 r0 m cs) :=
    ⟨GB.out,RD.out.below bb,⟨LL.out.1,LL.out.2,HL.out⟩,IN.out.mono (fun z hz=>List.mem_append_left _ (List.mem_cons_of_mem _ hz)),by
      rcases IN.out with e|⟨k,o,e,hk⟩
      · exact .inl e
      · exact .inr ⟨k,o,e,fun hm=>by have hm2:k=mb:=List.mem_singleton.1 hm;have:=(SF.out k hk).1;have:=ML.out;omega⟩,H8.out,MB.out.below bb MB.out.lt,RB.out.below bb RB.out.lt,List.mem_append_left _ (List.mem_cons_self ..),List.mem_append_right _ MK.out.1,List.mem_append_right _ MK.out.2,BM.out,
      (HV2.out.more (K':=(g :: F)++Z) (fun z hz=>by
        rcases List.mem_cons.1 hz with e|e
        · exact .inl (by omega)
        · exact .inr e)).below bb⟩
  have FR2:=ae.mk (FR.out.trans (Far.of bb))
  have IN2:=ae.mk (IN.out.mono (G':=g :: F) (fun z hz=>List.mem_cons_of_mem _ hz))
  clear KP v2 far hs2 hs1 RD MB RB FR HV HV2 GB bb SF IN FB HZ1 HZ ML MK BM H8 HL LL
  go_wp2
  go_ret
  exact⟨g,g :: F,A1,l,c1,rfl,SF2.out,GG.out,FR2.out,IN2.out,List.mem_cons_self ..⟩
theorem NH {x t d n2 mb r0:Nat}{which:Int}{seed:List Int}(V:VQ b Z w x t d n2 m) (hZ:∀ z∈Z,z < w.heap.size) (W:WL m.v.l) (WI_:WI m.v.l) (hk:m.v.l.b.p.np≤100) (h8:cs.length=8) (mblk:Blk w mb 109 #[.pointer (some ⟨r0,0,none⟩)]) (rblk:Blk w r0 112 (arr .i64 cs)) (mK:mb∈Z) (rK:r0∈Z) (bm:b≤mb) (rs:Rd w B l seed) (hl:l≤1000000) :
  Calls Tryz.prog 22 #[.pointer (some ⟨t,0,none⟩),.int .i64 which,.slice B l cb,.pointer (some ⟨x,0,none⟩),.pointer (some ⟨mb,0,none⟩)] w (Fg b Z w x t d n2 mb which seed m cs) :=
 (uA V hZ W WI_ hk h8 mblk rblk mK rK bm rs hl).mono (fun _ _ ⟨g,F,A,l,c,h1,h2,h3,h4,_⟩=>⟨g,F,h1,h2,⟨A,l,c,r0,h3⟩,h4⟩)
end
end Gate
namespace Gate
open Go.RowKit Num Sha Purse Escrow Wire Mac Seal Vault Meter Disk Go.Proofs.YtlkeieoecfkkeaaGreat.Frame
theorem zV:peekN [110,111,116,104,105,110,103]=(0,0,0,2):=by
 unfold peekN
 rw[if_neg]
 rintro ⟨h,-⟩
 exact absurd h (by decide)
theorem Tm {k:Nat}{X:Nat→List Int}{cap:Int}{n:Nat}(hc:Ledger.bU k X cap):Ledger.WL (⟨newD n,Journal.noJ,newV (Ledger.newL k X cap) k,false,0⟩:MV).v.l∧Ledger.WI (⟨newD n,Journal.noJ,newV (Ledger.newL k X cap) k,false,0⟩:MV).v.l∧(⟨newD n,Journal.noJ,newV (Ledger.newL k X cap) k,false,0⟩:MV).v.l.b.p.np=k :=
 ⟨Ledger.Ky hc,Ledger.KX k X cap,rfl⟩
theorem bI (w:World):Calls Tryz.prog 6 #[] w fun e w'=>e=.returned (.bool true)∧Below w.heap.size w w':=by
 have hcn:=QU (a:=5) (b:=0) (cap:=4) (by decide) (by omega) (by omega)
 have HC:=ae.mk hcn.1
 have HNE:ae (needV 2 (twoX 5 0) 4=130):=⟨hcn.2.trans (by decide)⟩
 clear hcn
 go_enter Tryz.func6,Tryz.ntmps6
 go_wp2_with fail
 refine(EQ w).mono ?_
 rintro e w1 ⟨t,rfl,ht,bb,htw⟩
 have HT:=ae.mk ht;have B:=ae.mk bb;have TW:=ae.mk htw
 clear ht bb htw
 obtain⟨N,hN⟩:∃ N,w1.heap.size=N:=⟨_,rfl⟩
 have e1:twoW w1 5 0=(((w1.alloc (.cells #[.int .i64 5] 3)).alloc (.cells #[.int .i64 0] 3)).alloc (.cells #[.slice (some ⟨N,0,none⟩) 1 1,.slice (some ⟨N+1,0,none⟩) 1 1] 38)):=by unfold twoW;rw[hN]
 have hr:Rwi (((w1.alloc (.cells #[.int .i64 5] 3)).alloc (.cells #[.int .i64 0] 3)).alloc (.cells #[.slice (some ⟨N,0,none⟩) 1 1,.slice (some ⟨N+1,0,none⟩) 1 1] 38)) (some ⟨N+1+1,0,none⟩) 2 (twoX 5 0):=by have:=Rw w1 5 0;rw[e1,hN] at this;exact this
 have b1:Below w1.heap.size w1 (((w1.alloc (.cells #[.int .i64 5] 3)).alloc (.cells #[.int .i64 0] 3)).alloc (.cells #[.slice (some ⟨N,0,none⟩) 1 1,.slice (some ⟨N+1,0,none⟩) 1 1] 38)):=by have:=Ir w1 5 0;rw[e1] at this;exact this
 have hs1:(((w1.alloc (.cells #[.int .i64 5] 3)).alloc (.cells #[.int .i64 0] 3)).alloc (.cells #[.slice (some ⟨N,0,none⟩) 1 1,.slice (some ⟨N+1,0,none⟩) 1 1] 38)).heap.size=N+1+1+1:=by simp[hN]
 have R:=ae.mk hr
 replace B:=ae.mk (B.out.trans (b1.mono B.out.size));replace HT:=ae.mk (HT.out.below b1 HT.out.lt)
 clear e1 hr b1
 go_upto_region 3 with(fail)
 generalize (((w1.alloc (.cells #[.int .i64 5] 3)).alloc (.cells #[.int .i64 0] 3)).alloc (.cells #[.slice (some ⟨N,0,none⟩) 1 1,.slice (some ⟨N+1,0,none⟩) 1 1] 38))=w2 at *
 have bb:Below w2.heap.size w2 (w2.alloc (.cells #[.slice (some ⟨N+1+1,0,none⟩) 2 2,.int .i64 4] 41)):=(Below.refl _ _).alloc (Nat.le_refl _) _
 have X:=ae.mk (Blk.new_at w2 41 #[.slice (some ⟨N+1+1,0,none⟩) 2 2,.int .i64 4] (N+1+1+1) hs1.symm)
 replace R:=ae.mk (R.out.below bb);replace B:=ae.mk (B.out.trans (bb.mono B.out.size));replace HT:=ae.mk (HT.out.below bb HT.out.lt)
 clear bb hs1
 generalize w2.alloc (.cells #[.slice (some ⟨N+1+1,0,none⟩) 2 2,.int .i64 4] 41)=w3 at *
 have x0:=X.out.cell 0;have x1:=X.out.cell 1
 have KN:=ql (c:=2) (cap:=4) R.out
 rw[HNE.out] at KN
 replace KN:=ae.mk KN
 go_wp2_with fail
 refine KN.out.mono ?_
 rintro e w4 ⟨rfl,bb⟩
 replace R:=ae.mk (R.out.below bb);replace X:=ae.mk (X.out.below bb X.out.lt);replace B:=ae.mk (B.out.trans (bb.mono B.out.size));replace HT:=ae.mk (HT.out.below bb HT.out.lt)
 clear KN bb x0 x1
 have KD:=Ji w4 130 (by omega) (by omega)
 unfold oM at KD
 replace KD:=ae.mk KD
 go_wp2_with fail
 refine KD.out.mono ?_
 rintro e w5 ⟨d,F,rfl,dk,fp⟩
 have bb:Below w4.heap.size w4 w5:=fp.below (by simp) (Nat.le_refl _)
 have SD:ae (Journal.Sd w5 (t :: F) t d 130 (newD 130)):=⟨F,HT.out.below bb HT.out.lt,dk,fun hm=>by
  rcases fp.2 t hm with e|e
  ·simp at e
  ·have:=HT.out.lt;omega,rfl⟩
 have HH:ae (∀ z∈t :: F,w.heap.size≤z∧z∉([]:List Nat)):=⟨fun z hz=>by
  have:=B.out.size
  have:=TW.out
  refine⟨?_,by simp⟩
  rcases List.mem_cons.1 hz with e|e
  ·omega
  ·rcases fp.2 z e with e|e
   ·simp at e
   ·omega⟩
 replace R:=ae.mk (R.out.below bb);replace X:=ae.mk (X.out.below bb X.out.lt);replace B:=ae.mk (B.out.trans (bb.mono B.out.size))
 clear KD dk fp bb HT TW
 have hj:=zH (n:=130) (by omega) (by omega)
 have KO:=Nh (c:=2) (K:=[]) SD.out HH.out (by simp) B.out.size R.out HC.out (by rw[HNE.out];omega) (by rw[hj];rfl) (by rw[hj];rfl)
 rw[hj] at KO
 unfold Dc at KO
 obtain⟨w1',w2',w3'⟩:=Tm (n:=130) HC.out
 generalize (⟨newD 130,Journal.noJ,newV (Ledger.newL 2 (twoX 5 0) 4) 2,false,0⟩:MV)=m0 at *
 replace KO:=ae.mk KO
 have WW:=ae.mk (And.intro w1' w2');have WN:=ae.mk w3'
 clear hj SD HH w1' w2' w3' R HC HNE
 have x0:=X.out.cell 0;have x1:=X.out.cell 1
 go_wp2_with fail
 refine KO.out.mono ?_
 rintro e w6 ⟨x,rfl,v,far⟩
 have V:=ae.mk v
 replace B:=ae.mk (B.out.trans (far.below B.out.size))
 clear KO v far X x0 x1
 go_wp2_with fail
 refine(xh w6).mono ?_
 rintro e w7 ⟨mb,rfl,⟨-,r,hr6,mblk,rblk⟩,hm6,bb⟩
 replace V:=ae.mk ((V.out.more (K':=[mb,r]) (fun z hz=>by simp at hz;omega)).below bb)
 have BM:ae (w.heap.size≤mb):=⟨by have:=B.out.size;omega⟩
 replace B:=ae.mk (B.out.trans (bb.mono B.out.size))
 have MB:=ae.mk mblk;have RB:=ae.mk rblk
 have HZ:ae (∀ z∈[mb,r],z < w7.heap.size):=⟨fun z hz=>by have:=mblk.lt;have:=rblk.lt;simp at hz;omega⟩
 clear bb mblk rblk hr6 hm6
 have hcv:=Lib.run_convert_bytes_const (P:=Tryz.prog) w7 22 5 #[.int .u8 115,.int .u8 101,.int .u8 101,.int .u8 100] 4 4 Tryz.underlying22 Tryz.underlying5
 have bb:Below w7.heap.size w7 (w7.alloc (.cells #[.int .u8 115,.int .u8 101,.int .u8 101,.int .u8 100] 5 (4,5))):=(Below.refl _ _).alloc (Nat.le_refl _) _
 have RS:ae (Rd (w7.alloc (.cells #[.int .u8 115,.int .u8 101,.int .u8 101,.int .u8 100] 5 (4,5))) (some ⟨w7.heap.size,0,none⟩) 4 [115,101,101,100]):=⟨Rd.made (xs:=[115,101,101,100]) (heap_alloc_new w7 _) (by intro z hz;simp at hz;omega) rfl⟩
 replace V:=ae.mk (V.out.below bb);replace B:=ae.mk (B.out.trans (bb.mono B.out.size))
 replace MB:=ae.mk (MB.out.below bb MB.out.lt);replace RB:=ae.mk (RB.out.below bb RB.out.lt)
 replace HZ:ae (∀ z∈[mb,r],z < (w7.alloc (.cells #[.int .u8 115,.int .u8 101,.int .u8 101,.int .u8 100] 5 (4,5))).heap.size):=⟨fun z hz=>by have:=HZ.out z hz;simp only[World.size_alloc];omega⟩
 have KG:=ae.mk (NH (cb:=4) (which:=0) V.out HZ.out WW.out.1 WW.out.2 (by rw[WN.out];omega) rfl MB.out RB.out (by simp) (by simp) BM.out RS.out (by omega))
 unfold Fg at KG
 clear bb V MB RB WW WN RS
 go_wp2_with fail
 refine KG.out.mono ?_
 rintro e w8 ⟨g,F1,rfl,hF1,gq,far⟩
 clear hcv
 obtain⟨A,l,c,r1,gp⟩:=gq
 generalize hGG:(⟨g,t,x,d,130,mb,m0.v.l.b.p.np,0,[115,101,101,100]⟩:GS)=G at *
 have hG1:G.g=g:=by rw[← hGG]
 have hG2:G.mb=mb:=by rw[← hGG]
 clear hGG
 subst hG1 hG2
 have H:=ae.mk gp
 replace B:=ae.mk (B.out.trans (far.below B.out.size))
 clear KG hF1 far gp HZ
 have hcv:=Lib.run_convert_bytes_const (P:=Tryz.prog) w8 22 5 #[.int .u8 110,.int .u8 111,.int .u8 116,.int .u8 104,.int .u8 105,.int .u8 110,.int .u8 103] 7 7 Tryz.underlying22 Tryz.underlying5
 have bb:Below w8.heap.size w8 (w8.alloc (.cells #[.int .u8 110,.int .u8 111,.int .u8 116,.int .u8 104,.int .u8 105,.int .u8 110,.int .u8 103] 5 (7,8))):=(Below.refl _ _).alloc (Nat.le_refl _) _
 have RS:Rd (w8.alloc (.cells #[.int .u8 110,.int .u8 111,.int .u8 116,.int .u8 104,.int .u8 105,.int .u8 110,.int .u8 103] 5 (7,8))) (some ⟨w8.heap.size,0,none⟩) 7 [110,111,116,104,105,110,103]:=Rd.made (xs:=[110,111,116,104,105,110,103]) (heap_alloc_new w8 _) (by intro z hz;simp at hz;omega) rfl
 replace H:=ae.mk (H.out.below bb);replace B:=ae.mk (B.out.trans (bb.mono B.out.size))
 have KT:=Fh 1 (QY 1 H.out (Ip (cb:=7) H.out RS (by omega) (by omega) (.inl (by rw[zV];decide))) (by decide)) (by decide) H.out.mblk.lt
 unfold rH at KT
 replace KT:=ae.mk KT
 clear bb RS H
 go_wp2_with fail
 refine KT.out.mono ?_
 rintro e w9 ⟨A2,l2,c2,F2,r3,rfl,-,-,-,-,-,-,gp,tar⟩
 have KM:=ae.mk (get_any G.mb 2 _ w9 gp.me)
 rw[show getC (zF (List.replicate 8 0) 2) 2=1 by decide +kernel] at KM
 replace B:=ae.mk (B.out.trans (tar.below B.out.size))
 clear KT gp tar hcv
 go_wp2_with (go_at_call 27;refine KM.out.mono ?_;rintro e w' ⟨rfl,rfl⟩)
 go_ret
 exact⟨rfl,B.out⟩
end Gate
namespace Gate
open Go.RowKit Sha Wire Mac Seal Vault Meter
def Row (Z:List Nat) (mb:Nat) (w:World) (A:Option Addr) (l:Nat) (xs:List Int):Prop:=Rd w A l xs∧∃ F,In A l F∧(∀ z∈F,z∈Z)∧mb∉F
section
variable {b : Nat} {Z Z' : List Nat} {w w' : World} {G : GS} {A B : Option Addr} {l l2 c r mb : Nat} {m m' : MV} {cs cs' xs : List Int} {res : Int × List Int} {e : Ending}
theorem Row.rd (h:Row Z mb w A l xs):Rd w A l xs:=h.1
theorem Row.in_ (h:Row Z mb w A l xs):In A l Z:=by
 obtain⟨-,F,h1,h2,-⟩:=h
 exact h1.mono h2
theorem Row.below (h:Row Z mb w A l xs) (bb:Below w.heap.size w w'):Row Z mb w' A l xs:=⟨h.1.below bb,h.2⟩
theorem Row.mono (h:Row Z mb w A l xs) (hs:∀ z∈Z,z∈Z'):Row Z' mb w A l xs:=by
 obtain⟨h0,F,h1,h2,h3⟩:=h
 exact⟨h0,F,h1,fun z hz=>hs z (h2 z hz),h3⟩
theorem Row.tar (h:Row Z mb w A l xs) (t:Tar b Z mb w w'):Row Z mb w' A l xs:=by
 obtain⟨h0,F,h1,h2,h3⟩:=h
 exact⟨t.rd h0 h1 h2 h3,F,h1,h2,h3⟩
structure Gz (b:Nat) (Z:List Nat) (w:World) (G:GS) (m:MV) (cs:List Int):Prop where
 q:GQ b Z w G m cs
 lt:∀ z∈Z,z < w.heap.size
theorem Gz.below (h:Gz b Z w G m cs) (bb:Below w.heap.size w w'):Gz b Z w' G m cs:=by
 obtain⟨⟨A,l,c,r,gp⟩,h2⟩:=h
 exact⟨⟨A,l,c,r,gp.below bb⟩,fun z hz=>Nat.lt_of_lt_of_le (h2 z hz) bb.size⟩
theorem Gz.mblt (h:Gz b Z w G m cs):G.mb < w.heap.size:=by
 obtain⟨⟨A,l,c,r,gp⟩,h2⟩:=h
 exact gp.mblk.lt
theorem Gz.row (h:Gz b Z w G m cs) (bb:Below w.heap.size w w') (rd:Rd w' A l xs) (nw:NewA w A):∃ Z',(∀ z∈Z,z∈Z')∧Gz b Z' w' G m cs∧Row Z' G.mb w' A l xs:=by
 have hm:=h.mblt
 obtain⟨F,h1,h2⟩:=rF rd nw
 obtain⟨⟨A0,l0,c0,r0,gp⟩,hz⟩:=h
 refine⟨F++Z,fun z hz=>List.mem_append_right _ hz,⟨⟨A0,l0,c0,r0,(gp.more (fun z hz=>List.mem_append_right _ hz) (fun z hz=>?_)).below bb⟩,fun z hz2=>?_⟩,rd,F,h1,fun z hz=>List.mem_append_left _ hz,fun hm2=>by have:=(h2 _ hm2).1;omega⟩
 ·rcases List.mem_append.1 hz with e|e
  ·exact .inl (h2 z e).1
  ·exact .inr e
 ·rcases List.mem_append.1 hz2 with e|e
  ·exact(h2 z e).2
  ·have:=hz z e;have:=bb.size;omega
theorem Gz.block (h:Gz b Z w G m cs) (bb:Below w.heap.size w w') {R:Nat}(hR:w.heap.size≤R) (hl:R < w'.heap.size):Gz b (R :: Z) w' G m cs:=by
 obtain⟨⟨A0,l0,c0,r0,gp⟩,hz⟩:=h
 refine⟨⟨A0,l0,c0,r0,(gp.more (fun z hz=>List.mem_cons_of_mem _ hz) (fun z hz=>?_)).below bb⟩,fun z hz2=>?_⟩
 ·rcases List.mem_cons.1 hz with e|e
  ·exact .inl (by omega)
  ·exact .inr e
 ·rcases List.mem_cons.1 hz2 with e|e
  ·omega
  ·have:=hz z e;have:=bb.size;omega
theorem Gz.note {R:Nat}{a1 a2 a3 a4:Int}{A1:Option Addr}{l1 c1:Nat}(h:Gz b Z w G m cs) (X:Blk w R 54 #[.int .i64 a1,.int .i64 a2,.int .i64 a3,.int .i64 a4,.slice A1 l1 c1]) (hR:R∈Z) (bb:Bar [R] w w'):Gz b Z w' G m cs:=by
 obtain⟨⟨A0,l0,c0,r0,gp⟩,hz⟩:=h
 refine⟨⟨A0,l0,c0,r0,gp.note X ?_ hR bb⟩,fun z hz2=>Nat.lt_of_lt_of_le (hz z hz2) bb.size⟩
 by_cases h0:l0=0
 ·exact .inl h0
 ·obtain⟨g,o,rfl,hc⟩:=gp.rd.2.2.resolve_left h0
  refine .inr ⟨g,o,rfl,fun hm=>?_⟩
  rw[List.mem_singleton] at hm
  have h1:=hc 0 (by omega)
  rw[hm,X.cell] at h1
  rcases o with _|_|_|_|_|o<;>simp at h1
theorem Gz.take (h:Gz b Z w G m cs) (ht:Q7 b Z w G m' cs' res e w'):∃ A l c Z',e=.returned (.tuple #[.slice A l c,.int .i64 res.1])∧l≤c∧c≤9223372036854775807∧(∀ z∈Z,z∈Z')∧Gz b Z' w' G m' cs'∧Row Z' G.mb w' A l res.2∧Tar b Z G.mb w w':=by
 have hm:=h.mblt
 obtain⟨A,l,c,F,h1,h2,h3,h4,h5,h6,h7,h8⟩:=ht
 refine⟨A,l,c,F++Z,h1,h2,h3,fun z hz=>List.mem_append_right _ hz,⟨h7,fun z hz=>?_⟩,⟨h4,F,h5,fun z hz=>List.mem_append_left _ hz,fun hm2=>by have:=(h6 _ hm2).1;omega⟩,h8⟩
 rcases List.mem_append.1 hz with e|e
 ·exact(h6 z e).2
 ·have:=h.lt z e;have:=h8.size;omega
end
def askN (p which:Int) (s:Nat):NV:=⟨p,which,0,s,[0,0,0]⟩
theorem Vl {p which:Int}{s:Nat}(hp:0≤p∧p < 16) (hw:which=0∨which=1) (hs:1≤s∧s < 4294967296):mayN (askN p which s):=by
 refine⟨⟨hp.1,hp.2,hw,.inl rfl⟩,?_⟩
 show 1≤(s:Int)∧(s:Int) < 4294967296
 omega
theorem wW (p which:Int) (s:Nat):(askN p which s).body.length≤60000:=by show 3≤60000;decide
theorem Rf {p which:Int}{s:Nat}(key:List Int) (h:mayN (askN p which s)):sealN key (askN p which s)=(0,bJ key (askN p which s)):=by
 unfold sealN
 rw[wL.2 ⟨h,wW _ _ _⟩,if_pos rfl]
theorem Vm (key:List Int) (p which:Int) (s:Nat):(bJ key (askN p which s)).length=47:=by
 rw[jb];rfl
theorem Vo {p which:Int}{s:Nat}{seed out:List Int}(hm:mayN (askN p which s)) (hl:out.length≤50000):gtellV which seed (askN p which s) out=(0,bJ (keyV seed p which) (rG which seed (askN p which s) out)):=by
 have h1:mayN (rG which seed (askN p which s) out):=⟨⟨hm.1.1,hm.1.2.1,hm.1.2.2.1,.inr rfl⟩,hm.2⟩
 have h2:(rG which seed (askN p which s) out).body.length≤60000:=by
  show (out++rcpV (stampV seed which) p which (s:Int).toNat out).length≤60000
  rw[List.length_append,show (rcpV (stampV seed which) p which (s:Int).toNat out).length=32 from dG _ _]
  omega
 show sealN (keyV seed p which) (rG which seed (askN p which s) out)=_
 unfold sealN
 rw[wL.2 ⟨h1,h2⟩,if_pos rfl]
section
variable {b : Nat} {Z : List Nat} {w : World} {G : GS} {B : Option Addr} {s0 : Ledger.LS} {m m' : MV} {cs xs out : List Int}
theorem Vq {n cb r s K nn l c r0:Nat}{A:Option Addr}{p wh:Int}{seed:List Int}(clock:Int) (hG:G.k=K∧G.which=wh∧G.seed=seed∧G.n=nn) (gp:Gp b Z w G A l c r0 m cs) (hz:∀ z∈Z,z < w.heap.size) (P:Pl s0 nn m (r+1)) (N:Nil m.v) (hsv:0≤m.served∧m.served≤1000000) (rx:Row Z G.mb w B n (bJ (keyV seed p wh) (askN p wh s))) (hl:n≤cb∧cb≤9223372036854775807∧n=47) (hm:mayN (askN p wh s)) (hp:p < (K:Int))
  (hh:handleM m p s clock [0,0,0] 0 ⟨0,[]⟩=((0,out),m')) (hlo:out.length≤50000) :
  Calls Tryz.prog 25 #[.pointer (some ⟨G.g,0,none⟩),.slice B n cb,.int .i64 clock] w (rH b Z w G A l c m' (zF cs 4) (0,bJ (keyV seed p wh) (rG wh seed (askN p wh s) out))):=by
 obtain⟨rfl,rfl,rfl,rfl⟩:=hG
 have HO:=NE gp rx.rd hl.1 hl.2.1 (by omega) (p:=p) (by rw[Ic _ hm (wW _ _ _)];rfl) hp rx.in_
 rw[zD _ hm (wW _ _ _)] at HO
 rw[← Vo hm hlo]
 refine Fh clock (QZ (p:=p) (hw:=G.which) (y:=0) (s:=s) (bd:=[0,0,0]) clock gp hz HO (fun w' Z' A' l' c' V hZ rd hA=>?_) (by omega)) (by decide) gp.mblk.lt
 have:=Ve (c:=c') (party:=p) (seq:=s) (clock:=clock) P N V hZ rd hA hsv.2 hsv.1
 rw[hh] at this
 exact this
theorem Fj (h:Gz b Z w G m cs) (k:Int) {v:Int}(hv:getC cs k=v):Calls Tryz.prog 27 #[.pointer (some ⟨G.mb,0,none⟩),.int .i64 k] w fun e w'=>e=.returned (.int .i64 v)∧w=w':=by
 obtain⟨⟨A,l,c,r0,gp⟩,-⟩:=h
 rw[← hv]
 exact get_any G.mb k cs w gp.me
end
structure Gd (b:Nat) (Z:List Nat) (w:World) (G:GS) (m:MV) (cs:List Int) (D:List Nat):Prop where
 q:∃ A l c r,Gp b Z w G A l c r m cs∧r∉D∧Off A l D∧G.g∉D∧G.mb∉D
 lt:∀ z∈Z,z < w.heap.size
 sub:∀ z∈D,z∈Z
def rJ (b:Nat) (Z:List Nat) (w:World) (G:GS) (m:MV) (cs:List Int) (D:List Nat) (xs:List Int) (e:Ending) (w':World):Prop :=
 ∃ A l c Z',e=.returned (.tuple #[.slice A l c,.int .i64 0])∧l≤c∧c≤9223372036854775807∧(∀ z∈Z,z∈Z')∧Gd b Z' w' G m cs D∧Row Z' G.mb w' A l xs∧Off A l D∧Tar b Z G.mb w w'∧∀ z∈D,z∉[G.mb]
section
variable {b : Nat} {Z Z' D D' : List Nat} {w w' : World} {G : GS} {A B : Option Addr} {l : Nat} {m m' : MV} {cs xs out : List Int} {s0 : Ledger.LS}
theorem Gd.below (h:Gd b Z w G m cs D) (bb:Below w.heap.size w w'):Gd b Z w' G m cs D:=by
 obtain⟨⟨A,l,c,r,gp,hq⟩,h2,h3⟩:=h
 exact⟨⟨A,l,c,r,gp.below bb,hq⟩,fun z hz=>Nat.lt_of_lt_of_le (h2 z hz) bb.size,h3⟩
theorem NI (hn:∀ z∈D,z < w.heap.size) {F:List Nat}(hF:∀ z∈F,w.heap.size≤z) (h:In A l F):Off A l D:=by
 rcases h with e|⟨g,o,e,hg⟩
 ·exact .inl e
 ·exact .inr ⟨g,o,e,fun hm=>by have:=hn g hm;have:=hF g hg;omega⟩
theorem Gd.dlt (h:Gd b Z w G m cs D):∀ z∈D,z < w.heap.size:=fun z hz=>h.lt z (h.sub z hz)
theorem Gd.gz (h:Gd b Z w G m cs D):Gz b Z w G m cs:=by
 obtain⟨⟨A,l,c,r,gp,-⟩,h2,-⟩:=h
 exact⟨⟨A,l,c,r,gp⟩,h2⟩
theorem Gd.row (h:Gd b Z w G m cs D) (bb:Below w.heap.size w w') (rd:Rd w' A l xs) (nw:NewA w A):∃ Z',(∀ z∈Z,z∈Z')∧Gd b Z' w' G m cs D∧Row Z' G.mb w' A l xs:=by
 have hm:=h.gz.mblt
 obtain⟨F,h1,h2⟩:=rF rd nw
 obtain⟨⟨A0,l0,c0,r0,gp,hq⟩,hz,hd⟩:=h
 refine⟨F++Z,fun z hz=>List.mem_append_right _ hz,⟨⟨A0,l0,c0,r0,(gp.more (fun z hz=>List.mem_append_right _ hz) (fun z hz=>?_)).below bb,hq⟩,fun z hz2=>?_,fun z hz2=>List.mem_append_right _ (hd z hz2)⟩,rd,F,h1,fun z hz=>List.mem_append_left _ hz,fun hm2=>by have:=(h2 _ hm2).1;omega⟩
 ·rcases List.mem_append.1 hz with e|e
  ·exact .inl (h2 z e).1
  ·exact .inr e
 ·rcases List.mem_append.1 hz2 with e|e
  ·exact(h2 z e).2
  ·have:=hz z e;have:=bb.size;omega
theorem Gd.led (h:Gd b Z w G m cs D) (fp:Fp D D' w w') (hl:∀ z∈D',z < w'.heap.size):Gd b (D'++Z) w' G m cs D':=by
 obtain⟨⟨A,l,c,r,gp,h1,h2,h3,h4⟩,hz,hd⟩:=h
 have hs:∀ z∈Z,z∈D'++Z:=fun z hz=>List.mem_append_right _ hz
 have no:∀ z,z < w.heap.size→z∉D→z∉D':=fun z hz hn hm=>by
  rcases fp.2 z hm with e|e
  ·exact hn e
  ·omega
 have v:=(gp.vq.more (K':=D'++Z) (fun z hz=>by
  rcases List.mem_append.1 hz with e|e
  ·rcases fp.2 z e with e|e
   ·exact .inr (hd z e)
   ·exact .inl e
  ·exact .inr e)).own fp.1 (fun z hz=>hs z (hd z hz))
 refine⟨⟨A,l,c,r,⟨gp.blk.bar fp.1 h3,gp.rd.far fp.1 h2,gp.lc,gp.inA.mono hs,gp.off,gp.c8,gp.mblk.bar fp.1 h4,gp.rblk.bar fp.1 h1,hs _ gp.gK,hs _ gp.mK,hs _ gp.rK,gp.bm,v⟩,no r gp.rblk.lt h1,?_,no _ gp.blk.lt h3,no _ gp.mblk.lt h4⟩,fun z hz2=>?_,fun z hz2=>List.mem_append_left _ hz2⟩
 ·by_cases h0:l=0
  ·exact .inl h0
  ·obtain⟨g,o,rfl,hc⟩:=gp.rd.2.2.resolve_left h0
   have hlt:g < w.heap.size:=World.block_lt_of_cell? _ _ (hc 0 (by omega))
   refine .inr ⟨g,o,rfl,no g hlt ?_⟩
   rcases h2 with e|⟨g2,o2,e,hg⟩
   ·exact absurd e h0
   ·injection e with e;injection e with e;rw[e];exact hg
 ·rcases List.mem_append.1 hz2 with e|e
  ·exact hl z e
  ·have:=hz z e;have:=fp.1.size;omega
theorem NJ {n cb r s K nn:Nat}{p wh:Int}{seed:List Int}(clock:Int) (hG:G.k=K∧G.which=wh∧G.seed=seed∧G.n=nn) (h:Gd b Z w G m cs D) (P:Pl s0 nn m (r+1)) (N:Nil m.v) (hsv:0≤m.served∧m.served≤1000000) (rx:Row Z G.mb w B n (bJ (keyV seed p wh) (askN p wh s))) (hl:n≤cb∧cb≤9223372036854775807∧n=47) (hm:mayN (askN p wh s)) (hp:p < (K:Int))
  (hh:handleM m p s clock [0,0,0] 0 ⟨0,[]⟩=((0,out),m')) (hlo:out.length≤50000) :
  Calls Tryz.prog 25 #[.pointer (some ⟨G.g,0,none⟩),.slice B n cb,.int .i64 clock] w (rJ b Z w G m' (zF cs 4) D (bJ (keyV seed p wh) (rG wh seed (askN p wh s) out))):=by
 have hdl:=h.dlt
 obtain⟨⟨A,l,c,r0,gp,h1,h2,h3,h4⟩,hz,hd⟩:=h
 refine(Vq clock hG gp hz P N hsv rx hl hm hp hh hlo).mono ?_
 rintro e w' ⟨A1,l1,c1,F,r1,rfl,k1,k2,k3,k4,k5,k6,k7,k8⟩
 refine⟨A1,l1,c1,F++Z,rfl,k1,k2,fun z hz=>List.mem_append_right _ hz,⟨⟨A,l,c,r1,k7,fun hm=>by have:=hdl r1 hm;omega,h2,h3,h4⟩,fun z hz2=>?_,fun z hz2=>List.mem_append_right _ (hd z hz2)⟩,⟨k3,F,k4,fun z hz=>List.mem_append_left _ hz,fun hm2=>by have:=(k5 _ hm2).1;have:=gp.mblk.lt;omega⟩,NI hdl (fun z hz=>(k5 z hz).1) k4,k8,fun z hz hm=>h4 (by rw[List.mem_singleton] at hm;exact hm▸hz)⟩
 rcases List.mem_append.1 hz2 with e|e
 ·exact(k5 z e).2
 ·have:=hz z e;have:=k8.size;omega
theorem Tar.keeps {F:List Nat}(t:Tar b Z G.mb w w') (hF:∀ z∈F,z∈Z∧z≠G.mb):∃ K,Bar K w w'∧∀ z∈F,z∉K:=by
 obtain⟨K,h1,h2⟩:=t
 exact⟨K,h1,fun z hz hm=>(hF z hz).2 ((h2 z hm).2 (hF z hz).1)⟩
end
end Gate
namespace Gate
open Go.RowKit Num Sha Purse Escrow Wire Mac Seal Vault Meter Ledger Req
def two4 (j:Nat):List Int:=[0,0,0,0,2 * j,0,0,0]
theorem NL:∀ j:Nat,j < 20→zF (zF (two4 j) 4) 4=two4 (j+1):=by decide +kernel
theorem pO (j:Nat):getC (two4 j) 4=2 * j∧getC (two4 j) 2=0∧getC (two4 j) 3=0∧getC (two4 j) 5=0:=⟨rfl,rfl,rfl,rfl⟩
theorem zW (l:LS) (c:Int):(clockL l c).clock=tickTo l.clock c:=by
 unfold clockL tickTo
 by_cases h:Tck c∧l.clock < c
 ·rw[if_pos h,if_pos h]
 ·rw[if_neg h,if_neg h]
section
variable {b : Nat} {Z K : List Nat} {w w' : World} {G : GS} {m m1 : MV} {s0 : LS} {nn p y j mb : Nat} {clk : Int} {F : List Nat} {s : LS}
theorem NM (h:Bk w y clk) (bb:Bar K w w') (hy:y∉K):Bk w' y clk:=by
 obtain⟨st,cap,b,d1,d2,A,c,h1,h2⟩:=h
 exact⟨st,cap,b,d1,d2,A,c,h1.bar bb hy,h2⟩
theorem iJ (h:Bk w y clk) (bb:Below w.heap.size w w'):Bk w' y clk:=NM h (barOf bb []) (by simp)
theorem Tn (h:Bk w y clk) (f:Far b K w w') (hy:y∈K):Bk w' y clk:=by
 obtain⟨F,h1,h2⟩:=f
 exact NM h h1 (fun hm=>(h2 y hm).2 hy)
theorem Tq (h:Bk w y clk) (t:Tar b Z mb w w') (hy:y∈Z) (hm:y≠mb):Bk w' y clk:=by
 obtain⟨F,h1,h2⟩:=t
 exact NM h h1 (fun hf=>hm ((h2 y hf).2 hy))
theorem Xq (h:Bk w y clk):y < w.heap.size:=by
 obtain⟨st,cap,b,d1,d2,A,c,h1,h2⟩:=h
 exact h1.lt
theorem NP {cs:List Int}(h:Gz b Z w G m cs) {v:Int}(hv:m.served=v):Calls Tryz.prog 31 #[.pointer (some ⟨G.x,0,none⟩)] w fun e w'=>e=.returned (.int .i64 v)∧w=w':=by
 obtain⟨⟨A,l,c,r0,gp⟩,-⟩:=h
 obtain⟨j,y,HJ,FL,I,lv,⟨l2,h1⟩,-⟩:=gp.vq
 rw[← hv]
 exact Bv h1
theorem Xr (h:Dk w F y s) (he:s.e=[]) (hc:s.clock=0):Bk w y 0∧y∈F:=by
 obtain⟨F0,b,q,st,d,d1,d2,dp,rfl⟩:=h
 obtain⟨A,c,rfl,h4,h5,h6⟩:=Ow.rc I8 dp.re
 have hl:(evs s).length=0:=by unfold evs;rw[he];rfl
 rw[hl] at h4
 refine⟨⟨st,.int .i64 s.cap,.pointer (some ⟨b,0,none⟩),d1,d2,A,c,?_,h5⟩,df_mem.2 (.inl rfl)⟩
 have:=dp.blk
 rw[hl,hc] at this
 exact this
structure Ai (b:Nat) (Z:List Nat) (w:World) (G:GS) (s0:LS) (nn p y:Nat) (m:MV) (clk:Int) (cs:List Int) (j:Nat):Prop where
 gd:Gd b Z w G m cs [y]
 bk:Bk w y clk
 pl:Pl s0 nn m (53 - j)
 nil:Nil m.v
 len:m.v.t.length=3
 seq:(tAt m.v p).seq=j
 srv:m.served=j
 ck:m.v.l.clock=clk
theorem Ai.next {cs:List Int}(h:Ai b Z w G s0 nn p y m clk cs j) (hj:j < 20) (hp:p < 3):∃ m1,handleM m p ((j+1:Nat):Int) (3 * j) [0,0,0] 0 ⟨0,[]⟩=((0,bytesA ⟨tickTo clk (3 * j),0,[],[]⟩),m1)∧handleM m1 p ((j+1:Nat):Int) (3 * j+1) [0,0,0] 0 ⟨0,[]⟩=((0,bytesA ⟨tickTo clk (3 * j),0,[],[]⟩),m1) ∧
  Pl s0 nn m1 (53 - (j+1))∧Nil m1.v∧m1.v.t.length=3∧(tAt m1.v p).seq=(j+1:Nat)∧m1.served=(j+1:Nat)∧m1.v.l.clock=tickTo clk (3 * j)∧Tck (tickTo clk (3 * j)):=by
 have hpl:p < m.v.t.length:=by rw[h.len];omega
 have P:=h.pl
 rw[show 53 - j=(53 - (j+1))+1 by omega] at P
 obtain⟨m1,hh,hp1,hv1,hs1⟩:=Nj (x:=⟨0,[]⟩) (b:=[0,0,0]) (p:=p) (seq:=((j+1:Nat):Int)) (clock:=3 * j) P hpl (by rw[h.seq];omega) (by omega) pG (by simp) (by simp)
 have ha:(applyL m.v.l p (3 * j) ⟨0,[]⟩).1=⟨tickTo clk (3 * j),0,[],[]⟩:=by rw[pJ h.nil.e,zW,h.ck]
 rw[ha] at hh
 have ht:tAt m1.v p=⟨((j+1:Nat):Int),0,⟨tickTo clk (3 * j),0,[],[]⟩⟩:=by rw[hv1,Nb hpl,if_pos rfl,applyL_at,ha]
 have hl1:m1.v.t.length=3:=by rw[hv1,Va,h.len]
 have hc1:m1.v.l.clock=tickTo clk (3 * j):=by
  rw[hv1,XX,nH]
  exact(zW _ _).trans (by rw[h.ck])
 have hsame:=Nk (m:=m1) (p:=p) (seq:=((j+1:Nat):Int)) (clock:=3 * j+1) (b:=[0,0,0]) (de:=0) (x:=⟨0,[]⟩) hp1.down (by rw[hl1];omega) (by rw[ht]) (by omega)
 rw[ht] at hsame
 exact⟨m1,hh,hsame,hp1,by rw[hv1];exact h.nil.poll hpl,hl1,by rw[ht],by rw[hs1,h.srv];omega,hc1,by rw[← hc1];exact hp1.wv.wl.clock⟩
end
end Gate
end Go.Proofs.YtlkeieoecfkkeaaGreat
