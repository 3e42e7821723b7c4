/-
  Parts laid together: JCompact JBegin JFollow.
-/
import Derived.Test.YtlkeieoecfkkeaaGreatPart1
import Derived.Test.YtlkeieoecfkkeaaGreatPart28
import Derived.Deep.OwnRows
import Derived.Deep.DeepCutAuto
import Derived.Test.YtlkeieoecfkkeaaGreatPart14
import Derived.Test.YtlkeieoecfkkeaaGreatPart9
import Derived.Test.YtlkeieoecfkkeaaGreatPart3
import Derived.Test.YtlkeieoecfkkeaaGreatPart10
set_option maxRecDepth 100000
set_option maxHeartbeats 4000000
namespace Go.Proofs.YtlkeieoecfkkeaaGreat
namespace Journal
open Go.RowKit Sha Disk Go.Proofs.YtlkeieoecfkkeaaGreat.Frame
theorem put6 {w:World}{N:Nat}{t:TypeId}{c0 c1 c2 c3 c4 c5:Value}(h:Blk w N t #[c0,c1,c2,c3,c4,c5]) (v0 v1 v2 v3 v4 v5:Value) :
  Blk ((((((w.setCell ⟨N,0,none⟩ v0).setCell ⟨N,1,none⟩ v1).setCell ⟨N,2,none⟩ v2).setCell ⟨N,3,none⟩ v3).setCell ⟨N,4,none⟩ v4).setCell ⟨N,5,none⟩ v5) N t #[v0,v1,v2,v3,v4,v5] ∧
   Bar [N] w ((((((w.setCell ⟨N,0,none⟩ v0).setCell ⟨N,1,none⟩ v1).setCell ⟨N,2,none⟩ v2).setCell ⟨N,3,none⟩ v3).setCell ⟨N,4,none⟩ v4).setCell ⟨N,5,none⟩ v5) :=
 ⟨(((((h.set_ 0 v0).set_ 1 v1).set_ 2 v2).set_ 3 v3).set_ 4 v4).set_ 5 v5,((((((Bar.refl [N] w).setCell (by simp) _).setCell (by simp) _).setCell (by simp) _).setCell (by simp) _).setCell (by simp) _).setCell (by simp) _⟩
def hitB (b:List Int):Prop:=(getF b).2.2=0∧(getF b).1.kind=1∧(getF b).1.seq=0
def hvl (fr gen:Int) (has:Bool) (A:Option Addr) (m c:Nat):Value:=.agg #[.int .i64 fr,.int .i64 gen,.bool has,.slice A m c,.slice none 0 0,.int .i64 0]
def vV (t:Nat) (fr:Int) (b:List Int) (A:Option Addr) (l c:Nat) (w:World) (e:Ending) (w':World):Prop:=Tab w' t∧Bar [t] w w' ∧
  ((¬ hitB b∧e=.returned (.tuple #[hvl fr 0 false none 0 0,.slice A l c])) ∨
   (hitB b∧∃ Ap m cp A2 l2 c2,e=.returned (.tuple #[hvl fr (getF b).1.gen true Ap m cp,.slice A2 l2 c2])∧m≤cp∧cp≤maxLen∧Rd w' Ap m (getF b).1.body∧(∀ F:List Nat,(∀ k∈F,k < w.heap.size)→Off Ap m F) ∧
     l2=l - 64 * (getF b).2.1.toNat∧l2≤c2∧c2≤maxLen∧Rd w' A2 l2 (b.drop (64 * (getF b).2.1.toNat))∧(∀ F,Off A l F→Off A2 l2 F)))
theorem bV {P:Program}{fn:Func}{p u:Tmp}{ty:TypeId}(h:fn.results=#[.cell p ty,.tmp u]) (tmps:Array Value) (w:World) (g:Nat) (t:TypeId) (cs:Array Value) (fr:Nat × Nat) (d:TypeDesc)
  (hp:tmps.getD p undef=.pointer (some ⟨g,0,none⟩)) (hg:w.heap[g]?=some (.cells cs t fr))
  (hu:P.underlying ty=some d) (hd:(match d with|.struct _|.array _ _=>true|_=>false)=true) (hi:(P.info? ty).map (·.size)=some cs.size) :
  (results fn tmps).run P w=.ok (.tuple #[.agg cs,tmps.getD u undef]) w:=by
 have hp':tmps[p]?.getD undef=.pointer (some ⟨g,0,none⟩):=by simpa using hp
 simp[results,h,hp',asAddr,run_loadVar_row w g t ty cs fr d hg hu hd hi,Result.andThen]
theorem kZ:(Tryz.prog.info? 185).map (·.size)=some 6:=by kernel_rfl
theorem vW {A:Option Addr}{l:Nat}{F G:List Nat}(h1:Off A l F) (h2:Off A l G):Off A l (F++G):=by
 rcases h1 with h|⟨g,o,rfl,hg⟩
 ·exact .inl h
 ·rcases h2 with h|⟨g',o',e,hg'⟩
  ·exact .inl h
  ·injection e with e;injection e with e1 e2
   subst e1
   exact .inr ⟨g,o,rfl,by simp[hg,hg']⟩
theorem jU (A:Option Addr) (n c:Nat) (hc:n≤c) (l:Nat) (h1:l≤n) (li:Int) (e1:li=l) :
  ∃ A',(∀ w',(Instr.slice 22 (.slice A n c) (some (.int .i64 li)) none none).run Tryz.prog w'=.ok (.slice A' (n - l) (c - l)) w')∧(∀ w xs,Rd w A n xs→Rd w A' (n - l) (xs.drop l))∧∀ F,Off A n F→Off A' (n - l) F:=by
 refine⟨if c=l then A else A.map (·.add (l * 1)),fun w'=>?_,fun w xs r=>?_,fun F hF=>?_⟩
 ·subst e1
  rw[run_slice_l w' 22 A n c rP .i64 l (by omega) (by omega),kL]
  rfl
 ·have hp:=(r.piece hc l n h1 (Nat.le_refl _)).1
  rw[show xs.take n=xs from List.take_of_length_le (by rw[r.1];exact Nat.le_refl _)] at hp
  exact hp
 ·rcases hF with hF|⟨g,o,rfl,hg⟩
  ·exact .inl (by omega)
  ·by_cases hcl:c=l
   ·rw[if_pos hcl];exact .inr ⟨g,o,rfl,hg⟩
   ·rw[if_neg hcl,Nat.mul_one]
    refine .inr ⟨g,o+l,?_,hg⟩
    simp only[Option.map_some]
    have ea:(⟨g,o,none⟩:Addr).add l=⟨g,o+l,none⟩:=by cases l<;>simp[Addr.add]
    rw[ea]
theorem UH {w w':World}{t:Nat}{fr fg:Int}{b fb:List Int}{A A3 A2:Option Addr}{l c n3 c3 l2 c2 kk:Nat}(hh:hitB b) (h1:(getF b).1.gen=fg) (h2:(getF b).1.body=fb) (h3:(getF b).2.1.toNat=kk) (ht:Tab w' t) (hb:Bar [t] w w') (hc3:n3≤c3) (hcm3:c3≤maxLen) (r3:Rd w' A3 n3 fb) (o3:∀ F:List Nat,(∀ k∈F,k < w.heap.size)→Off A3 n3 F)
  (hl2:l2=l - 64 * kk) (hc2:l2≤c2) (hcm2:c2≤maxLen) (r2:Rd w' A2 l2 (b.drop (64 * kk))) (o2:∀ F,Off A l F→Off A2 l2 F):vV t fr b A l c w (.returned (.tuple #[hvl fr fg true A3 n3 c3,.slice A2 l2 c2])) w':=by
 subst h1 h2 h3
 exact⟨ht,hb,.inr ⟨hh,A3,n3,c3,A2,l2,c2,rfl,hc3,hcm3,r3,o3,hl2,hc2,hcm2,r2,o2⟩⟩
theorem uf (api:dS) {w:World}{t:Nat}{b:List Int}{A:Option Addr}{l c:Nat}(fr:Int) (ht:Tab w t) (hr:Rd w A l b) (hc:l≤c) (hcm:c≤maxLen) (hl:l≤1000000) (hO:Off A l [t]) :
  Calls Tryz.prog 81 #[.pointer (some ⟨t,0,none⟩),.int .i64 fr,.slice A l c] w (vV t fr b A l c w):=by
 obtain⟨N,hN⟩:∃ N,w.heap.size=N:=⟨_,rfl⟩
 have htN:t < N:=by rw[← hN];exact dQ ht
 have b1:Below w.heap.size w ((w.alloc (.cells #[.int .i64 0,.int .i64 0,.bool false,.slice none 0 0,.slice none 0 0,.int .i64 0] 185)).alloc (.cells #[.int .i64 fr,.int .i64 0,.bool false,.slice none 0 0,.slice none 0 0,.int .i64 0] 185)):=((Below.refl _ w).alloc (Nat.le_refl _) _).alloc (by simp) _
 have RB0:=(Blk.new_at w 185 #[.int .i64 0,.int .i64 0,.bool false,.slice none 0 0,.slice none 0 0,.int .i64 0] N hN.symm).below ((Below.refl _ _).alloc (Nat.le_refl _) (.cells #[.int .i64 fr,.int .i64 0,.bool false,.slice none 0 0,.slice none 0 0,.int .i64 0] 185)) (by simp[hN])
 have HB0:=Blk.new_at (w.alloc (.cells #[.int .i64 0,.int .i64 0,.bool false,.slice none 0 0,.slice none 0 0,.int .i64 0] 185)) 185 #[.int .i64 fr,.int .i64 0,.bool false,.slice none 0 0,.slice none 0 0,.int .i64 0] (N+1) (by simp[hN])
 have hs1:((w.alloc (.cells #[.int .i64 0,.int .i64 0,.bool false,.slice none 0 0,.slice none 0 0,.int .i64 0] 185)).alloc (.cells #[.int .i64 fr,.int .i64 0,.bool false,.slice none 0 0,.slice none 0 0,.int .i64 0] 185)).heap.size=N+2:=by simp[hN]
 have hN1:(w.alloc (.cells #[.int .i64 0,.int .i64 0,.bool false,.slice none 0 0,.slice none 0 0,.int .i64 0] 185)).heap.size=N+1:=by simp[hN]
 have T1:=sS ht b1 (dQ ht)
 have R1:=hr.below b1
 have GC:=ae.mk (api.get T1 R1 hc hcm hl hO)
 have HB:=ae.mk HB0
 have RB:=ae.mk RB0
 have HO:=ae.mk hO
 have HR:=ae.mk hr
 have BA:=ae.mk b1
 clear ht hr hO b1 RB0 HB0 T1 R1
 go_enter Tryz.func81,Tryz.ntmps81
 go_wp2_with fail
 refine GC.out.mono ?_
 generalize ((w.alloc (.cells #[.int .i64 0,.int .i64 0,.bool false,.slice none 0 0,.slice none 0 0,.int .i64 0] 185)).alloc (.cells #[.int .i64 fr,.int .i64 0,.bool false,.slice none 0 0,.slice none 0 0,.int .i64 0] 185))=w1 at *
 rintro e w3 ⟨A3,n3,c3,rfl,hc3,hcm3,r3,o3,t3,bt3⟩
 obtain⟨T,hT⟩:∃ T,w3.heap.size=T:=⟨_,rfl⟩
 have sz3:=bt3.size
 have hTN:N+2≤T:=by omega
 obtain⟨⟨⟨fk,fg,fs,fb⟩,gk,ge⟩,hg⟩:∃ g,getF b=g:=⟨_,rfl⟩
 rw[hg] at r3 ⊢
 have HG:=ae.mk hg
 simp only[frv] at r3 ⊢
 have ba:Below w3.heap.size w3 (w3.alloc (.cells #[.int .i64 fk,.int .i64 fg,.int .i64 fs,.slice A3 n3 c3] 231)):=(Below.refl _ _).alloc (Nat.le_refl _) _
 have BA3:ae (Bar [t] w (w3.alloc (.cells #[.int .i64 fk,.int .i64 fg,.int .i64 fs,.slice A3 n3 c3] 231))):=⟨((barOf BA.out [t]).trans bt3 (by simp)).trans (barOf ba []) (by simp)⟩
 have T3:=ae.mk (ftab_bar t3 (barOf ba []) (by simp))
 have R3:=ae.mk (r3.below ba)
 have RR:=ae.mk (HR.out.far BA3.out HO.out)
 replace HB:=ae.mk ((HB.out.bar bt3 (by simp;omega)).below ba (by omega))
 replace RB:=ae.mk ((RB.out.bar bt3 (by simp;omega)).below ba (by omega))
 have FBk:=ae.mk (Blk.new_at w3 231 #[.int .i64 fk,.int .i64 fg,.int .i64 fs,.slice A3 n3 c3] T hT.symm)
 have O3:ae (∀ F:List Nat,(∀ k∈F,k < N+2)→Off A3 n3 F):=⟨fun F hF=>o3 F (fun k hk=>by rw[hs1];exact hF k hk)⟩
 clear GC BA r3 t3 bt3 o3 ba hs1 hN1
 have MS:ae (ge≠0∨fk≠1∨fs≠0→¬ hitB b):=⟨by
  rintro h ⟨a1,a2,a3⟩
  rw[HG.out] at a1 a2 a3
  rcases h with h|h|h
  ·exact h a1
  ·exact h a2
  ·exact h a3⟩
 have HIT:ae (ge=0→fk=1→fs=0→hitB b):=⟨fun a1 a2 a3=>⟨by rw[HG.out];exact a1,by rw[HG.out];exact a2,by rw[HG.out];exact a3⟩⟩
 have f0:=FBk.out.cell 0
 have f2:=FBk.out.cell 2
 have PM:ae (¬ hitB b→∀ w',Bar [N] (w3.alloc (.cells #[.int .i64 fk,.int .i64 fg,.int .i64 fs,.slice A3 n3 c3] 231)) w'→vV t fr b A l c w (.returned (.tuple #[hvl fr 0 false none 0 0,.slice A l c])) w'):=⟨fun hm w' hb=>⟨ftab_bar T3.out hb (by simp;omega),BA3.out.trans hb (fun k hk=>by rw[List.mem_singleton] at hk;exact .inr (by omega)),.inl ⟨hm,rfl⟩⟩⟩
 by_cases h1:ge=0
 ·subst h1
  by_cases h2:fk=1
  ·subst h2
   by_cases h3:fs=0
   ·subst h3
    have hh:=HIT.out rfl rfl rfl
    have hgb:=eG (b:=b) RR.out.2.1 (by rw[HG.out])
    rw[HG.out] at hgb
    simp only at hgb
    obtain⟨kk,hkk⟩:∃ q,gk.toNat=q:=⟨_,rfl⟩
    rw[hkk] at hgb
    obtain⟨-,-,-,hk1,hk2,rfl⟩:=hgb
    have hbl:=RR.out.1
    have hk3:64 * kk≤l:=by omega
    clear hkk MS HIT PM hk2 hbl
    go_upto_region 5 with(fail)
    clear f0 f2
    generalize (w3.alloc (.cells #[.int .i64 1,.int .i64 fg,.int .i64 0,.slice A3 n3 c3] 231))=w4x at *
    have BA4:ae (Bar [t] w w4x.drew):=⟨BA3.out.trans (barOf (Below.refl w4x.heap.size w4x).drew []) (by simp)⟩
    have T4:=ae.mk (ftab_bar T3.out (barOf (Below.refl w4x.heap.size w4x).drew []) (by simp))
    have R4:=ae.mk R3.out.drew
    have RR4:=ae.mk RR.out.drew
    have HB4:=HB.out.drew
    have RB4:=RB.out.drew
    have FB4:=FBk.out.drew
    clear BA3 T3 R3 RR HB RB FBk
    refine wp_region_noPanic ?_
    refine wp_region_held_drew (S:=fun w':World=>w'.cell? ⟨T,1,none⟩=some (.int .i64 fg)∧w'.cell? ⟨T,3,none⟩=some (.slice A3 n3 c3)) (by kernel_rfl) ⟨FB4.cell 1,FB4.cell 3⟩ (fun hHeld=>?_)
    generalize w4x.drew=w4 at *
    have z1:=HB4.frozen 1;have z2:=HB4.frozen 2;have z3:=HB4.frozen 3
    have y1:=HB4.cell 1;have y2:=HB4.cell 2;have y3:=HB4.cell 3
    have hbS:Bar [N+1] w4 (((w4.setCell ⟨N+1,1,none⟩ (.int .i64 fg)).setCell ⟨N+1,2,none⟩ (.bool true)).setCell ⟨N+1,3,none⟩ (.slice A3 n3 c3)):=(((Bar.refl [N+1] w4).setCell (by simp) _).setCell (by simp) _).setCell (by simp) _
    have HB5:Blk (((w4.setCell ⟨N+1,1,none⟩ (.int .i64 fg)).setCell ⟨N+1,2,none⟩ (.bool true)).setCell ⟨N+1,3,none⟩ (.slice A3 n3 c3)) (N+1) 185 #[.int .i64 fr,.int .i64 fg,.bool true,.slice A3 n3 c3,.slice none 0 0,.int .i64 0]:=((HB4.set_ 1 _).set_ 2 _).set_ 3 _
    have RB5:=RB4.bar hbS (by simp)
    have BA5:ae (Bar [t] w (((w4.setCell ⟨N+1,1,none⟩ (.int .i64 fg)).setCell ⟨N+1,2,none⟩ (.bool true)).setCell ⟨N+1,3,none⟩ (.slice A3 n3 c3))):=⟨BA4.out.trans hbS (fun k hk=>by rw[List.mem_singleton] at hk;exact .inr (by omega))⟩
    have T5:=ae.mk (ftab_bar T4.out hbS (by simp;omega))
    have R5:=ae.mk (R4.out.far hbS (O3.out [N+1] (by simp)))
    have RR5:=ae.mk (HR.out.far BA5.out HO.out)
    have FS1:∀ v,(w4.setCell ⟨N+1,1,none⟩ v).cell? ⟨T,1,none⟩=some (.int .i64 fg)∧(w4.setCell ⟨N+1,1,none⟩ v).cell? ⟨T,3,none⟩=some (.slice A3 n3 c3):=fun v=>by
     have q:=FB4.bar (show Bar [N+1] w4 (w4.setCell ⟨N+1,1,none⟩ v) from(Bar.refl [N+1] w4).setCell (by simp) _) (by simp;omega)
     exact⟨q.cell 1,q.cell 3⟩
    have FS2:∀ v v',((w4.setCell ⟨N+1,1,none⟩ v).setCell ⟨N+1,2,none⟩ v').cell? ⟨T,1,none⟩=some (.int .i64 fg)∧((w4.setCell ⟨N+1,1,none⟩ v).setCell ⟨N+1,2,none⟩ v').cell? ⟨T,3,none⟩=some (.slice A3 n3 c3):=fun v v'=>by
     have q:=FB4.bar (show Bar [N+1] w4 ((w4.setCell ⟨N+1,1,none⟩ v).setCell ⟨N+1,2,none⟩ v') from((Bar.refl [N+1] w4).setCell (by simp) _).setCell (by simp) _) (by simp;omega)
     exact⟨q.cell 1,q.cell 3⟩
    have FS3:=FB4.bar hbS (by simp;omega)
    clear BA4 T4 R4 RR4 HB4 RB4 FB4 hbS
    refine tk 0 ?_
    simp only[Act.put,zA,zB,zC]
    refine tk 1 ?_
    simp only[Act.put,zA,zB,zC]
    refine tk 2 ?_
    simp only[Act.put,zA,zB,zC]
    refine tk 3 ?_
    simp only[Act.put,zA,zB,zC]
    refine tk 4 ?_
    simp only[Act.put,zA,zB,zC]
    refine ld 5 (fun K hK=>?_)
    go_simp
    refine hK.out _ _ (FS1 _) (fun hHeld2=>?_)
    clear hK K
    try simp only[Act.put]
    refine tk 6 ?_
    simp only[Act.put,zA,zB,zC]
    refine ld 7 (fun K hK=>?_)
    go_simp
    refine hK.out _ _ (FS2 _ _) (fun hHeld3=>?_)
    clear hK K
    try simp only[Act.put]
    refine tk 8 ?_
    simp only[Act.put,zA,zB,zC]
    refine ld 9 (fun K hK=>?_)
    go_simp
    refine hK.out _ _ ⟨FS3.cell 1,FS3.cell 3⟩ (fun _=>?_)
    clear hK K hHeld hHeld2 hHeld3 FS1 FS2 FS3 z1 z2 z3 y1 y2 y3
    try simp only[Act.put]
    refine wpAnyH_done (by kernel_rfl) ?_ _
    refine NoPanic.normal ?_
    generalize (((w4.setCell ⟨N+1,1,none⟩ (.int .i64 fg)).setCell ⟨N+1,2,none⟩ (.bool true)).setCell ⟨N+1,3,none⟩ (.slice A3 n3 c3))=w5 at *
    go_upto_region 6 with(fail)
    have BA6:ae (Bar [t] w w5.drew):=⟨BA5.out.trans (barOf (Below.refl w5.heap.size w5).drew []) (by simp)⟩
    have T6:=ae.mk (ftab_bar T5.out (barOf (Below.refl w5.heap.size w5).drew []) (by simp))
    have R6:=ae.mk R5.out.drew
    have RR6:=ae.mk RR5.out.drew
    have HB6:=HB5.drew
    have RB6:=RB5.drew
    have W1:IntKind.i64.wrap ((kk:Int) * 64)=(kk:Int) * 64:=by simp only[IntKind.wrap_i64];omega
    obtain⟨A2,s2,r2,o2⟩:=jU A l c hc (64 * kk) hk3 ((kk:Int) * 64) (by omega)
    clear BA5 T5 R5 RR5 HB5 RB5
    refine wp_region_noPanic ?_
    refine wp_region_held_drew (S:=fun w':World=>w'.cell? ⟨N+1,0,none⟩=some (.int .i64 fr)∧w'.cell? ⟨N+1,1,none⟩=some (.int .i64 fg)∧w'.cell? ⟨N+1,2,none⟩=some (.bool true)∧w'.cell? ⟨N+1,3,none⟩=some (.slice A3 n3 c3)∧w'.cell? ⟨N+1,4,none⟩=some (.slice none 0 0)∧w'.cell? ⟨N+1,5,none⟩=some (.int .i64 0)) (by kernel_rfl) ⟨HB6.cell 0,HB6.cell 1,HB6.cell 2,HB6.cell 3,HB6.cell 4,HB6.cell 5⟩ (fun hHeld=>?_)
    generalize w5.drew=w6 at *
    have P6:=put6 RB6 (.int .i64 fr) (.int .i64 fg) (.bool true) (.slice A3 n3 c3) (.slice none 0 0) (.int .i64 0)
    have HB7:=HB6.bar P6.2 (by simp)
    have RR7:=HR.out.far ((BA6.out.trans P6.2 (fun k hk=>by rw[List.mem_singleton] at hk;exact .inr (by omega)))) HO.out
    have PG:=ae.mk (UH (fr:=fr) (c:=c) hh (congrArg (fun g=>g.1.gen) HG.out) (congrArg (fun g=>g.1.body) HG.out) (show (getF b).2.1.toNat=kk by rw[HG.out];exact Int.toNat_natCast kk) (ftab_bar T6.out P6.2 (by simp;omega)) (BA6.out.trans P6.2 (fun k hk=>by rw[List.mem_singleton] at hk;exact .inr (by omega))) hc3 hcm3 (R6.out.far P6.2 (O3.out [N] (by simp))) (fun F hF=>O3.out F (fun k hk=>by have:=hF k hk;omega)) rfl (show l - 64 * kk≤c - 64 * kk by omega) (by omega) (r2 _ _ RR7) o2)
    have PC:=ae.mk P6.1
    have g0:=RB6.frozen 0;have g1:=RB6.frozen 1;have g2:=RB6.frozen 2;have g3:=RB6.frozen 3;have g4:=RB6.frozen 4;have g5:=RB6.frozen 5
    have k0:=RB6.cell 0;have k1:=RB6.cell 1;have k2:=RB6.cell 2;have k3:=RB6.cell 3;have k4:=RB6.cell 4;have k5:=RB6.cell 5
    clear P6 RB6 RR7 HB6 BA6 T6 R6 RR6 HR HO HG hh O3 o2 r2
    refine tk 0 ?_
    simp only[Act.put,zA,zB,zC]
    refine tk 1 ?_
    simp only[Act.put,zA,zB,zC]
    refine tk 2 ?_
    simp only[Act.put,zA,zB,zC]
    refine tk 3 ?_
    simp only[Act.put,zA,zB,zC]
    refine tk 4 ?_
    simp only[Act.put,zA,zB,zC]
    refine ld 5 (fun K hK=>?_)
    go_simp
    refine hK.out _ _ ⟨HB7.cell 0,HB7.cell 1,HB7.cell 2,HB7.cell 3,HB7.cell 4,HB7.cell 5⟩ (fun _=>?_)
    clear hK K hHeld HB7 g0 g1 g2 g3 g4 g5 k0 k1 k2 k3 k4 k5
    try simp only[Act.put]
    refine tk 6 ?_
    simp only[Act.put,zA,zB,zC]
    refine wpAnyH_done (by kernel_rfl) ?_ _
    refine NoPanic.normal ?_
    go_wp2
    (try simp only[Exit.inBlock,Exit.then])
    refine bodyPost_ret (bV rfl _ _ N 185 #[.int .i64 fr,.int .i64 fg,.bool true,.slice A3 n3 c3,.slice none 0 0,.int .i64 0] (0,0) _ rfl PC.out Tryz.underlying185 rfl kZ) rfl ?_
    exact PG.out
   ·have h3':(fs != 0)=true:=by simpa using h3
    clear HG FBk HIT
    have hm:¬ hitB b:=MS.out (by first|exact Or.inl h1|exact Or.inr (Or.inl h2)|exact Or.inr (Or.inr h3))
    have P6:=put6 RB.out (.int .i64 fr) (.int .i64 0) (.bool false) (.slice none 0 0) (.slice none 0 0) (.int .i64 0)
    have PG:=ae.mk (PM.out hm _ P6.2)
    have PC:=ae.mk P6.1
    have g0:=RB.out.frozen 0;have g1:=RB.out.frozen 1;have g2:=RB.out.frozen 2;have g3:=RB.out.frozen 3;have g4:=RB.out.frozen 4;have g5:=RB.out.frozen 5
    have k0:=RB.out.cell 0;have k1:=RB.out.cell 1;have k2:=RB.out.cell 2;have k3:=RB.out.cell 3;have k4:=RB.out.cell 4;have k5:=RB.out.cell 5
    have q0:=HB.out.cell 0;have q1:=HB.out.cell 1;have q2:=HB.out.cell 2;have q3:=HB.out.cell 3;have q4:=HB.out.cell 4;have q5:=HB.out.cell 5
    clear P6 RB HB PM MS
    go_wp2
    (try simp only[Exit.inBlock,Exit.then])
    refine bodyPost_ret (bV rfl _ _ N 185 #[.int .i64 fr,.int .i64 0,.bool false,.slice none 0 0,.slice none 0 0,.int .i64 0] (0,0) _ rfl PC.out Tryz.underlying185 rfl kZ) rfl ?_
    exact PG.out
  ·have h2':(fk != 1)=true:=by simpa using h2
   clear HG FBk HIT
   have hm:¬ hitB b:=MS.out (by first|exact Or.inl h1|exact Or.inr (Or.inl h2)|exact Or.inr (Or.inr h3))
   have P6:=put6 RB.out (.int .i64 fr) (.int .i64 0) (.bool false) (.slice none 0 0) (.slice none 0 0) (.int .i64 0)
   have PG:=ae.mk (PM.out hm _ P6.2)
   have PC:=ae.mk P6.1
   have g0:=RB.out.frozen 0;have g1:=RB.out.frozen 1;have g2:=RB.out.frozen 2;have g3:=RB.out.frozen 3;have g4:=RB.out.frozen 4;have g5:=RB.out.frozen 5
   have k0:=RB.out.cell 0;have k1:=RB.out.cell 1;have k2:=RB.out.cell 2;have k3:=RB.out.cell 3;have k4:=RB.out.cell 4;have k5:=RB.out.cell 5
   have q0:=HB.out.cell 0;have q1:=HB.out.cell 1;have q2:=HB.out.cell 2;have q3:=HB.out.cell 3;have q4:=HB.out.cell 4;have q5:=HB.out.cell 5
   clear P6 RB HB PM MS
   go_wp2
   (try simp only[Exit.inBlock,Exit.then])
   refine bodyPost_ret (bV rfl _ _ N 185 #[.int .i64 fr,.int .i64 0,.bool false,.slice none 0 0,.slice none 0 0,.int .i64 0] (0,0) _ rfl PC.out Tryz.underlying185 rfl kZ) rfl ?_
   exact PG.out
 ·have h1':(ge != 0)=true:=by simpa using h1
  clear HG FBk HIT
  have hm:¬ hitB b:=MS.out (by first|exact Or.inl h1|exact Or.inr (Or.inl h2)|exact Or.inr (Or.inr h3))
  have P6:=put6 RB.out (.int .i64 fr) (.int .i64 0) (.bool false) (.slice none 0 0) (.slice none 0 0) (.int .i64 0)
  have PG:=ae.mk (PM.out hm _ P6.2)
  have PC:=ae.mk P6.1
  have g0:=RB.out.frozen 0;have g1:=RB.out.frozen 1;have g2:=RB.out.frozen 2;have g3:=RB.out.frozen 3;have g4:=RB.out.frozen 4;have g5:=RB.out.frozen 5
  have k0:=RB.out.cell 0;have k1:=RB.out.cell 1;have k2:=RB.out.cell 2;have k3:=RB.out.cell 3;have k4:=RB.out.cell 4;have k5:=RB.out.cell 5
  have q0:=HB.out.cell 0;have q1:=HB.out.cell 1;have q2:=HB.out.cell 2;have q3:=HB.out.cell 3;have q4:=HB.out.cell 4;have q5:=HB.out.cell 5
  clear P6 RB HB PM MS
  go_wp2
  (try simp only[Exit.inBlock,Exit.then])
  refine bodyPost_ret (bV rfl _ _ N 185 #[.int .i64 fr,.int .i64 0,.bool false,.slice none 0 0,.slice none 0 0,.int .i64 0] (0,0) _ rfl PC.out Tryz.underlying185 rfl kZ) rfl ?_
  exact PG.out
theorem yD {n:Nat}{s:DS}(hwf:WF n s) {half m k:Nat}(hh:half≤1) (hk:m+k≤hn s):(textJ s half m).drop (64 * k)=textJ s half (m+k):=by
 rw[mY s half m k hk]
 have hl:(cat (fun i=>row s half (m+i)) k).length=64 * k:=jX (c:=64) k (fun j hj=>wH hwf half (by omega) (m+j) (by omega))
 rw[List.drop_append_of_le_length (by omega),List.drop_eq_nil_of_le (by omega),List.nil_append]
theorem yE {b:List Int}(h:(getF b).2.2=0):(getF b).1.body.length≤60000:=by
 unfold getF at h ⊢
 by_cases hk:BU b
 ·rw[if_pos hk]
  obtain⟨-,-,-,-,k5,-⟩:=hk
  have h1:errF (frameOf b)=0:=by simpa [putF] using k5
  exact(wG h1).1
 ·rw[if_neg hk] at h
  simp at h
theorem Ei {n:Nat}{s:DS}{v:JV}(h:COk n v) (hwf:WF n s) (hm:jJ s v):COk n (jY s v):=by
 have hh:v.half≤1:=by rcases h.half with e|e<;>omega
 have hb:=eG (jB hwf (half:=v.half) (m:=v.pos) hh) hm.1
 have hl:=lD hwf (half:=v.half) (m:=v.pos) hh
 have hhn:=jZ hwf
 have hp:=h.pos
 have hbd:=yE hm.1
 refine⟨h.half,h.gen,?_,?_,?_,h.pict,?_⟩
 ·show v.seq+1=((v.recs++[_]).length:Int)+1
  rw[List.length_append,List.length_singleton,h.seq];omega
 ·show v.pos+(getF (textJ s v.half v.pos)).2.1.toNat≤n / 2
  omega
 ·show (v.recs++[_]).length≤v.pos+(getF (textJ s v.half v.pos)).2.1.toNat
  rw[List.length_append,List.length_singleton];have:=h.recs;omega
 ·intro q hq
  rcases List.mem_append.1 hq with hq|hq
  ·exact h.bods q hq
  ·rw[List.mem_singleton] at hq;subst hq;exact hbd
def hcs (fr gen:Int) (has:Bool) (A:Option Addr) (m c:Nat) (vr:Value) (rm:Int):Array Value:=#[.int .i64 fr,.int .i64 gen,.bool has,.slice A m c,vr,.int .i64 rm]
def J5 (w:World) (t hB:Nat) (fr:Int) (has:Bool) (Ap:Option Addr) (mp cp:Nat) (M:Nat) (v:JV) (e:Ending) (w':World):Prop:=e=.returned (.tuple #[])∧∃ vr K,Tab w' t∧Blk w' hB 185 (hcs fr v.gen has Ap mp cp vr ((M - v.pos:Nat):Int))∧Og w' 22 vr v.recs K∧(∀ k∈K,w.heap.size≤k∧k < w'.heap.size)∧Bar [t,hB] w w'
theorem iq (api:dS) {w:World}{t hB n:Nat}{s:DS}{v0:JV}{fr rm0:Int}{has:Bool}{Ap A0:Option Addr}{mp cp l0 c0:Nat}(hwf:WF n s) (ht:Tab w t) (hb:Blk w hB 185 (hcs fr v0.gen has Ap mp cp (.slice none 0 0) rm0)) (htb:t≠hB) (hv:v0.recs=[]) (ok:COk n v0)
  (hr:Rd w A0 l0 (textJ s v0.half v0.pos)) (hc:l0≤c0) (hcm:c0≤maxLen) (hO:Off A0 l0 [t,hB]) :
  Calls Tryz.prog 82 #[.pointer (some ⟨hB,0,none⟩),.pointer (some ⟨t,0,none⟩),.slice A0 l0 c0] w (J5 w t hB fr has Ap mp cp (hn s) (recsJ s (hn s) v0)):=by
 obtain⟨N,hN⟩:∃ N,w.heap.size=N:=⟨_,rfl⟩
 have htN:t < N:=by rw[← hN];exact dQ ht
 have hBN:hB < N:=by rw[← hN];exact hb.lt
 have hhn:=jZ hwf
 have hn8:=hwf.n2
 obtain⟨V,hV⟩:∃ V,recsJ s (hn s) v0=V:=⟨_,rfl⟩
 rw[hV]
 have HW:=ae.mk hwf
 have HP0:ae (hn s≤v0.pos+hn s):=⟨by omega⟩
 have M0:ae (Tab w t∧Blk w hB 185 (hcs fr v0.gen has Ap mp cp (.slice none 0 0) rm0)∧Og w 22 (.slice none 0 0) v0.recs []∧(∀ k∈([]:List Nat),N≤k∧k < w.heap.size)∧Bar [t,hB] w w):=⟨ht,hb,by rw[hv];exact Og.nil _ _ _,by simp,Bar.refl _ _⟩
 have TX0:=ae.mk (And.intro hr hO)
 have hl0:=hr.1
 rw[lD hwf (by rcases ok.half with e|e<;>omega)] at hl0
 have EV:=ae.mk hV
 have CK:=ae.mk ok
 have hcm1:maxLen=9223372036854775807:=rfl
 have hhM:hn s≤4096:=by omega
 have HHN:=ae.mk hhn
 clear ht hb hv ok hr hO hwf hV hhn
 go_enter Tryz.func82,Tryz.ntmps82
 go_wp2
 go_loopg [2] (hn s) (fun gn bv wr=>∃ (v:JV) (A:Option Addr) (l c:Nat) (vr:Value) (rm:Int) (K:List Nat),bv=.slice A l c∧l=64 * (hn s - v.pos)∧l≤c∧c≤maxLen∧ae (recsJ s gn v=V)∧ae (hn s≤v.pos+gn)∧ae (COk n v)∧ae (Rd w A l (textJ s v.half v.pos)∧Off A l [t,hB]) ∧
  ae (Tab wr t∧Blk wr hB 185 (hcs fr v.gen has Ap mp cp vr rm)∧Og wr 22 vr v.recs K∧(∀ k∈K,N≤k∧k < wr.heap.size)∧Bar [t,hB] w wr))
 case atStart=>exact⟨v0,A0,l0,c0,_,rm0,[],rfl,hl0.symm,hc,hcm,EV,HP0,CK,TX0,M0⟩
 case round =>
  clear M0 EV HP0 CK TX0
  obtain⟨v,A,l,c,vr,rm,K,rfl,hl,hlc,hcc,HE,HP,HC,TX,MM⟩:=hrel
  have hvh:v.half≤1:=by rcases HC.out.half with e|e<;>omega
  have hvp:v.pos≤hn s:=by have:=HC.out.pos;have:=HHN.out;omega
  obtain⟨q,hq⟩:∃ q,hn s - v.pos=q:=⟨_,rfl⟩
  rw[hq] at hl
  subst hl
  have hq9:q≤4096:=by omega
  have HMO:ae (jJ s v ↔ (getF (textJ s v.half v.pos)).2.2=0∧(getF (textJ s v.half v.pos)).1.kind=2∧(getF (textJ s v.half v.pos)).1.gen=v.gen∧(getF (textJ s v.half v.pos)).1.seq=v.seq):=⟨Iff.rfl⟩
  have HNX:ae (jY s v={ v with recs:=v.recs++[(getF (textJ s v.half v.pos)).1.body],pos:=v.pos+(getF (textJ s v.half v.pos)).2.1.toNat,seq:=v.seq+1 }):=⟨rfl⟩
  have HGB:=ae.mk fun e=>eG (jB HW.out (half:=v.half) (m:=v.pos) hvh) e
  have HTL:=lD HW.out (half:=v.half) (m:=v.pos) hvh
  have HDR:ae (∀ k,v.pos+k≤hn s→(textJ s v.half v.pos).drop (64 * k)=textJ s v.half (v.pos+k)):=⟨fun k hk=>yD HW.out hvh hk⟩
  obtain⟨b,hb⟩:∃ b,textJ s v.half v.pos=b:=⟨_,rfl⟩
  rw[hb] at TX HTL HMO HNX HGB HDR
  rw[hq] at HTL
  clear hb
  obtain⟨gk1,hgk1⟩:∃ x,gk=x:=⟨_,rfl⟩
  rw[hgk1] at HE HP
  obtain⟨⟨⟨fk,fg,fs,fb⟩,gk2,ge⟩,hg⟩:∃ g,getF b=g:=⟨_,rfl⟩
  have RA:Rd wr A (64 * q) b:=TX.out.1.far MM.out.2.2.2.2 TX.out.2
  have offt:Off A (64 * q) [t]:=by
   rcases TX.out.2 with h|⟨g,o,e,hg⟩
   ·exact .inl h
   ·exact .inr ⟨g,o,e,fun hm=>hg (by rw[List.mem_singleton] at hm;simp[hm])⟩
  have CG:=ae.mk (api.get MM.out.1 RA hlc hcc (by omega) offt)
  rw[hg] at HMO HNX HGB CG
  simp only at HMO HNX HGB
  clear hg RA offt
  go_wp2_with fail
  refine CG.out.mono ?_
  rintro e w3 ⟨A3,n3,c3,rfl,hc3,hcm3,r3,o3,t3,bt3⟩
  simp only[frv] at r3 ⊢
  obtain⟨T,hT⟩:∃ T,w3.heap.size=T:=⟨_,rfl⟩
  have sz3:=bt3.size
  have szN:N≤wr.heap.size:=by rw[← hN];exact MM.out.2.2.2.2.size
  have ba:Below w3.heap.size w3 (w3.alloc (.cells #[.int .i64 fk,.int .i64 fg,.int .i64 fs,.slice A3 n3 c3] 231)):=(Below.refl _ _).alloc (Nat.le_refl _) _
  obtain⟨K3,in3,hK3⟩:=DU r3 o3
  have bb:Bar [t] wr (w3.alloc (.cells #[.int .i64 fk,.int .i64 fg,.int .i64 fs,.slice A3 n3 c3] 231)):=bt3.trans (barOf ba []) (by simp)
  have T4:=ae.mk (ftab_bar t3 (barOf ba []) (by simp))
  have HB4:=ae.mk (MM.out.2.1.bar bb (by simp;omega))
  have O4:=ae.mk (MM.out.2.2.1.keep bb (fun k hk hk2=>by rw[List.mem_singleton] at hk2;have:=(MM.out.2.2.2.1 k hk).1;omega))
  have KL4:ae (∀ k∈K,N≤k∧k < w3.heap.size):=⟨fun k hk=>⟨(MM.out.2.2.2.1 k hk).1,by have:=(MM.out.2.2.2.1 k hk).2;omega⟩⟩
  have BA4:ae (Bar [t,hB] w (w3.alloc (.cells #[.int .i64 fk,.int .i64 fg,.int .i64 fs,.slice A3 n3 c3] 231))):=⟨MM.out.2.2.2.2.trans bb (by intro k hk;rw[List.mem_singleton] at hk;simp[hk])⟩
  have R3:=ae.mk (r3.below ba)
  have IN3:ae (In A3 n3 K3∧(∀ k∈K3,N≤k∧k < w3.heap.size∧k∉K)):=⟨in3,fun k hk=>by
   have h1:=hK3 k hk
   exact⟨by omega,h1.2,fun hm=>by have:=(MM.out.2.2.2.1 k hm).2;omega⟩⟩
  have FB4:=ae.mk (Blk.new_at w3 231 #[.int .i64 fk,.int .i64 fg,.int .i64 fs,.slice A3 n3 c3] T hT.symm)
  have sz4:(w3.alloc (.cells #[.int .i64 fk,.int .i64 fg,.int .i64 fs,.slice A3 n3 c3] 231)).heap.size=T+1:=by simp[hT]
  clear CG MM r3 o3 t3 bt3 ba in3 hK3 bb
  have hseq:=HC.out.seq
  have hrc:=HC.out.recs
  obtain⟨Av,cv,hvr⟩:=O4.out.shape
  subst hvr
  have k1:(w3.alloc (.cells #[.int .i64 fk,.int .i64 fg,.int .i64 fs,.slice A3 n3 c3] 231)).cell? ⟨hB,1,none⟩=some (.int .i64 v.gen):=HB4.out.cell 1
  have k4:(w3.alloc (.cells #[.int .i64 fk,.int .i64 fg,.int .i64 fs,.slice A3 n3 c3] 231)).cell? ⟨hB,4,none⟩=some (.slice Av v.recs.length cv):=HB4.out.cell 4
  have f0:=FB4.out.cell 0;have f1:=FB4.out.cell 1;have f2:=FB4.out.cell 2
  rw[hT] at KL4 IN3
  have WS:IntKind.i64.wrap ((v.recs.length:Int)+1)=v.seq:=by simp only[IntKind.wrap_i64];omega
  have hqd:Int.tdiv ((64 * q:Nat):Int) 64=(q:Int):=by rw[Int.tdiv_eq_ediv_of_nonneg (by omega)];omega
  clear hseq
  go_upto_region 1 with(fail)
  obtain⟨W4,hW4⟩:∃ W4,w3.alloc (.cells #[.int .i64 fk,.int .i64 fg,.int .i64 fs,.slice A3 n3 c3] 231)=W4:=⟨_,rfl⟩
  rw[hW4] at T4 HB4 O4 BA4 R3 FB4 sz4 k1 k4 f0 f1 f2 ⊢
  have PE:ae (∀ w',¬ jJ s v→Bar [] W4 w'→J5 w t hB fr has Ap mp cp (hn s) V (.returned (.tuple #[])) (w'.setCell ⟨hB,5,none⟩ (.int .i64 (q:Nat)))):=⟨fun w' h1 hb=>by
   have e:recsJ s gk1 v=v:=by cases gk1<;>simp[recsJ,h1]
   have he:=HE.out
   rw[e] at he
   rw[← he]
   have hs:Bar [hB] w' (w'.setCell ⟨hB,5,none⟩ (.int .i64 (q:Nat))):=(Bar.refl _ _).setCell (by simp) _
   refine⟨rfl,_,K,ftab_bar (ftab_bar T4.out hb (by simp)) hs (by simpa using htb),?_,(O4.out.keep hb (fun _ _=>by simp)).keep hs (fun k hk hk2=>by rw[List.mem_singleton] at hk2;have:=(KL4.out k hk).1;omega),fun k hk=>?_,(BA4.out.trans hb (by simp)).trans hs (by intro k hk;rw[List.mem_singleton] at hk;simp[hk])⟩
   ·have:=((HB4.out.bar hb (by simp)).set_ 5 (.int .i64 (q:Nat)))
    rw[hq];exact this
   ·have:=KL4.out k hk
    have h2:=hb.size
    have h3:=hs.size
    rw[hN]
    exact⟨this.1,by omega⟩⟩
  clear hW4
  by_cases h1:ge=0
  ·subst h1
   by_cases h2:fk=2
   ·subst h2
    by_cases h3:fg=v.gen
    ·have h3d:(fg != v.gen)=false:=by simpa using h3
     by_cases h4:fs=v.seq
     ·have h4d:(fs != v.seq)=false:=by simpa using h4
      have hyes:jJ s v:=HMO.out.2 ⟨rfl,rfl,h3,h4⟩
      obtain⟨KK,hKK⟩:∃ KK,K=KK:=⟨_,rfl⟩
      rw[hKK] at O4 KL4 IN3
      clear hKK
      go_quiet (fail)
      have hgb:=HGB.out rfl
      obtain⟨kk,hkk⟩:∃ x,gk2.toNat=x:=⟨_,rfl⟩
      rw[hkk] at hgb HNX
      obtain⟨-,-,-,hk1,hk2,rfl⟩:=hgb
      have hkq:kk≤q:=by omega
      have bd:Bar [] W4 (W4.drewN nq):=barOf (below_drewN (Below.refl _ _) nq) []
      have T5:=ae.mk (ftab_bar T4.out bd (by simp))
      have HB5:=ae.mk (HB4.out.bar bd (by simp))
      have O5:=ae.mk (O4.out.keep bd (fun _ _=>by simp))
      have BA5:ae (Bar [t,hB] w (W4.drewN nq)):=⟨BA4.out.trans bd (by simp)⟩
      have R5:=ae.mk (R3.out.far bd (R3.out.off (by simp)))
      have FB5:=ae.mk (FB4.out.bar bd (by simp))
      have sz5:T+1≤(W4.drewN nq).heap.size:=by have:=bd.size;omega
      clear PE T4 HB4 O4 BA4 R3 FB4 k1 k4 f0 f1 f2 hkk bd
      generalize W4.drewN nq=w5 at *
      go_upto_region 2 with(fail)
      have fd:Bar [] w5 w5.drew:=barOf (Below.refl _ _).drew []
      have T6:=ftab_bar T5.out fd (by simp)
      have J6:=HB5.out.drew
      have O6:=O5.out.keep fd (fun _ _=>by simp)
      have BA6:Bar [t,hB] w w5.drew:=BA5.out.trans fd (by simp)
      have R6:=R5.out.drew
      have FB6:=FB5.out.drew
      have sz6:T+1≤w5.drew.heap.size:=sz5
      have hvo:∀ g∈(Value.slice Av v.recs.length cv).ownBlock.toList,g∈KK:=O6.choose_spec.2.1
      clear T5 HB5 O5 BA5 R5 FB5 fd sz5
      refine wp_region_noPanic ?_
      refine jO 11 (S:=fun w':World=>w'.cell? ⟨hB,4,none⟩=some (.slice Av v.recs.length cv)∧w'.cell? ⟨T,3,none⟩=some (.slice A3 n3 c3)) (by kernel_rfl) ⟨J6.cell 4,FB6.cell 3⟩ (fun hS0=>?_)
      generalize w5.drew=w6 at *
      refine tkU 0 (by assumption) ?_
      simp only[Act.put,zA,zB,zC]
      refine tkU 1 (by assumption) ?_
      simp only[Act.put,zA,zB,zC]
      refine tkU 2 (by assumption) ?_
      simp only[Act.put,zA,zB,zC]
      refine tkU 3 (by assumption) ?_
      simp only[Act.put,zA,zB,zC]
      refine tkU 4 (by assumption) ?_
      simp only[Act.put,zA,zB,zC]
      refine tkU 5 (by assumption) ?_
      simp only[Act.put,zA,zB,zC]
      refine tkU 6 (by assumption) ?_
      simp only[Act.put,zA,zB,zC]
      refine ldU 7 (fun K hK=>?_)
      go_simp
      have ba:Bar [] w6 (w6.alloc (.cells #[.slice A3 n3 c3] 22)):=barOf ((Below.refl _ _).alloc (Nat.le_refl _) _) []
      have cB:(w6.alloc (.cells #[.slice A3 n3 c3] 22)).cell? ⟨w6.heap.size,0,none⟩=some (.slice A3 n3 c3):=(Blk.new w6 22 #[.slice A3 n3 c3]).cell 0
      have T8:=ftab_bar T6 ba (by simp)
      have J8:=J6.bar ba (by simp);have O8:=O6.keep ba (fun _ _=>by simp);have R8:=R6.far ba (R6.off (by simp));have FB8:=FB6.bar ba (by simp)
      have BA8:Bar [t,hB] w (w6.alloc (.cells #[.slice A3 n3 c3] 22)):=BA6.trans ba (by simp)
      have sz8:=ba.size
      refine hK.out _ _ (fun _=>⟨J8.cell 4,FB8.cell 3⟩) (fun _=>?_)
      clear hK K T6 J6 O6 R6 FB6 BA6 ba hS0
      try simp only[Act.put,zA,zB,zC]
      generalize w6.alloc (.cells #[.slice A3 n3 c3] 22)=w8 at *
      generalize w6.heap.size=gB at *
      refine ldU 8 (fun K hK=>?_)
      have hog:=O8.mono (G':=KK++K3) (fun k hk=>by simp[hk])
      have hvT:t∉(Value.slice Av v.recs.length cv).ownBlock.toList:=fun hk=>by have:=KL4.out t (hvo t hk);omega
      have hvN:hB∉(Value.slice Av v.recs.length cv).ownBlock.toList:=fun hk=>by have:=KL4.out hB (hvo hB hk);omega
      have hvX:T∉(Value.slice Av v.recs.length cv).ownBlock.toList:=fun hk=>by have:=KL4.out T (hvo T hk);omega
      have hin3:Off A3 n3 (Value.slice Av v.recs.length cv).ownBlock.toList:=IN3.out.1.off (fun k hk hk2=>(IN3.out.2 k hk).2.2 (hvo k hk2))
      obtain⟨v8,w9,hrun,og9,fp9⟩:=kQ (P:=Tryz.prog) 124 124 22 Tryz.underlying124 kY hog gB 1 A3 n3 c3 fb cB R8 hc3 (by omega) (IN3.out.1.mono (fun k hk=>by simp[hk])) hin3 (by omega)
      refine iR rfl (.tmp 47) (.tmp 50) 124 124 (by rfl) _ _ (by rfl) (by rfl) v8 w9 hrun ?_
      have T9:=ftab_bar T8 fp9.1 hvT
      have J9:=J8.bar fp9.1 hvN
      have FB9:=FB8.bar fp9.1 hvX
      have BA9:Bar [t,hB] w w9:=BA8.trans fp9.1 (fun k hk=>.inr (by have:=KL4.out k (hvo k hk);omega))
      have V9:∀ k∈v8.ownBlock.toList,k∈(Value.slice Av v.recs.length cv).ownBlock.toList∨w8.heap.size≤k:=fp9.2
      have V9L:∀ k∈v8.ownBlock.toList,k < w9.heap.size:=fun k hk=>(og9.choose_spec.1.lt k (by simpa using hk)).2
      have sz9:=fp9.1.size
      obtain⟨Av8,cv8,hv8⟩:=og9.shape
      rw[List.length_append,List.length_singleton] at hv8
      subst hv8
      refine hK.out _ _ (fun _=>⟨J9.cell 4,FB9.cell 3⟩) (fun _=>?_)
      clear hK K
      try simp only[Act.put,zA,zB,zC]
      refine ldU 9 (fun K hK=>?_)
      go_simp
      refine hK.out _ _ (fun _=>⟨J9.cell 4,FB9.cell 3⟩) (fun _=>?_)
      clear hK K
      try simp only[Act.put,zA,zB,zC]
      refine ldU 10 (fun K hK=>?_)
      go_simp
      refine hK.out _ _ (fun _=>⟨J9.cell 4,FB9.cell 3⟩) (fun _=>?_)
      clear hK K
      try simp only[Act.put,zA,zB,zC]
      have y4:=J9.frozen 4
      have x4:=J9.cell 4
      refine ldU 11 (fun K hK=>?_)
      go_simp
      refine hK.out _ _ (fun h=>absurd rfl h) (fun _=>?_)
      clear hK K
      try simp only[Act.put]
      refine jM (by kernel_rfl) ?_ _
      refine NoPanic.normal ?_
      obtain⟨K',hK'⟩:∃ K',(Value.slice Av8 (v.recs.length+1) cv8).ownBlock.toList++(KK++K3)=K':=⟨_,rfl⟩
      have KL9:∀ k∈K',N≤k∧k < w9.heap.size:=fun k hk=>by
       rw[← hK'] at hk
       rcases List.mem_append.1 hk with hk|hk
       ·rcases V9 k hk with e|e
        ·have:=KL4.out k (hvo k e);omega
        ·have:=V9L k hk;omega
       ·rcases List.mem_append.1 hk with hk|hk
        ·have:=KL4.out k hk;omega
        ·have:=IN3.out.2 k hk;omega
      rw[hK'] at og9
      have hbr:Bar [hB] w9 (w9.setCell ⟨hB,4,none⟩ (Value.slice Av8 (v.recs.length+1) cv8)):=(Bar.refl _ _).setCell (by simp) _
      have J10:Blk (w9.setCell ⟨hB,4,none⟩ (Value.slice Av8 (v.recs.length+1) cv8)) hB 185 (hcs fr v.gen has Ap mp cp (Value.slice Av8 (v.recs.length+1) cv8) rm):=J9.set_ 4 _
      have hnx:=HNX.out
      have MM2:ae (Tab (w9.setCell ⟨hB,4,none⟩ (Value.slice Av8 (v.recs.length+1) cv8)) t∧Blk (w9.setCell ⟨hB,4,none⟩ (Value.slice Av8 (v.recs.length+1) cv8)) hB 185 (hcs fr (jY s v).gen has Ap mp cp (Value.slice Av8 (v.recs.length+1) cv8) rm)∧Og (w9.setCell ⟨hB,4,none⟩ (Value.slice Av8 (v.recs.length+1) cv8)) 22 (Value.slice Av8 (v.recs.length+1) cv8) (jY s v).recs K'∧(∀ k∈K',N≤k∧k < (w9.setCell ⟨hB,4,none⟩ (Value.slice Av8 (v.recs.length+1) cv8)).heap.size)∧Bar [t,hB] w (w9.setCell ⟨hB,4,none⟩ (Value.slice Av8 (v.recs.length+1) cv8))):=⟨by
       rw[hnx]
       exact⟨ftab_bar T9 hbr (by simpa using htb),J10,og9.keep hbr (fun k hk hk2=>by rw[List.mem_singleton] at hk2;have:=KL9 k hk;omega),fun k hk=>⟨(KL9 k hk).1,Nat.lt_of_lt_of_le (KL9 k hk).2 hbr.size⟩,BA9.trans hbr (by intro k hk;rw[List.mem_singleton] at hk;simp[hk])⟩⟩
      obtain⟨A2,s2,r2,o2⟩:=jU A (64 * q) c hlc (64 * kk) (by omega) ((kk:Int) * 64) (by omega)
      have TX2:ae (Rd w A2 (64 * q - 64 * kk) (textJ s (jY s v).half (jY s v).pos)∧Off A2 (64 * q - 64 * kk) [t,hB]):=⟨by
       have h1:=r2 w b TX.out.1
       rw[HDR.out kk (by omega)] at h1
       refine⟨?_,o2 _ TX.out.2⟩
       rw[hnx];exact h1⟩
      have hgk:1≤gk1:=by have:=HP.out;omega
      have HE2:ae (recsJ s (gk1 - 1) (jY s v)=V):=⟨by
       obtain⟨g',hg'⟩:∃ g',gk1=g'+1:=⟨gk1 - 1,by omega⟩
       have h1:=HE.out
       rw[hg'] at h1 ⊢
       have h2:recsJ s (g'+1) v=recsJ s g' (jY s v):=by show (if jJ s v then _ else _)=_;rw[if_pos hyes]
       rw[h2] at h1
       exact h1⟩
      have HP2:ae (hn s≤(jY s v).pos+(gk1 - 1)):=⟨by rw[hnx];have h3:=HP.out;show hn s≤v.pos+kk+(gk1 - 1);omega⟩
      have HC2:=ae.mk (Ei HC.out HW.out hyes)
      have HL2:ae (64 * q - 64 * kk=64 * (hn s - (jY s v).pos)∧64 * q - 64 * kk≤c - 64 * kk∧c - 64 * kk≤maxLen):=⟨by
       rw[hnx];refine⟨?_,by omega,by omega⟩
       show _=64 * (hn s - (v.pos+kk));omega⟩
      have HGK:=ae.mk hgk1
      have HGK1:=ae.mk hgk
      clear hyes HE HP HC hgk hgk1 HNX hnx HMO HGB HTL HDR TX IN3 KL4 hvo hog hvT hvN hvX hin3 hrun og9 fp9 T8 J8 O8 R8 FB8 BA8 T9 J9 FB9 BA9 V9 V9L KL9 J10 hbr x4 y4 cB r2 o2 hK'
      generalize w9.setCell ⟨hB,4,none⟩ (Value.slice Av8 (v.recs.length+1) cv8)=w10 at *
      go_wp2
      go_roundg (gk1 - 1)
      case measure=>have:=HGK.out;have:=HGK1.out;omega
      case rel=>exact⟨jY s v,A2,_,_,_,rm,K',rfl,HL2.out.1,HL2.out.2.1,HL2.out.2.2,HE2,HP2,HC2,TX2,MM2⟩
     ·have h4d:(fs != v.seq)=true:=by simpa using h4
      have hno:¬ jJ s v:=fun h=>h4 (HMO.out.1 h).2.2.2
      go_quiet (fail)
      have PG:=ae.mk (PE.out _ hno (barOf (below_drewN (Below.refl _ _) nq) []))
      have y5:=HB4.out.frozen 5
      have x5:∃ u,(W4.drewN nq).cell? ⟨hB,5,none⟩=some u:=⟨_,HB4.out.cell 5⟩
      obtain⟨u5,x5⟩:=x5
      clear PE hno HB4 O4 KL4 BA4 T4 TX FB4 R3 IN3 k1 k4 f0 f1 f2
      go_wp2
      go_end0
      exact PG.out
    ·have h3d:(fg != v.gen)=true:=by simpa using h3
     have hno:¬ jJ s v:=fun h=>h3 (HMO.out.1 h).2.2.1
     go_quiet (fail)
     have PG:=ae.mk (PE.out _ hno (barOf (below_drewN (Below.refl _ _) nq) []))
     have y5:=HB4.out.frozen 5
     have x5:∃ u,(W4.drewN nq).cell? ⟨hB,5,none⟩=some u:=⟨_,HB4.out.cell 5⟩
     obtain⟨u5,x5⟩:=x5
     clear PE hno HB4 O4 KL4 BA4 T4 TX FB4 R3 IN3 k1 k4 f0 f1 f2
     go_wp2
     go_end0
     exact PG.out
   ·have h2d:(fk != 2)=true:=by simpa using h2
    have hno:¬ jJ s v:=fun h=>h2 (HMO.out.1 h).2.1
    go_quiet (fail)
    have PG:=ae.mk (PE.out _ hno (barOf (below_drewN (Below.refl _ _) nq) []))
    have y5:=HB4.out.frozen 5
    have x5:∃ u,(W4.drewN nq).cell? ⟨hB,5,none⟩=some u:=⟨_,HB4.out.cell 5⟩
    obtain⟨u5,x5⟩:=x5
    clear PE hno HB4 O4 KL4 BA4 T4 TX FB4 R3 IN3 k1 k4 f0 f1 f2
    go_wp2
    go_end0
    exact PG.out
  ·have h1d:(ge != 0)=true:=by simpa using h1
   have hno:¬ jJ s v:=fun h=>h1 (HMO.out.1 h).1
   go_quiet (fail)
   have PG:=ae.mk (PE.out _ hno (barOf (below_drewN (Below.refl _ _) nq) []))
   have y5:=HB4.out.frozen 5
   have x5:∃ u,(W4.drewN nq).cell? ⟨hB,5,none⟩=some u:=⟨_,HB4.out.cell 5⟩
   obtain⟨u5,x5⟩:=x5
   clear PE hno HB4 O4 KL4 BA4 T4 TX FB4 R3 IN3 k1 k4 f0 f1 f2
   go_wp2
   go_end0
   exact PG.out
end Journal
end Go.Proofs.YtlkeieoecfkkeaaGreat
