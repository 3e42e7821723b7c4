/-
  Parts laid together: JLay JLaySy.
-/
import Derived.Test.YtlkeieoecfkkeaaGreatPart1
import Derived.Test.YtlkeieoecfkkeaaGreatPart19
import Derived.Test.YtlkeieoecfkkeaaGreatPart25
import Derived.Test.YtlkeieoecfkkeaaGreatPart14
import Derived.Test.YtlkeieoecfkkeaaGreatPart17
import Derived.Deep.RegionHeld3
import Derived.Test.YtlkeieoecfkkeaaGreatPart26
set_option maxRecDepth 100000
set_option maxHeartbeats 2000000
namespace Go.Proofs.YtlkeieoecfkkeaaGreat
namespace Journal
open Go.RowKit Sha Disk Go.Proofs.YtlkeieoecfkkeaaGreat.Frame
def LW (w:World) (F:List Nat) (t d j n:Nat) (cs:Array Value) (s:DS) (W:World):Prop:=∃ F',Tab W t∧Dk W F' d n s∧Blk W j 187 cs∧Fp (t :: j :: F) (t :: j :: F') w W∧t∉F'∧j∉F'
section
variable {w W W' : World} {F : List Nat} {t d j n : Nat} {cs : Array Value} {s : DS}
theorem LW.below (h:LW w F t d j n cs s W) (b:Below W.heap.size W W'):LW w F t d j n cs s W':=by
 obtain⟨F',h1,h2,h3,h4,h5,h6⟩:=h
 exact⟨F',sS h1 b (dQ h1),h2.keep (barOf b []) (fun _ _=>by simp),h3.below b h3.lt,⟨h4.1.trans (barOf b []) (by simp),h4.2⟩,h5,h6⟩
theorem LW.set (h:LW w F t d j n cs s W) (h3:t≠j) (i:Nat) (v:Value):LW w F t d j n (cs.setIfInBounds i v) s (W.setCell ⟨j,i,none⟩ v):=by
 obtain⟨F',h1,h2,h3',h4,h5,h6⟩:=h
 have hb:Bar [j] W (W.setCell ⟨j,i,none⟩ v):=(Bar.refl _ _).setCell (by simp) _
 exact⟨F',ftab_bar h1 hb (by simpa using h3),h2.keep hb (fun k hk=>by simp;rintro rfl;exact h6 hk),h3'.set_ i v,⟨h4.1.trans hb (by simp),h4.2⟩,h5,h6⟩
theorem LW.tab (h:LW w F t d j n cs s W) (h3:t≠j) (b:Bar [t] W W') (k:Tab W' t):LW w F t d j n cs s W':=by
 obtain⟨F',h1,h2,h3',h4,h5,h6⟩:=h
 exact⟨F',k,h2.keep b (fun k hk=>by simp;rintro rfl;exact h5 hk),h3'.bar b (by simpa using h3.symm),⟨h4.1.trans b (by simp),h4.2⟩,h5,h6⟩
theorem LW.down (h:LW w F t d j n cs s W):Calls Tryz.prog 153 #[.pointer (some ⟨d,0,none⟩)] W fun e w'=>e=.returned (.bool s.down)∧W=w':=by
 obtain⟨F',h1,h2,-⟩:=h
 exact kP h2
theorem LW.end_ {c:Bool→Array Value}{b:Bool}{l e:Int}(h:LW w F t d j n (c b) s W):kR w F t d j n c ((l,e),s,b) (.returned (.tuple #[.int .i64 l,.int .i64 e])) W:=⟨rfl,h⟩
theorem LW.mk0 (ht:Tab w t) (h:Dk w F d n s) (hj:Blk w j 187 cs) (h1:t∉F) (h2:j∉F):LW w F t d j n cs s w:=⟨F,ht,h,hj,Fp.refl _ _,h1,h2⟩
theorem LW.cell (h:LW w F t d j n cs s W) (i:Nat):W.cell? ⟨j,i,none⟩=cs[i]?:=by
 obtain⟨F',-,-,h3,-⟩:=h
 exact h3.cell i
theorem LW.frozen (h:LW w F t d j n cs s W) (i:Nat):W.frozen? ⟨j,i,none⟩=false:=by
 obtain⟨F',-,-,h3,-⟩:=h
 exact h3.frozen i
theorem SA (x:Nat) {F F':List Nat}(h:Fp F F' w W):Fp (x :: F) (x :: F') w W :=
 ⟨h.1.mono (fun k hk=>.inl (by simp[hk])),fun k hk=>by
  rcases List.mem_cons.1 hk with rfl|hk
  ·exact .inl (by simp)
  ·rcases h.2 k hk with e|e
   ·exact .inl (by simp[e])
   ·exact .inr e⟩
end
theorem JZ {w:World}{F:List Nat}{t d j n:Nat}{s:DS}{f:FV}{fr gen:Int}{has:Bool}{Ap:Option Addr}{mp cp:Nat}{vr:Value}{room:Int}{dead:Bool}{A:Option Addr}{l c:Nat}(home rm:Int) (h3:t≠j) (hq:LW w F t d j n (jc t d fr gen has Ap mp cp vr room dead) s w) (hd:dead=true∨s.down=true) :
  Calls Tryz.prog 211 #[.pointer (some ⟨j,0,none⟩),frv f A l c,.int .i64 home,.int .i64 rm] w (kR w F t d j n (jc t d fr gen has Ap mp cp vr room) ((0,13),s,true)):=by
 have q1:=hq.below ((Below.refl _ w).alloc (Nat.le_refl _) (.cells #[.int .i64 f.kind,.int .i64 f.gen,.int .i64 f.seq,.slice A l c] 231))
 have x8:(w.alloc (.cells #[.int .i64 f.kind,.int .i64 f.gen,.int .i64 f.seq,.slice A l c] 231)).cell? ⟨j,8,none⟩=some (.bool dead):=q1.cell 8
 have z8:=q1.frozen 8
 have x1:(w.alloc (.cells #[.int .i64 f.kind,.int .i64 f.gen,.int .i64 f.seq,.slice A l c] 231)).cell? ⟨j,1,none⟩=some (.pointer (some ⟨d,0,none⟩)):=q1.cell 1
 have q2:=q1.set h3 8 (.bool true)
 have PG:=ae.mk (LW.end_ (c:=jc t d fr gen has Ap mp cp vr room) (b:=true) (l:=0) (e:=13) q2)
 have Q1:=ae.mk q1
 clear q1 q2 hq
 unfold frv
 cases dead with
 | true =>
  clear hd
  go_enter Tryz.func211,Tryz.ntmps211
  go_wp2
  go_ret2
  exact PG.out
 | false =>
  have hd':s.down=true:=by simpa using hd
  have cD:=ae.mk Q1.out.down
  rw[hd'] at cD
  clear hd hd'
  go_enter Tryz.func211,Tryz.ntmps211
  go_wp2_with fail
  refine cD.out.mono ?_
  rintro e w' ⟨rfl,rfl⟩
  go_wp2
  go_ret2
  exact PG.out
theorem UF (api:dS) {w:World}{F:List Nat}{t d j n:Nat}{s:DS}{f:FV}{fr gen:Int}{has:Bool}{Ap:Option Addr}{mp cp:Nat}{vr:Value}{room:Int}{A:Option Addr}{l c:Nat}(home rm:Nat) (h3:t≠j) (hq:LW w F t d j n (jc t d fr gen has Ap mp cp vr room false) s w) (hd:s.down=false)
  (hr:Rd w A l f.body) (hO:Off A l (t :: j :: F)) (hc:l≤c) (hcm:c≤maxLen) (hl9:l≤100000) (hh9:home≤90000) (hrm:rm≤90000) :
  Calls Tryz.prog 211 #[.pointer (some ⟨j,0,none⟩),frv f A l c,.int .i64 (home:Nat),.int .i64 (rm:Nat)] w (kR w F t d j n (jc t d fr gen has Ap mp cp vr room) (layC s false f home rm)):=by
 obtain⟨N,hN⟩:∃ N,w.heap.size=N:=⟨_,rfl⟩
 have b1:Below w.heap.size w (w.alloc (.cells #[.int .i64 f.kind,.int .i64 f.gen,.int .i64 f.seq,.slice A l c] 231)):=(Below.refl _ w).alloc (Nat.le_refl _) _
 have q1:=hq.below b1
 have hjN:j < N:=by rw[← hN];obtain⟨F',-,-,k,-⟩:=hq;exact k.lt
 have htN:t < N:=by rw[← hN];obtain⟨F',k,-⟩:=hq;exact dQ k
 have x8:(w.alloc (.cells #[.int .i64 f.kind,.int .i64 f.gen,.int .i64 f.seq,.slice A l c] 231)).cell? ⟨j,8,none⟩=some (.bool false):=q1.cell 8
 have z8:=q1.frozen 8
 have x1:(w.alloc (.cells #[.int .i64 f.kind,.int .i64 f.gen,.int .i64 f.seq,.slice A l c] 231)).cell? ⟨j,1,none⟩=some (.pointer (some ⟨d,0,none⟩)):=q1.cell 1
 have Q2:=ae.mk (q1.set h3 8 (.bool false))
 have cD:=ae.mk q1.down
 rw[hd] at cD
 have hj8:Bar [j] (w.alloc (.cells #[.int .i64 f.kind,.int .i64 f.gen,.int .i64 f.seq,.slice A l c] 231)) ((w.alloc (.cells #[.int .i64 f.kind,.int .i64 f.gen,.int .i64 f.seq,.slice A l c] 231)).setCell ⟨j,8,none⟩ (.bool false)):=(Bar.refl _ _).setCell (by simp) _
 have FB:=ae.mk ((Blk.new_at w 231 #[.int .i64 f.kind,.int .i64 f.gen,.int .i64 f.seq,.slice A l c] N hN.symm).bar hj8 (by simp;omega))
 have hOj:Off A l [j]:=by
  rcases hO with h|⟨g,o,e,hg⟩
  ·exact .inl h
  ·exact .inr ⟨g,o,e,fun hm=>hg (by simp at hm;simp[hm])⟩
 have HR:=ae.mk ((hr.below b1).far hj8 hOj)
 have hOt:Off A l [t]:=by
  rcases hO with h|⟨g,o,e,hg⟩
  ·exact .inl h
  ·exact .inr ⟨g,o,e,fun hm=>hg (by simp at hm;simp[hm])⟩
 have HO:=ae.mk hOt
 have HR9:ae (f.body.length≤100000):=⟨by rw[hr.1];exact hl9⟩
 clear hq b1 q1 hj8 hOj hOt hr hO
 unfold frv
 go_enter Tryz.func211,Tryz.ntmps211
 go_wp2_with fail
 refine cD.out.mono ?_
 rintro e w' ⟨rfl,rfl⟩
 clear cD
 generalize (w.alloc (.cells #[.int .i64 f.kind,.int .i64 f.gen,.int .i64 f.seq,.slice A l c] 231))=w1 at *
 go_upto_region 4 with(fail)
 clear x8 z8 x1
 generalize (w1.setCell ⟨j,8,none⟩ (.bool false))=w2 at *
 have hcs:(jc t d fr gen has Ap mp cp vr room false).setIfInBounds 8 (.bool false)=jc t d fr gen has Ap mp cp vr room false:=rfl
 rw[hcs] at Q2
 have Q3:ae (LW w F t d j n (jc t d fr gen has Ap mp cp vr room false) s w2.drew):=⟨Q2.out.below (Below.refl _ _).drew⟩
 have FB3:ae (Blk w2.drew N 231 #[.int .i64 f.kind,.int .i64 f.gen,.int .i64 f.seq,.slice A l c]):=⟨FB.out.drew⟩
 have HR3:ae (Rd w2.drew A l f.body):=⟨HR.out.drew⟩
 have y0:w2.drew.cell? ⟨j,0,none⟩=some (.pointer (some ⟨t,0,none⟩)):=Q3.out.cell 0
 have f0:w2.drew.cell? ⟨N,0,none⟩=some (.int .i64 f.kind):=FB3.out.cell 0
 have f1:w2.drew.cell? ⟨N,1,none⟩=some (.int .i64 f.gen):=FB3.out.cell 1
 have f2:w2.drew.cell? ⟨N,2,none⟩=some (.int .i64 f.seq):=FB3.out.cell 2
 have f3:w2.drew.cell? ⟨N,3,none⟩=some (.slice A l c):=FB3.out.cell 3
 clear Q2 FB HR hcs
 refine wp_region_noPanic ?_
 refine wp_region_held_drew (S:=fun w':World=>w'.cell? ⟨j,0,none⟩=some (.pointer (some ⟨t,0,none⟩))∧w'.cell? ⟨N,0,none⟩=some (.int .i64 f.kind)∧w'.cell? ⟨N,1,none⟩=some (.int .i64 f.gen)∧w'.cell? ⟨N,2,none⟩=some (.int .i64 f.seq)∧w'.cell? ⟨N,3,none⟩=some (.slice A l c)) (by kernel_rfl) ⟨y0,f0,f1,f2,f3⟩ (fun hHeld=>?_)
 clear y0 f0 f1 f2 f3
 generalize w2.drew=w3 at *
 refine tk 0 ?_
 simp only[Act.put,zA,zB,zC]
 refine tk 1 ?_
 simp only[Act.put,zA,zB,zC]
 refine tk 2 ?_
 simp only[Act.put,zA,zB,zC]
 refine tk 3 ?_
 simp only[Act.put,zA,zB,zC]
 refine tk 4 ?_
 simp only[Act.put,zA,zB,zC]
 refine ld 5 (fun K hK=>?_)
 go_simp
 go_at_call 235
 refine(api.put (f:=f) (by obtain⟨F',k,-⟩:=Q3.out;exact k) HR3.out hc hcm hl9 HO.out).mono ?_
 rintro x w4 ⟨A4,n4,c4,rfl,hn4,hcm4,r4,o4,t4,b4⟩
 have Q4:=ae.mk (Q3.out.tab h3 b4 t4)
 have U4:ae (∃ F3,Tab w4 t∧Dk w4 F3 d n s∧Blk w4 j 187 (jc t d fr gen has Ap mp cp vr room false)∧Fp (t :: j :: F) (t :: j :: F3) w w4∧t∉F3∧j∉F3∧Off A4 n4 F3):=⟨by
  obtain⟨F3,k1,k2,k3,k4,k5,k6⟩:=Q3.out
  exact⟨F3,t4,k2.keep b4 (fun k hk=>by simp;rintro rfl;exact k5 hk),k3.bar b4 (by simpa using h3.symm),⟨k4.1.trans b4 (by simp),k4.2⟩,k5,k6,o4 _ k2.lts⟩⟩
 have FB4:=FB3.out.bar b4 (by simp;omega)
 have R4:=ae.mk r4
 have hs34:w3.heap.size≤w4.heap.size:=b4.size
 refine hK.out _ _ ⟨Q4.out.cell 0,FB4.cell 0,FB4.cell 1,FB4.cell 2,FB4.cell 3⟩ (fun _=>?_)
 clear hK K hHeld FB4 r4 b4 t4 HR3 FB3
 try simp only[Act.put,zA,zB,zC]
 refine tk 6 ?_
 simp only[Act.put,zA,zB,zC]
 refine tk 7 ?_
 simp only[Act.put,zA,zB,zC]
 refine tk 8 ?_
 simp only[Act.put,zA,zB,zC]
 refine tk 9 ?_
 simp only[Act.put,zA,zB,zC]
 refine tk 10 ?_
 simp only[Act.put,zA,zB,zC]
 refine wpAnyH_done (by kernel_rfl) ?_ _
 refine NoPanic.normal ?_
 obtain⟨pe,pb,hpe⟩:∃ pe pb,putF f=(pe,pb):=⟨_,_,rfl⟩
 have HLC:ae (layC s false f home rm=if pe=1 then ((0,12),s,false) else if pe≠0 then ((0,pe),s,false) else if rm < pb.length / 64 then ((0,12),s,false) else if (layJ s home pb).1=0 then (((rm:Int) - (pb.length / 64:Nat),0),(layJ s home pb).2,false) else ((0,(layJ s home pb).1),(layJ s home pb).2,true)):=⟨by
  unfold layC
  rw[if_neg (by rw[hd];decide),hpe]⟩
 rw[hpe] at R4 ⊢
 have hlay:ae (pe=0→pb.length=64 * kF f.body):=⟨fun h=>by
  have h1:errF f=0:=by have:=congrArg Prod.fst hpe;simp only[putF] at this;rw[this,h]
  have h2:=uu h1
  rw[hpe] at h2
  have h3:pb=laid (textF f):=congrArg Prod.snd h2
  rw[h3]
  exact ni f⟩
 have hkp:=qL f.body
 have hkm:kF f.body≤4000:=by unfold kF;have:=HR9.out;omega
 clear hpe Q3 hd
 generalize kF f.body=k at *
 simp only at R4 ⊢
 have FIN:ae (∀ e w' l b s',layC s false f home rm=((l,e),s',b)→LW w F t d j n (jc t d fr gen has Ap mp cp vr room b) s' w'→kR w F t d j n (jc t d fr gen has Ap mp cp vr room) (layC s false f home rm) (.returned (.tuple #[.int .i64 l,.int .i64 e])) w'):=⟨fun e w' l b s' h1 h2=>by rw[h1];exact LW.end_ h2⟩
 generalize layC s false f home rm=R at *
 by_cases p1:pe=1
 ·subst p1
  have PG:=ae.mk (FIN.out _ _ _ _ _ HLC.out Q4.out)
  clear U4 FIN HLC hlay
  go_wp2
  go_ret2
  exact PG.out
 ·by_cases p0:pe=0
  ·subst p0
   have h4:=hlay.out rfl
   have hn4':n4=64 * k:=by rw[← R4.out.1];exact h4
   subst hn4'
   have hq:Int.tdiv ((64 * k:Nat):Int) 64=(k:Int):=by rw[Int.tdiv_eq_ediv_of_nonneg (by omega)];omega
   have hkd:pb.length / 64=k:=by omega
   have HL2:ae (R=if rm < k then ((0,12),s,false) else if (layJ s home pb).1=0 then (((rm:Int) - k,0),(layJ s home pb).2,false) else ((0,(layJ s home pb).1),(layJ s home pb).2,true)):=⟨by
    rw[HLC.out,if_neg p1,if_neg (by simp),hkd]⟩
   clear HLC hlay h4 hkd
   have hW1:wrap64 ((rm:Int) - (k:Int))=(rm:Int) - k:=by unfold wrap64;omega
   by_cases hlt:rm < k
   ·have hlt':(rm:Int) - k < 0:=by omega
    have PG:=ae.mk (FIN.out _ _ _ _ _ (by rw[HL2.out,if_pos hlt]) Q4.out)
    clear U4 FIN HL2 Q4
    go_wp2
    go_ret2
    exact PG.out
   ·have hlt':¬ (rm:Int) - k < 0:=by omega
    have HL3:ae (R=if (layJ s home pb).1=0 then (((rm:Int) - k,0),(layJ s home pb).2,false) else ((0,(layJ s home pb).1),(layJ s home pb).2,true)):=⟨by rw[HL2.out,if_neg hlt]⟩
    obtain⟨k',rfl⟩:∃ k',k=k'+1:=⟨k - 1,by omega⟩
    obtain⟨F3,t4,dk4,hb4,fp4,nt,nj,off4⟩:=U4.out
    obtain⟨g,o,rfl,hg⟩:=off4.resolve_left (by omega)
    have cs:=ae.mk (Gx dk4 home k' c4 g o (by omega) hh9 R4.out hn4 hg)
    obtain⟨re,s5,hre⟩:∃ re s5,layJ s home pb=(re,s5):=⟨_,_,rfl⟩
    rw[hre] at cs HL3
    have NX:ae (∀ w5 F5,Dk w5 F5 d n s5→Fp F3 F5 w4 w5→LW w F t d j n (jc t d fr gen has Ap mp cp vr room false) s5 w5):=⟨fun w5 F5 dk5 fp5=>by
     have nin:∀ x,x∉F3→x < w4.heap.size→x∉F5:=fun x hx hl hm=>by
      rcases fp5.2 x hm with e|e
      ·exact hx e
      ·omega
     exact⟨F5,ftab_bar t4 fp5.1 nt,dk5,hb4.bar fp5.1 nj,fp4.trans (SA t (SA j fp5)),nin t nt (dQ t4),nin j nj hb4.lt⟩⟩
    have y1:w4.cell? ⟨j,1,none⟩=some (.pointer (some ⟨d,0,none⟩)):=hb4.cell 1
    clear t4 dk4 hb4 fp4 nt nj off4 U4 Q4 R4 HL2 hre
    by_cases h0:re=0
    ·subst h0
     have HL4:ae (R=(((rm:Int) - (k'+1:Nat),0),s5,false)):=⟨by rw[HL3.out,if_pos rfl]⟩
     clear HL3
     go_wp2_with fail
     refine cs.out.mono ?_
     rintro e w5 ⟨rfl,F5,dk5,fp5⟩
     have PG:=ae.mk (FIN.out _ _ _ _ _ HL4.out (NX.out w5 F5 dk5 fp5))
     clear dk5 fp5 NX cs FIN HL4
     go_wp2
     go_ret2
     exact PG.out
    ·have HL4:ae (R=((0,re),s5,true)):=⟨by rw[HL3.out,if_neg h0]⟩
     clear HL3
     go_wp2_with fail
     refine cs.out.mono ?_
     rintro e w5 ⟨rfl,F5,dk5,fp5⟩
     have Q5:=NX.out w5 F5 dk5 fp5
     have PG:=ae.mk (FIN.out _ _ _ _ _ HL4.out (Q5.set h3 8 (.bool true)))
     have y8:w5.cell? ⟨j,8,none⟩=some (.bool false):=Q5.cell 8
     have z8:=Q5.frozen 8
     clear dk5 fp5 NX cs FIN HL4 Q5
     go_wp2
     go_ret2
     exact PG.out
  ·have HL2:ae (R=((0,pe),s,false)):=⟨by rw[HLC.out,if_neg p1,if_pos p0]⟩
   have PG:=ae.mk (FIN.out _ _ _ _ _ HL2.out Q4.out)
   clear U4 FIN HLC hlay HL2 Q4
   go_wp2
   go_ret2
   exact PG.out
theorem Qg (api:dS) {w:World}{F:List Nat}{t d j n:Nat}{s:DS}{f:FV}{fr gen:Int}{has:Bool}{Ap:Option Addr}{mp cp:Nat}{vr:Value}{room:Int}{dead:Bool}{A:Option Addr}{l c:Nat}(home rm:Nat) (h3:t≠j) (hq:LW w F t d j n (jc t d fr gen has Ap mp cp vr room dead) s w)
  (hr:Rd w A l f.body) (hO:Off A l (t :: j :: F)) (hc:l≤c) (hcm:c≤maxLen) (hl9:l≤100000) (hh9:home≤90000) (hrm:rm≤90000) :
  Calls Tryz.prog 211 #[.pointer (some ⟨j,0,none⟩),frv f A l c,.int .i64 (home:Nat),.int .i64 (rm:Nat)] w (kR w F t d j n (jc t d fr gen has Ap mp cp vr room) (layC s dead f home rm)):=by
 by_cases hd:dead=true∨s.down=true
 ·have e:layC s dead f home rm=((0,13),s,true):=by unfold layC;rw[if_pos hd]
  rw[e]
  exact JZ _ _ h3 hq hd
 ·obtain rfl:dead=false:=by simpa using fun h=>hd (.inl h)
  exact UF api home rm h3 hq (by simpa using fun h=>hd (.inr h)) hr hO hc hcm hl9 hh9 hrm
theorem mM:dZ Cj where
 lts h:=h.lts
 keep h b q:=h.keep b q
theorem J3 {s:DS}{dead:Bool}{f:FV}{home rm:Nat}(h:(layC s dead f home rm).2.2=false):dead=false:=by
 cases dead with
 | false=>rfl
 | true=>rw[yl (.inl rfl)] at h;cases h
theorem Wu (api:dS) {w:World}{H:List Nat}{t d j n:Nat}{s:DS}{v:JV}{f:FV}{A:Option Addr}{l c:Nat}(home rm:Nat) (sy:Sy Cj w H t d j n s v) (hr:Rd w A l f.body) (hO:Off A l H) (hc:l≤c) (hcm:c≤maxLen) (hl9:l≤100000) (hh9:home≤90000) (hrm:rm≤90000) :
  Calls Tryz.prog 211 #[.pointer (some ⟨j,0,none⟩),frv f A l c,.int .i64 (home:Nat),.int .i64 (rm:Nat)] w fun e w' =>
   e=.returned (.tuple #[.int .i64 (layC s v.dead f home rm).1.1,.int .i64 (layC s v.dead f home rm).1.2])∧∃ H',Sy Cj w' H' t d j n (layC s v.dead f home rm).2.1 { v with dead:=(layC s v.dead f home rm).2.2 }∧Fp H H' w w':=by
 obtain⟨F,G,h1,h2,⟨A0,m,c0,vr,rm0,K,k1,k2,k3,k4,k5,k6,k7,k8,rfl,k9,k10,k11⟩,h4,h5,h6,rfl⟩:=sy
 have hj:j∉F:=fun hm=>h6 j hm (by simp)
 have htj:t≠j:=fun e=>h5 (by simp[e])
 have hO2:Off A l (t :: j :: F):=by
  rcases hO with h|⟨g,o,e,hg⟩
  ·exact .inl h
  ·exact .inr ⟨g,o,e,fun hm=>hg (by simp at hm ⊢;rcases hm with h|h|h<;>simp[h])⟩
 refine(Qg api (s:=s) home rm htj (LW.mk0 h1 h2 k1 h4 hj) hr hO2 hc hcm hl9 hh9 hrm).mono ?_
 rintro e w' ⟨rfl,F',t1,t2,t3,t4,t5,t6⟩
 have dK:Disj K (t :: j :: F):=fun k hk hm=>by
  simp only[List.mem_cons] at hm
  rcases hm with rfl|rfl|hm
  ·exact h5 (by simp[hk])
  ·exact k8 hk
  ·exact h6 k hm (by simp[hk])
 have hlt:∀ k∈(t :: j :: F),k < w.heap.size:=fun k hk=>by
  simp only[List.mem_cons] at hk
  rcases hk with rfl|rfl|hk
  ·exact dQ h1
  ·exact k1.lt
  ·exact h2.lts k hk
 have dK':∀ k∈F',k∉K:=fun k hk hm=>by
  rcases t4.2 k (by simp[hk]) with e|e
  ·exact dK k hm e
  ·have:=k7 k hm;omega
 refine⟨rfl,t :: (F'++j :: K),⟨F',j :: K,t1,t2,⟨A0,m,c0,vr,rm0,K,t3,k2,k3,k4.far t4.1 (k5.1.off dK),k5,k6.keep t4.1 dK,fun k hk=>Nat.lt_of_lt_of_le (k7 k hk) t4.1.size,k8,rfl,⟨k9.half,k9.gen,k9.seq,k9.pos,k9.recs,k9.pict,k9.bods⟩,k10,fun h=>k11 (J3 h)⟩,t5,h5,fun k hk hm=>?_,rfl⟩,t4.1.mono (fun k hk=>.inl ?_),fun k hk=>?_⟩
 ·simp only[List.mem_cons] at hm
  rcases hm with rfl|hm
  ·exact t6 hk
  ·exact dK' k hk hm
 ·simp only[List.mem_cons,List.mem_append] at hk ⊢
  rcases hk with h|h|h<;>simp[h]
 ·simp only[List.mem_cons,List.mem_append] at hk
  rcases hk with h|h|h|h
  ·exact .inl (by simp[h])
  ·rcases t4.2 k (by simp[h]) with e|e
   ·simp only[List.mem_cons] at e
    exact .inl (by rcases e with e|e|e<;>simp[e])
   ·exact .inr e
  ·exact .inl (by simp[h])
  ·exact .inl (by simp[h])
end Journal
end Go.Proofs.YtlkeieoecfkkeaaGreat
