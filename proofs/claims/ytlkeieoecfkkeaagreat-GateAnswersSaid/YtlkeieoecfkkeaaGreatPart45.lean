/-
  Parts laid together: SealRHead SealPeek SealRPeek.
-/
import Derived.Test.YtlkeieoecfkkeaaGreatPart1
import Derived.Test.YtlkeieoecfkkeaaGreatPart4
import Derived.Test.YtlkeieoecfkkeaaGreatPart6
import Derived.Test.YtlkeieoecfkkeaaGreatPart9
import Derived.LoopN
import Derived.Deep.DeepCutAuto
import Derived.Deep.RegionHeld3
import Derived.BigQuiet
set_option maxRecDepth 100000
set_option maxHeartbeats 1000000
namespace Go.Proofs.YtlkeieoecfkkeaaGreat
namespace Seal
open Go.RowKit Sha Wire
def hdV (b:List Int):NV:=if b.length < 12 then ⟨0,0,0,0,[]⟩ else ⟨at_ b 1,at_ b 2,at_ b 3,nS b,[]⟩
def zO (b:List Int) (w:World) (e:Ending) (w':World):Prop :=
 e=.returned (.tuple #[.agg #[.int .i64 (hdV b).party,.int .i64 (hdV b).which,.int .i64 (hdV b).way,.int .i64 (hdV b).seq,.slice none 0 0],.bool (decide (peekOk b))])∧Below w.heap.size w w'
theorem results_cell_tmp {P:Program}{fn:Func}{p u:Tmp}{ty:TypeId}(h:fn.results=#[.cell p ty,.tmp u]) (tmps:Array Value) (w:World) (g:Nat) (t:TypeId) (cs:Array Value) (fr:Nat × Nat) (d:TypeDesc)
  (hp:tmps.getD p undef=.pointer (some ⟨g,0,none⟩)) (hg:w.heap[g]?=some (.cells cs t fr))
  (hu:P.underlying ty=some d) (hd:(match d with|.struct _|.array _ _=>true|_=>false)=true) (hi:(P.info? ty).map (·.size)=some cs.size) :
  (results fn tmps).run P w=.ok (.tuple #[.agg cs,tmps.getD u undef]) w:=by
 have hp':tmps[p]?.getD undef=.pointer (some ⟨g,0,none⟩):=by simpa using hp
 simp[results,h,hp',asAddr,run_loadVar_row w g t ty cs fr d hg hu hd hi,Result.andThen]
theorem aG:(Tryz.prog.info? 54).map (·.size)=some 5:=by kernel_rfl
theorem pM (l:List Int) (h:Bytes l) (hl:l.length≤4):val l < 4294967296:=by
 have:=yt l h
 have h2:256 ^ l.length≤256 ^ 4:=Nat.pow_le_pow_right (by omega) hl
 omega
theorem Io {H:List Int}(hb:Bytes H) (h:H.length=12) (o s:Nat) (hs:s=1∨s=4) (ho:o+s≤12):decNum (0,H.drop o) (s:Int)=(((val ((H.drop o).take s):Nat):Int),(0,H.drop (o+s))):=by
 have hv:=pM ((H.drop o).take s) ((hb.drop _).take _) (by simp;omega)
 rw[jH _ s (by omega) (by omega) ⟨by rw[List.length_drop];omega,by omega⟩,List.drop_drop]
theorem EZ {b:List Int}(hb:Bytes b) (h:12≤b.length) (k:Nat) (hk:k < 12):((val (((b.take 12).drop k).take 1):Nat):Int)=at_ b k:=by
 have e:((b.take 12).drop k).take 1=[at_ b k]:=by
  rw[List.drop_take,List.take_take,show min 1 (12 - k)=1 by omega,List.drop_eq_getElem_cons (by omega),List.take_succ_cons,List.take_zero]
  simp[at_,List.getD_eq_getElem?_getD,List.getElem?_eq_getElem (show k < b.length by omega)]
 have h2:=hb.at_ k
 rw[e];simp only[val,valA];omega
theorem Xp (b:List Int):val (((b.take 12).drop 4).take 4)=nS b:=by
 unfold nS;rw[List.drop_take,List.take_take];rfl
theorem Ti (b:List Int):val (((b.take 12).drop 8).take 4)=nN b:=by
 unfold nN;rw[List.drop_take,List.take_take];rfl
theorem Ny {b:List Int}(hb:Bytes b):peekOk b ↔ at_ b 0=110∧wayN ⟨at_ b 1,at_ b 2,at_ b 3,nS b,[]⟩∧nN b≤60000∧b.length=44+nN b:=by
 have h1:=hb.at_ 1;have h2:=hb.at_ 2;have h3:=hb.at_ 3
 unfold peekOk rC wayN
 dsimp only
 constructor
 ·rintro ⟨a,⟨b,c,d,e,f⟩,g⟩;exact⟨b,⟨h1.1,c,by omega,by omega⟩,f,g⟩
 ·rintro ⟨a,⟨-,c,d,e⟩,f,g⟩;exact⟨by omega,⟨a,c,by omega,by omega,f⟩,g⟩
def Rx (w0:World) (N d:Nat) (G:List Nat) (st:St) (w:World):Prop :=
 De 236 w d G st∧Blk w N 54 #[.int .i64 0,.int .i64 0,.int .i64 0,.int .i64 0,.slice none 0 0]∧Below N w0 w
theorem gQ {w0:World}{N d:Nat}{G:List Nat}{st:St}{w:World}(hNw:w0.heap.size=N) (hd:N < d) (hG:d∉G) (h:Rx w0 N d G st w) (s:Int) :
  Calls Tryz.prog 84 #[.pointer (some ⟨d,0,none⟩),.int .i64 s] w fun x w'=>x=.returned (.int .i64 (decNum st s).1)∧Rx w0 N d G (decNum st s).2 w'∧Bar [d] w w':=by
 obtain⟨h1,h2,h3⟩:=h
 refine(pX w d G s st h1 hG).mono ?_
 rintro x w' ⟨rfl,k1,k2⟩
 have hs:=h3.size
 exact⟨rfl,⟨k1,h2.bar k2 (by rw[List.mem_singleton];omega),h3.trans (k2.below (by omega) (fun k hk=>by rw[List.mem_singleton] at hk;omega))⟩,k2⟩
theorem lL (A:Option Addr) (n c:Nat) (b:List Int) (w:World) (hr:Rd w A n b) (hc:n≤c) (hn:n≤1000000) :
  Calls Tryz.prog 171 #[.slice A n c] w (zO b w):=by
 obtain⟨N,hNw⟩:∃ N,w.heap.size=N:=⟨_,rfl⟩
 have hlen:=hr.1
 have HB:=ae.mk hr.2.1
 have B0:=ae.mk (Blk.new_at w 54 #[.int .i64 0,.int .i64 0,.int .i64 0,.int .i64 0,.slice none 0 0] N hNw.symm)
 have b0:ae (Below N w (w.alloc (.cells #[.int .i64 0,.int .i64 0,.int .i64 0,.int .i64 0,.slice none 0 0] 54))):=⟨(Below.refl _ _).alloc (by omega) _⟩
 have hs0:(w.alloc (.cells #[.int .i64 0,.int .i64 0,.int .i64 0,.int .i64 0,.slice none 0 0] 54)).heap.size=N+1:=by simp[hNw]
 have R0:ae (Rd (w.alloc (.cells #[.int .i64 0,.int .i64 0,.int .i64 0,.int .i64 0,.slice none 0 0] 54)) A n b):=⟨hr.below (by rw[hNw];exact b0.out)⟩
 clear hr
 by_cases h12:n < 12
 ·have h12':(n:Int) < 12:=by omega
  obtain⟨w1,hw1⟩:∃ w1,w.alloc (.cells #[.int .i64 0,.int .i64 0,.int .i64 0,.int .i64 0,.slice none 0 0] 54)=w1:=⟨_,rfl⟩
  rw[hw1] at B0 b0
  have P5:=ae.mk (put5 B0.out (.int .i64 0) (.int .i64 0) (.int .i64 0) (.int .i64 0) (.slice none 0 0))
  have PE:ae (zO b w (.returned (.tuple #[.agg #[.int .i64 0,.int .i64 0,.int .i64 0,.int .i64 0,.slice none 0 0],.bool false])) (((((w1.setCell ⟨N,0,none⟩ (.int .i64 0)).setCell ⟨N,1,none⟩ (.int .i64 0)).setCell ⟨N,2,none⟩ (.int .i64 0)).setCell ⟨N,3,none⟩ (.int .i64 0)).setCell ⟨N,4,none⟩ (.slice none 0 0))):=⟨by
   refine⟨?_,by rw[hNw];exact b0.out.trans (P5.out.2.below (by have:=b0.out.size;omega) (fun k hk=>by rw[List.mem_singleton] at hk;omega))⟩
   rw[show decide (peekOk b)=false from decide_eq_false (fun h=>by have:=h.1;omega)]
   unfold hdV;rw[if_pos (by omega)]⟩
  have z0:=B0.out.cell 0;have z1:=B0.out.cell 1;have z2:=B0.out.cell 2;have z3:=B0.out.cell 3;have z4:=B0.out.cell 4
  have y0:=B0.out.frozen 0;have y1:=B0.out.frozen 1;have y2:=B0.out.frozen 2;have y3:=B0.out.frozen 3;have y4:=B0.out.frozen 4
  clear hlen hs0 R0
  go_enter Tryz.func171,Tryz.ntmps171
  go_upto_region 1 with(fail)
  (try rw[hw1])
  clear hw1
  go_wp2
  (try simp only[Exit.inBlock,Exit.then])
  refine bodyPost_ret (results_cell_tmp rfl _ _ N 54 #[.int .i64 0,.int .i64 0,.int .i64 0,.int .i64 0,.slice none 0 0] (0,0) _ rfl P5.out.1 Tryz.underlying54 rfl aG) rfl ?_
  exact PE.out
 ·have h12':¬ (n:Int) < 12:=by omega
  have hl12:12≤b.length:=by omega
  have HLB:=ae.mk hlen
  have HL12:=ae.mk hl12
  have hH:ae (Bytes (b.take 12)∧(b.take 12).length=12):=⟨HB.out.take 12,by rw[List.length_take];omega⟩
  go_enter Tryz.func171,Tryz.ntmps171
  go_upto_region 3 with(fail)
  generalize w.alloc (.cells #[.int .i64 0,.int .i64 0,.int .i64 0,.int .i64 0,.slice none 0 0] 54)=w1 at *
  obtain⟨A2,hs2,r2,-⟩:=rQ R0.out hc 12 (by omega) 12 rfl
  have CD:=ae.mk (nT A2 12 c (b.take 12) w1 r2 (by omega))
  clear r2
  go_wp2_with fail
  refine CD.out.mono ?_
  rintro x w2 ⟨d,G,rfl,D2,hd,-,hGn,b2⟩
  have hdN:N < d:=by omega
  have T2:Rx w N d G (0,b.take 12) w2:=⟨D2,B0.out.below b2 (by omega),b0.out.trans (b2.mono (by omega))⟩
  clear D2 hd b2 B0 b0 R0 hs0 CD hs2
  go_wp2_with fail
  refine(gQ hNw hdN hGn T2 1).mono ?_
  rintro x w3 ⟨rfl,T3,-⟩
  have e3:decNum (0,b.take 12) 1=((at_ b 0:Int),(0,(b.take 12).drop 1)):=by
   have:=Io hH.out.1 hH.out.2 0 1 (by omega) (by omega)
   rw[EZ HB.out HL12.out 0 (by omega)] at this
   rw[List.drop_zero] at this
   exact this
  rw[e3] at T3 ⊢
  clear T2 e3
  go_wp2_with fail
  refine(gQ hNw hdN hGn T3 1).mono ?_
  rintro x w4 ⟨rfl,T4,-⟩
  have e4:decNum (0,(b.take 12).drop 1) 1=((at_ b 1:Int),(0,(b.take 12).drop 2)):=by
   have:=Io hH.out.1 hH.out.2 1 1 (by omega) (by omega)
   rw[EZ HB.out HL12.out 1 (by omega)] at this
   skip
   exact this
  rw[e4] at T4 ⊢
  clear T3 e4
  go_wp2_with fail
  refine(gQ hNw hdN hGn T4 1).mono ?_
  rintro x w5 ⟨rfl,T5,-⟩
  have e5:decNum (0,(b.take 12).drop 2) 1=((at_ b 2:Int),(0,(b.take 12).drop 3)):=by
   have:=Io hH.out.1 hH.out.2 2 1 (by omega) (by omega)
   rw[EZ HB.out HL12.out 2 (by omega)] at this
   skip
   exact this
  rw[e5] at T5 ⊢
  clear T4 e5
  go_wp2_with fail
  refine(gQ hNw hdN hGn T5 1).mono ?_
  rintro x w6 ⟨rfl,T6,-⟩
  have e6:decNum (0,(b.take 12).drop 3) 1=((at_ b 3:Int),(0,(b.take 12).drop 4)):=by
   have:=Io hH.out.1 hH.out.2 3 1 (by omega) (by omega)
   rw[EZ HB.out HL12.out 3 (by omega)] at this
   skip
   exact this
  rw[e6] at T6 ⊢
  clear T5 e6
  go_wp2_with fail
  refine(gQ hNw hdN hGn T6 4).mono ?_
  rintro x w7 ⟨rfl,T7,-⟩
  have e7:decNum (0,(b.take 12).drop 4) 4=(((nS b:Nat):Int),(0,(b.take 12).drop 8)):=by
   have:=Io hH.out.1 hH.out.2 4 4 (by omega) (by omega)
   rw[Xp] at this
   skip
   exact this
  rw[e7] at T7 ⊢
  clear T6 e7
  go_wp2_with fail
  have hd7:=T7.1.lt
  obtain⟨T,hT⟩:∃ T,w7.heap.size=T:=⟨_,rfl⟩
  rw[hT] at hd7
  have T8:Rx w N d G (0,(b.take 12).drop 8) (w7.alloc (.cells #[.int .i64 (at_ b 1),.int .i64 (at_ b 2),.int .i64 (at_ b 3),.int .i64 (nS b:Nat),.slice none 0 0] 54)) :=
   ⟨T7.1.below ((Below.refl _ _).alloc (Nat.le_refl _) _),T7.2.1.alloc _,T7.2.2.alloc (by have:=T7.2.1.lt;omega) _⟩
  have F8:=Blk.new_at w7 54 #[.int .i64 (at_ b 1),.int .i64 (at_ b 2),.int .i64 (at_ b 3),.int .i64 (nS b:Nat),.slice none 0 0] T hT.symm
  generalize w7.alloc (.cells #[.int .i64 (at_ b 1),.int .i64 (at_ b 2),.int .i64 (at_ b 3),.int .i64 (nS b:Nat),.slice none 0 0] 54)=w8 at *
  rw[hT]
  clear T7 hT
  refine(gQ hNw hdN hGn T8 4).mono ?_
  rintro x w9 ⟨rfl,T9,br9⟩
  have e9:decNum (0,(b.take 12).drop 8) 4=(((nN b:Nat):Int),(0,(b.take 12).drop 12)):=by
   have:=Io hH.out.1 hH.out.2 8 4 (by omega) (by omega)
   rw[Ti] at this
   exact this
  rw[e9] at T9 ⊢
  have F9:=ae.mk (F8.bar br9 (by rw[List.mem_singleton];omega))
  have B9:=ae.mk T9.2.1
  have W9:=ae.mk T9.2.2
  have hNT:N < T:=by omega
  have PK:=ae.mk (Ny HB.out)
  have hz:nN b < 4294967296:=by
   rw[← Ti]
   exact pM _ ((hH.out.1.drop _).take _) (by rw[List.length_take];omega)
  have hp1:=HB.out.at_ 1
  have PE:ae (∀ (w':World) (q:Bool),q=decide (peekOk b)→Below N w w'→zO b w (.returned (.tuple #[.agg #[.int .i64 (at_ b 1),.int .i64 (at_ b 2),.int .i64 (at_ b 3),.int .i64 (nS b:Nat),.slice none 0 0],.bool q])) w'):=⟨fun w' q hq hb=>by
   refine⟨?_,by rw[hNw];exact hb⟩
   rw[hq]
   unfold hdV;rw[if_neg (by have:=HL12.out;omega)]⟩
  clear T8 F8 T9 br9 e9 hd7
  generalize (nS b:Nat)=s' at *
  generalize at_ b 1=p at *
  generalize at_ b 2=h at *
  generalize at_ b 3=y at *
  generalize at_ b 0=f0 at *
  generalize nN b=z at *
  obtain⟨s,hs⟩:∃ s:Int,(s':Int)=s:=⟨_,rfl⟩
  rw[hs] at PK PE F9 ⊢
  clear hs
  have WAY:=ae.mk (fun w'=>FH p h y s [] none 0 0 w')
  obtain⟨wb,hwb⟩:∃ wb,decide (wayN ⟨p,h,y,s,[]⟩)=wb:=⟨_,rfl⟩
  obtain⟨fb,hfb⟩:∃ fb,decide (z≤60000∧n=44+z)=fb:=⟨_,rfl⟩
  have HFB:=ae.mk hfb
  have Q1:ae (f0=110→(wb && fb)=decide (peekOk b)):=⟨fun h=>by
   rw[← hwb,← hfb,← Bool.decide_and]
   exact decide_eq_decide.2 ⟨fun k=>PK.out.2 ⟨h,k.1,k.2.1,by have:=HLB.out;omega⟩,fun k=>⟨(PK.out.1 k).2.1,(PK.out.1 k).2.2.1,by have:=(PK.out.1 k).2.2.2;have:=HLB.out;omega⟩⟩⟩
  have Q0:ae (f0≠110→false=decide (peekOk b)):=⟨fun h=>(decide_eq_false (fun k=>h (PK.out.1 k).1)).symm⟩
  rw[hwb] at WAY
  clear hwb hfb PK
  have CS:∀ {u:World},Blk u T 54 #[.int .i64 p,.int .i64 h,.int .i64 y,.int .i64 s,.slice none 0 0]→u.cell? ⟨T,0,none⟩=some (.int .i64 p)∧u.cell? ⟨T,1,none⟩=some (.int .i64 h)∧u.cell? ⟨T,2,none⟩=some (.int .i64 y)∧u.cell? ⟨T,3,none⟩=some (.int .i64 s)∧u.cell? ⟨T,4,none⟩=some (.slice none 0 0):=fun k=>⟨k.cell 0,k.cell 1,k.cell 2,k.cell 3,k.cell 4⟩
  go_upto_region 7 with(fail)
  go_cut [8] (fun v wx=>v=.bool fb∧ae (Blk wx T 54 #[.int .i64 p,.int .i64 h,.int .i64 y,.int .i64 s,.slice none 0 0])∧ae (Blk wx N 54 #[.int .i64 0,.int .i64 0,.int .i64 0,.int .i64 0,.slice none 0 0])∧ae (Below N w wx))
  case first =>
   by_cases hz6:(z:Int)≤60000
   ·by_cases hzn:(n:Int)=44+z
    ·obtain rfl:fb=true:=by rw[← HFB.out];exact decide_eq_true (by omega)
     have hzn':(n:Int)=12+z+32:=by omega
     clear hzn
     go_wp2
     go_meet
     case rel=>exact⟨rfl,F9,B9,W9⟩
    ·obtain rfl:fb=false:=by rw[← HFB.out];exact decide_eq_false (by omega)
     have hzn':¬ (n:Int)=12+z+32:=by omega
     have hznd:((n:Int) == 12+z+32)=false:=by simpa using hzn'
     clear hzn
     go_wp2
     go_meet
     case rel=>exact⟨rfl,F9,B9,W9⟩
   ·obtain rfl:fb=false:=by rw[← HFB.out];exact decide_eq_false (by omega)
    go_wp2
    go_meet
    case rel=>exact⟨rfl,F9,B9,W9⟩
  case rest =>
  clear F9 B9 W9
  obtain⟨rfl,F9,B9,W9⟩:=hcut
  generalize wc=w9 at *
  clear HFB hz hp1 hc hn h12 h12' hlen hl12
  by_cases h110:f0=110
  ·subst h110
   replace Q1:=ae.mk (Q1.out rfl)
   clear Q0
   cases wb with
   | true =>
    go_upto_region 8 with(fail)
    refine wp_region_noPanic ?_
    refine wp_region_held_drew (S:=(fun u:World=>u.cell? ⟨T,0,none⟩=some (.int .i64 p)∧u.cell? ⟨T,1,none⟩=some (.int .i64 h)∧u.cell? ⟨T,2,none⟩=some (.int .i64 y)∧u.cell? ⟨T,3,none⟩=some (.int .i64 s)∧u.cell? ⟨T,4,none⟩=some (.slice none 0 0))) (by kernel_rfl) (CS F9.out) (fun _=>?_)
    replace F9:=ae.mk F9.out.drew;replace B9:=ae.mk B9.out.drew;replace W9:=ae.mk W9.out.drew
    generalize w9.drew=w10 at *
    refine tk 0 ?_
    simp only[Act.put,zA,zB,zC]
    refine tk 1 ?_
    simp only[Act.put,zA,zB,zC]
    refine tk 2 ?_
    simp only[Act.put,zA,zB,zC]
    refine tk 3 ?_
    simp only[Act.put,zA,zB,zC]
    refine tk 4 ?_
    simp only[Act.put,zA,zB,zC]
    refine ld 5 (fun K hK=>?_)
    go_simp
    go_at_call 181
    refine(WAY.out w10).mono ?_
    rintro x w11 ⟨rfl,b11⟩
    replace F9:=ae.mk (F9.out.below b11 F9.out.lt);replace B9:=ae.mk (B9.out.below b11 B9.out.lt);replace W9:=ae.mk (W9.out.trans (b11.mono (by have:=W9.out.size;omega)))
    refine hK.out _ _ (CS F9.out) (fun _=>?_)
    clear hK K b11
    try simp only[Act.put,zA,zB,zC]
    refine tk 6 ?_
    simp only[Act.put,zA,zB,zC]
    refine tk 7 ?_
    simp only[Act.put,zA,zB,zC]
    refine tk 8 ?_
    simp only[Act.put,zA,zB,zC]
    refine tk 9 ?_
    simp only[Act.put,zA,zB,zC]
    have c0:=B9.out.cell 0;have c1:=B9.out.cell 1;have c2:=B9.out.cell 2;have c3:=B9.out.cell 3;have c4:=B9.out.cell 4
    have z0:=B9.out.frozen 0;have z1:=B9.out.frozen 1;have z2:=B9.out.frozen 2;have z3:=B9.out.frozen 3;have z4:=B9.out.frozen 4
    refine ld 10 (fun K hK=>?_)
    go_simp
    have P5:=ae.mk (put5 B9.out (.int .i64 p) (.int .i64 h) (.int .i64 y) (.int .i64 s) (.slice none 0 0))
    have PF:=ae.mk (PE.out _ fb (by rw[← Q1.out];rfl) (W9.out.trans (P5.out.2.below (by have:=W9.out.size;omega) (fun k hk=>by rw[List.mem_singleton] at hk;omega))))
    have F12:=ae.mk (F9.out.bar P5.out.2 (by rw[List.mem_singleton];omega))
    clear c0 c1 c2 c3 c4 z0 z1 z2 z3 z4
    generalize (((((w11.setCell ⟨N,0,none⟩ (.int .i64 p)).setCell ⟨N,1,none⟩ (.int .i64 h)).setCell ⟨N,2,none⟩ (.int .i64 y)).setCell ⟨N,3,none⟩ (.int .i64 s)).setCell ⟨N,4,none⟩ (.slice none 0 0))=w12 at *
    refine hK.out _ _ (CS F12.out) (fun _=>?_)
    clear hK K
    try simp only[Act.put,zA,zB,zC]
    refine tk 11 ?_
    simp only[Act.put,zA,zB,zC]
    refine wpAnyH_done (by kernel_rfl) ?_ _
    refine NoPanic.normal ?_
    go_wp2
    (try simp only[Exit.inBlock,Exit.then])
    refine bodyPost_ret (results_cell_tmp rfl _ _ N 54 #[.int .i64 p,.int .i64 h,.int .i64 y,.int .i64 s,.slice none 0 0] (0,0) _ rfl P5.out.1 Tryz.underlying54 rfl aG) rfl ?_
    exact PF.out
   | false =>
    go_upto_region 8 with(fail)
    refine wp_region_noPanic ?_
    refine wp_region_held_drew (S:=(fun u:World=>u.cell? ⟨T,0,none⟩=some (.int .i64 p)∧u.cell? ⟨T,1,none⟩=some (.int .i64 h)∧u.cell? ⟨T,2,none⟩=some (.int .i64 y)∧u.cell? ⟨T,3,none⟩=some (.int .i64 s)∧u.cell? ⟨T,4,none⟩=some (.slice none 0 0))) (by kernel_rfl) (CS F9.out) (fun _=>?_)
    replace F9:=ae.mk F9.out.drew;replace B9:=ae.mk B9.out.drew;replace W9:=ae.mk W9.out.drew
    generalize w9.drew=w10 at *
    refine tk 0 ?_
    simp only[Act.put,zA,zB,zC]
    refine tk 1 ?_
    simp only[Act.put,zA,zB,zC]
    refine tk 2 ?_
    simp only[Act.put,zA,zB,zC]
    refine tk 3 ?_
    simp only[Act.put,zA,zB,zC]
    refine tk 4 ?_
    simp only[Act.put,zA,zB,zC]
    refine ld 5 (fun K hK=>?_)
    go_simp
    go_at_call 181
    refine(WAY.out w10).mono ?_
    rintro x w11 ⟨rfl,b11⟩
    replace F9:=ae.mk (F9.out.below b11 F9.out.lt);replace B9:=ae.mk (B9.out.below b11 B9.out.lt);replace W9:=ae.mk (W9.out.trans (b11.mono (by have:=W9.out.size;omega)))
    refine hK.out _ _ (CS F9.out) (fun _=>?_)
    clear hK K b11
    try simp only[Act.put,zA,zB,zC]
    refine tk 6 ?_
    simp only[Act.put,zA,zB,zC]
    refine tk 7 ?_
    simp only[Act.put,zA,zB,zC]
    refine tkn 8 ?_
    simp only[Act.put,zA,zB,zC]
    refine tk 9 ?_
    simp only[Act.put,zA,zB,zC]
    have c0:=B9.out.cell 0;have c1:=B9.out.cell 1;have c2:=B9.out.cell 2;have c3:=B9.out.cell 3;have c4:=B9.out.cell 4
    have z0:=B9.out.frozen 0;have z1:=B9.out.frozen 1;have z2:=B9.out.frozen 2;have z3:=B9.out.frozen 3;have z4:=B9.out.frozen 4
    refine ld 10 (fun K hK=>?_)
    go_simp
    have P5:=ae.mk (put5 B9.out (.int .i64 p) (.int .i64 h) (.int .i64 y) (.int .i64 s) (.slice none 0 0))
    have PF:=ae.mk (PE.out _ false (by rw[← Q1.out];rfl) (W9.out.trans (P5.out.2.below (by have:=W9.out.size;omega) (fun k hk=>by rw[List.mem_singleton] at hk;omega))))
    have F12:=ae.mk (F9.out.bar P5.out.2 (by rw[List.mem_singleton];omega))
    clear c0 c1 c2 c3 c4 z0 z1 z2 z3 z4
    generalize (((((w11.setCell ⟨N,0,none⟩ (.int .i64 p)).setCell ⟨N,1,none⟩ (.int .i64 h)).setCell ⟨N,2,none⟩ (.int .i64 y)).setCell ⟨N,3,none⟩ (.int .i64 s)).setCell ⟨N,4,none⟩ (.slice none 0 0))=w12 at *
    refine hK.out _ _ (CS F12.out) (fun _=>?_)
    clear hK K
    try simp only[Act.put,zA,zB,zC]
    refine tk 11 ?_
    simp only[Act.put,zA,zB,zC]
    refine wpAnyH_done (by kernel_rfl) ?_ _
    refine NoPanic.normal ?_
    go_wp2
    (try simp only[Exit.inBlock,Exit.then])
    refine bodyPost_ret (results_cell_tmp rfl _ _ N 54 #[.int .i64 p,.int .i64 h,.int .i64 y,.int .i64 s,.slice none 0 0] (0,0) _ rfl P5.out.1 Tryz.underlying54 rfl aG) rfl ?_
    exact PF.out
  ·have h110':(f0 == 110)=false:=by simpa using h110
   replace Q0:=ae.mk (Q0.out h110)
   clear Q1 h110
   go_upto_region 8 with(fail)
   refine wp_region_noPanic ?_
   refine wp_region_held_drew (S:=(fun u:World=>u.cell? ⟨T,0,none⟩=some (.int .i64 p)∧u.cell? ⟨T,1,none⟩=some (.int .i64 h)∧u.cell? ⟨T,2,none⟩=some (.int .i64 y)∧u.cell? ⟨T,3,none⟩=some (.int .i64 s)∧u.cell? ⟨T,4,none⟩=some (.slice none 0 0))) (by kernel_rfl) (CS F9.out) (fun _=>?_)
   replace F9:=ae.mk F9.out.drew;replace B9:=ae.mk B9.out.drew;replace W9:=ae.mk W9.out.drew
   generalize w9.drew=w10 at *
   refine tk 0 ?_
   simp only[Act.put,zA,zB,zC]
   refine tk 1 ?_
   simp only[Act.put,zA,zB,zC]
   refine tk 2 ?_
   simp only[Act.put,zA,zB,zC]
   refine tk 3 ?_
   simp only[Act.put,zA,zB,zC]
   refine tkn 4 ?_
   simp only[Act.put,zA,zB,zC]
   refine tkn 5 ?_
   simp only[Act.put,zA,zB,zC]
   refine tk 6 ?_
   simp only[Act.put,zA,zB,zC]
   refine tk 7 ?_
   simp only[Act.put,zA,zB,zC]
   refine tkn 8 ?_
   simp only[Act.put,zA,zB,zC]
   refine tk 9 ?_
   simp only[Act.put,zA,zB,zC]
   have c0:=B9.out.cell 0;have c1:=B9.out.cell 1;have c2:=B9.out.cell 2;have c3:=B9.out.cell 3;have c4:=B9.out.cell 4
   have z0:=B9.out.frozen 0;have z1:=B9.out.frozen 1;have z2:=B9.out.frozen 2;have z3:=B9.out.frozen 3;have z4:=B9.out.frozen 4
   refine ld 10 (fun K hK=>?_)
   go_simp
   have P5:=ae.mk (put5 B9.out (.int .i64 p) (.int .i64 h) (.int .i64 y) (.int .i64 s) (.slice none 0 0))
   have PF:=ae.mk (PE.out _ false Q0.out (W9.out.trans (P5.out.2.below (by have:=W9.out.size;omega) (fun k hk=>by rw[List.mem_singleton] at hk;omega))))
   have F12:=ae.mk (F9.out.bar P5.out.2 (by rw[List.mem_singleton];omega))
   clear c0 c1 c2 c3 c4 z0 z1 z2 z3 z4
   generalize (((((w10.setCell ⟨N,0,none⟩ (.int .i64 p)).setCell ⟨N,1,none⟩ (.int .i64 h)).setCell ⟨N,2,none⟩ (.int .i64 y)).setCell ⟨N,3,none⟩ (.int .i64 s)).setCell ⟨N,4,none⟩ (.slice none 0 0))=w12 at *
   refine hK.out _ _ (CS F12.out) (fun _=>?_)
   clear hK K
   try simp only[Act.put,zA,zB,zC]
   refine tk 11 ?_
   simp only[Act.put,zA,zB,zC]
   refine wpAnyH_done (by kernel_rfl) ?_ _
   refine NoPanic.normal ?_
   go_wp2
   (try simp only[Exit.inBlock,Exit.then])
   refine bodyPost_ret (results_cell_tmp rfl _ _ N 54 #[.int .i64 p,.int .i64 h,.int .i64 y,.int .i64 s,.slice none 0 0] (0,0) _ rfl P5.out.1 Tryz.underlying54 rfl aG) rfl ?_
   exact PF.out
theorem aH {fn:Func}{t u v x:Tmp}(h:fn.results=#[.tmp t,.tmp u,.tmp v,.tmp x]) (tmps:Array Value) (P:Program) (w:World) :
  (results fn tmps).run P w=.ok (.tuple #[tmps.getD t undef,tmps.getD u undef,tmps.getD v undef,tmps.getD x undef]) w:=by
 simp[results,h]
def dW (b:List Int) (w:World) (e:Ending) (w':World):Prop :=
 e=.returned (.tuple #[.int .i64 (peekN b).1,.int .i64 (peekN b).2.1,.int .i64 (peekN b).2.2.1,.int .i64 (peekN b).2.2.2])∧Below w.heap.size w w'
theorem zQ (A:Option Addr) (n c:Nat) (b:List Int) (w:World) (hr:Rd w A n b) (hc:n≤c) (hn:n≤1000000) :
  Calls Tryz.prog 134 #[.slice A n c] w (dW b w):=by
 have CR:=lL A n c b w hr hc hn
 have PE1:ae (¬ peekOk b→∀ w',Below w.heap.size w w'→dW b w (.returned (.tuple #[.int .i64 0,.int .i64 0,.int .i64 0,.int .i64 2])) w'):=⟨fun h w' b'=>⟨by unfold peekN;rw[if_neg h],b'⟩⟩
 have PE2:ae (peekOk b→∀ w',Below w.heap.size w w'→dW b w (.returned (.tuple #[.int .i64 (hdV b).party,.int .i64 (hdV b).which,.int .i64 (hdV b).way,.int .i64 0])) w'):=⟨fun h w' b'=>⟨by
  unfold peekN hdV;rw[if_pos h,if_neg (by have:=h.1;omega)],b'⟩⟩
 unfold zO at CR
 obtain⟨q,hq⟩:∃ q,decide (peekOk b)=q:=⟨_,rfl⟩
 rw[hq] at CR
 have HQ:=ae.mk hq
 generalize hdV b=H at *
 obtain⟨p,h,y,s,bd⟩:=H
 dsimp only at CR PE2
 have CR:=ae.mk CR
 clear hr hq
 go_enter Tryz.func134,Tryz.ntmps134
 go_wp2_with fail
 refine CR.out.mono ?_
 rintro x w1 ⟨rfl,b1⟩
 obtain⟨T,hT⟩:∃ T,w1.heap.size=T:=⟨_,rfl⟩
 have F2:=ae.mk (Blk.new_at w1 54 #[.int .i64 p,.int .i64 h,.int .i64 y,.int .i64 s,.slice none 0 0] T hT.symm)
 have B2:=ae.mk (b1.alloc b1.size (.cells #[.int .i64 p,.int .i64 h,.int .i64 y,.int .i64 s,.slice none 0 0] 54))
 clear b1 CR
 go_upto_region 2 with(fail)
 generalize w1.alloc (.cells #[.int .i64 p,.int .i64 h,.int .i64 y,.int .i64 s,.slice none 0 0] 54)=w2 at *
 cases q with
 | false =>
  have PF:=ae.mk (PE1.out (of_decide_eq_false HQ.out) _ B2.out)
  go_wp2
  (try simp only[Exit.inBlock,Exit.then])
  refine bodyPost_ret (aH rfl _ _ _) rfl ?_
  exact PF.out
 | true =>
  have PF:=ae.mk (PE2.out (of_decide_eq_true HQ.out))
  have f0:=F2.out.cell 0;have f1:=F2.out.cell 1;have f2:=F2.out.cell 2
  go_upto_region 4 with(fail)
  go_quiet (fail)
  go_wp2
  (try simp only[Exit.inBlock,Exit.then])
  refine bodyPost_ret (aH rfl _ _ _) rfl ?_
  exact PF.out _ (below_drewN B2.out _)
end Seal
namespace Seal
open Go.RowKit Sha Wire Mac
theorem piece4 {w:World}{A:Option Addr}{n c:Nat}{b:List Int}(r:Rd w A n b) (hc:n≤c) (o:Nat) (h:o+4≤n) (li hi:Int) (e1:li=o) (e2:hi=((o+4:Nat):Int)) :
  ∃ A',(∀ w',(Instr.slice 22 (.slice A n c) (some (.int .i64 li)) (some (.int .i64 hi)) none).run Tryz.prog w'=.ok (.slice A' 4 (c - o)) w')∧Rd w A' 4 ((b.drop o).take 4)∧∀ F,Off A n F→Off A' 4 F:=by
 obtain⟨A',h1,h2,h3⟩:=pU r hc o (o+4) (by omega) (by omega) li hi e1 e2
 rw[show o+4 - o=4 by omega] at h1 h2 h3
 rw[List.drop_take,show o+4 - o=4 by omega] at h2
 exact⟨A',h1,h2,h3⟩
theorem de4 {w:World}{A:Option Addr}{c:Nat}{xs:List Int}{G:List Nat}(hG:∀ k∈G,k < w.heap.size) (r:Rd w A 4 xs) (hc:4≤c) (hcm:c≤9223372036854775807) (o:∀ F,Disj G F→Off A 4 F) :
  De 135 (w.alloc (.cells #[.slice A 4 c,.int .i64 0] 135)) w.heap.size G (0,xs):=by
 have hl:xs.length=4:=r.1
 refine⟨fun k hk=>by simp;have:=hG k hk;omega,A,c,?_,?_,?_,hcm,?_⟩
 ·simp only[hl];exact Blk.new _ _ _
 ·simp only[hl];exact r.below ((Below.refl _ _).alloc (Nat.le_refl _) _)
 ·simp only[hl];exact hc
 ·simp only[hl];exact o
theorem dec4 {xs:List Int}(hb:Bytes xs) (h:xs.length=4):decNum (0,xs) 4=(((val xs:Nat):Int),(0,[])):=by
 have hv:=pM xs hb (by omega)
 have:=jH xs 4 (by omega) (by omega) ⟨by omega,by rw[List.take_of_length_le (by omega)];omega⟩
 rw[List.take_of_length_le (by omega),List.drop_eq_nil_of_le (by omega)] at this
 exact this
theorem Nz (A:Option Addr) (n c:Nat) (b:List Int) (w:World) (hr:Rd w A n b) (hc:n≤c) (hcm:c≤9223372036854775807) (hn:n≤1000000) :
  Calls Tryz.prog 53 #[.slice A n c] w (dW b w):=by
 have hlen:=hr.1
 have HBY:=ae.mk hr.2.1
 have PE1:ae (¬ peekOk b→∀ w',Below w.heap.size w w'→dW b w (.returned (.tuple #[.int .i64 0,.int .i64 0,.int .i64 0,.int .i64 2])) w'):=⟨fun h w' b'=>⟨by unfold peekN;rw[if_neg h],b'⟩⟩
 have PE2:ae (peekOk b→∀ w',Below w.heap.size w w'→dW b w (.returned (.tuple #[.int .i64 (at_ b 1),.int .i64 (at_ b 2),.int .i64 (at_ b 3),.int .i64 0])) w'):=⟨fun h w' b'=>⟨by unfold peekN;rw[if_pos h],b'⟩⟩
 have HPK:ae (peekOk b ↔ 44≤n∧at_ b 0=110∧at_ b 1 < 16∧at_ b 2≤1∧at_ b 3≤1∧nN b≤60000∧n=44+nN b):=⟨by
  unfold peekOk rC;rw[hlen]
  constructor
  ·rintro ⟨h1,⟨h2,h3,h4,h5,h6⟩,h7⟩;exact⟨h1,h2,h3,h4,h5,h6,h7⟩
  ·rintro ⟨h1,h2,h3,h4,h5,h6,h7⟩;exact⟨h1,⟨h2,h3,h4,h5,h6⟩,h7⟩⟩
 by_cases h44:n < 44
 ·have h44':(n:Int) < 44:=by omega
  have PF:=ae.mk (PE1.out (fun k=>by have:=HPK.out.1 k;omega) w (Below.refl _ _))
  clear hr hlen
  go_enter Tryz.func53,Tryz.ntmps53
  go_wp2
  (try simp only[Exit.inBlock,Exit.then])
  refine bodyPost_ret (aH rfl _ _ _) rfl ?_
  exact PF.out
 have h44':¬ (n:Int) < 44:=by omega
 obtain⟨bb,oo,rfl,hcell⟩:=hr.2.2.resolve_left (by omega)
 have x0:=hcell 0 (by omega);have x1:=hcell 1 (by omega);have x2:=hcell 2 (by omega);have x3:=hcell 3 (by omega)
 rw[Nat.add_zero] at x0
 have g0:=HBY.out.at_ 0;have g1:=HBY.out.at_ 1;have g2:=HBY.out.at_ 2;have g3:=HBY.out.at_ 3
 clear hcell
 by_cases h0:at_ b 0=110
 rotate_left
 ·have h0b:(at_ b 0 == 110)=false:=by simpa using h0
  have PF:=ae.mk (PE1.out (fun k=>by have:=HPK.out.1 k;omega) w (Below.refl _ _))
  clear hr hlen
  go_enter Tryz.func53,Tryz.ntmps53
  go_wp2
  (try simp only[Exit.inBlock,Exit.then])
  refine bodyPost_ret (aH rfl _ _ _) rfl ?_
  exact PF.out
 by_cases h1:at_ b 1 < 16
 rotate_left
 ·have h0b:(at_ b 0 == 110)=true:=by simpa using h0
  have h1b:decide (at_ b 1 ≥ 16)=true:=decide_eq_true (by omega)
  have h1c:at_ b 1 ≥ 16:=by omega
  have PF:=ae.mk (PE1.out (fun k=>by have:=HPK.out.1 k;omega) w (Below.refl _ _))
  clear hr hlen
  go_enter Tryz.func53,Tryz.ntmps53
  go_wp2
  (try simp only[Exit.inBlock,Exit.then])
  refine bodyPost_ret (aH rfl _ _ _) rfl ?_
  exact PF.out
 by_cases h2:at_ b 2≤1
 rotate_left
 ·have h0b:(at_ b 0 == 110)=true:=by simpa using h0
  have PF:=ae.mk (PE1.out (fun k=>by have:=HPK.out.1 k;omega) w (Below.refl _ _))
  clear hr hlen
  go_enter Tryz.func53,Tryz.ntmps53
  go_wp2
  (try simp only[Exit.inBlock,Exit.then])
  refine bodyPost_ret (aH rfl _ _ _) rfl ?_
  exact PF.out
 by_cases h3:at_ b 3≤1
 rotate_left
 ·have h0b:(at_ b 0 == 110)=true:=by simpa using h0
  have PF:=ae.mk (PE1.out (fun k=>by have:=HPK.out.1 k;omega) w (Below.refl _ _))
  clear hr hlen
  go_enter Tryz.func53,Tryz.ntmps53
  go_wp2
  (try simp only[Exit.inBlock,Exit.then])
  refine bodyPost_ret (aH rfl _ _ _) rfl ?_
  exact PF.out
 have h0b:(at_ b 0 == 110)=true:=by simpa using h0
 obtain⟨G,hG,hGo⟩:=Ah hr
 obtain⟨A2,hs2,r2,o2⟩:=piece4 hr hc 8 (by omega) 8 12 rfl rfl
 have D1:=de4 (c:=c - 8) hG r2 (by omega) (by omega) (fun F hF=>o2 F (hGo F hF))
 have HDG:ae (w.heap.size∉G):=⟨fun hk=>by have:=hG _ hk;omega⟩
 have b1:Below w.heap.size w (w.alloc (.cells #[.slice A2 4 (c - 8),.int .i64 0] 135)):=(Below.refl _ _).alloc (Nat.le_refl _) _
 have CD:=Aj _ w.heap.size G 4 _ D1 HDG.out
 have HP4:ae (Bytes ((b.drop 8).take 4)∧((b.drop 8).take 4).length=4):=⟨(HBY.out.drop 8).take 4,by rw[List.length_take,List.length_drop];omega⟩
 rw[dec4 HP4.out.1 HP4.out.2,show val ((b.drop 8).take 4)=nN b from rfl] at CD
 replace CD:=ae.mk CD
 have B1:=ae.mk b1
 have hz:nN b < 4294967296:=pM _ HP4.out.1 (Nat.le_of_eq HP4.out.2)
 have y0:=x0;have y1:=x1;have y2:=x2;have y3:=x3
 clear D1 b1 r2 o2 hGo hr y0 y1 y2 y3
 have X:ae (∀ w',Below w.heap.size w w'→w'.cell? ⟨bb,oo+1,none⟩=some (.int .u8 (at_ b 1))∧w'.cell? ⟨bb,oo+2,none⟩=some (.int .u8 (at_ b 2))∧w'.cell? ⟨bb,oo+3,none⟩=some (.int .u8 (at_ b 3))):=⟨fun w' hb=>by
  have hlt:=World.block_lt_of_cell? _ _ x0
  exact⟨(World.cell?_of_block (hb.block bb hlt)).trans x1,(World.cell?_of_block (hb.block bb hlt)).trans x2,(World.cell?_of_block (hb.block bb hlt)).trans x3⟩⟩
 go_enter Tryz.func53,Tryz.ntmps53
 go_upto_region 4 with(fail)
 generalize w.alloc (.cells #[.slice A2 4 (c - 8),.int .i64 0] 135)=w1 at *
 clear x0 x1 x2 x3
 go_wp2_with fail
 refine CD.out.mono ?_
 rintro x w2 ⟨rfl,-,b2⟩
 have hw1:w.heap.size≤w1.heap.size:=B1.out.size
 have B2:=ae.mk (B1.out.trans (b2.below (B:=w.heap.size) hw1 (by simp)))
 clear b2 CD B1 hs2
 by_cases h6:nN b≤60000
 rotate_left
 ·have h6':(60000:Int) < nN b:=by omega
  have PF:=ae.mk (PE1.out (fun k=>by have:=HPK.out.1 k;omega) w2 B2.out)
  clear h6
  go_wp2
  (try simp only[Exit.inBlock,Exit.then])
  refine bodyPost_ret (aH rfl _ _ _) rfl ?_
  exact PF.out
 have h6':((60000:Int) < nN b)=False:=eq_false (by omega)
 by_cases h7:n=44+nN b
 rotate_left
 ·have h7b:((n:Int) == 44+(nN b:Int))=false:=by
   have:¬ (n:Int)=44+(nN b:Int):=by omega
   simpa using this
  have PF:=ae.mk (PE1.out (fun k=>by have:=HPK.out.1 k;omega) w2 B2.out)
  clear h7 h6
  go_wp2
  (try simp only[Exit.inBlock,Exit.then])
  refine bodyPost_ret (aH rfl _ _ _) rfl ?_
  exact PF.out
 have h7b:((n:Int) == 44+(nN b:Int))=true:=by
  have:(n:Int)=44+(nN b:Int):=by omega
  simpa using this
 have PF:=ae.mk (PE2.out (HPK.out.2 (by omega)))
 obtain⟨x1,x2,x3⟩:=X.out w2 B2.out
 clear h7 h6 h0 h44
 go_upto_region 7 with(fail)
 go_quiet (fail)
 go_wp2
 (try simp only[Exit.inBlock,Exit.then])
 refine bodyPost_ret (aH rfl _ _ _) rfl ?_
 exact PF.out _ (below_drewN B2.out _)
end Seal
end Go.Proofs.YtlkeieoecfkkeaaGreat
