/-
  Parts laid together: GateKey GateOpen SealSeal GateTell GateTake GateNew GateFirst.
-/
import Derived.Test.YtlkeieoecfkkeaaGreatPart1
import Derived.Test.YtlkeieoecfkkeaaGreatPart43
import Derived.Test.YtlkeieoecfkkeaaGreatPart47
import Derived.Deep.RegionHeld3
import Derived.Test.YtlkeieoecfkkeaaGreatPart48
import Derived.Test.YtlkeieoecfkkeaaGreatPart49
import Derived.Test.YtlkeieoecfkkeaaGreatPart8
import Derived.Test.YtlkeieoecfkkeaaGreatPart36
import Derived.Test.YtlkeieoecfkkeaaGreatPart44
import Derived.Test.YtlkeieoecfkkeaaGreatPart20
import Derived.Lib.SmallJoins
namespace Go.Proofs.YtlkeieoecfkkeaaGreat.Gate
open Go.RowKit Go.Proofs.YtlkeieoecfkkeaaGreat.Sha Go.Proofs.YtlkeieoecfkkeaaGreat.Wire Go.Proofs.YtlkeieoecfkkeaaGreat.Mac Go.Proofs.YtlkeieoecfkkeaaGreat.Seal Go.Proofs.YtlkeieoecfkkeaaGreat.Vault Go.Proofs.YtlkeieoecfkkeaaGreat.Meter
section
variable {b : Nat} {Z : List Nat} {w : World} {G : GS} {A : Option Addr} {l c r : Nat} {m : MV} {cs : List Int}
end
section
variable {b : Nat} {Z : List Nat} {w w2 : World} {G : GS} {A B : Option Addr} {l c r n cb R t : Nat} {m : MV} {cs xs : List Int}
theorem open_no (X:Blk w2 R 54 #[.int .i64 0,.int .i64 0,.int .i64 0,.int .i64 0,.slice none 0 0]) (tt:Tab w2 t) (bb:Bar [t] w w2) (hR:w.heap.size≤R) (ht:t < w.heap.size) (e:Int) :
  OpenPost2 t (zeroN,e) w (.returned (.tuple #[.agg #[.int .i64 0,.int .i64 0,.int .i64 0,.int .i64 0,.slice none 0 0],.int .i64 e])) (((((w2.setCell ⟨R,0,none⟩ (.int .i64 0)).setCell ⟨R,1,none⟩ (.int .i64 0)).setCell ⟨R,2,none⟩ (.int .i64 0)).setCell ⟨R,3,none⟩ (.int .i64 0)).setCell ⟨R,4,none⟩ (.slice none 0 0)):=by
 have P5:=put5 X (.int .i64 0) (.int .i64 0) (.int .i64 0) (.int .i64 0) (.slice none 0 0)
 exact⟨none,0,0,rfl,Nat.le_refl _,by omega,Rd.nil_,tt.bar P5.2 (by rw[List.mem_singleton];omega),bb.trans P5.2 (fun k hk=>.inr (by rw[List.mem_singleton] at hk;omega)),newA_none _⟩
set_option maxRecDepth 100000 in
set_option maxHeartbeats 1000000 in
theorem gopen_form (h:Gp b Z w G A l c r m cs) (hr:Rd w B n xs) (hc:n≤cb) (hn:n≤1000000) (hf:(peekN xs).2.2.2≠0∨(peekN xs).2.1≠G.which∨(peekN xs).2.2.1≠0):Calls Tryz.prog 95 #[.pointer (some ⟨G.g,0,none⟩),.slice B n cb] w (OpenPost2 G.t (zeroN,2) w):=by
 obtain⟨R,hR⟩:∃ R,w.heap.size=R:=⟨_,rfl⟩
 have b0:Below w.heap.size w (w.alloc (.cells #[.int .i64 0,.int .i64 0,.int .i64 0,.int .i64 0,.slice none 0 0] 54)):=(Below.refl _ _).alloc (Nat.le_refl _) _
 have X:=Kept.mk (Blk.new_at w 54 #[.int .i64 0,.int .i64 0,.int .i64 0,.int .i64 0,.slice none 0 0] R hR.symm)
 have H:=Kept.mk (h.below b0);have W0:=Kept.mk b0
 have RX:Kept (w.heap.size≤R∧G.t < w.heap.size):=⟨by omega,h.tabs.lt⟩
 have CP:=cpeek_any B n cb xs _ (hr.below b0) hc hn
 unfold PeekPost at CP
 generalize peekN xs=pk at *
 obtain⟨p,hh,y,e⟩:=pk
 dsimp only at CP hf
 have HF:=Kept.mk hf
 clear hf
 replace CP:=Kept.mk CP
 clear h hr b0
 go_enter Tryz.func95,Tryz.ntmps95
 go_upto_region 1 with(fail)
 clear hR
 generalize w.alloc (.cells #[.int .i64 0,.int .i64 0,.int .i64 0,.int .i64 0,.slice none 0 0] 54)=w1 at *
 go_wp2_with fail
 refine CP.out.mono ?_
 rintro e1 w2 ⟨rfl,bb⟩
 replace H:=Kept.mk (H.out.below bb);replace X:=Kept.mk (X.out.below bb X.out.lt);replace W0:=Kept.mk (W0.out.trans (bb.mono W0.out.size))
 clear CP
 have F5:=Kept.mk (open_no X.out H.out.tabs (barOf W0.out _) RX.out.1 RX.out.2 2)
 have P5:=Kept.mk (put5 X.out (.int .i64 0) (.int .i64 0) (.int .i64 0) (.int .i64 0) (.slice none 0 0))
 have g1:=H.out.c1;have g5:=H.out.c5
 have x0:=X.out.cell 0;have x1:=X.out.cell 1;have x2:=X.out.cell 2;have x3:=X.out.cell 3;have x4:=X.out.cell 4
 have z0:=X.out.frozen 0;have z1:=X.out.frozen 1;have z2:=X.out.frozen 2;have z3:=X.out.frozen 3;have z4:=X.out.frozen 4
 clear bb W0
 by_cases h0:e=0
 ·subst h0
  have h0b:((0:Int) != 0)=false:=rfl
  by_cases h1:hh=G.which
  ·have h1b:(hh != G.which)=false:=by simpa using h1
   have h2b:(y != 0)=true:=by simpa using (HF.out.resolve_left (fun k=>k rfl)).resolve_left (fun k=>k h1)
   clear h1
   go_wp2
   (try simp only[Exit.inBlock,Exit.then])
   refine bodyPost_ret (Seal.results_cell_tmp rfl _ _ R 54 #[.int .i64 0,.int .i64 0,.int .i64 0,.int .i64 0,.slice none 0 0] (0,0) _ rfl P5.out.1 Tryz.underlying54 rfl note_size) rfl ?_
   exact F5.out
  ·have h1b:(hh != G.which)=true:=by simpa using h1
   clear h1
   go_wp2
   (try simp only[Exit.inBlock,Exit.then])
   refine bodyPost_ret (Seal.results_cell_tmp rfl _ _ R 54 #[.int .i64 0,.int .i64 0,.int .i64 0,.int .i64 0,.slice none 0 0] (0,0) _ rfl P5.out.1 Tryz.underlying54 rfl note_size) rfl ?_
   exact F5.out
 ·have h0b:(e != 0)=true:=by simpa using h0
  clear h0
  go_wp2
  (try simp only[Exit.inBlock,Exit.then])
  refine bodyPost_ret (Seal.results_cell_tmp rfl _ _ R 54 #[.int .i64 0,.int .i64 0,.int .i64 0,.int .i64 0,.slice none 0 0] (0,0) _ rfl P5.out.1 Tryz.underlying54 rfl note_size) rfl ?_
  exact F5.out
end
end Go.Proofs.YtlkeieoecfkkeaaGreat.Gate
namespace Go.Proofs.YtlkeieoecfkkeaaGreat.Seal
open Go.RowKit Go.Proofs.YtlkeieoecfkkeaaGreat.Sha Go.Proofs.YtlkeieoecfkkeaaGreat.Wire Go.Proofs.YtlkeieoecfkkeaaGreat.Mac
end Go.Proofs.YtlkeieoecfkkeaaGreat.Seal
namespace Go.Proofs.YtlkeieoecfkkeaaGreat.Gate
open Go.RowKit Go.Proofs.YtlkeieoecfkkeaaGreat.Sha Go.Proofs.YtlkeieoecfkkeaaGreat.Wire Go.Proofs.YtlkeieoecfkkeaaGreat.Mac Go.Proofs.YtlkeieoecfkkeaaGreat.Seal Go.Proofs.YtlkeieoecfkkeaaGreat.Vault Go.Proofs.YtlkeieoecfkkeaaGreat.Meter
section
variable {b : Nat} {Z : List Nat} {w : World} {G : GS} {A A1 B : Option Addr} {l c r na ca nb cb : Nat} {m : MV} {cs ans : List Int} {p y : Int} {s : Nat}
end
def TkPost (b:Nat) (Z:List Nat) (w:World) (G:GS) (m:MV) (cs:List Int) (r:Int × List Int) (cnt:Int) (e:Ending) (w':World):Prop :=
 ∃ A l c F,e=.returned (.tuple #[.slice A l c,.int .i64 cnt,.int .i64 r.1])∧l≤c∧c≤9223372036854775807∧Rd w' A l r.2∧In A l F∧(∀ z∈F,w.heap.size≤z∧z < w'.heap.size)∧GQ b (F++Z) w' G m cs∧Tar b Z G.mb w w'
section
variable {b : Nat} {Z : List Nat} {w : World} {G : GS} {A B : Option Addr} {l c r n cb : Nat} {m m' : MV} {cs xs out : List Int} {N : NV} {oe : Int}
set_option maxRecDepth 100000 in
set_option maxHeartbeats 1000000 in
theorem gtake_no (clock:Int) (h:Gp b Z w G A l c r m cs) (HO:Calls Tryz.prog 95 #[.pointer (some ⟨G.g,0,none⟩),.slice B n cb] w (OpenPost2 G.t (N,oe) w)) (he:oe≠0) :
  Calls Tryz.prog 55 #[.pointer (some ⟨G.g,0,none⟩),.slice B n cb,.int .i64 clock] w (TkPost b Z w G m cs (oe,[]) 2):=by
 have H:=Kept.mk h;have KO:=Kept.mk HO
 have heb:(oe != 0)=true:=by simpa using he
 unfold OpenPost2 at KO
 clear h HO he
 go_enter Tryz.func55,Tryz.ntmps55
 go_wp2_with fail
 refine KO.out.mono ?_
 rintro e w1 ⟨A1,l1,c1,rfl,-,-,-,tt,bb,-⟩
 have T:=Kept.mk (Tar.of (mb:=G.mb) (Far.tab H.out.vq bb))
 replace H:=Kept.mk (H.out.tab bb tt)
 have b2:Below w1.heap.size w1 (w1.alloc (.cells #[.int .i64 N.party,.int .i64 N.which,.int .i64 N.way,.int .i64 N.seq,.slice A1 l1 c1] 54)):=(Below.refl _ _).alloc (Nat.le_refl _) _
 have H2:=Kept.mk (H.out.below b2)
 have T2:=Kept.mk (T.out.trans (Tar.new (K:=Z) b2) (fun z hz=>hz))
 clear KO bb tt b2 H T
 go_wp2
 (try simp only[Exit.inBlock,Exit.then])
 refine bodyPost_ret (results_tmp3 rfl _ _ _) rfl ?_
 exact⟨none,0,0,[],rfl,Nat.le_refl _,by omega,Rd.nil_,.inl rfl,by simp,⟨_,_,_,_,H2.out⟩,T2.out⟩
end
end Go.Proofs.YtlkeieoecfkkeaaGreat.Gate
namespace Go.Proofs.YtlkeieoecfkkeaaGreat.Gate
open Go.RowKit Go.Proofs.YtlkeieoecfkkeaaGreat.Sha Go.Proofs.YtlkeieoecfkkeaaGreat.Wire Go.Proofs.YtlkeieoecfkkeaaGreat.Mac Go.Proofs.YtlkeieoecfkkeaaGreat.Seal Go.Proofs.YtlkeieoecfkkeaaGreat.Vault Go.Proofs.YtlkeieoecfkkeaaGreat.Meter Go.Proofs.YtlkeieoecfkkeaaGreat.Ledger
def TakePost (b:Nat) (Z:List Nat) (w:World) (G:GS) (m:MV) (cs:List Int) (r:Int × List Int) (e:Ending) (w':World):Prop :=
 ∃ A l c F,e=.returned (.tuple #[.slice A l c,.int .i64 r.1])∧l≤c∧c≤9223372036854775807∧Rd w' A l r.2∧In A l F∧(∀ z∈F,w.heap.size≤z∧z < w'.heap.size)∧GQ b (F++Z) w' G m cs∧Tar b Z G.mb w w'
def GNewPost (b:Nat) (Z:List Nat) (w:World) (x t d n mb:Nat) (which:Int) (seed:List Int) (m:MV) (cs:List Int) (e:Ending) (w':World):Prop :=
 ∃ g F,e=.returned (.pointer (some ⟨g,0,none⟩))∧(∀ z∈F,w.heap.size≤z∧z < w'.heap.size)∧GQ b (F++Z) w' ⟨g,t,x,d,n,mb,m.v.l.b.p.np,which,seed⟩ m cs∧Far b Z w w'
section
variable {b : Nat} {Z : List Nat} {w : World} {G : GS} {A B : Option Addr} {l c n cb : Nat} {m m' : MV} {cs : List Int} {r : Int × List Int} {cnt : Int}
set_option maxRecDepth 100000 in
set_option maxHeartbeats 1000000 in
theorem gTake_of (clock:Int) (HT:Calls Tryz.prog 55 #[.pointer (some ⟨G.g,0,none⟩),.slice B n cb,.int .i64 clock] w (TkPost b Z w G m' cs r cnt)) (hc:inK cnt=true) (hmb:G.mb < w.heap.size) :
  Calls Tryz.prog 25 #[.pointer (some ⟨G.g,0,none⟩),.slice B n cb,.int .i64 clock] w (TakePost b Z w G m' (plusC cs cnt) r):=by
 have KT:=Kept.mk HT;have HC:=Kept.mk hc;have HM:=Kept.mk hmb
 unfold TkPost at KT
 clear HT hc hmb
 go_enter Tryz.func25,Tryz.ntmps25
 go_wp2_with fail
 refine KT.out.mono ?_
 rintro e w1 ⟨A1,l1,c1,F,rfl,h1,h2,rd,hin,hF,⟨A,l,c,r0,gp⟩,tar⟩
 have H:=Kept.mk gp;have T:=Kept.mk tar;have RD:=Kept.mk rd;have IN:=Kept.mk hin;have SF:=Kept.mk hF;have LL:=Kept.mk (And.intro h1 h2)
 clear KT rd hin hF h1 h2 tar gp
 have KA:=Kept.mk (add_row G.mb cnt 1 cs w1 H.out.me)
 have g4:=H.out.c4
 unfold AddPost2 AddPost at KA
 go_wp2_with fail
 refine KA.out.mono ?_
 rintro e w2 ⟨⟨rfl,-,bb⟩,mr⟩
 have KM:=Kept.mk (mr HC.out)
 obtain⟨r2,hr2,gp⟩:=H.out.count bb KM.out
 have hs:=T.out.size
 have hb:=bb.size
 have RD2:=Kept.mk (RD.out.far bb (by
  rcases IN.out with e|⟨g,o,e,hg⟩
  ·exact .inl e
  ·exact .inr ⟨g,o,e,fun hm=>by rw[List.mem_singleton] at hm;have:=(SF.out g hg).1;have:=HM.out;omega⟩))
 have IN2:=Kept.mk (IN.out.mono (G':=r2 :: F) (fun z hz=>List.mem_cons_of_mem _ hz))
 have SF2:Kept (∀ z∈r2 :: F,w.heap.size≤z∧z < w2.heap.size):=⟨fun z hz=>by
  rcases List.mem_cons.1 hz with e|e
  ·subst e;exact⟨by omega,gp.rblk.lt⟩
  ·have:=SF.out z e;omega⟩
 have GG:Kept (GQ b ((r2 :: F)++Z) w2 G m' (setC cs cnt (r64 (getC cs cnt+1)))):=⟨⟨_,_,_,_,gp⟩⟩
 have T2:Kept (Tar b Z G.mb w w2):=⟨T.out.trans (K':=Z) (Tar.own bb gp.bm) (fun z hz=>hz)⟩
 clear KA mr KM gp bb hr2 hs hb g4 H RD IN SF T HC HM
 go_wp2
 go_ret2
 exact⟨A1,l1,c1,r2 :: F,rfl,LL.out.1,LL.out.2,RD2.out,IN2.out,SF2.out,GG.out,T2.out⟩
set_option maxRecDepth 100000 in
set_option maxHeartbeats 1000000 in
theorem cgnew_any {x t d n2 mb r0:Nat}{which:Int}{seed:List Int}(V:VQ b Z w x t d n2 m) (hZ:∀ z∈Z,z < w.heap.size) (W:WL m.v.l) (WI_:WI m.v.l) (hk:m.v.l.b.p.np≤100) (h8:cs.length=8) (mblk:Blk w mb 109 #[.pointer (some ⟨r0,0,none⟩)]) (rblk:Blk w r0 112 (arr .i64 cs)) (mK:mb∈Z) (rK:r0∈Z) (bm:b≤mb) (rs:Rd w B l seed) (hl:l≤1000000) :
    Calls Tryz.prog 22 #[.pointer (some ⟨t,0,none⟩),.int .i64 which,.slice B l cb,.pointer (some ⟨x,0,none⟩),.pointer (some ⟨mb,0,none⟩)] w (GNewPost b Z w x t d n2 mb which seed m cs):=by
  have KC:=Kept.mk (clone_any B l cb seed w rs (by omega))
  have BY:=Kept.mk rs.2.1
  have HV:=Kept.mk V;have HZ:=Kept.mk hZ;have HW:=Kept.mk (And.intro W WI_);have HK:=Kept.mk hk;have H8:=Kept.mk h8;have MB:=Kept.mk mblk;have RB:=Kept.mk rblk;have MK:=Kept.mk (And.intro mK rK);have BM:=Kept.mk bm;have HL:=Kept.mk hl
  have ML:=Kept.mk mblk.lt
  unfold Sha.NewRow at KC
  clear V hZ W WI_ hk h8 mblk rblk mK rK bm rs hl
  go_enter Tryz.func22,Tryz.ntmps22
  go_wp2_with fail
  refine KC.out.mono ?_
  rintro e w1 ⟨v,rfl,o,bb⟩
  obtain⟨A1,c1,rfl,hc1,hm1,rd⟩:=own_rd o BY.out
  obtain⟨F,hin,hF⟩:=in_newA rd (own_newA (w0:=w) o (Nat.le_refl _))
  have RD:=Kept.mk rd;have IN:=Kept.mk hin;have SF:=Kept.mk hF;have LL:=Kept.mk (And.intro hc1 hm1)
  replace HV:=Kept.mk ((HV.out.more (K':=F++Z) (fun z hz=>by
    rcases List.mem_append.1 hz with e|e
    · exact .inl (hF z e).1
    · exact .inr e)).below bb)
  have HZ1:Kept (∀ z∈F++Z,z < w1.heap.size):=⟨fun z hz=>by
    rcases List.mem_append.1 hz with e|e
    · exact(hF z e).2
    · have:=HZ.out z e;have:=bb.size;omega⟩
  replace MB:=Kept.mk (MB.out.below bb MB.out.lt);replace RB:=Kept.mk (RB.out.below bb RB.out.lt)
  have FB:=Kept.mk (Far.of (b:=b) (K:=Z) bb)
  have KP:=Kept.mk (parties_any HV.out HZ1.out HW.out.1 HW.out.2 HK.out)
  clear KC o bb rd hin hF hc1 hm1 BY HW HK
  go_wp2_with fail
  refine KP.out.mono ?_
  rintro e w2 ⟨rfl,v2,far⟩
  have hs2:=far_size far
  have hs1:=far_size FB.out
  replace RD:=Kept.mk (far.rd RD.out (IN.out.mono (fun z hz=>List.mem_append_left _ hz)))
  replace MB:=Kept.mk (far.blk MB.out (.inl (List.mem_append_right _ MK.out.1)));replace RB:=Kept.mk (far.blk RB.out (.inl (List.mem_append_right _ MK.out.2)))
  have FR:Kept (Far b Z w w2):=⟨by
    obtain⟨H,k1,k2⟩:=far
    exact FB.out.trans ⟨H,k1,fun z hz=>⟨(k2 z hz).1,fun hm=>(k2 z hz).2 (List.mem_append_right _ hm)⟩⟩⟩
  have HV2:=Kept.mk v2
  obtain⟨g,hg⟩:∃ g,w2.heap.size=g:=⟨_,rfl⟩
  have GB:=Kept.mk (Blk.new_at w2 129 #[.pointer (some ⟨t,0,none⟩),.int .i64 which,.slice A1 l c1,.pointer (some ⟨x,0,none⟩),.pointer (some ⟨mb,0,none⟩),.int .i64 m.v.l.b.p.np] g hg.symm)
  have bb:Below w2.heap.size w2 (w2.alloc (.cells #[.pointer (some ⟨t,0,none⟩),.int .i64 which,.slice A1 l c1,.pointer (some ⟨x,0,none⟩),.pointer (some ⟨mb,0,none⟩),.int .i64 m.v.l.b.p.np] 129)):=(Below.refl _ _).alloc (Nat.le_refl _) _
  have SF2:Kept (∀ z∈g :: F,w.heap.size≤z∧z < (w2.alloc (.cells #[.pointer (some ⟨t,0,none⟩),.int .i64 which,.slice A1 l c1,.pointer (some ⟨x,0,none⟩),.pointer (some ⟨mb,0,none⟩),.int .i64 m.v.l.b.p.np] 129)).heap.size):=⟨fun z hz=>by
    simp only[World.size_alloc]
    rcases List.mem_cons.1 hz with e|e
    · omega
    · have:=SF.out z e;omega⟩
  have GG:Kept (Gp b ((g :: F)++Z) (w2.alloc (.cells #[.pointer (some ⟨t,0,none⟩),.int .i64 which,.slice A1 l c1,.pointer (some ⟨x,0,none⟩),.pointer (some ⟨mb,0,none⟩),.int .i64 m.v.l.b.p.np] 129)) ⟨g,t,x,d,n2,mb,m.v.l.b.p.np,which,seed⟩ A1 l c1 r0 m cs) :=
    ⟨GB.out,RD.out.below bb,⟨LL.out.1,LL.out.2,HL.out⟩,IN.out.mono (fun z hz=>List.mem_append_left _ (List.mem_cons_of_mem _ hz)),by
      rcases IN.out with e|⟨k,o,e,hk⟩
      · exact .inl e
      · exact .inr ⟨k,o,e,fun hm=>by have hm2:k=mb:=List.mem_singleton.1 hm;have:=(SF.out k hk).1;have:=ML.out;omega⟩,H8.out,MB.out.below bb MB.out.lt,RB.out.below bb RB.out.lt,List.mem_append_left _ (List.mem_cons_self ..),List.mem_append_right _ MK.out.1,List.mem_append_right _ MK.out.2,BM.out,
      (HV2.out.more (K':=(g :: F)++Z) (fun z hz=>by
        rcases List.mem_cons.1 hz with e|e
        · exact .inl (by omega)
        · exact .inr e)).below bb⟩
  have FR2:=Kept.mk (FR.out.trans (Far.of bb))
  clear KP v2 far hs2 hs1 RD MB RB FR HV HV2 GB bb SF IN FB HZ1 HZ ML MK BM H8 HL LL
  go_wp2
  go_ret
  exact⟨g,g :: F,rfl,SF2.out,⟨_,_,_,_,GG.out⟩,FR2.out⟩
end
end Go.Proofs.YtlkeieoecfkkeaaGreat.Gate
namespace Go.Proofs.YtlkeieoecfkkeaaGreat.Gate
open Go.RowKit Go.Proofs.YtlkeieoecfkkeaaGreat.Num Go.Proofs.YtlkeieoecfkkeaaGreat.Sha Go.Proofs.YtlkeieoecfkkeaaGreat.Purse Go.Proofs.YtlkeieoecfkkeaaGreat.Escrow Go.Proofs.YtlkeieoecfkkeaaGreat.Wire Go.Proofs.YtlkeieoecfkkeaaGreat.Mac Go.Proofs.YtlkeieoecfkkeaaGreat.Seal Go.Proofs.YtlkeieoecfkkeaaGreat.Vault Go.Proofs.YtlkeieoecfkkeaaGreat.Meter Go.Proofs.YtlkeieoecfkkeaaGreat.Disk Go.Proofs.YtlkeieoecfkkeaaGreat.Frame
theorem nothing_peek:peekN [110,111,116,104,105,110,103]=(0,0,0,2):=by
 unfold peekN
 rw[if_neg]
 rintro ⟨h,-⟩
 exact absurd h (by decide)
theorem new_wl {k:Nat}{X:Nat→List Int}{cap:Int}{n:Nat}(hc:Ledger.confOk k X cap):Ledger.WL (⟨newD n,Journal.noJ,newV (Ledger.newL k X cap) k,false,0⟩:MV).v.l∧Ledger.WI (⟨newD n,Journal.noJ,newV (Ledger.newL k X cap) k,false,0⟩:MV).v.l∧(⟨newD n,Journal.noJ,newV (Ledger.newL k X cap) k,false,0⟩:MV).v.l.b.p.np=k :=
 ⟨Ledger.newL_wl hc,Ledger.newL_wi k X cap,rfl⟩
set_option maxRecDepth 100000 in
set_option maxHeartbeats 2000000 in
theorem gfirst_any (w:World):Calls Tryz.prog 6 #[] w fun e w'=>e=.returned (.bool true)∧Below w.heap.size w w':=by
 have hcn:=need_two (a:=5) (b:=0) (cap:=4) (by decide) (by omega) (by omega)
 have HC:=Kept.mk hcn.1
 have HNE:Kept (needV 2 (twoX 5 0) 4=130):=⟨hcn.2.trans (by decide)⟩
 clear hcn
 go_enter Tryz.func6,Tryz.ntmps6
 go_wp2_with fail
 refine(newt_any w).mono ?_
 rintro e w1 ⟨t,rfl,ht,bb,htw⟩
 have HT:=Kept.mk ht;have B:=Kept.mk bb;have TW:=Kept.mk htw
 clear ht bb htw
 obtain⟨N,hN⟩:∃ N,w1.heap.size=N:=⟨_,rfl⟩
 have e1:twoW w1 5 0=(((w1.alloc (.cells #[.int .i64 5] 3)).alloc (.cells #[.int .i64 0] 3)).alloc (.cells #[.slice (some ⟨N,0,none⟩) 1 1,.slice (some ⟨N+1,0,none⟩) 1 1] 38)):=by unfold twoW;rw[hN]
 have hr:Rwi (((w1.alloc (.cells #[.int .i64 5] 3)).alloc (.cells #[.int .i64 0] 3)).alloc (.cells #[.slice (some ⟨N,0,none⟩) 1 1,.slice (some ⟨N+1,0,none⟩) 1 1] 38)) (some ⟨N+1+1,0,none⟩) 2 (twoX 5 0):=by have:=two_rows w1 5 0;rw[e1,hN] at this;exact this
 have b1:Below w1.heap.size w1 (((w1.alloc (.cells #[.int .i64 5] 3)).alloc (.cells #[.int .i64 0] 3)).alloc (.cells #[.slice (some ⟨N,0,none⟩) 1 1,.slice (some ⟨N+1,0,none⟩) 1 1] 38)):=by have:=twoW_below w1 5 0;rw[e1] at this;exact this
 have hs1:(((w1.alloc (.cells #[.int .i64 5] 3)).alloc (.cells #[.int .i64 0] 3)).alloc (.cells #[.slice (some ⟨N,0,none⟩) 1 1,.slice (some ⟨N+1,0,none⟩) 1 1] 38)).heap.size=N+1+1+1:=by simp[hN]
 have R:=Kept.mk hr
 replace B:=Kept.mk (B.out.trans (b1.mono B.out.size));replace HT:=Kept.mk (HT.out.below b1 HT.out.lt)
 clear e1 hr b1
 go_upto_region 3 with(fail)
 generalize (((w1.alloc (.cells #[.int .i64 5] 3)).alloc (.cells #[.int .i64 0] 3)).alloc (.cells #[.slice (some ⟨N,0,none⟩) 1 1,.slice (some ⟨N+1,0,none⟩) 1 1] 38))=w2 at *
 have bb:Below w2.heap.size w2 (w2.alloc (.cells #[.slice (some ⟨N+1+1,0,none⟩) 2 2,.int .i64 4] 41)):=(Below.refl _ _).alloc (Nat.le_refl _) _
 have X:=Kept.mk (Blk.new_at w2 41 #[.slice (some ⟨N+1+1,0,none⟩) 2 2,.int .i64 4] (N+1+1+1) hs1.symm)
 replace R:=Kept.mk (R.out.below bb);replace B:=Kept.mk (B.out.trans (bb.mono B.out.size));replace HT:=Kept.mk (HT.out.below bb HT.out.lt)
 clear bb hs1
 generalize w2.alloc (.cells #[.slice (some ⟨N+1+1,0,none⟩) 2 2,.int .i64 4] 41)=w3 at *
 have x0:=X.out.cell 0;have x1:=X.out.cell 1
 have KN:=vneed_any (c:=2) (cap:=4) R.out
 rw[HNE.out] at KN
 replace KN:=Kept.mk KN
 go_wp2_with fail
 refine KN.out.mono ?_
 rintro e w4 ⟨rfl,bb⟩
 replace R:=Kept.mk (R.out.below bb);replace X:=Kept.mk (X.out.below bb X.out.lt);replace B:=Kept.mk (B.out.trans (bb.mono B.out.size));replace HT:=Kept.mk (HT.out.below bb HT.out.lt)
 clear KN bb x0 x1
 have KD:=cnew_ok w4 130 (by omega) (by omega)
 unfold CNewPost at KD
 replace KD:=Kept.mk KD
 go_wp2_with fail
 refine KD.out.mono ?_
 rintro e w5 ⟨d,F,rfl,dk,fp⟩
 have bb:Below w4.heap.size w4 w5:=fp.below (by simp) (Nat.le_refl _)
 have SD:Kept (Journal.Sd w5 (t :: F) t d 130 (newD 130)):=⟨F,HT.out.below bb HT.out.lt,dk,fun hm=>by
  rcases fp.2 t hm with e|e
  ·simp at e
  ·have:=HT.out.lt;omega,rfl⟩
 have HH:Kept (∀ z∈t :: F,w.heap.size≤z∧z∉([]:List Nat)):=⟨fun z hz=>by
  have:=B.out.size
  have:=TW.out
  refine⟨?_,by simp⟩
  rcases List.mem_cons.1 hz with e|e
  ·omega
  ·rcases fp.2 z e with e|e
   ·simp at e
   ·omega⟩
 replace R:=Kept.mk (R.out.below bb);replace X:=Kept.mk (X.out.below bb X.out.lt);replace B:=Kept.mk (B.out.trans (bb.mono B.out.size))
 clear KD dk fp bb HT TW
 have hj:=open_newd (n:=130) (by omega) (by omega)
 have KO:=vq_open (c:=2) (K:=[]) SD.out HH.out (by simp) B.out.size R.out HC.out (by rw[HNE.out];omega) (by rw[hj];rfl) (by rw[hj];rfl)
 rw[hj] at KO
 unfold VQOPost at KO
 obtain⟨w1',w2',w3'⟩:=new_wl (n:=130) HC.out
 generalize (⟨newD 130,Journal.noJ,newV (Ledger.newL 2 (twoX 5 0) 4) 2,false,0⟩:MV)=m0 at *
 replace KO:=Kept.mk KO
 have WW:=Kept.mk (And.intro w1' w2');have WN:=Kept.mk w3'
 clear hj SD HH w1' w2' w3' R HC HNE
 have x0:=X.out.cell 0;have x1:=X.out.cell 1
 go_wp2_with fail
 refine KO.out.mono ?_
 rintro e w6 ⟨x,rfl,v,far⟩
 have V:=Kept.mk v
 replace B:=Kept.mk (B.out.trans (far.below B.out.size))
 clear KO v far X x0 x1
 go_wp2_with fail
 refine(newr_any w6).mono ?_
 rintro e w7 ⟨mb,rfl,⟨-,r,hr6,mblk,rblk⟩,hm6,bb⟩
 replace V:=Kept.mk ((V.out.more (K':=[mb,r]) (fun z hz=>by simp at hz;omega)).below bb)
 have BM:Kept (w.heap.size≤mb):=⟨by have:=B.out.size;omega⟩
 replace B:=Kept.mk (B.out.trans (bb.mono B.out.size))
 have MB:=Kept.mk mblk;have RB:=Kept.mk rblk
 have HZ:Kept (∀ z∈[mb,r],z < w7.heap.size):=⟨fun z hz=>by have:=mblk.lt;have:=rblk.lt;simp at hz;omega⟩
 clear bb mblk rblk hr6 hm6
 have hcv:=Lib.run_convert_bytes_const (P:=Tryz.prog) w7 22 5 #[.int .u8 115,.int .u8 101,.int .u8 101,.int .u8 100] 4 4 Tryz.underlying22 Tryz.underlying5
 have bb:Below w7.heap.size w7 (w7.alloc (.cells #[.int .u8 115,.int .u8 101,.int .u8 101,.int .u8 100] 5 (4,5))):=(Below.refl _ _).alloc (Nat.le_refl _) _
 have RS:Kept (Rd (w7.alloc (.cells #[.int .u8 115,.int .u8 101,.int .u8 101,.int .u8 100] 5 (4,5))) (some ⟨w7.heap.size,0,none⟩) 4 [115,101,101,100]):=⟨Rd.made (xs:=[115,101,101,100]) (heap_alloc_new w7 _) (by intro z hz;simp at hz;omega) rfl⟩
 replace V:=Kept.mk (V.out.below bb);replace B:=Kept.mk (B.out.trans (bb.mono B.out.size))
 replace MB:=Kept.mk (MB.out.below bb MB.out.lt);replace RB:=Kept.mk (RB.out.below bb RB.out.lt)
 replace HZ:Kept (∀ z∈[mb,r],z < (w7.alloc (.cells #[.int .u8 115,.int .u8 101,.int .u8 101,.int .u8 100] 5 (4,5))).heap.size):=⟨fun z hz=>by have:=HZ.out z hz;simp only[World.size_alloc];omega⟩
 have KG:=Kept.mk (cgnew_any (cb:=4) (which:=0) V.out HZ.out WW.out.1 WW.out.2 (by rw[WN.out];omega) rfl MB.out RB.out (by simp) (by simp) BM.out RS.out (by omega))
 unfold GNewPost at KG
 clear bb V MB RB WW WN RS
 go_wp2_with fail
 refine KG.out.mono ?_
 rintro e w8 ⟨g,F1,rfl,hF1,gq,far⟩
 clear hcv
 obtain⟨A,l,c,r1,gp⟩:=gq
 generalize hGG:(⟨g,t,x,d,130,mb,m0.v.l.b.p.np,0,[115,101,101,100]⟩:GS)=G at *
 have hG1:G.g=g:=by rw[← hGG]
 have hG2:G.mb=mb:=by rw[← hGG]
 clear hGG
 subst hG1 hG2
 have H:=Kept.mk gp
 replace B:=Kept.mk (B.out.trans (far.below B.out.size))
 clear KG hF1 far gp HZ
 have hcv:=Lib.run_convert_bytes_const (P:=Tryz.prog) w8 22 5 #[.int .u8 110,.int .u8 111,.int .u8 116,.int .u8 104,.int .u8 105,.int .u8 110,.int .u8 103] 7 7 Tryz.underlying22 Tryz.underlying5
 have bb:Below w8.heap.size w8 (w8.alloc (.cells #[.int .u8 110,.int .u8 111,.int .u8 116,.int .u8 104,.int .u8 105,.int .u8 110,.int .u8 103] 5 (7,8))):=(Below.refl _ _).alloc (Nat.le_refl _) _
 have RS:Rd (w8.alloc (.cells #[.int .u8 110,.int .u8 111,.int .u8 116,.int .u8 104,.int .u8 105,.int .u8 110,.int .u8 103] 5 (7,8))) (some ⟨w8.heap.size,0,none⟩) 7 [110,111,116,104,105,110,103]:=Rd.made (xs:=[110,111,116,104,105,110,103]) (heap_alloc_new w8 _) (by intro z hz;simp at hz;omega) rfl
 replace H:=Kept.mk (H.out.below bb);replace B:=Kept.mk (B.out.trans (bb.mono B.out.size))
 have KT:=gTake_of 1 (gtake_no 1 H.out (gopen_form (cb:=7) H.out RS (by omega) (by omega) (.inl (by rw[nothing_peek];decide))) (by decide)) (by decide) H.out.mblk.lt
 unfold TakePost at KT
 replace KT:=Kept.mk KT
 clear bb RS H
 go_wp2_with fail
 refine KT.out.mono ?_
 rintro e w9 ⟨A2,l2,c2,F2,rfl,-,-,-,-,-,⟨A3,l3,c3,r3,gp⟩,tar⟩
 have KM:=Kept.mk (get_any G.mb 2 _ w9 gp.me)
 rw[show getC (plusC (List.replicate 8 0) 2) 2=1 by decide +kernel] at KM
 replace B:=Kept.mk (B.out.trans (tar.below B.out.size))
 clear KT gp tar hcv
 go_wp2_with (go_at_call 27;refine KM.out.mono ?_;rintro e w' ⟨rfl,rfl⟩)
 go_ret
 exact⟨rfl,B.out⟩
end Go.Proofs.YtlkeieoecfkkeaaGreat.Gate
