/-
 The law GateAnswers, walked.
-/
import Derived.Test.YtlkeieoecfkkeaaGreatPart49
import Derived.Test.YtlkeieoecfkkeaaGreatPart40
import Derived.Test.YtlkeieoecfkkeaaGreatPart50
import Derived.Test.YtlkeieoecfkkeaaGreatPart51
import Derived.Test.YtlkeieoecfkkeaaGreatPart52
import Derived.Test.YtlkeieoecfkkeaaGreatPart12
import Derived.Test.YtlkeieoecfkkeaaGreatPart7
set_option maxRecDepth 100000
set_option maxHeartbeats 4000000
namespace Go.Proofs.YtlkeieoecfkkeaaGreat
namespace Gate
open Go.RowKit Num Sha Purse Escrow Wire Mac Seal Vault Meter Disk Go.Proofs.YtlkeieoecfkkeaaGreat.Frame Req Ledger
theorem xx {p wh:Int}{s:Nat}{seed out:List Int}(hm:mayN (askN p wh s)):mayN (rG wh seed (askN p wh s) out)∧(rG wh seed (askN p wh s) out).body.length=out.length+32:=by
 refine⟨⟨⟨hm.1.1,hm.1.2.1,hm.1.2.2.1,.inr rfl⟩,hm.2⟩,?_⟩
 show (out++rcpV (stampV seed wh) p wh (s:Int).toNat out).length=_
 rw[List.length_append,show (rcpV (stampV seed wh) p wh (s:Int).toNat out).length=32 from dG _ _]
theorem Oy (c:Int):(bytesA ⟨c,0,[],[]⟩).length≤100:=by
 unfold bytesA
 simp[aJ]
theorem Tv (A:Option Addr) (na ca:Nat) (seed:List Int) (wh p o:Int) (w:World) (hra:Rd w A na seed) :
  Calls Tryz.prog 5 #[.slice A na ca,.int .i64 wh,.int .i64 p,.int .i64 o] w fun e w'=>e=.returned (.bool true)∧Below w.heap.size w w':=by
 have RA:=ae.mk hra
 clear hra
 go_enter Tryz.func5,Tryz.ntmps5
 go_wp2_with fail
 refine(bI _).mono ?_
 rintro e w1 ⟨rfl,bb⟩
 have B:=ae.mk bb
 clear bb
 go_upto_region 3 with(fail)
 by_cases g0:(200:Int) < na
 ·go_wp2_with fail
  refine(bI _).mono ?_
  rintro e w9 ⟨rfl,bb⟩
  replace B:=ae.mk (B.out.trans (bb.mono B.out.size))
  clear bb
  go_wp2
  go_ret
  exact⟨rfl,B.out⟩
 by_cases g1:wh < 0
 ·have g0':((200:Int) < na)=False:=eq_false g0
  clear g0
  go_wp2_with fail
  refine(bI _).mono ?_
  rintro e w9 ⟨rfl,bb⟩
  replace B:=ae.mk (B.out.trans (bb.mono B.out.size))
  clear bb
  go_wp2
  go_ret
  exact⟨rfl,B.out⟩
 by_cases g2:1 < wh
 ·have g0':((200:Int) < na)=False:=eq_false g0
  have g1':(wh < 0)=False:=eq_false g1
  clear g0 g1
  go_wp2_with fail
  refine(bI _).mono ?_
  rintro e w9 ⟨rfl,bb⟩
  replace B:=ae.mk (B.out.trans (bb.mono B.out.size))
  clear bb
  go_wp2
  go_ret
  exact⟨rfl,B.out⟩
 by_cases g3:p < 0
 ·have g0':((200:Int) < na)=False:=eq_false g0
  have g1':(wh < 0)=False:=eq_false g1
  have g2':(1 < wh)=False:=eq_false g2
  clear g0 g1 g2
  go_wp2_with fail
  refine(bI _).mono ?_
  rintro e w9 ⟨rfl,bb⟩
  replace B:=ae.mk (B.out.trans (bb.mono B.out.size))
  clear bb
  go_wp2
  go_ret
  exact⟨rfl,B.out⟩
 by_cases g4:2 < p
 ·have g0':((200:Int) < na)=False:=eq_false g0
  have g1':(wh < 0)=False:=eq_false g1
  have g2':(1 < wh)=False:=eq_false g2
  have g3':(p < 0)=False:=eq_false g3
  clear g0 g1 g2 g3
  go_wp2_with fail
  refine(bI _).mono ?_
  rintro e w9 ⟨rfl,bb⟩
  replace B:=ae.mk (B.out.trans (bb.mono B.out.size))
  clear bb
  go_wp2
  go_ret
  exact⟨rfl,B.out⟩
 by_cases g5:o < 0
 ·have g0':((200:Int) < na)=False:=eq_false g0
  have g1':(wh < 0)=False:=eq_false g1
  have g2':(1 < wh)=False:=eq_false g2
  have g3':(p < 0)=False:=eq_false g3
  have g4':(2 < p)=False:=eq_false g4
  clear g0 g1 g2 g3 g4
  go_wp2_with fail
  refine(bI _).mono ?_
  rintro e w9 ⟨rfl,bb⟩
  replace B:=ae.mk (B.out.trans (bb.mono B.out.size))
  clear bb
  go_wp2
  go_ret
  exact⟨rfl,B.out⟩
 by_cases g6:20 < o
 ·have g0':((200:Int) < na)=False:=eq_false g0
  have g1':(wh < 0)=False:=eq_false g1
  have g2':(1 < wh)=False:=eq_false g2
  have g3':(p < 0)=False:=eq_false g3
  have g4':(2 < p)=False:=eq_false g4
  have g5':(o < 0)=False:=eq_false g5
  clear g0 g1 g2 g3 g4 g5
  go_wp2_with fail
  refine(bI _).mono ?_
  rintro e w9 ⟨rfl,bb⟩
  replace B:=ae.mk (B.out.trans (bb.mono B.out.size))
  clear bb
  go_wp2
  go_ret
  exact⟨rfl,B.out⟩
 obtain⟨pn,rfl⟩:∃ n:Nat,p=n:=⟨p.toNat,by omega⟩
 obtain⟨Q,rfl⟩:∃ n:Nat,o=n:=⟨o.toNat,by omega⟩
 have g0':((200:Int) < na)=False:=eq_false g0
 have g1':(wh < 0)=False:=eq_false g1
 have g2':(1 < wh)=False:=eq_false g2
 have g3':((pn:Int) < 0)=False:=eq_false g3
 have g4':(2 < (pn:Int))=False:=eq_false g4
 have g5':((Q:Int) < 0)=False:=eq_false g5
 have g6':(20 < (Q:Int))=False:=eq_false g6
 have HN:ae (na≤200):=⟨by omega⟩
 have HR:ae ((wh=0∨wh=1)∧pn < 3∧Q≤20):=⟨by omega⟩
 clear g0 g1 g2 g3 g4 g5 g6
 go_wp2_with fail
 refine(EQ w1).mono ?_
 rintro e w2 ⟨t,rfl,ht,bb,htw⟩
 have HT:=ae.mk ht
 have TW:ae (w.heap.size≤t):=⟨by have:=B.out.size;omega⟩
 replace B:=ae.mk (B.out.trans (bb.mono B.out.size))
 clear ht bb htw
 obtain⟨N,hN⟩:∃ N,w2.heap.size=N:=⟨_,rfl⟩
 have e1:jf w2=((((w2.alloc (.cells #[.int .i64 5] 3)).alloc (.cells #[.int .i64 5] 3)).alloc (.cells #[.int .i64 5] 3)).alloc (.cells #[.slice (some ⟨N,0,none⟩) 1 1,.slice (some ⟨N+1,0,none⟩) 1 1,.slice (some ⟨N+1+1,0,none⟩) 1 1] 38)):=by unfold jf;rw[hN]
 have hr:Rwi ((((w2.alloc (.cells #[.int .i64 5] 3)).alloc (.cells #[.int .i64 5] 3)).alloc (.cells #[.int .i64 5] 3)).alloc (.cells #[.slice (some ⟨N,0,none⟩) 1 1,.slice (some ⟨N+1,0,none⟩) 1 1,.slice (some ⟨N+1+1,0,none⟩) 1 1] 38)) (some ⟨N+1+1+1,0,none⟩) 3 fives:=by have:=zL w2;rw[e1,hN] at this;exact this
 have b1:Below w2.heap.size w2 ((((w2.alloc (.cells #[.int .i64 5] 3)).alloc (.cells #[.int .i64 5] 3)).alloc (.cells #[.int .i64 5] 3)).alloc (.cells #[.slice (some ⟨N,0,none⟩) 1 1,.slice (some ⟨N+1,0,none⟩) 1 1,.slice (some ⟨N+1+1,0,none⟩) 1 1] 38)):=by have:=wP w2;rw[e1] at this;exact this
 have hs1:((((w2.alloc (.cells #[.int .i64 5] 3)).alloc (.cells #[.int .i64 5] 3)).alloc (.cells #[.int .i64 5] 3)).alloc (.cells #[.slice (some ⟨N,0,none⟩) 1 1,.slice (some ⟨N+1,0,none⟩) 1 1,.slice (some ⟨N+1+1,0,none⟩) 1 1] 38)).heap.size=N+1+1+1+1:=by have:=zK w2;rw[e1,hN] at this;exact this
 have R:=ae.mk hr
 replace B:=ae.mk (B.out.trans (b1.mono B.out.size));replace HT:=ae.mk (HT.out.below b1 HT.out.lt)
 clear e1 hr b1
 go_upto_region 7 with(fail)
 generalize ((((w2.alloc (.cells #[.int .i64 5] 3)).alloc (.cells #[.int .i64 5] 3)).alloc (.cells #[.int .i64 5] 3)).alloc (.cells #[.slice (some ⟨N,0,none⟩) 1 1,.slice (some ⟨N+1,0,none⟩) 1 1,.slice (some ⟨N+1+1,0,none⟩) 1 1] 38))=w3 at *
 have bb:Below w3.heap.size w3 (w3.alloc (.cells #[.slice (some ⟨N+1+1+1,0,none⟩) 3 3,.int .i64 4] 41)):=(Below.refl _ _).alloc (Nat.le_refl _) _
 have X:=ae.mk (Blk.new_at w3 41 #[.slice (some ⟨N+1+1+1,0,none⟩) 3 3,.int .i64 4] (N+1+1+1+1) hs1.symm)
 replace R:=ae.mk (R.out.below bb);replace B:=ae.mk (B.out.trans (bb.mono B.out.size));replace HT:=ae.mk (HT.out.below bb HT.out.lt)
 clear bb hs1
 generalize w3.alloc (.cells #[.slice (some ⟨N+1+1+1,0,none⟩) 3 3,.int .i64 4] 41)=w4 at *
 have x0:=X.out.cell 0;have x1:=X.out.cell 1
 have HC:=ae.mk (ER (k:=3) (by omega) (by omega))
 have HNE:ae (needV 3 fives 4=138):=⟨(Ij (k:=3) (by omega) (by omega)).trans (by decide)⟩
 have KN:=ql (c:=3) (cap:=4) R.out
 rw[HNE.out] at KN
 replace KN:=ae.mk KN
 go_wp2_with fail
 refine KN.out.mono ?_
 rintro e w5 ⟨rfl,bb⟩
 replace R:=ae.mk (R.out.below bb);replace X:=ae.mk (X.out.below bb X.out.lt);replace B:=ae.mk (B.out.trans (bb.mono B.out.size));replace HT:=ae.mk (HT.out.below bb HT.out.lt)
 clear KN bb x0 x1
 have KD:=Ji w5 138 (by omega) (by omega)
 unfold oM at KD
 replace KD:=ae.mk KD
 go_wp2_with fail
 refine KD.out.mono ?_
 rintro e w6 ⟨d,F,rfl,dk,fp⟩
 have bb:Below w5.heap.size w5 w6:=fp.below (by simp) (Nat.le_refl _)
 have SD:ae (Journal.Sd w6 (t :: F) t d 138 (newD 138)):=⟨F,HT.out.below bb HT.out.lt,dk,fun hm=>by
  rcases fp.2 t hm with e|e
  ·simp at e
  ·have:=HT.out.lt;omega,rfl⟩
 have HH:ae (∀ z∈t :: F,w.heap.size≤z):=⟨fun z hz=>by
  have:=B.out.size
  have:=TW.out
  rcases List.mem_cons.1 hz with e|e
  ·omega
  ·rcases fp.2 z e with e|e
   ·simp at e
   ·omega⟩
 replace R:=ae.mk (R.out.below bb);replace X:=ae.mk (X.out.below bb X.out.lt);replace B:=ae.mk (B.out.trans (bb.mono B.out.size))
 clear KD dk fp bb HT TW
 go_wp2_with fail
 refine(xh w6).mono ?_
 rintro e w7 ⟨mb,rfl,⟨-,r,hr6,mblk,rblk⟩,hm6,bb⟩
 replace HH:ae (∀ z∈t :: F,w.heap.size≤z∧z∉[mb,r]):=⟨fun z hz=>⟨HH.out z hz,fun hm=>by
  have h1:z < w6.heap.size:=by
   obtain⟨F2,h2,h3,-,h4⟩:=SD.out
   injection h4 with h5 h6
   subst h6
   rcases List.mem_cons.1 hz with e|e
   ·rw[e];exact h2.lt
   ·exact h3.lts z e
  simp at hm;omega⟩⟩
 replace SD:ae (Journal.Sd w7 (t :: F) t d 138 (newD 138)):=⟨by
  obtain⟨F2,h2,h3,h4,h5⟩:=SD.out
  exact⟨F2,h2.below bb h2.lt,h3.keep (barOf bb []) (fun _ _=>by simp),h4,h5⟩⟩
 have BM:ae (w.heap.size≤mb):=⟨by have:=B.out.size;omega⟩
 replace R:=ae.mk (R.out.below bb);replace X:=ae.mk (X.out.below bb X.out.lt);replace B:=ae.mk (B.out.trans (bb.mono B.out.size))
 have MB:=ae.mk mblk;have RB:=ae.mk rblk
 have HZ:ae (∀ z∈[mb,r],z < w7.heap.size):=⟨fun z hz=>by have:=mblk.lt;have:=rblk.lt;simp at hz;omega⟩
 clear bb mblk rblk hr6 hm6
 clear g0' g1' g2' g3' g4' g5' g6'
 have x0:=X.out.cell 0;have x1:=X.out.cell 1
 have KL:=IV (c:=3) 4 R.out
 unfold Dz at KL
 replace KL:=ae.mk KL
 go_wp2_with fail
 refine KL.out.mono ?_
 rintro e w8 (⟨hn,-,-⟩|⟨-,y,F9,rfl,dk,bb,hF9⟩)
 ·exact absurd HC.out hn
 obtain⟨bk0,hyF⟩:=Xr dk rfl rfl
 have hy:=hF9 y hyF
 have RY:ae (r < y∧mb < y):=⟨by have:=RB.out.lt;have:=MB.out.lt;omega⟩
 have LB:=ae.mk bk0
 have BY:ae (w.heap.size≤y):=⟨by have:=B.out.size;omega⟩
 replace HH:ae (∀ z∈t :: F,w.heap.size≤z∧z∉[mb,r,y]):=⟨fun z hz=>⟨(HH.out z hz).1,fun hm=>by
  have h1:z < w7.heap.size:=by
   obtain⟨F2,h2,h3,-,h4⟩:=SD.out
   injection h4 with h5 h6
   subst h6
   rcases List.mem_cons.1 hz with e|e
   ·rw[e];exact h2.lt
   ·exact h3.lts z e
  have h2:=(HH.out z hz).2
  simp at hm h2;omega⟩⟩
 replace SD:ae (Journal.Sd w8 (t :: F) t d 138 (newD 138)):=⟨by
  obtain⟨F2,h2,h3,h4,h5⟩:=SD.out
  exact⟨F2,h2.below bb h2.lt,h3.keep (barOf bb []) (fun _ _=>by simp),h4,h5⟩⟩
 replace R:=ae.mk (R.out.below bb);replace X:=ae.mk (X.out.below bb X.out.lt);replace B:=ae.mk (B.out.trans (bb.mono B.out.size))
 replace MB:=ae.mk (MB.out.below bb MB.out.lt);replace RB:=ae.mk (RB.out.below bb RB.out.lt)
 replace HZ:ae (∀ z∈[mb,r,y],z < w8.heap.size):=⟨fun z hz=>by
  have h1:=LB.out;have h2:=Xq h1;have h3:=RY.out
  simp at hz;omega⟩
 clear KL dk bb hF9 bk0 hyF hy x0 x1
 have hj:=zH (n:=138) (by omega) (by omega)
 have KO:=Nh (c:=3) (K:=[mb,r,y]) SD.out HH.out HZ.out B.out.size R.out HC.out (by rw[HNE.out];omega) (by rw[hj];rfl) (by rw[hj];rfl)
 rw[hj] at KO
 unfold Dc at KO
 obtain⟨w1',w2',w3'⟩:=Tm (n:=138) HC.out
 have HPL:=ae.mk (Xn (n:=138) HC.out (by rw[HNE.out];omega) (by omega))
 have HNIL:=ae.mk (Vd 3 fives 4 3)
 have HT0:ae (∀ i,(tAt (newV (Ledger.newL 3 fives 4) 3) i).seq=0):=⟨fun i=>by rw[Nc];rfl⟩
 have HTL:ae ((newV (Ledger.newL 3 fives 4) 3).t.length=3):=⟨by simp[newV]⟩
 obtain⟨m0,hm0⟩:∃ m0,(⟨newD 138,Journal.noJ,newV (Ledger.newL 3 fives 4) 3,false,0⟩:MV)=m0:=⟨_,rfl⟩
 have HSV:ae (m0.served=0):=⟨by rw[← hm0]⟩
 have HV0:ae (newV (Ledger.newL 3 fives 4) 3=m0.v):=⟨by rw[← hm0]⟩
 rw[hm0] at KO HPL w1' w2' w3'
 rw[HV0.out] at HNIL HT0 HTL
 replace KO:=ae.mk KO
 have HCK:ae (m0.v.l.clock=0):=⟨by rw[← hm0];rfl⟩
 have WW:=ae.mk (And.intro w1' w2');have WN:=ae.mk w3'
 clear hj SD HH w1' w2' w3' R HC HNE hm0 HV0
 have x0:=X.out.cell 0;have x1:=X.out.cell 1
 go_wp2_with fail
 refine KO.out.mono ?_
 rintro e w9 ⟨x,rfl,v,far⟩
 have V:=ae.mk v
 have hs6:=bH far
 replace MB:=ae.mk (far.blk MB.out (.inl (by simp)));replace RB:=ae.mk (far.blk RB.out (.inl (by simp)))
 replace HZ:ae (∀ z∈[mb,r,y],z < w9.heap.size):=⟨fun z hz=>by have:=HZ.out z hz;omega⟩
 replace LB:=ae.mk (Tn LB.out far (by simp))
 replace B:=ae.mk (B.out.trans (far.below B.out.size))
 clear KO v far X x0 x1 hs6
 have KG:=ae.mk (uA (cb:=ca) (which:=wh) V.out HZ.out WW.out.1 WW.out.2 (by rw[WN.out];omega) rfl MB.out RB.out (by simp) (by simp) BM.out (RA.out.below B.out) (by have:=HN.out;omega))
 unfold zU at KG
 clear V MB RB WW
 go_wp2_with fail
 refine KG.out.mono ?_
 rintro e w10 ⟨g,F1,A9,l9,c9,rfl,hF1,gp,far,hin,hg⟩
 have hs7:=bH far
 have GZ:Gd w.heap.size (F1++[mb,r,y]) w10 ⟨g,t,x,d,138,mb,m0.v.l.b.p.np,wh,seed⟩ m0 (List.replicate 8 0) [y]:=⟨⟨A9,l9,c9,r,gp,by have:=RY.out;simp only[List.mem_singleton];omega,NI (D:=[y]) (w:=w9) (fun z hz=>by rw[List.mem_singleton] at hz;exact HZ.out z (by simp[hz])) (fun z hz=>(hF1 z hz).1) hin,by
   have h1:=(hF1 g hg).1;have h2:=HZ.out y (by simp)
   show g∉[y]
   simp only[List.mem_singleton];omega,by
   have:=RY.out
   show mb∉[y]
   simp only[List.mem_singleton];omega⟩,fun z hz=>by
  rcases List.mem_append.1 hz with e|e
  ·exact(hF1 z e).2
  ·have:=HZ.out z e;omega,fun z hz=>List.mem_append_right _ (by rw[List.mem_singleton] at hz;simp[hz])⟩
 replace LB:=ae.mk (Tn LB.out far (by simp))
 replace B:=ae.mk (B.out.trans (far.below B.out.size))
 obtain⟨Z,hZ⟩:∃ Z,F1++[mb,r,y]=Z:=⟨_,rfl⟩
 rw[hZ] at GZ
 obtain⟨G,hG⟩:∃ G,(⟨g,t,x,d,138,mb,m0.v.l.b.p.np,wh,seed⟩:GS)=G:=⟨_,rfl⟩
 rw[hG] at GZ
 have HG:ae (G.g=g∧G.x=x∧G.mb=mb∧G.k=3∧G.which=wh∧G.seed=seed∧G.n=138):=⟨by rw[← hG];exact⟨rfl,rfl,rfl,WN.out,rfl,rfl,rfl⟩⟩
 obtain rfl:G.g=g:=HG.out.1
 obtain rfl:G.x=x:=HG.out.2.1
 obtain rfl:G.mb=mb:=HG.out.2.2.1
 replace HG:=ae.mk HG.out.2.2.2
 have H:=ae.mk GZ
 clear KG gp hin hg far hF1 hs7 GZ hZ hG HZ WN BM
 have YM:ae (y≠G.mb):=⟨by have:=RY.out;omega⟩
 have HA:ae (Ai w.heap.size Z w10 G (Ledger.newL 3 fives 4) 138 pn y m0 0 (two4 0) 0):=⟨⟨H.out,LB.out,HPL.out,HNIL.out,HTL.out,HT0.out pn,HSV.out,HCK.out⟩⟩
 clear H LB HPL HNIL HTL HT0 HSV HCK RY
 go_wp2
 go_loopw [19] (fun i wr=>∃ (j:Nat) (Z':List Nat) (m:MV) (clk:Int),j≤Q∧i=.int .i64 j∧ae (Ai w.heap.size Z' wr G (Ledger.newL 3 fives 4) 138 pn y m clk (two4 j) j)∧ae (Below w.heap.size w wr)) (fun i _=>Q - (Go.RowKit.intOf i).toNat)
 case atStart=>exact⟨0,Z,m0,0,by omega,rfl,HA,B⟩
 case round =>
  clear HA B
  obtain⟨j,Z1,m,clk,hj,rfl,HA,B⟩:=hrel
  by_cases hjq:j < Q
  ·have hj20:j < 20:=by have:=HR.out;omega
   obtain⟨m1,hh1,hh2,hp1,hn1,hl1,hs1,hv1,hc1,htk⟩:=HA.out.next hj20 HR.out.2.1
   obtain⟨s,hs⟩:∃ s:Nat,j+1=s:=⟨_,rfl⟩
   rw[hs] at hh1 hh2 hp1 hs1 hv1
   obtain⟨k1,hk1⟩:∃ k1,tickTo clk (3 * (j:Int))=k1:=⟨_,rfl⟩
   rw[hk1] at hh1 hh2 hc1 htk
   have HPL:ae (Pl (Ledger.newL 3 fives 4) 138 m ((52 - j)+1)):=⟨by have:=HA.out.pl;rw[show 53 - j=52 - j+1 by omega] at this;exact this⟩
   have HPL1:ae (Pl (Ledger.newL 3 fives 4) 138 m1 ((52 - s)+1)):=⟨by have h:=hp1;rw[show 53 - s=52 - s+1 by omega] at h;exact h⟩
   have H:=ae.mk HA.out.gd;have LB:=ae.mk HA.out.bk;have HNIL:=ae.mk HA.out.nil
   have HSV:ae ((0≤m.served∧m.served≤1000000)∧0≤m1.served∧m1.served≤1000000):=⟨by have:=HA.out.srv;omega⟩
   have C4:ae (zF (zF (two4 j) 4) 4=two4 s):=⟨by rw[← hs];exact NL j hj20⟩
   have PL0:=Oy k1
   obtain⟨out,hout⟩:∃ out,bytesA ⟨k1,0,[],[]⟩=out:=⟨_,rfl⟩
   have HOUT:=ae.mk hout
   rw[hout] at hh1 hh2 PL0
   have PL:=ae.mk PL0
   have HH1:=ae.mk hh1;have HH2:=ae.mk hh2
   have NX:ae (Pl (Ledger.newL 3 fives 4) 138 m1 (53 - s)∧Nil m1.v∧m1.v.t.length=3∧(tAt m1.v pn).seq=s∧m1.served=s∧m1.v.l.clock=k1):=⟨⟨hp1,hn1,hl1,hs1,hv1,hc1⟩⟩
   have HTK:=ae.mk htk;have HK1:=ae.mk hk1
   have HM:ae (mayN (askN pn wh s)):=⟨Vl (by have:=HR.out;omega) HR.out.1 (by omega)⟩
   have SJ:ae (s=j+1∧s≤Q):=⟨by omega⟩
   have hsI:(j:Int)+1=s:=by omega
   have hj20':(j:Int)≤20:=by omega
   have hjq':(j:Int) < Q:=by omega
   clear hh1 hh2 hp1 hn1 hl1 hs1 hv1 hc1 htk hk1 hs hout HA hj20 hjq PL0
   go_wp2_with fail
   refine(zY (c:=ca) pn wh (RA.out.below B.out) (by have:=HN.out;omega)).mono ?_
   rintro e w11 ⟨M,cM,rfl,-,h1,h2,r1,bb⟩
   replace H:=ae.mk (H.out.below bb);replace LB:=ae.mk (iJ LB.out bb);replace B:=ae.mk (B.out.trans (bb.mono B.out.size))
   have RK:ae (Rd w11 (some ⟨M,0,none⟩) 32 (keyV seed pn wh)):=⟨r1⟩
   clear bb r1 h1 h2
   obtain⟨Bd,hBd⟩:∃ Bd,w11.heap.size=Bd:=⟨_,rfl⟩
   have bb:Below w11.heap.size w11 (w11.alloc (.cells #[.int .u8 0,.int .u8 0,.int .u8 0] 5)):=(Below.refl _ _).alloc (Nat.le_refl _) _
   have RBD:ae (Rd (w11.alloc (.cells #[.int .u8 0,.int .u8 0,.int .u8 0] 5)) (some ⟨Bd,0,none⟩) 3 [0,0,0]):=⟨Rd.blk (T:=5) (xs:=[0,0,0]) (Blk.new_at _ _ _ Bd hBd.symm) (by intro z hz;simp at hz;omega) rfl⟩
   replace H:=ae.mk (H.out.below bb);replace LB:=ae.mk (iJ LB.out bb);replace B:=ae.mk (B.out.trans (bb.mono B.out.size));replace RK:=ae.mk (RK.out.below bb)
   clear bb
   go_wp2_with fail
   clear hBd
   generalize (w11.alloc (.cells #[.int .u8 0,.int .u8 0,.int .u8 0] 5))=w12 at *
   have KS:=NT (some ⟨M,0,none⟩) 32 cM (keyV seed pn wh) (askN pn wh s) (some ⟨Bd,0,none⟩) 3 3 w12 RK.out (by omega) RBD.out (by omega)
   rw[Rf _ HM.out] at KS
   unfold jF at KS
   replace KS:=ae.mk KS
   refine KS.out.mono ?_
   rintro e w13 ⟨An,ln,cn,rfl,hl,hm,rd,bb,nw⟩
   obtain⟨Z2,hs2,gd,rw2⟩:=H.out.row bb rd nw
   replace H:=ae.mk gd;replace LB:=ae.mk (iJ LB.out bb);replace B:=ae.mk (B.out.trans (bb.mono B.out.size))
   have Rn:=ae.mk rw2;have Ln:ae (ln≤cn∧cn≤9223372036854775807∧ln=47):=⟨hl,hm,by rw[← rd.1];exact Vm _ _ _ _⟩
   clear KS bb rd nw hl hm gd rw2 hs2 RK RBD
   have KT:=NJ (3 * (j:Int)) HG.out H.out HPL.out HNIL.out HSV.out.1 Rn.out Ln.out HM.out (by have:=HR.out;omega) HH1.out (by have:=PL.out;omega)
   unfold rJ at KT
   replace KT:=ae.mk KT
   go_wp2_with fail
   refine KT.out.mono ?_
   rintro e w14 ⟨Aa,la,ca2,Z3,rfl,hl,hm,hs3,gd,rra,offa,tar,-⟩
   replace LB:=ae.mk (Tq LB.out tar (H.out.sub y (by simp)) YM.out)
   replace Rn:=ae.mk ((Rn.out.tar tar).mono hs3);replace B:=ae.mk (B.out.trans (tar.below B.out.size))
   replace H:=ae.mk gd
   have Ra:=ae.mk rra;have La:=ae.mk (And.intro hl hm);have Oa:=ae.mk offa
   clear KT hl hm hs3 gd rra offa tar
   have KT:=NJ (3 * (j:Int)+1) HG.out H.out HPL1.out NX.out.2.1 HSV.out.2 Rn.out Ln.out HM.out (by have:=HR.out;omega) HH2.out (by have:=PL.out;omega)
   rw[C4.out] at KT
   unfold rJ at KT
   replace KT:=ae.mk KT
   go_wp2_with fail
   refine KT.out.mono ?_
   rintro e w15 ⟨Ab,lb,cb2,Z4,rfl,hl,hm,hs3,gd,rrb,offb,tar,-⟩
   replace LB:=ae.mk (Tq LB.out tar (H.out.sub y (by simp)) YM.out)
   replace Ra:=ae.mk ((Ra.out.tar tar).mono hs3);replace B:=ae.mk (B.out.trans (tar.below B.out.size))
   replace H:=ae.mk gd
   have Rb:=ae.mk rrb;have Ob:=ae.mk offb
   clear KT hl hm hs3 gd rrb offb tar Rn Ln
   have KA:=wV pn (3 * (j:Int)) LB.out
   rw[HK1.out] at KA
   unfold Fb at KA
   replace KA:=ae.mk KA
   go_wp2_with fail
   refine KA.out.mono ?_
   rintro e w16 ⟨D9,d9,rfl,bk1,bar⟩
   have RDa:=ae.mk (Ra.out.rd.far bar Oa.out);have RDb:=ae.mk (Rb.out.rd.far bar Ob.out)
   replace H:=ae.mk (H.out.led (D':=[y]) ⟨bar,fun _ h=>.inl h⟩ (fun z hz=>by rw[List.mem_singleton] at hz;rw[hz];exact Xq bk1))
   replace LB:=ae.mk bk1
   replace B:=ae.mk (B.out.trans (bar.below B.out.size (by simpa using BY.out)))
   clear KA bk1 bar Ra Rb Oa Ob
   have KE:=xO HTK.out (show I16 0 by decide) none 0 D9 d9 w16
   rw[HOUT.out] at KE
   unfold uJ at KE
   replace KE:=ae.mk KE
   go_wp2_with fail
   refine KE.out.mono ?_
   rintro e w17 ⟨Aw,lw,cw,rfl,hl,hm,rd,bb⟩
   replace H:=ae.mk (H.out.below bb);replace LB:=ae.mk (iJ LB.out bb);replace B:=ae.mk (B.out.trans (bb.mono B.out.size));replace RDa:=ae.mk (RDa.out.below bb);replace RDb:=ae.mk (RDb.out.below bb)
   have RDw:=ae.mk rd
   clear KE bb rd hl hm
   go_wp2_with fail
   refine(zY (c:=ca) pn wh (RA.out.below B.out) (by have:=HN.out;omega)).mono ?_
   rintro e w18a ⟨M,cM,rfl,-,h1,h2,r1,bb⟩
   replace H:=ae.mk (H.out.below bb);replace LB:=ae.mk (iJ LB.out bb);replace B:=ae.mk (B.out.trans (bb.mono B.out.size));replace RDa:=ae.mk (RDa.out.below bb);replace RDb:=ae.mk (RDb.out.below bb);replace RDw:=ae.mk (RDw.out.below bb)
   have LA:la=44+(out.length+32):=by
    have h:=RDa.out.1
    rw[jb,(xx HM.out).2] at h
    exact h.symm
   have KO:=zZ (some ⟨M,0,none⟩) 32 cM (keyV seed pn wh) Aa la ca2 _ w18a r1 (by omega) RDa.out La.out.1 La.out.2 (by have:=PL.out;omega)
   rw[zD _ (xx HM.out).1 (by rw[(xx HM.out).2];have:=PL.out;omega)] at KO
   unfold lN rG askN at KO
   dsimp only at KO
   replace KO:=ae.mk KO
   clear bb r1 h1 h2 LA
   go_wp2_with fail
   refine KO.out.mono ?_
   rintro e w18 ⟨At,lt,ct,rfl,hl,hm,rd,bb⟩
   replace H:=ae.mk (H.out.below bb);replace LB:=ae.mk (iJ LB.out bb);replace B:=ae.mk (B.out.trans (bb.mono B.out.size));replace RDa:=ae.mk (RDa.out.below bb);replace RDb:=ae.mk (RDb.out.below bb);replace RDw:=ae.mk (RDw.out.below bb)
   have LT:ae (lt=lw+32):=⟨by rw[← rd.1,List.length_append,← RDw.out.1,show (rcpV (stampV seed wh) (pn:Int) wh (s:Int).toNat out).length=32 from dG _ _]⟩
   clear KO bb
   obtain⟨Tb,hTb⟩:∃ Tb,w18.heap.size=Tb:=⟨_,rfl⟩
   have bb:Below w18.heap.size w18 (w18.alloc (.cells #[.int .i64 pn,.int .i64 wh,.int .i64 1,.int .i64 s,.slice At lt ct] 54)):=(Below.refl _ _).alloc (Nat.le_refl _) _
   have XT:=ae.mk (Blk.new_at w18 54 #[.int .i64 pn,.int .i64 wh,.int .i64 1,.int .i64 s,.slice At lt ct] Tb hTb.symm)
   replace H:=ae.mk (H.out.below bb);replace LB:=ae.mk (iJ LB.out bb);replace B:=ae.mk (B.out.trans (bb.mono B.out.size));replace RDa:=ae.mk (RDa.out.below bb);replace RDb:=ae.mk (RDb.out.below bb);replace RDw:=ae.mk (RDw.out.below bb)
   obtain⟨A1,hsl,r1,-⟩:=rQ (rd.below bb) hl lw (by have:=LT.out;omega) (lw:Int) rfl
   rw[show (out++rcpV (stampV seed wh) (pn:Int) wh (s:Int).toNat out).take lw=out from by rw[← RDw.out.1];exact List.take_left' rfl] at r1
   have R1:=ae.mk r1
   have hne:(lt:Int)=(lw:Int)+32:=by have:=LT.out;omega
   have hlw:(lw:Int)≤100:=by have:=RDw.out.1;have:=PL.out;omega
   clear rd r1 bb LT hl hm La
   go_upto_region 26 with(fail)
   clear hTb
   generalize (w18.alloc (.cells #[.int .i64 pn,.int .i64 wh,.int .i64 1,.int .i64 s,.slice At lt ct] 54))=w19 at *
   have x4:=XT.out.cell 4
   go_wp2_with (first|(go_at_call 10;(with_reducible refine(nM Aa Ab la lb ca2 cb2 _ w19 RDa.out RDb.out).mono ?_);rintro e w' ⟨rfl,rfl⟩)|(go_at_call 10;(with_reducible refine(nM A1 Aw lw lw ct cw out w19 R1.out RDw.out).mono ?_);rintro e w' ⟨rfl,rfl⟩))
   clear hsl hne hlw x4
   go_roundw
   case rel=>exact⟨s,_,m1,k1,SJ.out.2,by first|rfl|go_num,⟨⟨H.out,LB.out,NX.out.1,NX.out.2.1,NX.out.2.2.1,NX.out.2.2.2.1,NX.out.2.2.2.2.1,NX.out.2.2.2.2.2⟩⟩,B⟩
   case measure=>have:=SJ.out;simp[Go.RowKit.intOf];omega
  ·obtain rfl:j=Q:=by omega
   have hjq':((j:Int) < j)=False:=eq_false (by omega)
   have H:=ae.mk HA.out.gd.gz;have HS:=ae.mk HA.out.srv
   clear HA hjq
   go_wp2_with fail
   refine(bI _).mono ?_
   rintro e w11 ⟨rfl,bb⟩
   replace H:=ae.mk (H.out.below bb);replace B:=ae.mk (B.out.trans (bb.mono B.out.size))
   clear bb
   have K1:=ae.mk (Fj H.out 4 (pO j).1);have K2:=ae.mk (Fj H.out 2 (pO j).2.1)
   have K3:=ae.mk (Fj H.out 3 (pO j).2.2.1);have K4:=ae.mk (Fj H.out 5 (pO j).2.2.2)
   have K5:=ae.mk (NP H.out HS.out)
   have hj20':(j:Int)≤20:=by have:=HR.out;omega
   go_wp2_with (first|(go_at_call 27;(with_reducible refine K1.out.mono ?_);rintro e w' ⟨rfl,rfl⟩)|(go_at_call 27;(with_reducible refine K2.out.mono ?_);rintro e w' ⟨rfl,rfl⟩)|(go_at_call 27;(with_reducible refine K3.out.mono ?_);rintro e w' ⟨rfl,rfl⟩)|(go_at_call 27;(with_reducible refine K4.out.mono ?_);rintro e w' ⟨rfl,rfl⟩)|(go_at_call 31;(with_reducible refine K5.out.mono ?_);rintro e w' ⟨rfl,rfl⟩))
   go_ret
   exact⟨rfl,B.out⟩
end Gate
end Go.Proofs.YtlkeieoecfkkeaaGreat
