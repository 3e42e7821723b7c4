/-
 The law GateKeys, walked.
-/
import Derived.Test.YtlkeieoecfkkeaaGreatPart1
import Derived.Test.YtlkeieoecfkkeaaGreatPart49
import Derived.Test.YtlkeieoecfkkeaaGreatPart50
import Derived.Test.YtlkeieoecfkkeaaGreatPart41
import Derived.Test.YtlkeieoecfkkeaaGreatPart51
import Derived.Test.YtlkeieoecfkkeaaGreatPart52
namespace Go.Proofs.YtlkeieoecfkkeaaGreat.Gate
open Go.RowKit Go.Proofs.YtlkeieoecfkkeaaGreat.Num Go.Proofs.YtlkeieoecfkkeaaGreat.Sha Go.Proofs.YtlkeieoecfkkeaaGreat.Purse Go.Proofs.YtlkeieoecfkkeaaGreat.Escrow Go.Proofs.YtlkeieoecfkkeaaGreat.Wire Go.Proofs.YtlkeieoecfkkeaaGreat.Mac Go.Proofs.YtlkeieoecfkkeaaGreat.Seal Go.Proofs.YtlkeieoecfkkeaaGreat.Vault Go.Proofs.YtlkeieoecfkkeaaGreat.Meter Go.Proofs.YtlkeieoecfkkeaaGreat.Disk Go.Proofs.YtlkeieoecfkkeaaGreat.Frame Go.Proofs.YtlkeieoecfkkeaaGreat.Req
theorem poll_len (c:Int):(bytesA ⟨c,0,[],[]⟩).length≤100:=by
 unfold bytesA
 simp[be_len]
set_option maxRecDepth 100000 in
set_option maxHeartbeats 4000000 in
theorem keys_walk (A:Option Addr) (na ca:Nat) (seed:List Int) (wh p o:Int) (w:World) (hra:Rd w A na seed) :
  Calls Tryz.prog 4 #[.slice A na ca,.int .i64 wh,.int .i64 p,.int .i64 o] w fun e w'=>e=.returned (.bool true)∧Below w.heap.size w w':=by
 have RA:=Kept.mk hra
 clear hra
 go_enter Tryz.func4,Tryz.ntmps4
 go_wp2_with fail
 refine(gfirst_any _).mono ?_
 rintro e w1 ⟨rfl,bb⟩
 have B:=Kept.mk bb
 clear bb
 go_wp2_with fail
 refine(alike_any wh p o (RA.out.below B.out)).mono ?_
 rintro e w2 ⟨q,rfl,bb⟩
 replace B:=Kept.mk (B.out.trans (bb.mono B.out.size))
 clear bb
 cases q with
 | true =>
  go_wp2_with fail
  refine(gfirst_any _).mono ?_
  rintro e w9 ⟨rfl,bb⟩
  replace B:=Kept.mk (B.out.trans (bb.mono B.out.size))
  clear bb
  go_wp2
  go_ret
  exact⟨rfl,B.out⟩
 | false =>
  by_cases g0:(200:Int) < na
  ·go_wp2_with fail
   refine(gfirst_any _).mono ?_
   rintro e w9 ⟨rfl,bb⟩
   replace B:=Kept.mk (B.out.trans (bb.mono B.out.size))
   clear bb
   go_wp2
   go_ret
   exact⟨rfl,B.out⟩
  by_cases g1:wh < 0
  ·have g0':((200:Int) < na)=False:=eq_false g0
   clear g0
   go_wp2_with fail
   refine(gfirst_any _).mono ?_
   rintro e w9 ⟨rfl,bb⟩
   replace B:=Kept.mk (B.out.trans (bb.mono B.out.size))
   clear bb
   go_wp2
   go_ret
   exact⟨rfl,B.out⟩
  by_cases g2:1 < wh
  ·have g0':((200:Int) < na)=False:=eq_false g0
   have g1':(wh < 0)=False:=eq_false g1
   clear g0 g1
   go_wp2_with fail
   refine(gfirst_any _).mono ?_
   rintro e w9 ⟨rfl,bb⟩
   replace B:=Kept.mk (B.out.trans (bb.mono B.out.size))
   clear bb
   go_wp2
   go_ret
   exact⟨rfl,B.out⟩
  by_cases g3:p < 0
  ·have g0':((200:Int) < na)=False:=eq_false g0
   have g1':(wh < 0)=False:=eq_false g1
   have g2':(1 < wh)=False:=eq_false g2
   clear g0 g1 g2
   go_wp2_with fail
   refine(gfirst_any _).mono ?_
   rintro e w9 ⟨rfl,bb⟩
   replace B:=Kept.mk (B.out.trans (bb.mono B.out.size))
   clear bb
   go_wp2
   go_ret
   exact⟨rfl,B.out⟩
  by_cases g4:3 < p
  ·have g0':((200:Int) < na)=False:=eq_false g0
   have g1':(wh < 0)=False:=eq_false g1
   have g2':(1 < wh)=False:=eq_false g2
   have g3':(p < 0)=False:=eq_false g3
   clear g0 g1 g2 g3
   go_wp2_with fail
   refine(gfirst_any _).mono ?_
   rintro e w9 ⟨rfl,bb⟩
   replace B:=Kept.mk (B.out.trans (bb.mono B.out.size))
   clear bb
   go_wp2
   go_ret
   exact⟨rfl,B.out⟩
  by_cases g5:o < 0
  ·have g0':((200:Int) < na)=False:=eq_false g0
   have g1':(wh < 0)=False:=eq_false g1
   have g2':(1 < wh)=False:=eq_false g2
   have g3':(p < 0)=False:=eq_false g3
   have g4':(3 < p)=False:=eq_false g4
   clear g0 g1 g2 g3 g4
   go_wp2_with fail
   refine(gfirst_any _).mono ?_
   rintro e w9 ⟨rfl,bb⟩
   replace B:=Kept.mk (B.out.trans (bb.mono B.out.size))
   clear bb
   go_wp2
   go_ret
   exact⟨rfl,B.out⟩
  by_cases g6:3 < o
  ·have g0':((200:Int) < na)=False:=eq_false g0
   have g1':(wh < 0)=False:=eq_false g1
   have g2':(1 < wh)=False:=eq_false g2
   have g3':(p < 0)=False:=eq_false g3
   have g4':(3 < p)=False:=eq_false g4
   have g5':(o < 0)=False:=eq_false g5
   clear g0 g1 g2 g3 g4 g5
   go_wp2_with fail
   refine(gfirst_any _).mono ?_
   rintro e w9 ⟨rfl,bb⟩
   replace B:=Kept.mk (B.out.trans (bb.mono B.out.size))
   clear bb
   go_wp2
   go_ret
   exact⟨rfl,B.out⟩
  by_cases g7:p=o
  ·have g0':((200:Int) < na)=False:=eq_false g0
   have g1':(wh < 0)=False:=eq_false g1
   have g2':(1 < wh)=False:=eq_false g2
   have g3':(p < 0)=False:=eq_false g3
   have g4':(3 < p)=False:=eq_false g4
   have g5':(o < 0)=False:=eq_false g5
   have g6':(3 < o)=False:=eq_false g6
   have g7':(p == o)=true:=by simpa using g7
   clear g0 g1 g2 g3 g4 g5 g6 g7
   go_wp2_with fail
   refine(gfirst_any _).mono ?_
   rintro e w9 ⟨rfl,bb⟩
   replace B:=Kept.mk (B.out.trans (bb.mono B.out.size))
   clear bb
   go_wp2
   go_ret
   exact⟨rfl,B.out⟩
  have g0':((200:Int) < na)=False:=eq_false g0
  have g1':(wh < 0)=False:=eq_false g1
  have g2':(1 < wh)=False:=eq_false g2
  have g3':(p < 0)=False:=eq_false g3
  have g4':(3 < p)=False:=eq_false g4
  have g5':(o < 0)=False:=eq_false g5
  have g6':(3 < o)=False:=eq_false g6
  have g7':(p == o)=false:=by simpa using g7
  have HN:Kept (na≤200):=⟨by omega⟩
  have HR:Kept ((wh=0∨wh=1)∧0≤p∧p≤3∧0≤o∧o≤3∧p≠o):=⟨by omega⟩
  clear g0 g1 g2 g3 g4 g5 g6 g7
  go_wp2_with fail
  refine(newt_any w2).mono ?_
  rintro e w3 ⟨t,rfl,ht,bb,htw⟩
  have HT:=Kept.mk ht
  have TW:Kept (w.heap.size≤t):=⟨by have:=B.out.size;omega⟩
  replace B:=Kept.mk (B.out.trans (bb.mono B.out.size))
  clear ht bb htw
  obtain⟨N,hN⟩:∃ N,w3.heap.size=N:=⟨_,rfl⟩
  have e1:fivesW4 w3=(((((w3.alloc (.cells #[.int .i64 5] 3)).alloc (.cells #[.int .i64 5] 3)).alloc (.cells #[.int .i64 5] 3)).alloc (.cells #[.int .i64 5] 3)).alloc (.cells #[.slice (some ⟨N,0,none⟩) 1 1,.slice (some ⟨N+1,0,none⟩) 1 1,.slice (some ⟨N+1+1,0,none⟩) 1 1,.slice (some ⟨N+1+1+1,0,none⟩) 1 1] 38)):=by unfold fivesW4;rw[hN]
  have hr:Rwi (((((w3.alloc (.cells #[.int .i64 5] 3)).alloc (.cells #[.int .i64 5] 3)).alloc (.cells #[.int .i64 5] 3)).alloc (.cells #[.int .i64 5] 3)).alloc (.cells #[.slice (some ⟨N,0,none⟩) 1 1,.slice (some ⟨N+1,0,none⟩) 1 1,.slice (some ⟨N+1+1,0,none⟩) 1 1,.slice (some ⟨N+1+1+1,0,none⟩) 1 1] 38)) (some ⟨N+1+1+1+1,0,none⟩) 4 fives:=by have:=fivesW4_rows w3;rw[e1,hN] at this;exact this
  have b1:Below w3.heap.size w3 (((((w3.alloc (.cells #[.int .i64 5] 3)).alloc (.cells #[.int .i64 5] 3)).alloc (.cells #[.int .i64 5] 3)).alloc (.cells #[.int .i64 5] 3)).alloc (.cells #[.slice (some ⟨N,0,none⟩) 1 1,.slice (some ⟨N+1,0,none⟩) 1 1,.slice (some ⟨N+1+1,0,none⟩) 1 1,.slice (some ⟨N+1+1+1,0,none⟩) 1 1] 38)):=by have:=fivesW4_below w3;rw[e1] at this;exact this
  have hs1:(((((w3.alloc (.cells #[.int .i64 5] 3)).alloc (.cells #[.int .i64 5] 3)).alloc (.cells #[.int .i64 5] 3)).alloc (.cells #[.int .i64 5] 3)).alloc (.cells #[.slice (some ⟨N,0,none⟩) 1 1,.slice (some ⟨N+1,0,none⟩) 1 1,.slice (some ⟨N+1+1,0,none⟩) 1 1,.slice (some ⟨N+1+1+1,0,none⟩) 1 1] 38)).heap.size=N+1+1+1+1+1:=by have:=fivesW4_size w3;rw[e1,hN] at this;exact this
  have R:=Kept.mk hr
  replace B:=Kept.mk (B.out.trans (b1.mono B.out.size));replace HT:=Kept.mk (HT.out.below b1 HT.out.lt)
  clear e1 hr b1
  go_upto_region 7 with(fail)
  generalize (((((w3.alloc (.cells #[.int .i64 5] 3)).alloc (.cells #[.int .i64 5] 3)).alloc (.cells #[.int .i64 5] 3)).alloc (.cells #[.int .i64 5] 3)).alloc (.cells #[.slice (some ⟨N,0,none⟩) 1 1,.slice (some ⟨N+1,0,none⟩) 1 1,.slice (some ⟨N+1+1,0,none⟩) 1 1,.slice (some ⟨N+1+1+1,0,none⟩) 1 1] 38))=w4 at *
  have bb:Below w4.heap.size w4 (w4.alloc (.cells #[.slice (some ⟨N+1+1+1+1,0,none⟩) 4 4,.int .i64 4] 41)):=(Below.refl _ _).alloc (Nat.le_refl _) _
  have X:=Kept.mk (Blk.new_at w4 41 #[.slice (some ⟨N+1+1+1+1,0,none⟩) 4 4,.int .i64 4] (N+1+1+1+1+1) hs1.symm)
  replace R:=Kept.mk (R.out.below bb);replace B:=Kept.mk (B.out.trans (bb.mono B.out.size));replace HT:=Kept.mk (HT.out.below bb HT.out.lt)
  clear bb hs1
  generalize w4.alloc (.cells #[.slice (some ⟨N+1+1+1+1,0,none⟩) 4 4,.int .i64 4] 41)=w5 at *
  have x0:=X.out.cell 0;have x1:=X.out.cell 1
  have HC:=Kept.mk (fives_ok (k:=4) (by omega) (by omega))
  have HNE:Kept (needV 4 fives 4=144):=⟨(need_fives (k:=4) (by omega) (by omega)).trans (by decide)⟩
  have KN:=vneed_any (c:=4) (cap:=4) R.out
  rw[HNE.out] at KN
  replace KN:=Kept.mk KN
  go_wp2_with fail
  refine KN.out.mono ?_
  rintro e w6 ⟨rfl,bb⟩
  replace R:=Kept.mk (R.out.below bb);replace X:=Kept.mk (X.out.below bb X.out.lt);replace B:=Kept.mk (B.out.trans (bb.mono B.out.size));replace HT:=Kept.mk (HT.out.below bb HT.out.lt)
  clear KN bb x0 x1
  have KD:=cnew_ok w6 144 (by omega) (by omega)
  unfold CNewPost at KD
  replace KD:=Kept.mk KD
  go_wp2_with fail
  refine KD.out.mono ?_
  rintro e w7 ⟨d,F,rfl,dk,fp⟩
  have bb:Below w6.heap.size w6 w7:=fp.below (by simp) (Nat.le_refl _)
  have SD:Kept (Journal.Sd w7 (t :: F) t d 144 (newD 144)):=⟨F,HT.out.below bb HT.out.lt,dk,fun hm=>by
   rcases fp.2 t hm with e|e
   ·simp at e
   ·have:=HT.out.lt;omega,rfl⟩
  have HH:Kept (∀ z∈t :: F,w.heap.size≤z):=⟨fun z hz=>by
   have:=B.out.size
   have:=TW.out
   rcases List.mem_cons.1 hz with e|e
   ·omega
   ·rcases fp.2 z e with e|e
    ·simp at e
    ·omega⟩
  replace R:=Kept.mk (R.out.below bb);replace X:=Kept.mk (X.out.below bb X.out.lt);replace B:=Kept.mk (B.out.trans (bb.mono B.out.size))
  clear KD dk fp bb HT TW
  go_wp2_with fail
  refine(newr_any w7).mono ?_
  rintro e w8 ⟨mb,rfl,⟨-,r,hr6,mblk,rblk⟩,hm6,bb⟩
  replace HH:Kept (∀ z∈t :: F,w.heap.size≤z∧z∉[mb,r]):=⟨fun z hz=>⟨HH.out z hz,fun hm=>by
   have h1:z < w7.heap.size:=by
    obtain⟨F2,h2,h3,-,h4⟩:=SD.out
    injection h4 with h5 h6
    subst h6
    rcases List.mem_cons.1 hz with e|e
    ·rw[e];exact h2.lt
    ·exact h3.lts z e
   simp at hm;omega⟩⟩
  replace SD:Kept (Journal.Sd w8 (t :: F) t d 144 (newD 144)):=⟨by
   obtain⟨F2,h2,h3,h4,h5⟩:=SD.out
   exact⟨F2,h2.below bb h2.lt,h3.keep (barOf bb []) (fun _ _=>by simp),h4,h5⟩⟩
  have BM:Kept (w.heap.size≤mb):=⟨by have:=B.out.size;omega⟩
  replace R:=Kept.mk (R.out.below bb);replace X:=Kept.mk (X.out.below bb X.out.lt);replace B:=Kept.mk (B.out.trans (bb.mono B.out.size))
  have MB:=Kept.mk mblk;have RB:=Kept.mk rblk
  have HZ:Kept (∀ z∈[mb,r],z < w8.heap.size):=⟨fun z hz=>by have:=mblk.lt;have:=rblk.lt;simp at hz;omega⟩
  clear bb mblk rblk hr6 hm6
  clear g0' g1' g2' g3' g4' g5' g6' g7'
  have hj:=open_newd (n:=144) (by omega) (by omega)
  have KO:=vq_open (c:=4) (K:=[mb,r]) SD.out HH.out HZ.out B.out.size R.out HC.out (by rw[HNE.out];omega) (by rw[hj];rfl) (by rw[hj];rfl)
  rw[hj] at KO
  unfold VQOPost at KO
  obtain⟨w1',w2',w3'⟩:=new_wl (n:=144) HC.out
  have HPL:=Kept.mk (pl_new (n:=144) HC.out (by rw[HNE.out];omega) (by omega))
  have HNIL:=Kept.mk (nil_new 4 fives 4 4)
  have HT0:Kept (∀ i,(tAt (newV (Ledger.newL 4 fives 4) 4) i).seq=0):=⟨fun i=>by rw[tAt_new];rfl⟩
  have HTL:Kept ((newV (Ledger.newL 4 fives 4) 4).t.length=4):=⟨by simp[newV]⟩
  obtain⟨m0,hm0⟩:∃ m0,(⟨newD 144,Journal.noJ,newV (Ledger.newL 4 fives 4) 4,false,0⟩:MV)=m0:=⟨_,rfl⟩
  have HSV:Kept (m0.served=0):=⟨by rw[← hm0]⟩
  have HV0:Kept (newV (Ledger.newL 4 fives 4) 4=m0.v):=⟨by rw[← hm0]⟩
  rw[hm0] at KO HPL w1' w2' w3'
  rw[HV0.out] at HNIL HT0 HTL
  replace KO:=Kept.mk KO
  have WW:=Kept.mk (And.intro w1' w2');have WN:=Kept.mk w3'
  clear hj SD HH w1' w2' w3' R HC HNE hm0 HV0
  have x0:=X.out.cell 0;have x1:=X.out.cell 1
  go_wp2_with fail
  refine KO.out.mono ?_
  rintro e w9 ⟨x,rfl,v,far⟩
  have V:=Kept.mk v
  have hs6:=far_size far
  replace MB:=Kept.mk (far.blk MB.out (.inl (by simp)));replace RB:=Kept.mk (far.blk RB.out (.inl (by simp)))
  replace HZ:Kept (∀ z∈[mb,r],z < w9.heap.size):=⟨fun z hz=>by have:=HZ.out z hz;omega⟩
  replace B:=Kept.mk (B.out.trans (far.below B.out.size))
  clear KO v far X x0 x1 hs6
  have KG:=Kept.mk (cgnew_any (cb:=ca) (which:=wh) V.out HZ.out WW.out.1 WW.out.2 (by rw[WN.out];omega) rfl MB.out RB.out (by simp) (by simp) BM.out (RA.out.below B.out) (by have:=HN.out;omega))
  unfold GNewPost at KG
  clear V MB RB WW
  go_wp2_with fail
  refine KG.out.mono ?_
  rintro e w10 ⟨g,F1,rfl,hF1,gq,far⟩
  have hs7:=far_size far
  have GZ:Gz w.heap.size (F1++[mb,r]) w10 ⟨g,t,x,d,144,mb,m0.v.l.b.p.np,wh,seed⟩ m0 (List.replicate 8 0):=⟨gq,fun z hz=>by
   rcases List.mem_append.1 hz with e|e
   ·exact(hF1 z e).2
   ·have:=HZ.out z e;omega⟩
  replace B:=Kept.mk (B.out.trans (far.below B.out.size))
  obtain⟨Z,hZ⟩:∃ Z,F1++[mb,r]=Z:=⟨_,rfl⟩
  rw[hZ] at GZ
  obtain⟨G,hG⟩:∃ G,(⟨g,t,x,d,144,mb,m0.v.l.b.p.np,wh,seed⟩:GS)=G:=⟨_,rfl⟩
  rw[hG] at GZ
  have HG:Kept (G.g=g∧G.x=x∧G.mb=mb∧G.k=4∧G.which=wh∧G.seed=seed∧G.n=144):=⟨by rw[← hG];exact⟨rfl,rfl,rfl,WN.out,rfl,rfl,rfl⟩⟩
  obtain rfl:G.g=g:=HG.out.1
  obtain rfl:G.x=x:=HG.out.2.1
  obtain rfl:G.mb=mb:=HG.out.2.2.1
  replace HG:=Kept.mk HG.out.2.2.2
  have H:=Kept.mk GZ
  clear KG gq far hF1 hs7 GZ hZ hG HZ WN BM
  have HM:Kept (mayN (askN p wh 1)∧mayN (askN p (1 - wh) 1)):=⟨ask_may (by have:=HR.out;omega) HR.out.1 (by omega),ask_may (by have:=HR.out;omega) (by have:=HR.out;omega) (by omega)⟩
  obtain⟨Bd,hBd⟩:∃ Bd,w10.heap.size=Bd:=⟨_,rfl⟩
  have NWa:w.heap.size≤Bd:=by have:=B.out.size;omega
  obtain⟨Nb,hNb⟩:∃ Nb,(w10.alloc (.cells #[.int .u8 0,.int .u8 0,.int .u8 0] 5)).heap.size=Nb:=⟨_,rfl⟩
  have b1:Below w10.heap.size w10 (w10.alloc (.cells #[.int .u8 0,.int .u8 0,.int .u8 0] 5)):=(Below.refl _ _).alloc (Nat.le_refl _) _
  have b2:Below (w10.alloc (.cells #[.int .u8 0,.int .u8 0,.int .u8 0] 5)).heap.size (w10.alloc (.cells #[.int .u8 0,.int .u8 0,.int .u8 0] 5)) ((w10.alloc (.cells #[.int .u8 0,.int .u8 0,.int .u8 0] 5)).alloc (.cells #[.int .i64 p,.int .i64 wh,.int .i64 0,.int .i64 1,.slice (some ⟨Bd,0,none⟩) 3 3] 54)):=(Below.refl _ _).alloc (Nat.le_refl _) _
  have bb:Below w10.heap.size w10 ((w10.alloc (.cells #[.int .u8 0,.int .u8 0,.int .u8 0] 5)).alloc (.cells #[.int .i64 p,.int .i64 wh,.int .i64 0,.int .i64 1,.slice (some ⟨Bd,0,none⟩) 3 3] 54)):=b1.trans (b2.mono b1.size)
  have XN:=Kept.mk (Blk.new_at (w10.alloc (.cells #[.int .u8 0,.int .u8 0,.int .u8 0] 5)) 54 #[.int .i64 p,.int .i64 wh,.int .i64 0,.int .i64 1,.slice (some ⟨Bd,0,none⟩) 3 3] Nb hNb.symm)
  have RB0:Rd (w10.alloc (.cells #[.int .u8 0,.int .u8 0,.int .u8 0] 5)) (some ⟨Bd,0,none⟩) 3 [0,0,0]:=Rd.blk (T:=5) (xs:=[0,0,0]) (Blk.new_at _ _ _ Bd hBd.symm) (by intro z hz;simp at hz;omega) rfl
  have RB:=Kept.mk (RB0.below b2)
  have hb1:=b1.size
  have GB:=H.out.block bb (R:=Nb) (by omega) XN.out.lt
  replace H:=Kept.mk GB;replace B:=Kept.mk (B.out.trans (bb.mono B.out.size))
  have NI:Kept (Nb∈Nb :: Z):=⟨List.mem_cons_self ..⟩
  have NW:Kept (w.heap.size≤Bd∧Bd < Nb):=⟨by have h3:=hNb;simp only[World.size_alloc] at h3;exact⟨NWa,by omega⟩⟩
  clear b1 b2 bb RB0 GB hb1 NWa
  go_upto_region 18 with(fail)
  clear hBd hNb
  generalize ((w10.alloc (.cells #[.int .u8 0,.int .u8 0,.int .u8 0] 5)).alloc (.cells #[.int .i64 p,.int .i64 wh,.int .i64 0,.int .i64 1,.slice (some ⟨Bd,0,none⟩) 3 3] 54))=w11 at *
  go_upto_region 18 with(fail)
  refine wp_region_noPanic ?_
  refine wp_region_held_drew (S:=fun u:World=>u.cell? ⟨Nb,0,none⟩=some (.int .i64 p)∧u.cell? ⟨Nb,1,none⟩=some (.int .i64 wh)∧u.cell? ⟨Nb,2,none⟩=some (.int .i64 0)∧u.cell? ⟨Nb,3,none⟩=some (.int .i64 1)∧u.cell? ⟨Nb,4,none⟩=some (.slice (some ⟨Bd,0,none⟩) 3 3)) (by kernel_rfl) ⟨XN.out.cell 0,XN.out.cell 1,XN.out.cell 2,XN.out.cell 3,XN.out.cell 4⟩ (fun _=>?_)
  have bb:Below w11.heap.size w11 w11.drew:=(Below.refl _ _).drew
  replace H:=Kept.mk (H.out.below bb);replace RB:=Kept.mk (RB.out.below bb);replace XN:=Kept.mk (XN.out.below bb XN.out.lt);replace B:=Kept.mk (B.out.trans (bb.mono B.out.size))
  clear bb
  generalize w11.drew=w12 at *
  refine tk 0 (by assumption) ?_
  simp only[Act.put,zA,zB,zC]
  refine tk 1 (by assumption) ?_
  simp only[Act.put,zA,zB,zC]
  refine tk 2 (by assumption) ?_
  simp only[Act.put,zA,zB,zC]
  refine tk 4 (by assumption) ?_
  simp only[Act.put,zA,zB,zC]
  refine ld 3 (fun K hK=>?_)
  go_simp
  go_at_call 12
  refine(rkeys_any (c:=ca) o wh (RA.out.below B.out) (by have:=HN.out;omega)).mono ?_
  rintro e w13 ⟨M,cM,rfl,-,h1,h2,r1,bb⟩
  replace H:=Kept.mk (H.out.below bb);replace RB:=Kept.mk (RB.out.below bb);replace XN:=Kept.mk (XN.out.below bb XN.out.lt);replace B:=Kept.mk (B.out.trans (bb.mono B.out.size))
  have RK:Kept (Rd w13 (some ⟨M,0,none⟩) 32 (keyV seed o wh)):=⟨r1⟩
  refine hK.out _ _ ⟨XN.out.cell 0,XN.out.cell 1,XN.out.cell 2,XN.out.cell 3,XN.out.cell 4⟩ (fun _=>?_)
  clear hK K bb r1 h1 h2
  try simp only[Act.put,zA,zB,zC]
  have KS:=rseal_new (some ⟨M,0,none⟩) 32 cM (keyV seed o wh) (askN p wh 1) (some ⟨Bd,0,none⟩) 3 3 w13 RK.out (by omega) RB.out (by omega)
  rw[ask_seal _ HM.out.1] at KS
  unfold RSealPost2 at KS
  replace KS:=Kept.mk KS
  refine ld 5 (fun K hK=>?_)
  go_simp
  go_at_call 23
  refine KS.out.mono ?_
  rintro e w14 ⟨Ax,lx,cx,rfl,hl,hm,rd,bb,nw⟩
  obtain⟨Zx,hs,gz,rwx⟩:=H.out.row bb rd nw
  have XL:=XN.out.lt
  replace XN:=Kept.mk (XN.out.below bb XN.out.lt);replace RB:=Kept.mk (RB.out.below bb);replace B:=Kept.mk (B.out.trans (bb.mono B.out.size))
  replace NI:=Kept.mk (hs _ NI.out)
  replace H:=Kept.mk gz
  have Rx:=Kept.mk rwx;have xN:Kept (Off Ax lx [Nb]):=⟨off_of rd nw XL⟩;have Lx:Kept (lx≤cx∧cx≤9223372036854775807∧lx=47):=⟨hl,hm,by rw[← rd.1];exact ask_len _ _ _ _⟩
  clear rwx XL
  refine hK.out _ _ ⟨XN.out.cell 0,XN.out.cell 1,XN.out.cell 2,XN.out.cell 3,XN.out.cell 4⟩ (fun _=>?_)
  clear hK K KS RK bb rd nw hl hm gz hs
  refine tk 6 (by assumption) ?_
  simp only[Act.put,zA,zB,zC]
  refine tk 7 (by assumption) ?_
  simp only[Act.put,zA,zB,zC]
  refine tk 8 (by assumption) ?_
  simp only[Act.put,zA,zB,zC]
  refine tk 9 (by assumption) ?_
  simp only[Act.put,zA,zB,zC]
  refine tk 10 (by assumption) ?_
  simp only[Act.put,zA,zB,zC]
  refine wpAnyH_done (by kernel_rfl) ?_ _
  refine NoPanic.normal ?_
  go_upto_region 19 with(fail)
  refine wp_region_noPanic ?_
  refine wp_region_held_drew (S:=fun u:World=>u.cell? ⟨Nb,0,none⟩=some (.int .i64 p)∧u.cell? ⟨Nb,1,none⟩=some (.int .i64 wh)∧u.cell? ⟨Nb,2,none⟩=some (.int .i64 0)∧u.cell? ⟨Nb,3,none⟩=some (.int .i64 1)∧u.cell? ⟨Nb,4,none⟩=some (.slice (some ⟨Bd,0,none⟩) 3 3)) (by kernel_rfl) ⟨XN.out.cell 0,XN.out.cell 1,XN.out.cell 2,XN.out.cell 3,XN.out.cell 4⟩ (fun _=>?_)
  have bb:Below w14.heap.size w14 w14.drew:=(Below.refl _ _).drew
  replace H:=Kept.mk (H.out.below bb);replace Rx:=Kept.mk (Rx.out.below bb);replace RB:=Kept.mk (RB.out.below bb);replace XN:=Kept.mk (XN.out.below bb XN.out.lt);replace B:=Kept.mk (B.out.trans (bb.mono B.out.size))
  clear bb
  generalize w14.drew=w15 at *
  have WR:IntKind.i64.wrap (1 - wh)=1 - wh:=by simp only[IntKind.wrap_i64];have:=HR.out;omega
  refine tk 0 (by assumption) ?_
  simp only[Act.put,zA,zB,zC]
  refine tk 1 (by assumption) ?_
  simp only[Act.put,zA,zB,zC]
  refine tk 2 (by assumption) ?_
  simp only[Act.put,zA,zB,zC]
  refine tk 3 (by assumption) ?_
  simp only[Act.put,zA,zB,zC]
  refine tk 5 (by assumption) ?_
  simp only[Act.put,zA,zB,zC]
  refine ld 4 (fun K hK=>?_)
  go_simp
  go_at_call 12
  refine(rkeys_any (c:=ca) p (1 - wh) (RA.out.below B.out) (by have:=HN.out;omega)).mono ?_
  rintro e w16 ⟨M,cM,rfl,-,h1,h2,r1,bb⟩
  replace H:=Kept.mk (H.out.below bb);replace Rx:=Kept.mk (Rx.out.below bb);replace RB:=Kept.mk (RB.out.below bb);replace XN:=Kept.mk (XN.out.below bb XN.out.lt);replace B:=Kept.mk (B.out.trans (bb.mono B.out.size))
  have RK:Kept (Rd w16 (some ⟨M,0,none⟩) 32 (keyV seed p (1 - wh))):=⟨r1⟩
  refine hK.out _ _ ⟨XN.out.cell 0,XN.out.cell 1,XN.out.cell 2,XN.out.cell 3,XN.out.cell 4⟩ (fun _=>?_)
  clear hK K bb r1 h1 h2
  try simp only[Act.put,zA,zB,zC]
  have KS:=rseal_new (some ⟨M,0,none⟩) 32 cM (keyV seed p (1 - wh)) (askN p wh 1) (some ⟨Bd,0,none⟩) 3 3 w16 RK.out (by omega) RB.out (by omega)
  rw[ask_seal _ HM.out.1] at KS
  unfold RSealPost2 at KS
  replace KS:=Kept.mk KS
  refine ld 6 (fun K hK=>?_)
  go_simp
  go_at_call 23
  refine KS.out.mono ?_
  rintro e w17 ⟨Ay,ly,cy,rfl,hl,hm,rd,bb,nw⟩
  obtain⟨Zy,hs,gz,rwy⟩:=H.out.row bb rd nw
  have XL:=XN.out.lt
  replace XN:=Kept.mk (XN.out.below bb XN.out.lt);replace Rx:=Kept.mk (Rx.out.below bb);replace RB:=Kept.mk (RB.out.below bb);replace B:=Kept.mk (B.out.trans (bb.mono B.out.size))
  replace Rx:=Kept.mk (Rx.out.mono hs)
  replace NI:=Kept.mk (hs _ NI.out)
  replace H:=Kept.mk gz
  have Ry:=Kept.mk rwy;have yN:Kept (Off Ay ly [Nb]):=⟨off_of rd nw XL⟩;have Ly:Kept (ly≤cy∧cy≤9223372036854775807∧ly=47):=⟨hl,hm,by rw[← rd.1];exact ask_len _ _ _ _⟩
  clear rwy XL
  refine hK.out _ _ ⟨XN.out.cell 0,XN.out.cell 1,XN.out.cell 2,XN.out.cell 3,XN.out.cell 4⟩ (fun _=>?_)
  clear hK K KS RK bb rd nw hl hm gz hs
  refine tk 7 (by assumption) ?_
  simp only[Act.put,zA,zB,zC]
  refine tk 8 (by assumption) ?_
  simp only[Act.put,zA,zB,zC]
  refine tk 9 (by assumption) ?_
  simp only[Act.put,zA,zB,zC]
  refine tk 10 (by assumption) ?_
  simp only[Act.put,zA,zB,zC]
  refine tk 11 (by assumption) ?_
  simp only[Act.put,zA,zB,zC]
  refine wpAnyH_done (by kernel_rfl) ?_ _
  refine NoPanic.normal ?_
  clear WR
  go_upto_region 20 with(fail)
  refine wp_region_noPanic ?_
  refine wp_region_held_drew (S:=fun u:World=>u.cell? ⟨Nb,0,none⟩=some (.int .i64 p)∧u.cell? ⟨Nb,1,none⟩=some (.int .i64 wh)∧u.cell? ⟨Nb,2,none⟩=some (.int .i64 0)∧u.cell? ⟨Nb,3,none⟩=some (.int .i64 1)∧u.cell? ⟨Nb,4,none⟩=some (.slice (some ⟨Bd,0,none⟩) 3 3)) (by kernel_rfl) ⟨XN.out.cell 0,XN.out.cell 1,XN.out.cell 2,XN.out.cell 3,XN.out.cell 4⟩ (fun _=>?_)
  have bb:Below w17.heap.size w17 w17.drew:=(Below.refl _ _).drew
  replace H:=Kept.mk (H.out.below bb);replace Rx:=Kept.mk (Rx.out.below bb);replace Ry:=Kept.mk (Ry.out.below bb);replace RB:=Kept.mk (RB.out.below bb);replace XN:=Kept.mk (XN.out.below bb XN.out.lt);replace B:=Kept.mk (B.out.trans (bb.mono B.out.size))
  clear bb
  generalize w17.drew=w18 at *
  refine tk 0 (by assumption) ?_
  simp only[Act.put,zA,zB,zC]
  refine tk 1 (by assumption) ?_
  simp only[Act.put,zA,zB,zC]
  refine tk 2 (by assumption) ?_
  simp only[Act.put,zA,zB,zC]
  refine tk 4 (by assumption) ?_
  simp only[Act.put,zA,zB,zC]
  refine ld 3 (fun K hK=>?_)
  go_simp
  go_at_call 12
  refine(rkeys_any (c:=ca) p wh (RA.out.below B.out) (by have:=HN.out;omega)).mono ?_
  rintro e w19 ⟨M,cM,rfl,-,h1,h2,r1,bb⟩
  replace H:=Kept.mk (H.out.below bb);replace Rx:=Kept.mk (Rx.out.below bb);replace Ry:=Kept.mk (Ry.out.below bb);replace RB:=Kept.mk (RB.out.below bb);replace XN:=Kept.mk (XN.out.below bb XN.out.lt);replace B:=Kept.mk (B.out.trans (bb.mono B.out.size))
  have RK:Kept (Rd w19 (some ⟨M,0,none⟩) 32 (keyV seed p wh)):=⟨r1⟩
  refine hK.out _ _ ⟨XN.out.cell 0,XN.out.cell 1,XN.out.cell 2,XN.out.cell 3,XN.out.cell 4⟩ (fun _=>?_)
  clear hK K bb r1 h1 h2
  try simp only[Act.put,zA,zB,zC]
  have KS:=rseal_new (some ⟨M,0,none⟩) 32 cM (keyV seed p wh) (askN p wh 1) (some ⟨Bd,0,none⟩) 3 3 w19 RK.out (by omega) RB.out (by omega)
  rw[ask_seal _ HM.out.1] at KS
  unfold RSealPost2 at KS
  replace KS:=Kept.mk KS
  refine ld 5 (fun K hK=>?_)
  go_simp
  go_at_call 23
  refine KS.out.mono ?_
  rintro e w20 ⟨Az,lz,cz,rfl,hl,hm,rd,bb,nw⟩
  obtain⟨Zz,hs,gz,rwz⟩:=H.out.row bb rd nw
  have XL:=XN.out.lt
  replace XN:=Kept.mk (XN.out.below bb XN.out.lt);replace Rx:=Kept.mk (Rx.out.below bb);replace Ry:=Kept.mk (Ry.out.below bb);replace RB:=Kept.mk (RB.out.below bb);replace B:=Kept.mk (B.out.trans (bb.mono B.out.size))
  replace Rx:=Kept.mk (Rx.out.mono hs);replace Ry:=Kept.mk (Ry.out.mono hs)
  replace NI:=Kept.mk (hs _ NI.out)
  replace H:=Kept.mk gz
  have Rz:=Kept.mk rwz;have zN:Kept (Off Az lz [Nb]):=⟨off_of rd nw XL⟩;have Lz:Kept (lz≤cz∧cz≤9223372036854775807∧lz=47):=⟨hl,hm,by rw[← rd.1];exact ask_len _ _ _ _⟩
  clear rwz XL
  refine hK.out _ _ ⟨XN.out.cell 0,XN.out.cell 1,XN.out.cell 2,XN.out.cell 3,XN.out.cell 4⟩ (fun _=>?_)
  clear hK K KS RK bb rd nw hl hm gz hs
  refine tk 6 (by assumption) ?_
  simp only[Act.put,zA,zB,zC]
  refine tk 7 (by assumption) ?_
  simp only[Act.put,zA,zB,zC]
  refine tk 8 (by assumption) ?_
  simp only[Act.put,zA,zB,zC]
  refine tk 9 (by assumption) ?_
  simp only[Act.put,zA,zB,zC]
  refine tk 10 (by assumption) ?_
  simp only[Act.put,zA,zB,zC]
  refine wpAnyH_done (by kernel_rfl) ?_ _
  refine NoPanic.normal ?_
  go_wp2_with fail
  refine(rkeys_any (c:=ca) p wh (RA.out.below B.out) (by have:=HN.out;omega)).mono ?_
  rintro e w21 ⟨M,cM,rfl,-,h1,h2,r1,bb⟩
  replace H:=Kept.mk (H.out.below bb);replace Rx:=Kept.mk (Rx.out.below bb);replace Ry:=Kept.mk (Ry.out.below bb);replace Rz:=Kept.mk (Rz.out.below bb);replace RB:=Kept.mk (RB.out.below bb);replace XN:=Kept.mk (XN.out.below bb XN.out.lt);replace B:=Kept.mk (B.out.trans (bb.mono B.out.size))
  have KO:=ropen_any (some ⟨M,0,none⟩) 32 cM (keyV seed p wh) Ax lx cx _ w21 r1 (by omega) Rx.out.rd Lx.out.1 Lx.out.2.1 (by have:=Lx.out.2.2;omega)
  unfold ROpenPost at KO
  obtain⟨O1,hO1⟩:∃ O,openN (keyV seed p wh) (noteN (keyV seed o wh) (askN p wh (1:Nat)))=O:=⟨_,rfl⟩
  rw[hO1] at KO
  have HO1:=Kept.mk hO1
  obtain⟨⟨op,oh,oy,os,ob⟩,oe1⟩:=O1
  dsimp only at KO
  replace KO:=Kept.mk KO
  clear hO1 bb r1 h1 h2
  go_wp2_with fail
  refine KO.out.mono ?_
  rintro e w22 ⟨Ao,lo,co,rfl,-,-,-,bb⟩
  replace H:=Kept.mk (H.out.below bb);replace Rx:=Kept.mk (Rx.out.below bb);replace Ry:=Kept.mk (Ry.out.below bb);replace Rz:=Kept.mk (Rz.out.below bb);replace RB:=Kept.mk (RB.out.below bb);replace XN:=Kept.mk (XN.out.below bb XN.out.lt);replace B:=Kept.mk (B.out.trans (bb.mono B.out.size))
  clear bb KO
  have bb:Below w22.heap.size w22 (w22.alloc (.cells #[.int .i64 op,.int .i64 oh,.int .i64 oy,.int .i64 os,.slice Ao lo co] 54)):=(Below.refl _ _).alloc (Nat.le_refl _) _
  replace H:=Kept.mk (H.out.below bb);replace Rx:=Kept.mk (Rx.out.below bb);replace Ry:=Kept.mk (Ry.out.below bb);replace Rz:=Kept.mk (Rz.out.below bb);replace RB:=Kept.mk (RB.out.below bb);replace XN:=Kept.mk (XN.out.below bb XN.out.lt);replace B:=Kept.mk (B.out.trans (bb.mono B.out.size))
  clear bb
  go_upto_region 22 with(fail)
  generalize (w22.alloc (.cells #[.int .i64 op,.int .i64 oh,.int .i64 oy,.int .i64 os,.slice Ao lo co] 54))=w23 at *
  go_wp2_with fail
  refine(rkeys_any (c:=ca) p wh (RA.out.below B.out) (by have:=HN.out;omega)).mono ?_
  rintro e w24 ⟨M,cM,rfl,-,h1,h2,r1,bb⟩
  replace H:=Kept.mk (H.out.below bb);replace Rx:=Kept.mk (Rx.out.below bb);replace Ry:=Kept.mk (Ry.out.below bb);replace Rz:=Kept.mk (Rz.out.below bb);replace RB:=Kept.mk (RB.out.below bb);replace XN:=Kept.mk (XN.out.below bb XN.out.lt);replace B:=Kept.mk (B.out.trans (bb.mono B.out.size))
  have KO:=ropen_any (some ⟨M,0,none⟩) 32 cM (keyV seed p wh) Ay ly cy _ w24 r1 (by omega) Ry.out.rd Ly.out.1 Ly.out.2.1 (by have:=Ly.out.2.2;omega)
  unfold ROpenPost at KO
  obtain⟨O2,hO2⟩:∃ O,openN (keyV seed p wh) (noteN (keyV seed p (1 - wh)) (askN p wh (1:Nat)))=O:=⟨_,rfl⟩
  rw[hO2] at KO
  have HO2:=Kept.mk hO2
  obtain⟨⟨op,oh,oy,os,ob⟩,oe2⟩:=O2
  dsimp only at KO
  replace KO:=Kept.mk KO
  clear hO2 bb r1 h1 h2
  go_wp2_with fail
  refine KO.out.mono ?_
  rintro e w25 ⟨Ao,lo,co,rfl,-,-,-,bb⟩
  replace H:=Kept.mk (H.out.below bb);replace Rx:=Kept.mk (Rx.out.below bb);replace Ry:=Kept.mk (Ry.out.below bb);replace Rz:=Kept.mk (Rz.out.below bb);replace RB:=Kept.mk (RB.out.below bb);replace XN:=Kept.mk (XN.out.below bb XN.out.lt);replace B:=Kept.mk (B.out.trans (bb.mono B.out.size))
  clear bb KO
  have bb:Below w25.heap.size w25 (w25.alloc (.cells #[.int .i64 op,.int .i64 oh,.int .i64 oy,.int .i64 os,.slice Ao lo co] 54)):=(Below.refl _ _).alloc (Nat.le_refl _) _
  replace H:=Kept.mk (H.out.below bb);replace Rx:=Kept.mk (Rx.out.below bb);replace Ry:=Kept.mk (Ry.out.below bb);replace Rz:=Kept.mk (Rz.out.below bb);replace RB:=Kept.mk (RB.out.below bb);replace XN:=Kept.mk (XN.out.below bb XN.out.lt);replace B:=Kept.mk (B.out.trans (bb.mono B.out.size))
  clear bb
  go_upto_region 23 with(fail)
  generalize (w25.alloc (.cells #[.int .i64 op,.int .i64 oh,.int .i64 oy,.int .i64 os,.slice Ao lo co] 54))=w26 at *
  by_cases q1:oe1=0
  ·have e1':(oe1 == 0)=true:=by simpa using q1
   clear q1
   go_wp2_with fail
   refine(gfirst_any _).mono ?_
   rintro e w9 ⟨rfl,bb⟩
   replace B:=Kept.mk (B.out.trans (bb.mono B.out.size))
   clear bb
   go_wp2
   go_ret
   exact⟨rfl,B.out⟩
  by_cases q2:oe2=0
  ·have e1':(oe1 == 0)=false:=by simpa using q1
   have e2':(oe2 == 0)=true:=by simpa using q2
   clear q1 q2
   go_wp2_with fail
   refine(gfirst_any _).mono ?_
   rintro e w9 ⟨rfl,bb⟩
   replace B:=Kept.mk (B.out.trans (bb.mono B.out.size))
   clear bb
   go_wp2
   go_ret
   exact⟨rfl,B.out⟩
  have e1':(oe1 == 0)=false:=by simpa using q1
  have e2':(oe2 == 0)=false:=by simpa using q2
  have Q12:=Kept.mk (And.intro q1 q2)
  have x1:=XN.out.cell 1;have z1:=XN.out.frozen 1
  clear q1 q2
  have WR:IntKind.i64.wrap (1 - wh)=1 - wh:=by simp only[IntKind.wrap_i64];have:=HR.out;omega
  have bs:Bar [Nb] w26 (w26.setCell ⟨Nb,1,none⟩ (.int .i64 (1 - wh))):=(Bar.refl _ _).setCell (by simp) _
  have hx:Blk (w26.setCell ⟨Nb,1,none⟩ (.int .i64 (1 - wh))) Nb 54 #[.int .i64 p,.int .i64 (1 - wh),.int .i64 0,.int .i64 1,.slice (some ⟨Bd,0,none⟩) 3 3]:=by
   have:=XN.out.set_ 1 (.int .i64 (1 - wh))
   simpa using this
  have XS:=Kept.mk XN.out.lt
  have BN:Kept (w.heap.size≤Nb):=⟨by have:=NW.out;omega⟩
  have rb:=RB.out.far bs (.inr ⟨Bd,0,rfl,by rw[List.mem_singleton];have:=NW.out;omega⟩)
  have r_Rx:Row _ G.mb _ _ _ _:=⟨Rx.out.rd.far bs (by have:=xN.out;exact this),Rx.out.2⟩
  have r_Ry:Row _ G.mb _ _ _ _:=⟨Ry.out.rd.far bs (by have:=yN.out;exact this),Ry.out.2⟩
  have r_Rz:Row _ G.mb _ _ _ _:=⟨Rz.out.rd.far bs (by have:=zN.out;exact this),Rz.out.2⟩
  replace H:=Kept.mk (H.out.note XN.out NI.out bs)
  replace B:=Kept.mk (B.out.trans (bs.below (by have:=B.out.size;omega) (by simpa using BN.out)))
  replace XN:=Kept.mk hx;replace RB:=Kept.mk rb;replace Rx:=Kept.mk r_Rx;replace Ry:=Kept.mk r_Ry;replace Rz:=Kept.mk r_Rz
  clear bs hx rb XS r_Rx r_Ry r_Rz
  go_upto_region 26 with(fail)
  clear x1 z1 WR
  generalize w26.setCell ⟨Nb,1,none⟩ (.int .i64 (1 - wh))=w27 at *
  go_upto_region 26 with(fail)
  refine wp_region_noPanic ?_
  refine wp_region_held_drew (S:=fun u:World=>u.cell? ⟨Nb,0,none⟩=some (.int .i64 p)∧u.cell? ⟨Nb,1,none⟩=some (.int .i64 (1 - wh))∧u.cell? ⟨Nb,2,none⟩=some (.int .i64 0)∧u.cell? ⟨Nb,3,none⟩=some (.int .i64 1)∧u.cell? ⟨Nb,4,none⟩=some (.slice (some ⟨Bd,0,none⟩) 3 3)) (by kernel_rfl) ⟨XN.out.cell 0,XN.out.cell 1,XN.out.cell 2,XN.out.cell 3,XN.out.cell 4⟩ (fun _=>?_)
  have bb:Below w27.heap.size w27 w27.drew:=(Below.refl _ _).drew
  replace H:=Kept.mk (H.out.below bb);replace Rx:=Kept.mk (Rx.out.below bb);replace Ry:=Kept.mk (Ry.out.below bb);replace Rz:=Kept.mk (Rz.out.below bb);replace RB:=Kept.mk (RB.out.below bb);replace XN:=Kept.mk (XN.out.below bb XN.out.lt);replace B:=Kept.mk (B.out.trans (bb.mono B.out.size))
  clear bb
  generalize w27.drew=w28 at *
  refine tk 0 (by assumption) ?_
  simp only[Act.put,zA,zB,zC]
  refine tk 1 (by assumption) ?_
  simp only[Act.put,zA,zB,zC]
  refine tk 2 (by assumption) ?_
  simp only[Act.put,zA,zB,zC]
  refine tk 4 (by assumption) ?_
  simp only[Act.put,zA,zB,zC]
  refine ld 3 (fun K hK=>?_)
  go_simp
  go_at_call 12
  refine(rkeys_any (c:=ca) p wh (RA.out.below B.out) (by have:=HN.out;omega)).mono ?_
  rintro e w29 ⟨M,cM,rfl,-,h1,h2,r1,bb⟩
  replace H:=Kept.mk (H.out.below bb);replace Rx:=Kept.mk (Rx.out.below bb);replace Ry:=Kept.mk (Ry.out.below bb);replace Rz:=Kept.mk (Rz.out.below bb);replace RB:=Kept.mk (RB.out.below bb);replace XN:=Kept.mk (XN.out.below bb XN.out.lt);replace B:=Kept.mk (B.out.trans (bb.mono B.out.size))
  have RK:Kept (Rd w29 (some ⟨M,0,none⟩) 32 (keyV seed p wh)):=⟨r1⟩
  refine hK.out _ _ ⟨XN.out.cell 0,XN.out.cell 1,XN.out.cell 2,XN.out.cell 3,XN.out.cell 4⟩ (fun _=>?_)
  clear hK K bb r1 h1 h2
  try simp only[Act.put,zA,zB,zC]
  have KS:=rseal_new (some ⟨M,0,none⟩) 32 cM (keyV seed p wh) (askN p (1 - wh) 1) (some ⟨Bd,0,none⟩) 3 3 w29 RK.out (by omega) RB.out (by omega)
  rw[ask_seal _ HM.out.2] at KS
  unfold RSealPost2 at KS
  replace KS:=Kept.mk KS
  refine ld 5 (fun K hK=>?_)
  go_simp
  go_at_call 23
  refine KS.out.mono ?_
  rintro e w30 ⟨Av,lv,cv,rfl,hl,hm,rd,bb,nw⟩
  obtain⟨Zv,hs,gz,rwv⟩:=H.out.row bb rd nw
  have XL:=XN.out.lt
  replace XN:=Kept.mk (XN.out.below bb XN.out.lt);replace Rx:=Kept.mk (Rx.out.below bb);replace Ry:=Kept.mk (Ry.out.below bb);replace Rz:=Kept.mk (Rz.out.below bb);replace RB:=Kept.mk (RB.out.below bb);replace B:=Kept.mk (B.out.trans (bb.mono B.out.size))
  replace Rx:=Kept.mk (Rx.out.mono hs);replace Ry:=Kept.mk (Ry.out.mono hs);replace Rz:=Kept.mk (Rz.out.mono hs)
  replace NI:=Kept.mk (hs _ NI.out)
  replace H:=Kept.mk gz
  have Rv:=Kept.mk rwv;have vN:Kept (Off Av lv [Nb]):=⟨off_of rd nw XL⟩;have Lv:Kept (lv≤cv∧cv≤9223372036854775807∧lv=47):=⟨hl,hm,by rw[← rd.1];exact ask_len _ _ _ _⟩
  clear rwv XL
  refine hK.out _ _ ⟨XN.out.cell 0,XN.out.cell 1,XN.out.cell 2,XN.out.cell 3,XN.out.cell 4⟩ (fun _=>?_)
  clear hK K KS RK bb rd nw hl hm gz hs
  refine tk 6 (by assumption) ?_
  simp only[Act.put,zA,zB,zC]
  refine tk 7 (by assumption) ?_
  simp only[Act.put,zA,zB,zC]
  refine tk 8 (by assumption) ?_
  simp only[Act.put,zA,zB,zC]
  refine tk 9 (by assumption) ?_
  simp only[Act.put,zA,zB,zC]
  refine tk 10 (by assumption) ?_
  simp only[Act.put,zA,zB,zC]
  refine wpAnyH_done (by kernel_rfl) ?_ _
  refine NoPanic.normal ?_
  have KT:=gl_no 1 HG.out H.out Rx.out Lx.out HM.out.1 (by have:=HR.out;omega) HO1.out Q12.out.1
  replace KT:=Kept.mk KT
  go_wp2_with fail
  refine KT.out.mono ?_
  rintro e w31 htk
  obtain⟨At,lt,ct,Zt,rfl,hl,hm,hs,gz,rr,tar⟩:=H.out.take htk
  replace Rx:=Kept.mk ((Rx.out.tar tar).mono hs);replace Ry:=Kept.mk ((Ry.out.tar tar).mono hs);replace Rz:=Kept.mk ((Rz.out.tar tar).mono hs);replace Rv:=Kept.mk ((Rv.out.tar tar).mono hs);replace B:=Kept.mk (B.out.trans (tar.below B.out.size))
  replace H:=Kept.mk gz
  clear KT htk hs gz rr tar hl hm
  have KT:=gl_no 1 HG.out H.out Ry.out Ly.out HM.out.1 (by have:=HR.out;omega) HO2.out Q12.out.2
  replace KT:=Kept.mk KT
  go_wp2_with fail
  refine KT.out.mono ?_
  rintro e w32 htk
  obtain⟨At,lt,ct,Zt,rfl,hl,hm,hs,gz,rr,tar⟩:=H.out.take htk
  replace Rx:=Kept.mk ((Rx.out.tar tar).mono hs);replace Ry:=Kept.mk ((Ry.out.tar tar).mono hs);replace Rz:=Kept.mk ((Rz.out.tar tar).mono hs);replace Rv:=Kept.mk ((Rv.out.tar tar).mono hs);replace B:=Kept.mk (B.out.trans (tar.below B.out.size))
  replace H:=Kept.mk gz
  clear KT htk hs gz rr tar hl hm
  have KT:=gl_form 1 HG.out H.out Rv.out Lv.out HM.out.2 (by have:=HR.out;omega)
  replace KT:=Kept.mk KT
  go_wp2_with fail
  refine KT.out.mono ?_
  rintro e w33 htk
  obtain⟨At,lt,ct,Zt,rfl,hl,hm,hs,gz,rr,tar⟩:=H.out.take htk
  replace Rx:=Kept.mk ((Rx.out.tar tar).mono hs);replace Ry:=Kept.mk ((Ry.out.tar tar).mono hs);replace Rz:=Kept.mk ((Rz.out.tar tar).mono hs);replace Rv:=Kept.mk ((Rv.out.tar tar).mono hs);replace B:=Kept.mk (B.out.trans (tar.below B.out.size))
  replace H:=Kept.mk gz
  clear KT htk hs gz rr tar hl hm
  obtain⟨pn,hpn⟩:∃ pn:Nat,p=pn:=⟨p.toNat,by have:=HR.out;omega⟩
  obtain⟨on,hon⟩:∃ on:Nat,o=on:=⟨o.toNat,by have:=HR.out;omega⟩
  obtain⟨m1,hh,-,hv1,-⟩:=poll_next (x:=⟨0,[]⟩) (b:=[0,0,0]) (p:=pn) (seq:=1) (clock:=1) (r:=52) HPL.out (by rw[HTL.out];have:=HR.out;omega) (by rw[HT0.out];rfl) (by omega) poll_enc (by simp) (by simp)
  rw[poll_ans HNIL.out.e,← hpn] at hh
  have LP:Kept ((if 0≤p∧p < (m1.v.t.length:Int) then (tAt m1.v p.toNat).seq else 0)=1):=⟨by
   have:=HR.out
   rw[hv1,doV_len,HTL.out,if_pos (by omega),tAt_set (by rw[HTL.out];omega),if_pos (by omega)]⟩
  have LO:Kept ((if 0≤o∧o < (m1.v.t.length:Int) then (tAt m1.v o.toNat).seq else 0)=0):=⟨by
   have:=HR.out
   rw[hv1,doV_len,HTL.out,if_pos (by omega),tAt_set (by rw[HTL.out];omega),if_neg (by omega),HT0.out]⟩
  have PL:=poll_len (Ledger.clockL m0.v.l 1).clock
  generalize bytesA ⟨(Ledger.clockL m0.v.l 1).clock,0,[],[]⟩=out at *
  have HH:=Kept.mk hh;have PLK:=Kept.mk PL
  clear hh hv1 PL hpn hon
  have KT:=gl_poll 1 HG.out H.out HPL.out HNIL.out (by have:=HSV.out;omega) Rz.out Lz.out HM.out.1 (by have:=HR.out;omega) HH.out (by have:=PLK.out;omega)
  replace KT:=Kept.mk KT
  go_wp2_with fail
  refine KT.out.mono ?_
  rintro e w34 htk
  obtain⟨At,lt,ct,Zt,rfl,hl,hm,hs,gz,rr,tar⟩:=H.out.take htk
  replace Rx:=Kept.mk ((Rx.out.tar tar).mono hs);replace Ry:=Kept.mk ((Ry.out.tar tar).mono hs);replace Rz:=Kept.mk ((Rz.out.tar tar).mono hs);replace Rv:=Kept.mk ((Rv.out.tar tar).mono hs);replace B:=Kept.mk (B.out.trans (tar.below B.out.size))
  replace H:=Kept.mk gz
  clear KT htk hs gz rr tar hl hm
  have Q1:(oe1 != 0)=true:=by simpa using Q12.out.1
  have Q2:(oe2 != 0)=true:=by simpa using Q12.out.2
  go_wp2_with fail
  refine(gfirst_any _).mono ?_
  rintro e w35 ⟨rfl,bb⟩
  replace H:=Kept.mk (H.out.below bb);replace B:=Kept.mk (B.out.trans (bb.mono B.out.size))
  clear bb
  have K1:=Kept.mk (gz_last H.out p LP.out);have K2:=Kept.mk (gz_last H.out o LO.out)
  have K3:=Kept.mk (gz_get H.out 4 (v:=1) (by decide +kernel));have K4:=Kept.mk (gz_get H.out 2 (v:=3) (by decide +kernel))
  go_wp2_with (first|(go_at_call 26;(with_reducible refine K1.out.mono ?_);rintro e w' ⟨rfl,rfl⟩)|(go_at_call 26;(with_reducible refine K2.out.mono ?_);rintro e w' ⟨rfl,rfl⟩)|(go_at_call 27;(with_reducible refine K3.out.mono ?_);rintro e w' ⟨rfl,rfl⟩)|(go_at_call 27;(with_reducible refine K4.out.mono ?_);rintro e w' ⟨rfl,rfl⟩))
  go_ret
  exact⟨rfl,B.out⟩
end Go.Proofs.YtlkeieoecfkkeaaGreat.Gate
