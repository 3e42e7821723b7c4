/-
 The law GateTells, walked.
-/
import Derived.Test.YtlkeieoecfkkeaaGreatPart50
import Derived.Test.YtlkeieoecfkkeaaGreatPart51
import Derived.Test.YtlkeieoecfkkeaaGreatPart9
namespace Go.Proofs.YtlkeieoecfkkeaaGreat.Gate
open Go.RowKit Go.Proofs.YtlkeieoecfkkeaaGreat.Num Go.Proofs.YtlkeieoecfkkeaaGreat.Sha Go.Proofs.YtlkeieoecfkkeaaGreat.Wire Go.Proofs.YtlkeieoecfkkeaaGreat.Mac Go.Proofs.YtlkeieoecfkkeaaGreat.Seal Go.Proofs.YtlkeieoecfkkeaaGreat.Vault
set_option maxRecDepth 100000 in
set_option maxHeartbeats 2000000 in
theorem tells_walk (A Bb:Option Addr) (na ca nb cb:Nat) (seed ans:List Int) (x y z:Int) (w:World) (hra:Rd w A na seed) (hrb:Rd w Bb nb ans) (hca:na≤ca) (hma:ca≤9223372036854775807) (hcb:nb≤cb) (hmb:cb≤9223372036854775807) :
  Calls Tryz.prog 3 #[.slice A na ca,.slice Bb nb cb,.int .i64 x,.int .i64 y,.int .i64 z] w fun e w'=>e=.returned (.bool true)∧Below w.heap.size w w':=by
 have RA:=Kept.mk hra;have RB:=Kept.mk hrb
 clear hra hrb
 go_enter Tryz.func3,Tryz.ntmps3
 go_wp2_with fail
 refine(gfirst_any _).mono ?_
 rintro e w1 ⟨rfl,bb⟩
 have B:=Kept.mk bb
 clear bb
 go_upto_region 3 with(fail)
 by_cases h1:1000 < na
 ·have h1':(1000:Int) < na:=by omega
  go_wp2_with fail
  refine(gfirst_any _).mono ?_
  rintro e w9 ⟨rfl,bb⟩
  replace B:=Kept.mk (B.out.trans (bb.mono B.out.size))
  clear bb
  go_wp2
  go_ret
  exact⟨rfl,B.out⟩
 by_cases h2:1000 < nb
 ·have h1':((1000:Int) < na)=False:=eq_false (by omega)
  have h2':(1000:Int) < nb:=by omega
  go_wp2_with fail
  refine(gfirst_any _).mono ?_
  rintro e w9 ⟨rfl,bb⟩
  replace B:=Kept.mk (B.out.trans (bb.mono B.out.size))
  clear bb
  go_wp2
  go_ret
  exact⟨rfl,B.out⟩
 have h1':((1000:Int) < na)=False:=eq_false (by omega)
 have h2':((1000:Int) < nb)=False:=eq_false (by omega)
 have HN:Kept (na≤1000∧nb≤1000):=⟨by omega⟩
 clear h1 h2
 go_wp2_with fail
 refine(newt_any w1).mono ?_
 rintro e w2 ⟨t,rfl,ht,bb,htw⟩
 have T:=Kept.mk ht
 have HT:Kept (w.heap.size≤t):=⟨by have:=B.out.size;omega⟩
 replace B:=Kept.mk (B.out.trans (bb.mono B.out.size))
 clear ht bb htw h1' h2'
 go_wp2_with fail
 refine(csplit_any (RB.out.below B.out) hcb (by have:=HN.out;omega)).mono ?_
 unfold SplitPost
 obtain⟨SV,hSV⟩:∃ SV,splitV ans=SV:=⟨_,rfl⟩
 rw[hSV]
 obtain⟨⟨s1,s2⟩,se⟩:=SV
 have HSV:=Kept.mk hSV
 clear hSV
 dsimp only
 rintro e w3 ⟨A1,n1,c1,A2,n2,c2,rfl,r1,r2,k1,k2,k3,k4,bb⟩
 replace T:=Kept.mk (T.out.below bb T.out.lt);replace B:=Kept.mk (B.out.trans (bb.mono B.out.size))
 have R1:=Kept.mk r1;have R2:=Kept.mk r2
 clear r1 r2 k1 k2 k3 k4 bb
 go_wp2_with fail
 refine(rsplit_any (RB.out.below B.out) hcb (by have:=HN.out;omega)).mono ?_
 unfold SplitPost
 rw[HSV.out]
 dsimp only
 rintro e w4 ⟨A3,n3,c3,A4,n4,c4,rfl,r3,r4,-,-,-,-,bb⟩
 replace T:=Kept.mk (T.out.below bb T.out.lt);replace B:=Kept.mk (B.out.trans (bb.mono B.out.size))
 replace R1:=Kept.mk (R1.out.below bb);replace R2:=Kept.mk (R2.out.below bb)
 have R3:=Kept.mk r3;have R4:=Kept.mk r4
 clear r3 r4 bb HSV
 have hse:(se != se)=false:=by simp
 go_upto_region 10 with(first|(refine(bytes_same A1 A3 n1 n3 c1 c3 s1 w4 R1.out R3.out).mono ?_;rintro e w' ⟨rfl,rfl⟩)|(refine(bytes_same A2 A4 n2 n4 c2 c4 s2 w4 R2.out R4.out).mono ?_;rintro e w' ⟨rfl,rfl⟩))
 clear R1 R2 R3 R4 hse
 by_cases g0:x < 0
 ·go_wp2_with fail
  refine(gfirst_any _).mono ?_
  rintro e w9 ⟨rfl,bb⟩
  replace B:=Kept.mk (B.out.trans (bb.mono B.out.size))
  clear bb
  go_wp2
  go_ret
  exact⟨rfl,B.out⟩
 by_cases g1:255 < x
 ·have g0':(x < 0)=False:=eq_false g0;clear g0
  go_wp2_with fail
  refine(gfirst_any _).mono ?_
  rintro e w9 ⟨rfl,bb⟩
  replace B:=Kept.mk (B.out.trans (bb.mono B.out.size))
  clear bb
  go_wp2
  go_ret
  exact⟨rfl,B.out⟩
 by_cases g2:y < 0
 ·have g0':(x < 0)=False:=eq_false g0;clear g0
  have g1':(255 < x)=False:=eq_false g1;clear g1
  go_wp2_with fail
  refine(gfirst_any _).mono ?_
  rintro e w9 ⟨rfl,bb⟩
  replace B:=Kept.mk (B.out.trans (bb.mono B.out.size))
  clear bb
  go_wp2
  go_ret
  exact⟨rfl,B.out⟩
 by_cases g3:255 < y
 ·have g0':(x < 0)=False:=eq_false g0;clear g0
  have g1':(255 < x)=False:=eq_false g1;clear g1
  have g2':(y < 0)=False:=eq_false g2;clear g2
  go_wp2_with fail
  refine(gfirst_any _).mono ?_
  rintro e w9 ⟨rfl,bb⟩
  replace B:=Kept.mk (B.out.trans (bb.mono B.out.size))
  clear bb
  go_wp2
  go_ret
  exact⟨rfl,B.out⟩
 by_cases g4:z < 0
 ·have g0':(x < 0)=False:=eq_false g0;clear g0
  have g1':(255 < x)=False:=eq_false g1;clear g1
  have g2':(y < 0)=False:=eq_false g2;clear g2
  have g3':(255 < y)=False:=eq_false g3;clear g3
  go_wp2_with fail
  refine(gfirst_any _).mono ?_
  rintro e w9 ⟨rfl,bb⟩
  replace B:=Kept.mk (B.out.trans (bb.mono B.out.size))
  clear bb
  go_wp2
  go_ret
  exact⟨rfl,B.out⟩
 by_cases g5:4294967295 < z
 ·have g0':(x < 0)=False:=eq_false g0;clear g0
  have g1':(255 < x)=False:=eq_false g1;clear g1
  have g2':(y < 0)=False:=eq_false g2;clear g2
  have g3':(255 < y)=False:=eq_false g3;clear g3
  have g4':(z < 0)=False:=eq_false g4;clear g4
  go_wp2_with fail
  refine(gfirst_any _).mono ?_
  rintro e w9 ⟨rfl,bb⟩
  replace B:=Kept.mk (B.out.trans (bb.mono B.out.size))
  clear bb
  go_wp2
  go_ret
  exact⟨rfl,B.out⟩
 obtain⟨s,rfl⟩:∃ s:Nat,z=s:=⟨z.toNat,by omega⟩
 have g0':(x < 0)=False:=eq_false g0
 have g1':(255 < x)=False:=eq_false g1
 have g2':(y < 0)=False:=eq_false g2
 have g3':(255 < y)=False:=eq_false g3
 have g4':((s:Int) < 0)=False:=eq_false g4
 have g5':(4294967295 < (s:Int))=False:=eq_false g5
 clear g0 g1 g2 g3 g4 g5
 go_wp2_with fail
 refine(gfirst_any _).mono ?_
 rintro e w5 ⟨rfl,bb⟩
 replace T:=Kept.mk (T.out.below bb T.out.lt);replace B:=Kept.mk (B.out.trans (bb.mono B.out.size))
 clear bb
 go_wp2_with fail
 refine(ckeys_any x y T.out (RA.out.below B.out) hca hma (by have:=HN.out;omega)).mono ?_
 rintro e w6 ⟨M,rfl,hM,k,tt,bb⟩
 replace T:Kept (Tab w6 t):=⟨.inr tt⟩
 replace B:=Kept.mk (B.out.trans (bb.below B.out.size (by simpa using HT.out)))
 have K1:Kept (Rd w6 (some ⟨M,0,none⟩) 32 (keyV seed x y)):=⟨Rd.blk k (hmac_byt _ _) (hmac_len _ _)⟩
 clear bb k tt hM
 go_wp2_with fail
 refine(rkeys_any (c:=ca) x y (RA.out.below B.out) (by have:=HN.out;omega)).mono ?_
 rintro e w7 ⟨M2,c2,rfl,-,-,-,r2,bb⟩
 replace T:=Kept.mk (T.out.below bb T.out.lt);replace B:=Kept.mk (B.out.trans (bb.mono B.out.size));replace K1:=Kept.mk (K1.out.below bb)
 have R2:=Kept.mk r2
 clear bb r2
 go_wp2_with fail
 refine(bytes_same _ _ _ _ _ _ (keyV seed x y) w7 K1.out R2.out).mono ?_
 rintro e w' ⟨rfl,rfl⟩
 clear K1 R2
 go_wp2_with fail
 refine(cstamp_any y T.out (RA.out.below B.out) hca hma (by have:=HN.out;omega)).mono ?_
 rintro e w8 ⟨M,rfl,hM,k,tt,bb⟩
 replace T:Kept (Tab w8 t):=⟨.inr tt⟩
 replace B:=Kept.mk (B.out.trans (bb.below B.out.size (by simpa using HT.out)))
 have K1:Kept (Rd w8 (some ⟨M,0,none⟩) 32 (stampV seed y)):=⟨Rd.blk k (hmac_byt _ _) (hmac_len _ _)⟩
 clear bb k tt hM
 go_wp2_with fail
 refine(rstamp_any (c:=ca) y (RA.out.below B.out) (by have:=HN.out;omega)).mono ?_
 rintro e w9 ⟨M2,c2,rfl,-,-,-,r2,bb⟩
 replace T:=Kept.mk (T.out.below bb T.out.lt);replace B:=Kept.mk (B.out.trans (bb.mono B.out.size));replace K1:=Kept.mk (K1.out.below bb)
 have R2:=Kept.mk r2
 clear bb r2
 go_wp2_with fail
 refine(bytes_same _ _ _ _ _ _ (stampV seed y) w9 K1.out R2.out).mono ?_
 rintro e w' ⟨rfl,rfl⟩
 clear K1 R2
 go_wp2_with fail
 refine(creceipt_any x y s T.out (RA.out.below B.out) hca hma (by have:=HN.out;omega) (RB.out.below B.out) hcb hmb (by have:=HN.out;omega)).mono ?_
 rintro e w10 ⟨M,rfl,hM,k,tt,bb⟩
 replace T:Kept (Tab w10 t):=⟨.inr tt⟩
 replace B:=Kept.mk (B.out.trans (bb.below B.out.size (by simpa using HT.out)))
 have K1:Kept (Rd w10 (some ⟨M,0,none⟩) 32 (rcpV seed x y s ans)):=⟨Rd.blk k (hmac_byt _ _) (hmac_len _ _)⟩
 clear bb k tt hM
 go_wp2_with fail
 refine(rreceipt_any (c:=ca) (d:=cb) x y s (RA.out.below B.out) (by have:=HN.out;omega) (RB.out.below B.out) (by have:=HN.out;omega)).mono ?_
 rintro e w11 ⟨M2,c2,rfl,-,-,-,r2,bb⟩
 replace T:=Kept.mk (T.out.below bb T.out.lt);replace B:=Kept.mk (B.out.trans (bb.mono B.out.size));replace K1:=Kept.mk (K1.out.below bb)
 have R2:=Kept.mk r2
 clear bb r2
 go_wp2_with fail
 refine(bytes_same _ _ _ _ _ _ (rcpV seed x y s ans) w11 K1.out R2.out).mono ?_
 rintro e w' ⟨rfl,rfl⟩
 clear K1 R2
 go_wp2
 go_ret
 exact⟨rfl,B.out⟩
end Go.Proofs.YtlkeieoecfkkeaaGreat.Gate
