/-
  Parts laid together: GateRef GateAlike.
-/
import Derived.Test.YtlkeieoecfkkeaaGreatPart1
import Derived.Test.YtlkeieoecfkkeaaGreatPart4
import Derived.Test.YtlkeieoecfkkeaaGreatPart45
import Derived.Test.YtlkeieoecfkkeaaGreatPart9
import Derived.Test.YtlkeieoecfkkeaaGreatPart6
import Derived.Deep.RegionHeld3
import Derived.Deep.DeepCutAuto
import Derived.Test.YtlkeieoecfkkeaaGreatPart7
namespace Go.Proofs.YtlkeieoecfkkeaaGreat.Gate
open Go.RowKit Go.Proofs.YtlkeieoecfkkeaaGreat.Sha Go.Proofs.YtlkeieoecfkkeaaGreat.Wire Go.Proofs.YtlkeieoecfkkeaaGreat.Mac Go.Proofs.YtlkeieoecfkkeaaGreat.Seal
section
variable {A B : Option Addr} {n c m d : Nat} {seed ans : List Int} {w : World}
theorem rkeys_any (party which:Int) (hr:Rd w A n seed) (hn:n < 1073741824):Calls Tryz.prog 12 #[.slice A n c,.int .i64 party,.int .i64 which] w (RMacPost (keyV seed party which) w):=by
 have KC:=Kept.mk (rkey_any A n c seed party which w hr hn)
 clear hr
 unfold RMacPost at KC
 unfold keyV
 go_enter Tryz.func12,Tryz.ntmps12
 go_wp2_with fail
 refine KC.out.mono ?_
 rintro e w1 ⟨M,cap,rfl,h1,h2,h3,r,b⟩
 have R:=Kept.mk r;have B1:=Kept.mk b
 clear r b KC
 go_wp2
 go_ret
 exact⟨M,cap,rfl,h1,h2,h3,R.out,B1.out⟩
theorem results_tmp3 {P:Program}{fn:Func}{a b c:Tmp}(h:fn.results=#[.tmp a,.tmp b,.tmp c]) (tmps:Array Value) (w:World):(results fn tmps).run P w=.ok (.tuple #[tmps.getD a undef,tmps.getD b undef,tmps.getD c undef]) w:=by
 simp[results,h]
end
set_option maxRecDepth 100000 in
set_option maxHeartbeats 1000000 in
theorem alike_any {A:Option Addr}{na ca:Nat}{seed:List Int}(wh p o:Int) {w:World}(hr:Rd w A na seed):Calls Tryz.prog 17 #[.slice A na ca,.int .i64 wh,.int .i64 p,.int .i64 o] w fun e w'=>∃ q:Bool,e=.returned (.bool q)∧Below w.heap.size w w':=by
 have RA:=Kept.mk hr
 have B:Kept (Below w.heap.size w w):=⟨Below.refl _ _⟩
 clear hr
 go_enter Tryz.func17,Tryz.ntmps17
 go_upto_region 1 with(fail)
 by_cases g0:(200:Int) < na
 ·go_wp2
  go_ret
  exact⟨_,rfl,B.out⟩
 by_cases g1:wh < 0
 ·have g0':((200:Int) < na)=False:=eq_false g0
  clear g0
  go_wp2
  go_ret
  exact⟨_,rfl,B.out⟩
 by_cases g2:1 < wh
 ·have g0':((200:Int) < na)=False:=eq_false g0
  have g1':(wh < 0)=False:=eq_false g1
  clear g0 g1
  go_wp2
  go_ret
  exact⟨_,rfl,B.out⟩
 by_cases g3:p < 0
 ·have g0':((200:Int) < na)=False:=eq_false g0
  have g1':(wh < 0)=False:=eq_false g1
  have g2':(1 < wh)=False:=eq_false g2
  clear g0 g1 g2
  go_wp2
  go_ret
  exact⟨_,rfl,B.out⟩
 by_cases g4:3 < p
 ·have g0':((200:Int) < na)=False:=eq_false g0
  have g1':(wh < 0)=False:=eq_false g1
  have g2':(1 < wh)=False:=eq_false g2
  have g3':(p < 0)=False:=eq_false g3
  clear g0 g1 g2 g3
  go_wp2
  go_ret
  exact⟨_,rfl,B.out⟩
 by_cases g5:o < 0
 ·have g0':((200:Int) < na)=False:=eq_false g0
  have g1':(wh < 0)=False:=eq_false g1
  have g2':(1 < wh)=False:=eq_false g2
  have g3':(p < 0)=False:=eq_false g3
  have g4':(3 < p)=False:=eq_false g4
  clear g0 g1 g2 g3 g4
  go_wp2
  go_ret
  exact⟨_,rfl,B.out⟩
 by_cases g6:3 < o
 ·have g0':((200:Int) < na)=False:=eq_false g0
  have g1':(wh < 0)=False:=eq_false g1
  have g2':(1 < wh)=False:=eq_false g2
  have g3':(p < 0)=False:=eq_false g3
  have g4':(3 < p)=False:=eq_false g4
  have g5':(o < 0)=False:=eq_false g5
  clear g0 g1 g2 g3 g4 g5
  go_wp2
  go_ret
  exact⟨_,rfl,B.out⟩
 have g0':((200:Int) < na)=False:=eq_false g0
 have g1':(wh < 0)=False:=eq_false g1
 have g2':(1 < wh)=False:=eq_false g2
 have g3':(p < 0)=False:=eq_false g3
 have g4':(3 < p)=False:=eq_false g4
 have g5':(o < 0)=False:=eq_false g5
 have g6':(3 < o)=False:=eq_false g6
 have HN:Kept (na≤200∧(wh=0∨wh=1)):=⟨by omega⟩
 clear g0 g1 g2 g3 g4 g5 g6
 go_wp2_with fail
 refine(rkeys_any (c:=ca) p wh RA.out (by have:=HN.out;omega)).mono ?_
 rintro e w1 ⟨M,c1,rfl,-,h1,h2,r1,bb⟩
 have c0:=conv_same (cap:=c1) r1
 generalize strOfNums (keyV seed p wh)=s1 at *
 replace B:=Kept.mk (B.out.trans (bb.mono B.out.size))
 clear r1 bb h1 h2
 go_wp2_with fail
 clear c0
 refine(rkeys_any (c:=ca) o wh (RA.out.below B.out) (by have:=HN.out;omega)).mono ?_
 rintro e w2 ⟨M2,c2,rfl,-,h1,h2,r1,bb⟩
 have c0:=conv_same (cap:=c2) r1
 generalize strOfNums (keyV seed o wh)=s2 at *
 replace B:=Kept.mk (B.out.trans (bb.mono B.out.size))
 clear r1 bb h1 h2
 obtain⟨q,hq⟩:∃ q,(s1.toList == s2.toList)=q:=⟨_,rfl⟩
 cases q with
 | true =>
  go_wp2
  go_ret
  exact⟨_,rfl,B.out⟩
 | false =>
  obtain⟨u,hu⟩:∃ u:Int,1 - wh=u:=⟨_,rfl⟩
  go_wp2_with fail
  clear c0 hq
  refine(rkeys_any (c:=ca) p _ (RA.out.below B.out) (by have:=HN.out;omega)).mono ?_
  rintro e w3 ⟨M3,c3,rfl,-,h1,h2,r1,bb⟩
  have c0:=conv_same (cap:=c3) r1
  generalize strOfNums (keyV seed p _)=s3 at *
  replace B:=Kept.mk (B.out.trans (bb.mono B.out.size))
  clear r1 bb h1 h2
  go_wp2
  go_ret
  exact⟨_,rfl,B.out⟩
end Go.Proofs.YtlkeieoecfkkeaaGreat.Gate
