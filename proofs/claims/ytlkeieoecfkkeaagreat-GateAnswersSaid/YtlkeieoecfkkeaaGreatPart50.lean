/-
  Parts laid together: GateRef.
-/
import Derived.Test.YtlkeieoecfkkeaaGreatPart1
import Derived.Test.YtlkeieoecfkkeaaGreatPart4
import Derived.Test.YtlkeieoecfkkeaaGreatPart44
import Derived.Test.YtlkeieoecfkkeaaGreatPart9
import Derived.Test.YtlkeieoecfkkeaaGreatPart6
import Derived.Deep.RegionHeld3
import Derived.Deep.DeepCutAuto
namespace Go.Proofs.YtlkeieoecfkkeaaGreat
namespace Gate
open Go.RowKit Sha Wire Mac Seal
section
variable {A B : Option Addr} {n c m d : Nat} {seed ans : List Int} {w : World}
theorem zY (party which:Int) (hr:Rd w A n seed) (hn:n < 1073741824):Calls Tryz.prog 12 #[.slice A n c,.int .i64 party,.int .i64 which] w (pK (keyV seed party which) w):=by
 have KC:=ae.mk (QW A n c seed party which w hr hn)
 clear hr
 unfold pK at KC
 unfold keyV
 go_enter Tryz.func12,Tryz.ntmps12
 go_wp2_with fail
 refine KC.out.mono ?_
 rintro e w1 ⟨M,cap,rfl,h1,h2,h3,r,b⟩
 have R:=ae.mk r;have B1:=ae.mk b
 clear r b KC
 go_wp2
 go_ret
 exact⟨M,cap,rfl,h1,h2,h3,R.out,B1.out⟩
theorem results_tmp3 {P:Program}{fn:Func}{a b c:Tmp}(h:fn.results=#[.tmp a,.tmp b,.tmp c]) (tmps:Array Value) (w:World):(results fn tmps).run P w=.ok (.tuple #[tmps.getD a undef,tmps.getD b undef,tmps.getD c undef]) w:=by
 simp[results,h]
end
end Gate
end Go.Proofs.YtlkeieoecfkkeaaGreat
