/-
  Parts laid together: DiskPost.
-/
import Derived.Test.YtidjkhpekhpffaaGreatPart3
import Derived.Test.YtidjkhpekhpffaaGreatPart9
import Derived.Test.YtidjkhpekhpffaaGreatPart19
namespace Go.Proofs.YtidjkhpekhpffaaGreat.Disk
open Go.RowKit Go.Proofs.YtidjkhpekhpffaaGreat.Sha
def CNewPost (Dk:World→List Nat→Nat→Nat→DS→Prop) (w:World) (n:Nat) (e:Ending) (w':World):Prop:=∃ d F,e=.returned (.tuple #[.pointer (some ⟨d,0,none⟩),.int .i64 0])∧Dk w' F d n (newD n)∧Fp [] F w w'
def StepPost (D:World→List Nat→DS→Prop) (w:World) (F:List Nat) (r:Int × DS) (e:Ending) (w':World):Prop:=e=.returned (.int .i64 r.1)∧∃ F',D w' F' r.2∧Fp F F' w w'
theorem new_off {F:List Nat}{g n o:Nat}(h:∀ k∈F,k < g):Off (some ⟨g,o,none⟩) n F:=.inr ⟨g,o,rfl,fun hk=>by have:=h g hk;omega⟩
end Go.Proofs.YtidjkhpekhpffaaGreat.Disk
