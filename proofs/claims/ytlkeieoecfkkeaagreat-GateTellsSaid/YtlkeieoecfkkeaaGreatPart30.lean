/-
  Parts laid together: JLay JLaySy.
-/
import Derived.Test.YtlkeieoecfkkeaaGreatPart1
import Derived.Test.YtlkeieoecfkkeaaGreatPart21
import Derived.Test.YtlkeieoecfkkeaaGreatPart28
import Derived.Test.YtlkeieoecfkkeaaGreatPart14
import Derived.Test.YtlkeieoecfkkeaaGreatPart19
import Derived.Deep.RegionHeld3
import Derived.Test.YtlkeieoecfkkeaaGreatPart29
namespace Go.Proofs.YtlkeieoecfkkeaaGreat.Journal
open Go.RowKit Go.Proofs.YtlkeieoecfkkeaaGreat.Sha Go.Proofs.YtlkeieoecfkkeaaGreat.Disk Go.Proofs.YtlkeieoecfkkeaaGreat.Frame
def LW (w:World) (F:List Nat) (t d j n:Nat) (cs:Array Value) (s:DS) (W:World):Prop:=∃ F',Tab W t∧Dk W F' d n s∧Blk W j 187 cs∧Fp (t :: j :: F) (t :: j :: F') w W∧t∉F'∧j∉F'
section
variable {w W W' : World} {F : List Nat} {t d j n : Nat} {cs : Array Value} {s : DS}
theorem LW.below (h:LW w F t d j n cs s W) (b:Below W.heap.size W W'):LW w F t d j n cs s W':=by
 obtain⟨F',h1,h2,h3,h4,h5,h6⟩:=h
 exact⟨F',ftab_below h1 b (ftab_lt h1),h2.keep (barOf b []) (fun _ _=>by simp),h3.below b h3.lt,⟨h4.1.trans (barOf b []) (by simp),h4.2⟩,h5,h6⟩
theorem LW.set (h:LW w F t d j n cs s W) (h3:t≠j) (i:Nat) (v:Value):LW w F t d j n (cs.setIfInBounds i v) s (W.setCell ⟨j,i,none⟩ v):=by
 obtain⟨F',h1,h2,h3',h4,h5,h6⟩:=h
 have hb:Bar [j] W (W.setCell ⟨j,i,none⟩ v):=(Bar.refl _ _).setCell (by simp) _
 exact⟨F',ftab_bar h1 hb (by simpa using h3),h2.keep hb (fun k hk=>by simp;rintro rfl;exact h6 hk),h3'.set_ i v,⟨h4.1.trans hb (by simp),h4.2⟩,h5,h6⟩
theorem LW.tab (h:LW w F t d j n cs s W) (h3:t≠j) (b:Bar [t] W W') (k:Tab W' t):LW w F t d j n cs s W':=by
 obtain⟨F',h1,h2,h3',h4,h5,h6⟩:=h
 exact⟨F',k,h2.keep b (fun k hk=>by simp;rintro rfl;exact h5 hk),h3'.bar b (by simpa using h3.symm),⟨h4.1.trans b (by simp),h4.2⟩,h5,h6⟩
theorem LW.down (h:LW w F t d j n cs s W):Calls Tryz.prog 153 #[.pointer (some ⟨d,0,none⟩)] W fun e w'=>e=.returned (.bool s.down)∧W=w':=by
 obtain⟨F',h1,h2,-⟩:=h
 exact cdown_any h2
theorem LW.cell (h:LW w F t d j n cs s W) (i:Nat):W.cell? ⟨j,i,none⟩=cs[i]?:=by
 obtain⟨F',-,-,h3,-⟩:=h
 exact h3.cell i
theorem LW.frozen (h:LW w F t d j n cs s W) (i:Nat):W.frozen? ⟨j,i,none⟩=false:=by
 obtain⟨F',-,-,h3,-⟩:=h
 exact h3.frozen i
end
end Go.Proofs.YtlkeieoecfkkeaaGreat.Journal
