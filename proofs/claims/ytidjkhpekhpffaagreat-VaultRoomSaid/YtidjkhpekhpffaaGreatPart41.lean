/-
  Parts laid together: ShaCmp ShaUse.
-/
import Derived.Test.YtidjkhpekhpffaaGreatPart29
import Derived.Test.YtidjkhpekhpffaaGreatPart9
import Derived.Laws.BytesArg
import Derived.Lib.SlBytesConst
import Derived.DataShut
import Derived.Laws.OwnMore
namespace Go.Proofs.YtidjkhpekhpffaaGreat.Sha
open Go.RowKit
theorem Tab.lt {w:World}{t:Nat}(h:Tab w t):t < w.heap.size:=by
 rcases h with h|h<;>exact Blk.lt h
theorem Tab.below {w w':World}{t B:Nat}(h:Tab w t) (b:Below B w w') (hB:t < B):Tab w' t:=by
 rcases h with h|h
 ·exact .inl (Blk.below h b hB)
 ·exact .inr (Blk.below h b hB)
theorem Tab.bar {w w':World}{t:Nat}{l:List Nat}(h:Tab w t) (b:Bar l w w') (hl:t∉l):Tab w' t:=by
 rcases h with h|h
 ·exact .inl (Blk.bar h b hl)
 ·exact .inr (Blk.bar h b hl)
theorem Hs.lt {w:World}{h t:Nat}{text:List Int}(x:Hs w h t text):h < w.heap.size:=by
 obtain⟨_,_,_,r,_,_,_,k⟩:=x
 exact k.lt
theorem Hs.bar {w w':World}{h t:Nat}{text:List Int}{l:List Nat}(x:Hs w h t text) (b:Bar l w w') (hh:h∉l) (ht:t∉l):Hs w' h t text:=by
 obtain⟨h1,h2,h3,r,h4,h5,h6,k⟩:=x
 exact⟨h1,Blk.bar h2 b ht,h3,r,h4,h5,h6,k.bar b hh⟩
theorem Hs.other {w w':World}{h t:Nat}{text:List Int}(x:Hs w h t text) (b:Bar [t] w w') (m:Made w' t):Hs w' h t text:=by
 obtain⟨h1,h2,h3,r,h4,h5,h6,k⟩:=x
 exact⟨h1,m,h3,r,h4,h5,h6,k.bar b (by simpa using h1)⟩
end Go.Proofs.YtidjkhpekhpffaaGreat.Sha
