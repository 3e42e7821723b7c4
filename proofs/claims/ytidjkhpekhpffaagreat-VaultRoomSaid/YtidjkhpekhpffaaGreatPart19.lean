/-
  Parts laid together: Bools.
-/
import Derived.Test.YtidjkhpekhpffaaGreatPart8
import Derived.Deep.Grids
import Derived.ChangeSame
namespace Go.Proofs.YtidjkhpekhpffaaGreat.Sha
open Go.RowKit Go.ChangeShapes Go.WideShapes Go.Deep
def Rb (w:World) (A:Option Addr) (n:Nat) (bs:List Bool):Prop :=
 bs.length=n∧(n=0∨∃ b o,A=some ⟨b,o,none⟩∧∀ i,i < n→w.cell? ⟨b,o+i,none⟩=some (.bool (bs.getD i false)))
theorem Rb.bar {w w':World}{A:Option Addr}{n:Nat}{xs:List Bool}{l:List Nat}(r:Rb w A n xs) (b:Bar l w w') (hl:∀ x∈l,w.heap.size≤x∨∀ o,A≠some ⟨x,o,none⟩):Rb w' A n xs:=by
 obtain⟨h1,h3⟩:=r
 refine⟨h1,h3.imp id ?_⟩
 rintro ⟨bb,o,rfl,hc⟩
 refine⟨bb,o,rfl,fun i hi=>?_⟩
 have hlt:bb < w.heap.size:=World.block_lt_of_cell? _ _ (hc i hi)
 rw[← hc i hi]
 refine World.cell?_of_block (w:=w) (b.block bb hlt (fun hm=>?_))
 rcases hl bb hm with h|h
 ·omega
 ·exact h o rfl
theorem Rb.below {w w':World}{A:Option Addr}{n:Nat}{xs:List Bool}(r:Rb w A n xs) (b:Below w.heap.size w w'):Rb w' A n xs:=r.bar (l:=[]) (barOf b []) (by simp)
theorem Rb.far {w w':World}{A:Option Addr}{n:Nat}{xs:List Bool}{F:List Nat}(r:Rb w A n xs) (b:Bar F w w') (h:Off A n F):Rb w' A n xs:=by
 rcases h with rfl|⟨g,o,rfl,hg⟩
 ·exact⟨r.1,.inl rfl⟩
 ·exact r.bar b (fun x hx=>.inr fun o' ho=>by injection ho with ho;injection ho with ho;exact hg (ho▸hx))
theorem Rb.off {w:World}{A:Option Addr}{n:Nat}{xs:List Bool}{F:List Nat}(r:Rb w A n xs) (h:∀ k∈F,w.heap.size≤k):Off A n F:=by
 rcases r.2 with h0|⟨b,o,rfl,hc⟩
 ·exact .inl h0
 ·by_cases h0:n=0
  ·exact .inl h0
  ·refine .inr ⟨b,o,rfl,fun hb=>?_⟩
   have:=World.block_lt_of_cell? _ _ (hc 0 (by omega))
   have:=h b hb
   simp at *
   omega
theorem Rb.nil_ {w:World}{A:Option Addr}:Rb w A 0 []:=⟨rfl,.inl rfl⟩
section
variable {H : Type} {enc : TypeId × Value → H} {P : Program} {w : World} {base : Nat} {held : Bool}
end
end Go.Proofs.YtidjkhpekhpffaaGreat.Sha
