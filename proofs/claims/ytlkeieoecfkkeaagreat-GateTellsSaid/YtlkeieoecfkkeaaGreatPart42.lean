/-
  Parts laid together: ReqCGet ReqCGetV ReqCRow ReqCGAll ReqCGetR ReqCGAllR ReqCDec.
-/
import Derived.Test.YtlkeieoecfkkeaaGreatPart12
import Derived.Test.YtlkeieoecfkkeaaGreatPart10
import Derived.Deep.CutBlock
import Derived.Deep.CutRange
import Derived.Deep.RegionHeld3
import Derived.Test.YtlkeieoecfkkeaaGreatPart1
import Derived.Test.YtlkeieoecfkkeaaGreatPart8
import Derived.Test.YtlkeieoecfkkeaaGreatPart11
namespace Go.Proofs.YtlkeieoecfkkeaaGreat.Req
open Go.RowKit Go.Proofs.YtlkeieoecfkkeaaGreat.Sha Go.Proofs.YtlkeieoecfkkeaaGreat.Wire
structure RowP {α:Type} (C:α→List Value) (s n:Nat) (cs:Array Value) (l:List α):Prop where
 size:cs.size=n * s
 at_:∀ k x,l[k]?=some x→∀ j v,(C x)[j]?=some v→cs[k * s+j]?=some v
theorem RowP.new {α:Type}{C:α→List Value}{s n:Nat}{cs:Array Value}(h:cs.size=n * s):RowP C s n cs []:=⟨h,fun k x hx=>by simp at hx⟩
theorem RowP.next {α:Type}{C:α→List Value}{s n k:Nat}{cs ds:Array Value}{l:List α}{x:α}(h:RowP C s n cs l) (hl:l.length=k) (hC:∀ x,(C x).length=s) (hs:ds.size=cs.size)
  (hin:∀ j v,(C x)[j]?=some v→ds[k * s+j]?=some v) (hout:∀ i,i < k * s→ds[i]?=cs[i]?):RowP C s n ds (l++[x]):=by
 refine⟨by rw[hs,h.size],fun i y hy j v hv=>?_⟩
 by_cases hi:i < k
 ·rw[List.getElem?_append_left (by omega)] at hy
  have hj:j < s:=by
   have:=(List.getElem?_eq_some_iff.1 hv).1
   rwa [hC] at this
  rw[hout _ (by
   have:(i+1) * s≤k * s:=Nat.mul_le_mul_right s hi
   rw[Nat.add_mul] at this;omega)]
  exact h.at_ i y hy j v hv
 ·rw[List.getElem?_append_right (by omega)] at hy
  have he:i=k:=by
   have:=(List.getElem?_eq_some_iff.1 hy).1
   simp at this;omega
  subst he
  rw[hl,Nat.sub_self] at hy
  simp at hy
  subst hy
  exact hin j v hv
theorem RowP.read {α:Type}{C:α→List Value}{s n M:Nat}{T:TypeId}{cs:Array Value}{l:List α}{w:World}(h:RowP C s n cs l) (hb:Blk w M T cs) (hl:l.length=n):Rc C s w (some ⟨M,0,none⟩) n l:=by
 refine⟨hl,.inr ⟨M,0,rfl,fun k x hx j v hv=>?_⟩⟩
 rw[Nat.zero_add,hb.cell]
 exact h.at_ k x hx j v hv
def GetPost {α:Type} (C:α→List Value) (s d:Nat) (G:List Nat) (it:List α × St) (P:Prop) (w:World) (x:Ending) (w':World):Prop :=
 ∃ q A m c,x=.returned (.tuple #[.slice A m c,.bool q])∧m≤c∧c≤9223372036854775807∧(q=true ↔ P)∧Bar [d] w w'∧(∀ b o,A=some ⟨b,o,none⟩→w.heap.size≤b)∧(q=true→Rc C s w' A m it.1∧De 236 w' d G it.2)
end Go.Proofs.YtlkeieoecfkkeaaGreat.Req
