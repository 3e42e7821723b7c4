/-
  Parts laid together: Takes NumMath.
-/
import Derived.OrdersHeld
import Derived.Deep.RegionHeld3
import Derived.RegionTactic
import Derived.KernelRfl
namespace Go.Proofs.YtlkeieoecfkkeaaGreat
namespace Sha
open Go
theorem zA {α:Type}{xs:List α}{i:Nat}{a:α}:xs.toArray.setIfInBounds i a=(xs.set i a).toArray:=by simp
theorem zB {α:Type}{a b:α}{l:List α}:(a :: l).set 0 b=b :: l:=rfl
theorem zC {α:Type}{a b:α}{n:Nat}{l:List α}:(a :: l).set (n+1) b=a :: l.set n b:=rfl
section
variable {P : Program} {ops : Array Oper} {Q : Exit → Act → World → Prop} {md : Region.Mode} {S : World → Prop}
theorem tk (i:Nat) {oi:Oper}{v:Value}{fuel:Nat}{listed:Array Bool}{a:Act}{w:World}(h:wpAnyH P md ops Q S fuel (listed.setIfInBounds i true) (a.put oi.dst v) w)
  (hi:ops[i]?=some oi:=by(simp only[List.getElem?_toArray];exact rfl)) (hc:(Region.noSelect ops && (Region.free md ops listed i && (Region.ready md ops listed).contains i))=true:=by kernel_rfl)
  (hQ:∀ c a w,Q (.panic c) (a.put oi.dst v) w→Q (.panic c) a w:=by exact fun _ _ _ h=>h)
  (hw:Region.wanted oi (yielded ops a.tmps)=true:=by rfl)
  (hy:∀ w,S w→(execOp a.eval oi).run P w=.ok (.value v) w:=by(intro w hSw;(try dsimp only at hSw);go_simp;try exact rfl)) (hS:S w:=by assumption):wpAnyH P md ops Q S (fuel+1) listed a w:=by
 rw[Bool.and_eq_true,Bool.and_eq_true] at hc
 exact wpAnyH_take hi hc.1 hc.2.1 hc.2.2 hQ (.inl ⟨hw,hy⟩) hS h
theorem tkn (i:Nat) {oi:Oper}{fuel:Nat}{listed:Array Bool}{a:Act}{w:World}(h:wpAnyH P md ops Q S fuel (listed.setIfInBounds i true) (a.put oi.dst undef) w)
  (hi:ops[i]?=some oi:=by(simp only[List.getElem?_toArray];exact rfl)) (hc:(Region.noSelect ops && (Region.free md ops listed i && (Region.ready md ops listed).contains i))=true:=by kernel_rfl)
  (hQ:∀ c a w,Q (.panic c) (a.put oi.dst undef) w→Q (.panic c) a w:=by exact fun _ _ _ h=>h)
  (hw:Region.wanted oi (yielded ops a.tmps)=false:=by rfl) (hS:S w:=by assumption):wpAnyH P md ops Q S (fuel+1) listed a w:=by
 rw[Bool.and_eq_true,Bool.and_eq_true] at hc
 exact wpAnyH_take hi hc.1 hc.2.1 hc.2.2 hQ (.inr ⟨hw,rfl⟩) hS h
theorem ld (i:Nat) {o:Oper}{fuel:Nat}{listed:Array Bool}{a:Act}{w:World}
  (h:∀ K':Act→World→Prop,Shut (∀ a w,S w→(S w→wpAnyH P md ops Q S fuel (listed.setIfInBounds i true) a w)→K' a w)→if Region.wanted o (yielded ops a.tmps)=true then Oper.wp P o a w K' Q else K' (a.put o.dst undef) w)
  (hi:ops[i]?=some o:=by(simp only[List.getElem?_toArray];exact rfl)) (hr:Region.ready md ops listed=[i]:=by kernel_rfl):wpAnyH P md ops Q S (fuel+1) listed a w :=
 wpAnyH_ready (rs:=[i]) hr (by simp) (AllReadyH.cons hi h AllReadyH.nil)
theorem ld2 (i j:Nat) {o o2:Oper}{fuel:Nat}{listed:Array Bool}{a:Act}{w:World}
  (h:∀ K':Act→World→Prop,Shut (∀ a w,S w→(S w→wpAnyH P md ops Q S fuel (listed.setIfInBounds i true) a w)→K' a w)→if Region.wanted o (yielded ops a.tmps)=true then Oper.wp P o a w K' Q else K' (a.put o.dst undef) w)
  (h2:∀ K':Act→World→Prop,Shut (∀ a w,S w→(S w→wpAnyH P md ops Q S fuel (listed.setIfInBounds j true) a w)→K' a w)→if Region.wanted o2 (yielded ops a.tmps)=true then Oper.wp P o2 a w K' Q else K' (a.put o2.dst undef) w)
  (hi:ops[i]?=some o:=by(simp only[List.getElem?_toArray];exact rfl)) (hj:ops[j]?=some o2:=by(simp only[List.getElem?_toArray];exact rfl)) (hr:Region.ready md ops listed=[i,j]:=by kernel_rfl):wpAnyH P md ops Q S (fuel+1) listed a w :=
 wpAnyH_ready (rs:=[i,j]) hr (by simp) (AllReadyH.cons hi h (AllReadyH.cons hj h2 AllReadyH.nil))
theorem ld3 (i j k:Nat) {o o2 o3:Oper}{fuel:Nat}{listed:Array Bool}{a:Act}{w:World}
  (h:∀ K':Act→World→Prop,Shut (∀ a w,S w→(S w→wpAnyH P md ops Q S fuel (listed.setIfInBounds i true) a w)→K' a w)→if Region.wanted o (yielded ops a.tmps)=true then Oper.wp P o a w K' Q else K' (a.put o.dst undef) w)
  (h2:∀ K':Act→World→Prop,Shut (∀ a w,S w→(S w→wpAnyH P md ops Q S fuel (listed.setIfInBounds j true) a w)→K' a w)→if Region.wanted o2 (yielded ops a.tmps)=true then Oper.wp P o2 a w K' Q else K' (a.put o2.dst undef) w)
  (h3:∀ K':Act→World→Prop,Shut (∀ a w,S w→(S w→wpAnyH P md ops Q S fuel (listed.setIfInBounds k true) a w)→K' a w)→if Region.wanted o3 (yielded ops a.tmps)=true then Oper.wp P o3 a w K' Q else K' (a.put o3.dst undef) w)
  (hi:ops[i]?=some o:=by(simp only[List.getElem?_toArray];exact rfl)) (hj:ops[j]?=some o2:=by(simp only[List.getElem?_toArray];exact rfl)) (hk:ops[k]?=some o3:=by(simp only[List.getElem?_toArray];exact rfl)) (hr:Region.ready md ops listed=[i,j,k]:=by kernel_rfl):wpAnyH P md ops Q S (fuel+1) listed a w :=
 wpAnyH_ready (rs:=[i,j,k]) hr (by simp) (AllReadyH.cons hi h (AllReadyH.cons hj h2 (AllReadyH.cons hk h3 AllReadyH.nil)))
end
end Sha
namespace Num
def amtB (n:Int):Bool:=decide (0≤n∧n≤4611686018427387904)
def tickB (n:Int):Bool:=decide (0≤n∧n≤1099511627776)
def bit (b:Bool):Int:=if b then 0 else 1
def addB (a b:Int):Bool:=amtB a && amtB b && amtB (a+b)
def addN (a b:Int):Int:=if addB a b then a+b else 0
def addE (a b:Int):Int:=bit (addB a b)
def aZ:Int→List Int→Option Int
 | t,[]=>some t
 | t,n :: r=>if addB t n then aZ (t+n) r else none
def sumN (l:List Int):Int:=(aZ 0 l).getD 0
def sumE (l:List Int):Int:=bit (aZ 0 l).isSome
theorem IB {n:Int}(h0:0≤n) (h1:n≤4611686018427387904):amtB n=true:=by unfold amtB;exact decide_eq_true ⟨h0,h1⟩
theorem Du {n:Int}(h:n < 0∨4611686018427387904 < n):amtB n=false:=by unfold amtB;exact decide_eq_false (by omega)
theorem lW {n:Int}:amtB n=true ↔ 0≤n∧n≤4611686018427387904:=by unfold amtB;exact decide_eq_true_iff
theorem uH {n:Int}(h0:0≤n) (h1:n≤1099511627776):tickB n=true:=by unfold tickB;exact decide_eq_true ⟨h0,h1⟩
theorem pY {n:Int}(h:n < 0∨1099511627776 < n):tickB n=false:=by unfold tickB;exact decide_eq_false (by omega)
theorem Dv {n:Int}:tickB n=true ↔ 0≤n∧n≤1099511627776:=by unfold tickB;exact decide_eq_true_iff
theorem lX {a b:Int}:addB a b=true ↔ 0≤a∧0≤b∧a+b≤4611686018427387904:=by
 unfold addB;simp only[Bool.and_eq_true,lW];omega
theorem nU {a b:Int}(h:addB a b=true):addN a b=a+b∧addE a b=0:=by simp[addN,addE,bit,h]
theorem gX {a b:Int}(h:addB a b=false):addN a b=0∧addE a b=1:=by simp[addN,addE,bit,h]
theorem sH {b:Bool}{p:Prop}(h:b=true ↔ p) (hp:¬ p):b=false:=by
 cases b with
 | false=>rfl
 | true=>exact absurd (h.1 rfl) hp
/-! ### sums of lists -/
theorem bZ (t:Int) (l r:List Int):aZ t (l++r)=(aZ t l).bind fun u=>aZ u r:=by
 induction l generalizing t with
 | nil=>rfl
 | cons n l ih =>
  simp only[List.cons_append,aZ]
  split
  ·exact ih _
  ·rfl
theorem sJ (zs:List Int) (k:Nat) (t:Int) (hk:k < zs.length) (h:aZ 0 (zs.take k)=some t) :
  aZ 0 (zs.take (k+1))=if addB t (zs.getD k 0) then some (t+zs.getD k 0) else none:=by
 have e:zs.take (k+1)=zs.take k++[zs.getD k 0]:=by
  rw[List.take_succ_eq_append_getElem hk]
  simp[List.getD_eq_getElem?_getD,hk]
 rw[e,bZ,h]
 rfl
theorem FT (zs:List Int) (k:Nat) (h:aZ 0 (zs.take k)=none) (len:Nat) (hk:k≤len):aZ 0 (zs.take len)=none:=by
 have e:zs.take len=zs.take k++(zs.take len).drop k:=by
  have:=List.take_append_drop k (zs.take len)
  rw[List.take_take,Nat.min_eq_left hk] at this
  exact this.symm
 rw[e,bZ,h]
 rfl
end Num
end Go.Proofs.YtlkeieoecfkkeaaGreat
