/-
  Parts laid together: NumMath.
-/
import Derived.KernelRfl
namespace Go.Proofs.YtlkeieoecfkkeaaGreat.Num
def amtB (n:Int):Bool:=decide (0≤n∧n≤4611686018427387904)
def tickB (n:Int):Bool:=decide (0≤n∧n≤1099511627776)
def bit (b:Bool):Int:=if b then 0 else 1
def addB (a b:Int):Bool:=amtB a && amtB b && amtB (a+b)
def addN (a b:Int):Int:=if addB a b then a+b else 0
def addE (a b:Int):Int:=bit (addB a b)
def sumGo:Int→List Int→Option Int
 | t,[]=>some t
 | t,n :: r=>if addB t n then sumGo (t+n) r else none
def sumN (l:List Int):Int:=(sumGo 0 l).getD 0
def sumE (l:List Int):Int:=bit (sumGo 0 l).isSome
theorem amt_yes {n:Int}(h0:0≤n) (h1:n≤4611686018427387904):amtB n=true:=by unfold amtB;exact decide_eq_true ⟨h0,h1⟩
theorem amt_no {n:Int}(h:n < 0∨4611686018427387904 < n):amtB n=false:=by unfold amtB;exact decide_eq_false (by omega)
theorem amt_iff {n:Int}:amtB n=true ↔ 0≤n∧n≤4611686018427387904:=by unfold amtB;exact decide_eq_true_iff
theorem tick_yes {n:Int}(h0:0≤n) (h1:n≤1099511627776):tickB n=true:=by unfold tickB;exact decide_eq_true ⟨h0,h1⟩
theorem tick_no {n:Int}(h:n < 0∨1099511627776 < n):tickB n=false:=by unfold tickB;exact decide_eq_false (by omega)
theorem add_iff {a b:Int}:addB a b=true ↔ 0≤a∧0≤b∧a+b≤4611686018427387904:=by
 unfold addB;simp only[Bool.and_eq_true,amt_iff];omega
theorem add_at {a b:Int}(h:addB a b=true):addN a b=a+b∧addE a b=0:=by simp[addN,addE,bit,h]
theorem add_not {a b:Int}(h:addB a b=false):addN a b=0∧addE a b=1:=by simp[addN,addE,bit,h]
theorem bool_false {b:Bool}{p:Prop}(h:b=true ↔ p) (hp:¬ p):b=false:=by
 cases b with
 | false=>rfl
 | true=>exact absurd (h.1 rfl) hp
/-! ### sums of lists -/
theorem sumGo_append (t:Int) (l r:List Int):sumGo t (l++r)=(sumGo t l).bind fun u=>sumGo u r:=by
 induction l generalizing t with
 | nil=>rfl
 | cons n l ih =>
  simp only[List.cons_append,sumGo]
  split
  ·exact ih _
  ·rfl
theorem sumGo_take (zs:List Int) (k:Nat) (t:Int) (hk:k < zs.length) (h:sumGo 0 (zs.take k)=some t) :
  sumGo 0 (zs.take (k+1))=if addB t (zs.getD k 0) then some (t+zs.getD k 0) else none:=by
 have e:zs.take (k+1)=zs.take k++[zs.getD k 0]:=by
  rw[List.take_succ_eq_append_getElem hk]
  simp[List.getD_eq_getElem?_getD,hk]
 rw[e,sumGo_append,h]
 rfl
theorem sumGo_none (zs:List Int) (k:Nat) (h:sumGo 0 (zs.take k)=none) (len:Nat) (hk:k≤len):sumGo 0 (zs.take len)=none:=by
 have e:zs.take len=zs.take k++(zs.take len).drop k:=by
  have:=List.take_append_drop k (zs.take len)
  rw[List.take_take,Nat.min_eq_left hk] at this
  exact this.symm
 rw[e,sumGo_append,h]
 rfl
end Go.Proofs.YtlkeieoecfkkeaaGreat.Num
