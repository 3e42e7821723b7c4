/-
  Parts laid together: Pure WireSpec ReqSpec ReqLen PurseSpec DiskSpec PurseBackSpec ReqCodeSpec DiskPl.
-/
import Derived.ProofKit
import Derived.KernelRfl
import Derived.Test.YtlkeieoecfkkeaaGreatPart1
namespace Go.Proofs.YtlkeieoecfkkeaaGreat
namespace Sha
structure ae (p:Prop):Prop where
 out:p
def at_ (l:List Int) (i:Nat):Int:=l.getD i 0
theorem bT {l m:List Int}{i:Nat}(h:i < l.length):at_ (l++m) i=at_ l i:=by simp[at_,List.getD_eq_getElem?_getD,List.getElem?_append_left h]
theorem cO {l m:List Int}{i:Nat}(h:l.length≤i):at_ (l++m) i=at_ m (i - l.length):=by simp[at_,List.getD_eq_getElem?_getD,List.getElem?_append_right h]
theorem bY {l:List Int}{n i:Nat}(h:i < n):at_ (l.take n) i=at_ l i:=by simp[at_,List.getD_eq_getElem?_getD,h]
theorem jQ (l:List Int) (n i:Nat):at_ (l.drop n) i=at_ l (n+i):=by simp[at_,List.getD_eq_getElem?_getD]
theorem at_range (f:Nat→Int) (n i:Nat) (h:i < n):at_ ((List.range n).map f) i=f i:=by simp[at_,List.getD_eq_getElem?_getD,h]
theorem iO {l m:List Int}(hl:l.length=m.length) (h:∀ i,i < l.length→at_ l i=at_ m i):l=m:=by
 apply List.ext_getElem hl
 intro i h1 h2
 have:=h i h1
 simpa [at_,h1,h2] using this
def Bytes (l:List Int):Prop:=∀ x∈l,0≤x∧x≤255
theorem Bytes.at_ {l:List Int}(h:Bytes l) (i:Nat):0≤at_ l i∧at_ l i≤255:=by
 unfold Sha.at_
 by_cases hi:i < l.length
 ·have:=h l[i] (List.getElem_mem hi)
  simpa [hi] using this
 ·simp[List.getElem?_eq_none (Nat.le_of_not_lt hi)]
theorem Bytes.append {l m:List Int}(h:Bytes l) (k:Bytes m):Bytes (l++m):=fun x hx=>by
 rcases List.mem_append.1 hx with h1|h1
 ·exact h x h1
 ·exact k x h1
theorem Bytes.take {l:List Int}(h:Bytes l) (n:Nat):Bytes (l.take n):=fun x hx=>h x (List.mem_of_mem_take hx)
theorem Bytes.drop {l:List Int}(h:Bytes l) (n:Nat):Bytes (l.drop n):=fun x hx=>h x (List.mem_of_mem_drop hx)
theorem at_out {l:List Int}{i:Nat}(h:l.length≤i):at_ l i=0:=by simp[at_,List.getD_eq_getElem?_getD,List.getElem?_eq_none h]
def sameB (xs ys:List Int):Bool:=decide (xs=ys)
theorem mF (xs:List Int):sameB xs xs=true:=by simp[sameB]
theorem Jn {xs ys:List Int}(hl:xs.length≠ys.length):sameB xs ys=false:=by
 unfold sameB
 rw[decide_eq_false_iff_not]
 rintro rfl
 exact hl rfl
def ints (k:IntKind) (l:List Int):List Value:=l.map (Value.int k)
theorem ints_len (k:IntKind) (l:List Int):(ints k l).length=l.length:=by simp[ints]
theorem ints_at (k:IntKind) (l:List Int) (i:Nat) (h:i < l.length):(ints k l)[i]?=some (.int k (at_ l i)):=by simp[ints,at_,h]
theorem ay (k:IntKind) (l:List Int):∀ v∈ints k l,v.oneCell'=true:=by
 intro v hv
 obtain⟨x,_,rfl⟩:=List.mem_map.1 hv
 rfl
theorem ints_set (k:IntKind) (l:List Int) (i:Nat) (x:Int):(ints k l).set i (.int k x)=ints k (l.set i x):=by simp[ints,List.map_set]
def upto (f:Nat→Int) (n m:Nat):List Int:=(List.range n).map fun i=>if i < m then f i else 0
theorem upto_len (f:Nat→Int) (n m:Nat):(upto f n m).length=n:=by simp[upto]
theorem upto_at (f:Nat→Int) (n m i:Nat) (h:i < n):at_ (upto f n m) i=if i < m then f i else 0:=at_range _ _ _ h
theorem at_set (l:List Int) (k i:Nat) (x:Int) (h:i < l.length):at_ (l.set k x) i=if k=i then x else at_ l i:=by
 simp[at_,List.getD_eq_getElem?_getD,List.getElem?_set]
 by_cases hk:k=i
 ·subst hk;simp[h]
 ·simp[hk]
theorem upto_set (f:Nat→Int) (n m:Nat):(upto f n m).set m (f m)=upto f n (m+1):=by
 apply iO
 ·simp[upto_len]
 ·intro i hi
  rw[List.length_set,upto_len] at hi
  rw[at_set _ _ _ _ (by rw[upto_len];exact hi),upto_at _ _ _ _ hi,upto_at _ _ _ _ hi]
  by_cases h:m=i
  ·subst h;simp
  ·rw[if_neg h]
   by_cases h2:i < m
   ·rw[if_pos h2,if_pos (by omega)]
   ·rw[if_neg h2,if_neg (by omega)]
theorem upto_all (l:List Int) (n:Nat) (h:l.length=n):upto (at_ l) n n=l:=by
 apply iO
 ·rw[upto_len,h]
 ·intro i hi
  rw[upto_len] at hi
  rw[upto_at _ _ _ _ hi,if_pos hi]
def arr (k:IntKind) (l:List Int):Array Value:=(ints k l).toArray
theorem DV (k:IntKind) (l:List Int) (i:Nat) (h:i < l.length):(arr k l)[i]?=some (.int k (at_ l i)):=by
 rw[arr,List.getElem?_toArray];exact ints_at k l i h
theorem bi (k:IntKind) (l:List Int) (i:Nat) (x:Int):(arr k l).setIfInBounds i (.int k x)=arr k (l.set i x):=by
 rw[arr,List.setIfInBounds_toArray,ints_set,arr]
theorem au (k:IntKind) (l:List Int):(arr k l).size=l.length:=by simp[arr,ints_len]
theorem zeros (n:Nat) (k:IntKind) (f:Nat→Int):arr k (upto f n 0)=(List.replicate n (Value.int k 0)).toArray:=by
 unfold arr ints upto
 congr 1
 apply List.ext_getElem
 ·simp
 ·intro i h1 h2;simp
theorem af (k:IntKind) (l m:List Int):ints k (l++m)=ints k l++ints k m:=by simp[ints]
def cat (X:Nat→List Int):Nat→List Int
 | 0=>[]
 | k+1=>cat X k++X k
end Sha
namespace Wire
open Sha
def be (n:Nat):Nat→List Int
 | 0=>[]
 | k+1=>((n / 256 ^ k % 256:Nat):Int) :: be n k
theorem aJ (n k:Nat):(be n k).length=k:=by
 induction k with
 | zero=>rfl
 | succ k ih=>simp[be,ih]
theorem ah (n k:Nat):Bytes (be n k):=by
 induction k with
 | zero=>intro x hx;simp[be] at hx
 | succ k ih =>
  intro x hx
  rcases List.mem_cons.1 hx with rfl|h
  ·have:n / 256 ^ k % 256 < 256:=Nat.mod_lt _ (by omega)
   omega
  ·exact ih x h
def valA (a:Nat):List Int→Nat
 | []=>a
 | b :: l=>valA (a * 256+b.toNat) l
def val (l:List Int):Nat:=valA 0 l
theorem Bi (a:Nat) (l m:List Int):valA a (l++m)=valA (valA a l) m:=by
 induction l generalizing a with
 | nil=>rfl
 | cons b l ih=>exact ih _
theorem Ue (a:Nat) (l:List Int) (h:Bytes l) (b:Nat) (ha:a < b):valA a l < b * 256 ^ l.length:=by
 induction l generalizing a b with
 | nil=>simpa [valA] using ha
 | cons x l ih =>
  have hx:=h x (List.mem_cons_self ..)
  have:=ih (a * 256+x.toNat) (fun y hy=>h y (List.mem_cons_of_mem _ hy)) (b * 256) (by omega)
  rw[List.length_cons,Nat.pow_succ',← Nat.mul_assoc]
  exact this
theorem yt (l:List Int) (h:Bytes l):val l < 256 ^ l.length:=by
 have:=Ue 0 l h 1 (by omega)
 simpa [val] using this
theorem Uf (a n k:Nat):valA a (be n k)=a * 256 ^ k+n % 256 ^ k:=by
 induction k generalizing a with
 | zero=>simp[be,valA,Nat.mod_one]
 | succ k ih =>
  rw[be,valA,ih]
  have h1:n % 256 ^ (k+1)=n % 256 ^ k+256 ^ k * (n / 256 ^ k % 256):=by rw[Nat.pow_succ,Nat.mod_mul]
  rw[h1,Int.toNat_natCast,Nat.add_mul,Nat.pow_succ,Nat.mul_comm (256 ^ k) (n / 256 ^ k % 256),Nat.mul_comm (256 ^ k) 256,Nat.mul_assoc]
  omega
theorem DW (n k:Nat) (h:n < 256 ^ k):val (be n k)=n:=by
 rw[val,Uf,Nat.mod_eq_of_lt h];omega
theorem sW (l:List Int) (h:Bytes l):be (val l) l.length=l:=by
 have key:∀ (l:List Int),Bytes l→∀ a,be (valA a l) l.length=l:=by
  intro l
  induction l with
  | nil=>intro _ a;rfl
  | cons x l ih =>
   intro h a
   have hx:=h x (List.mem_cons_self ..)
   have hl:Bytes l:=fun y hy=>h y (List.mem_cons_of_mem _ hy)
   rw[List.length_cons,be,valA,ih hl]
   congr 1
   have hv:∀ b,valA b l=b * 256 ^ l.length+val l:=by
    have g:∀ (m:List Int) (b c:Nat),valA (b+c) m=b * 256 ^ m.length+valA c m:=by
     intro m
     induction m with
     | nil=>intro b c;simp[valA]
     | cons y m ihm =>
      intro b c
      rw[valA,valA,show (b+c) * 256+y.toNat=b * 256+(c * 256+y.toNat) by omega,ihm,List.length_cons,Nat.pow_succ',Nat.mul_assoc]
    intro b
    have:=g l b 0
    simpa [val] using this
   rw[hv,Nat.mul_comm _ (256 ^ l.length),Nat.mul_add_div (Nat.pow_pos (by omega)),Nat.div_eq_of_lt (yt l hl),Nat.add_zero]
   omega
 exact key l h 0
def fits (n s:Int):Bool:=decide (1≤s∧s≤8∧0≤n∧n≤4611686018427387904∧n < 256 ^ s.toNat)
abbrev St:=Int × List Int
def encNum (st:St) (n s:Int):St:=if st.1=0 then (if fits n s then (0,st.2++be n.toNat s.toNat) else (1,[])) else st
def decNum (st:St) (s:Int):Int × St :=
  if st.1=0 then
    (if 1≤s∧s≤8 then
      (if s.toNat≤st.2.length∧val (st.2.take s.toNat)≤4611686018427387904 then ((val (st.2.take s.toNat):Nat),(0,st.2.drop s.toNat)) else (0,(2,st.2)))
    else (0,(1,st.2)))
  else (0,st)
def rawD (st:St) (k:Nat):List Int × St:=if st.1=0 then (if k≤st.2.length then (st.2.take k,(0,st.2.drop k)) else ([],(2,st.2))) else ([],st)
def frst (xs:List Int) (s:Nat):Int × Bool:=if s≤xs.length∧val (xs.take s)≤4611686018427387904 then ((val (xs.take s):Nat),true) else (0,false)
def endOf (st:St):Int:=if st.1=0 then (if st.2.length=0 then 0 else 2) else st.1
theorem jR (xs:List Int) (s:Int) (h:¬ (1≤s∧s≤8)):decNum (0,xs) s=(0,(1,xs)):=by
 unfold decNum;simp only[if_true];rw[if_neg h]
theorem Bj (xs:List Int) (s:Nat) (h1:1≤s) (h8:s≤8):decNum (0,xs) s=if (frst xs s).2=true then ((frst xs s).1,(0,xs.drop s)) else (0,(2,xs)):=by
 unfold decNum frst
 simp only[if_true,Int.toNat_natCast]
 rw[if_pos (by omega)]
 by_cases h:s≤xs.length∧val (xs.take s)≤4611686018427387904
 ·rw[if_pos h,if_pos h];rfl
 ·rw[if_neg h,if_neg h];rfl
theorem Jo {xs:List Int}{s:Nat}(h:(frst xs s).2=true):s≤xs.length:=by
 unfold frst at h
 split at h
 ·rename_i h1;exact h1.1
 ·simp at h
theorem qo {n s:Int}(h:fits n s=true):val (be n.toNat s.toNat)=n.toNat∧n.toNat≤4611686018427387904∧1≤s∧s≤8∧0≤n:=by
 simp only[fits,decide_eq_true_eq] at h
 obtain⟨h1,h2,h3,h4,h5⟩:=h
 refine⟨DW _ _ ?_,by omega,h1,h2,h3⟩
 have:((n.toNat:Nat):Int) < ((256 ^ s.toNat:Nat):Int):=by
  rw[Int.toNat_of_nonneg h3]
  simpa using h5
 exact_mod_cast this
theorem Ug (n s:Int) (r:List Int) (h:fits n s=true):decNum (0,be n.toNat s.toNat++r) s=(n,(0,r)):=by
 obtain⟨h1,h2,h3,h4,h5⟩:=qo h
 have hl:=aJ n.toNat s.toNat
 unfold decNum
 simp only[if_true]
 rw[if_pos ⟨h3,h4⟩,List.take_left' hl,List.drop_left' hl,h1,if_pos ⟨by rw[List.length_append,hl];omega,h2⟩,Int.toNat_of_nonneg h5]
theorem sZ (st:St) (s:Int) (h:st.1≠0):decNum st s=(0,st):=by unfold decNum;rw[if_neg h]
theorem aj (st:St) (n s:Int):(encNum st n s).2.length≤st.2.length+8:=by
 unfold encNum
 split
 ·split
  ·rename_i h
   have:=(qo h).2.2.2.1
   simp only[List.length_append,aJ];omega
  ·simp
 ·omega
theorem DX (n k:Nat):n / 2 ^ (8 * k)=n / 256 ^ k:=by rw[Nat.pow_mul]
end Wire
namespace Req
open Sha Wire
structure RV where
 kind:Int
 dst:Int
 asset:Int
 amount:Int
 id:Int
 due:Int
 hash:List Int
 sec:List Int
structure VV where
 kind:Int
 src:Int
 dst:Int
 asset:Int
 amount:Int
 id:Int
 due:Int
 hash:List Int
 sec:List Int
structure PV where
 code:Int
 id:Int
structure BV where
 seen:Int
 l:List RV
structure AV where
 clock:Int
 seen:Int
 p:List PV
 v:List VV
def R0:RV:=⟨0,0,0,0,0,0,[],[]⟩
def V0:VV:=⟨0,0,0,0,0,0,0,[],[]⟩
def sameR (a b:RV):Bool:=a.kind == b.kind && (a.dst == b.dst && (a.asset == b.asset && (a.amount == b.amount && (a.id == b.id && (a.due == b.due && (sameB a.hash b.hash && sameB a.sec b.sec))))))
theorem kS {a b:RV}:sameR a b=true ↔ a=b:=by
 cases a;cases b
 simp[sameR,sameB]
def B8 (n:Int):Prop:=0≤n∧n≤255
def I16 (n:Int):Prop:=0≤n∧n≤65535
def Amt (n:Int):Prop:=0≤n∧n≤4611686018427387904
def Tck (n:Int):Prop:=0≤n∧n≤1099511627776
instance (n:Int):Decidable (B8 n):=by unfold B8;infer_instance
instance (n:Int):Decidable (I16 n):=by unfold I16;infer_instance
instance (n:Int):Decidable (Amt n):=by unfold Amt;infer_instance
instance (n:Int):Decidable (Tck n):=by unfold Tck;infer_instance
def MayR (r:RV):Prop :=
 (r.kind=1∧B8 r.dst∧B8 r.asset∧Amt r.amount∧r.id=0∧r.due=0∧r.hash=[]∧r.sec=[]) ∨
 (r.kind=2∧B8 r.dst∧B8 r.asset∧Amt r.amount∧r.id=0∧Tck r.due∧r.hash.length=32∧r.sec=[]) ∨
 (r.kind=3∧r.dst=0∧r.asset=0∧r.amount=0∧I16 r.id∧r.due=0∧r.hash=[]∧r.sec.length=32) ∨
 (r.kind=4∧r.dst=0∧r.asset=0∧r.amount=0∧I16 r.id∧r.due=0∧r.hash=[]∧r.sec=[])
def MayV (r:VV):Prop :=
 (r.kind=1∧B8 r.src∧B8 r.dst∧B8 r.asset∧Amt r.amount∧r.id=0∧r.due=0∧r.hash=[]∧r.sec=[]) ∨
 (r.kind=2∧B8 r.src∧B8 r.dst∧B8 r.asset∧Amt r.amount∧I16 r.id∧Tck r.due∧r.hash.length=32∧r.sec=[]) ∨
 (r.kind=3∧r.src=0∧r.dst=0∧r.asset=0∧r.amount=0∧I16 r.id∧r.due=0∧r.hash=[]∧r.sec.length=32) ∨
 (r.kind=4∧r.src=0∧r.dst=0∧r.asset=0∧r.amount=0∧I16 r.id∧r.due=0∧r.hash=[]∧r.sec=[])
def MayP (p:PV):Prop:=B8 p.code∧I16 p.id
instance (r:RV):Decidable (MayR r):=by unfold MayR;infer_instance
instance (r:VV):Decidable (MayV r):=by unfold MayV;infer_instance
instance (r:PV):Decidable (MayP r):=by unfold MayP;infer_instance
def RV.ok (r:RV):Prop:=Bytes r.hash∧Bytes r.sec
def VV.ok (r:VV):Prop:=Bytes r.hash∧Bytes r.sec
def putR (r:RV):List Int:=be r.kind.toNat 1++((if r.kind=1∨r.kind=2 then be r.dst.toNat 1++(be r.asset.toNat 1++be r.amount.toNat 8) else [])++((if r.kind=2 then r.hash++be r.due.toNat 8 else [])++((if 2 < r.kind then be r.id.toNat 2 else [])++r.sec)))
def putV (r:VV):List Int:=be r.kind.toNat 1++((if r.kind < 3 then be r.src.toNat 1++(be r.dst.toNat 1++(be r.asset.toNat 1++be r.amount.toNat 8)) else [])++((if 1 < r.kind then be r.id.toNat 2 else [])++((if r.kind=2 then r.hash++be r.due.toNat 8 else [])++r.sec)))
def putP (p:PV):List Int:=be p.code.toNat 1++be p.id.toNat 2
def OkB (x:BV):Prop:=I16 x.seen∧x.l.length≤64∧∀ r∈x.l,MayR r
def OkA (x:AV):Prop:=Tck x.clock∧I16 x.seen∧x.p.length≤64∧x.v.length≤400∧(∀ p∈x.p,MayP p)∧∀ v∈x.v,MayV v
instance (x:BV):Decidable (OkB x):=by unfold OkB;infer_instance
instance (x:AV):Decidable (OkA x):=by unfold OkA;infer_instance
def tq (x:BV):List Int:=be x.seen.toNat 2++(be x.l.length 1++x.l.flatMap putR)
def bytesA (x:AV):List Int:=be x.clock.toNat 8++(be x.seen.toNat 2++(be x.p.length 1++(x.p.flatMap putP++(be x.v.length 2++x.v.flatMap putV))))
def encB (x:BV):Int × List Int:=if OkB x then (0,tq x) else (1,[])
def encA (x:AV):Int × List Int:=if OkA x then (0,bytesA x) else (1,[])
theorem Po {x:BV}(h:OkB x):encB x=(0,tq x):=if_pos h
theorem Jp {x:BV}(h:¬ OkB x):encB x=(1,[]):=if_neg h
theorem oO {x:AV}(h:OkA x):encA x=(0,bytesA x):=if_pos h
theorem uX {x:AV}(h:¬ OkA x):encA x=(1,[]):=if_neg h
theorem oP {x:BV}{b:List Int}(h:encB x=(0,b)):OkB x∧b=tq x:=by
 unfold encB at h
 split at h
 ·rename_i k
  injection h with _ h
  exact⟨k,h.symm⟩
 ·injection h with h;omega
theorem uY {x:AV}{b:List Int}(h:encA x=(0,b)):OkA x∧b=bytesA x:=by
 unfold encA at h
 split at h
 ·rename_i k
  injection h with _ h
  exact⟨k,h.symm⟩
 ·injection h with h;omega
theorem oQ (b r:List Int) (k:Nat) (h:b.length=k):rawD (0,b++r) k=(b,(0,r)):=by
 unfold rawD
 simp only[if_true]
 rw[if_pos (by rw[List.length_append];omega),List.take_left' h,List.drop_left' h]
theorem uZ (n:Int) (k:Nat) (r:List Int) (h1:1≤k) (h8:k≤8) (h0:0≤n) (hm:n≤4611686018427387904) (hn:n < 256 ^ k):decNum (0,be n.toNat k++r) k=(n,(0,r)):=by
 have:=Ug n k r (by
  unfold fits
  apply decide_eq_true
  exact⟨by omega,by omega,h0,hm,by rw[Int.toNat_natCast];exact hn⟩)
 rwa [Int.toNat_natCast] at this
def getR (st:St):RV × St :=
 let a:=decNum st 1
 let b:=if a.1=1∨a.1=2 then decNum a.2 1 else (0,a.2)
 let c:=if a.1=1∨a.1=2 then decNum b.2 1 else (0,b.2)
 let d:=if a.1=1∨a.1=2 then decNum c.2 8 else (0,c.2)
 let e:=if a.1=2 then rawD d.2 32 else ([],d.2)
 let f:=if a.1=2 then decNum e.2 8 else (0,e.2)
 let g:=if 2 < a.1 then decNum f.2 2 else (0,f.2)
 let h:=if a.1=3 then rawD g.2 32 else ([],g.2)
 (⟨a.1,b.1,c.1,d.1,g.1,f.1,e.1,h.1⟩,h.2)
def getV (st:St):VV × St :=
 let a:=decNum st 1
 let s:=if a.1 < 3 then decNum a.2 1 else (0,a.2)
 let b:=if a.1 < 3 then decNum s.2 1 else (0,s.2)
 let c:=if a.1 < 3 then decNum b.2 1 else (0,b.2)
 let d:=if a.1 < 3 then decNum c.2 8 else (0,c.2)
 let g:=if 1 < a.1 then decNum d.2 2 else (0,d.2)
 let e:=if a.1=2 then rawD g.2 32 else ([],g.2)
 let f:=if a.1=2 then decNum e.2 8 else (0,e.2)
 let h:=if a.1=3 then rawD f.2 32 else ([],f.2)
 (⟨a.1,s.1,b.1,c.1,d.1,g.1,f.1,e.1,h.1⟩,h.2)
def getP (st:St):PV × St :=
 let a:=decNum st 1
 let b:=decNum a.2 2
 (⟨a.1,b.1⟩,b.2)
theorem nb1 {n:Int}(r:List Int) (h:B8 n):decNum (0,be n.toNat 1++r) 1=(n,(0,r)):=uZ n 1 r (by omega) (by omega) h.1 (by have:=h.2;omega) (by have:=h.2;omega)
theorem nb2 {n:Int}(r:List Int) (h:I16 n):decNum (0,be n.toNat 2++r) 2=(n,(0,r)):=uZ n 2 r (by omega) (by omega) h.1 (by have:=h.2;omega) (by have:=h.2;omega)
theorem nb8 {n:Int}(r:List Int) (h:Amt n):decNum (0,be n.toNat 8++r) 8=(n,(0,r)):=uZ n 8 r (by omega) (by omega) h.1 h.2 (by have:=h.2;omega)
theorem Tck.amt {n:Int}(h:Tck n):Amt n:=⟨h.1,by have:=h.2;omega⟩
theorem Jq {r:RV}(h:MayR r) (t:List Int):getR (0,putR r++t)=(r,(0,t)):=by
 obtain⟨kind,dst,asset,amount,id,due,hash,sec⟩:=r
 have hk:B8 kind:=by rcases h with h|h|h|h<;>have:=h.1<;>exact⟨by dsimp only at this;omega,by dsimp only at this;omega⟩
 have ha:∀ u,decNum (0,be kind.toNat 1++u) 1=(kind,(0,u)):=fun u=>nb1 u hk
 unfold putR getR
 simp only[List.append_assoc,ha]
 rcases h with⟨h1,h2,h3,h4,h5,h6,h7,h8⟩|⟨h1,h2,h3,h4,h5,h6,h7,h8⟩|⟨h1,h2,h3,h4,h5,h6,h7,h8⟩|⟨h1,h2,h3,h4,h5,h6,h7,h8⟩<;>dsimp only at h1 h2 h3 h4 h5 h6 h7 h8
 ·subst h1 h5 h6 h7 h8
  simp[List.append_assoc,nb1 _ h2,nb1 _ h3,nb8 _ h4]
 ·subst h1 h5 h8
  simp[List.append_assoc,nb1 _ h2,nb1 _ h3,nb8 _ h4,oQ hash _ 32 h7,nb8 _ h6.amt]
 ·subst h1 h2 h3 h4 h6 h7
  simp[nb2 _ h5,oQ sec _ 32 h8]
 ·subst h1 h2 h3 h4 h6 h7 h8
  simp[nb2 _ h5]
theorem Jr {r:VV}(h:MayV r) (t:List Int):getV (0,putV r++t)=(r,(0,t)):=by
 obtain⟨kind,src,dst,asset,amount,id,due,hash,sec⟩:=r
 have hk:B8 kind:=by rcases h with h|h|h|h<;>have:=h.1<;>exact⟨by dsimp only at this;omega,by dsimp only at this;omega⟩
 have ha:∀ u,decNum (0,be kind.toNat 1++u) 1=(kind,(0,u)):=fun u=>nb1 u hk
 unfold putV getV
 simp only[List.append_assoc,ha]
 rcases h with⟨h1,hs,h2,h3,h4,h5,h6,h7,h8⟩|⟨h1,hs,h2,h3,h4,h5,h6,h7,h8⟩|⟨h1,hs,h2,h3,h4,h5,h6,h7,h8⟩|⟨h1,hs,h2,h3,h4,h5,h6,h7,h8⟩<;>dsimp only at h1 hs h2 h3 h4 h5 h6 h7 h8
 ·subst h1 h5 h6 h7 h8
  simp[List.append_assoc,nb1 _ hs,nb1 _ h2,nb1 _ h3,nb8 _ h4]
 ·subst h1 h8
  simp[List.append_assoc,nb1 _ hs,nb1 _ h2,nb1 _ h3,nb8 _ h4,nb2 _ h5,oQ hash _ 32 h7,nb8 _ h6.amt]
 ·subst h1 hs h2 h3 h4 h6 h7
  simp[nb2 _ h5,oQ sec _ 32 h8]
 ·subst h1 hs h2 h3 h4 h6 h7 h8
  simp[nb2 _ h5]
theorem Js {p:PV}(h:MayP p) (t:List Int):getP (0,putP p++t)=(p,(0,t)):=by
 unfold putP getP
 simp only[List.append_assoc,nb1 _ h.1,nb2 _ h.2]
def many {α:Type} (g:St→α × St):Nat→St→List α × St
 | 0,st=>([],st)
 | n+1,st=>if st.1=0 then ((g st).1 :: (many g n (g st).2).1,(many g n (g st).2).2) else ([],st)
theorem qw {α:Type}(g:St→α × St) (p:α→List Int) (l:List α) (t:List Int) (h:∀ x∈l,∀ t,g (0,p x++t)=(x,(0,t))):many g l.length (0,l.flatMap p++t)=(l,(0,t)):=by
 induction l with
 | nil=>rfl
 | cons x l ih =>
  have hx:=h x (List.mem_cons_self ..) (l.flatMap p++t)
  have hi:=ih (fun y hy=>h y (List.mem_cons_of_mem _ hy))
  rw[List.length_cons,many,List.flatMap_cons,List.append_assoc,hx]
  simp only[if_true,hi]
def rdB (b:List Int):BV × St :=
 let s:=decNum (0,b) 2
 let n:=decNum s.2 1
 let l:=many getR n.1.toNat n.2
 (⟨s.1,l.1⟩,l.2)
def rdA (b:List Int):AV × St :=
 let c:=decNum (0,b) 8
 let s:=decNum c.2 2
 let n:=decNum s.2 1
 let p:=many getP n.1.toNat n.2
 let m:=decNum p.2 2
 let v:=many getV m.1.toNat m.2
 (⟨c.1,s.1,p.1,v.1⟩,v.2)
theorem vk {x:BV}(h:OkB x):rdB (tq x)=(x,(0,[])):=by
 obtain⟨seen,l⟩:=x
 obtain⟨h1,h2,h3⟩:=h
 dsimp only at h1 h2 h3
 have hl:B8 (l.length:Int):=⟨by omega,by omega⟩
 have hm:=qw getR putR l [] (fun x hx t=>Jq (h3 x hx) t)
 rw[List.append_nil] at hm
 have e:=nb1 (l.flatMap putR) hl
 rw[Int.toNat_natCast] at e
 unfold rdB tq
 simp only[nb2 _ h1,e,Int.toNat_natCast,hm]
theorem vw {x:AV}(h:OkA x):rdA (bytesA x)=(x,(0,[])):=by
 obtain⟨clock,seen,p,v⟩:=x
 obtain⟨h1,h2,h3,h4,h5,h6⟩:=h
 dsimp only at h1 h2 h3 h4 h5 h6
 have hl:B8 (p.length:Int):=⟨by omega,by omega⟩
 have hv:I16 (v.length:Int):=⟨by omega,by omega⟩
 have hm:=fun t=>qw getP putP p t (fun x hx t=>Js (h5 x hx) t)
 have hn:=qw getV putV v [] (fun x hx t=>Jr (h6 x hx) t)
 rw[List.append_nil] at hn
 have e1:=fun r=>nb1 r hl
 have e2:=fun r=>nb2 r hv
 simp only[Int.toNat_natCast] at e1 e2
 unfold rdA bytesA
 simp only[nb8 _ h1.amt,nb2 _ h2,e1,hm,e2,hn,Int.toNat_natCast]
theorem Pq {x y:BV}{b:List Int}(h:encB x=(0,b)) (k:encB y=(0,b)):x=y:=by
 obtain⟨h1,h2⟩:=oP h
 obtain⟨k1,k2⟩:=oP k
 have e1:=vk h1
 have e2:=vk k1
 rw[← h2] at e1
 rw[← k2,e1] at e2
 injection e2
theorem Pv {x y:AV}{b:List Int}(h:encA x=(0,b)) (k:encA y=(0,b)):x=y:=by
 obtain⟨h1,h2⟩:=uY h
 obtain⟨k1,k2⟩:=uY k
 have e1:=vw h1
 have e2:=vw k1
 rw[← h2] at e1
 rw[← k2,e1] at e2
 injection e2
def DecB (b:List Int) (e:Int) (x:BV):Prop:=(e=0∧encB x=(0,b))∨(e=2∧x=⟨0,[]⟩∧∀ y,encB y≠(0,b))
def DecA (b:List Int) (e:Int) (x:AV):Prop:=(e=0∧encA x=(0,b))∨(e=2∧x=⟨0,0,[],[]⟩∧∀ y,encA y≠(0,b))
theorem DecB.one {b:List Int}{e e':Int}{x x':BV}(h:DecB b e x) (k:DecB b e' x'):e=e'∧x=x':=by
 rcases h with⟨rfl,h⟩|⟨rfl,rfl,h⟩<;>rcases k with⟨rfl,k⟩|⟨rfl,rfl,k⟩
 ·exact⟨rfl,Pq h k⟩
 ·exact absurd h (k _)
 ·exact absurd k (h _)
 ·exact⟨rfl,rfl⟩
theorem DecA.one {b:List Int}{e e':Int}{x x':AV}(h:DecA b e x) (k:DecA b e' x'):e=e'∧x=x':=by
 rcases h with⟨rfl,h⟩|⟨rfl,rfl,h⟩<;>rcases k with⟨rfl,k⟩|⟨rfl,rfl,k⟩
 ·exact⟨rfl,Pv h k⟩
 ·exact absurd h (k _)
 ·exact absurd k (h _)
 ·exact⟨rfl,rfl⟩
theorem DecB.read (b:List Int):DecB b (if endOf (rdB b).2=0∧encB (rdB b).1=(0,b) then 0 else 2) (if endOf (rdB b).2=0∧encB (rdB b).1=(0,b) then (rdB b).1 else ⟨0,[]⟩):=by
 by_cases h:endOf (rdB b).2=0∧encB (rdB b).1=(0,b)
 ·rw[if_pos h,if_pos h];exact .inl ⟨rfl,h.2⟩
 ·rw[if_neg h,if_neg h]
  refine .inr ⟨rfl,rfl,fun y hy=>h ?_⟩
  obtain⟨k,e⟩:=oP hy
  have:=vk k
  rw[← e] at this
  rw[this]
  exact⟨rfl,hy⟩
theorem DecA.read (b:List Int):DecA b (if endOf (rdA b).2=0∧encA (rdA b).1=(0,b) then 0 else 2) (if endOf (rdA b).2=0∧encA (rdA b).1=(0,b) then (rdA b).1 else ⟨0,0,[],[]⟩):=by
 by_cases h:endOf (rdA b).2=0∧encA (rdA b).1=(0,b)
 ·rw[if_pos h,if_pos h];exact .inl ⟨rfl,h.2⟩
 ·rw[if_neg h,if_neg h]
  refine .inr ⟨rfl,rfl,fun y hy=>h ?_⟩
  obtain⟨k,e⟩:=uY hy
  have:=vw k
  rw[← e] at this
  rw[this]
  exact⟨rfl,hy⟩
theorem kT:Bytes []:=by intro x hx;simp at hx
theorem fM {p:Prop} [Decidable p] {a:List Int}(h:Bytes a):Bytes (if p then a else []):=by
 split
 ·exact h
 ·exact kT
theorem Gq {r:RV}(h:r.ok):Bytes (putR r) :=
 (ah _ _).append ((fM ((ah _ _).append ((ah _ _).append (ah _ _)))).append ((fM (h.1.append (ah _ _))).append ((fM (ah _ _)).append h.2)))
theorem tu {r:VV}(h:r.ok):Bytes (putV r) :=
 (ah _ _).append ((fM ((ah _ _).append ((ah _ _).append ((ah _ _).append (ah _ _))))).append ((fM (ah _ _)).append ((fM (h.1.append (ah _ _))).append h.2)))
theorem Gs (p:PV):Bytes (putP p):=(ah _ _).append (ah _ _)
theorem dA {α:Type}{f:α→List Int}:∀ {l:List α},(∀ x∈l,Bytes (f x))→Bytes (l.flatMap f)
  | [],_=>kT
  | x :: l,h=>by
    rw[List.flatMap_cons]
    exact(h x (List.mem_cons_self ..)).append (dA fun y hy=>h y (List.mem_cons_of_mem _ hy))
theorem oU {α:Type}{f:α→List Int}{m:Nat}:∀ {l:List α},(∀ x∈l,(f x).length≤m)→(l.flatMap f).length≤m * l.length
  | [],_=>by simp
  | x :: l,h=>by
    have h1:=h x (List.mem_cons_self ..)
    have h2:=oU (fun y hy=>h y (List.mem_cons_of_mem x hy))
    rw[List.flatMap_cons,List.length_append,List.length_cons,Nat.mul_add]
    omega
theorem Uh {r:RV}(h:MayR r):(putR r).length=if r.kind=1 then 11 else if r.kind=2 then 51 else if r.kind=3 then 35 else 3:=by
 obtain⟨kind,dst,asset,amount,id,due,hash,sec⟩:=r
 unfold putR
 rcases h with⟨h1,h2,h3,h4,h5,h6,h7,h8⟩|⟨h1,h2,h3,h4,h5,h6,h7,h8⟩|⟨h1,h2,h3,h4,h5,h6,h7,h8⟩|⟨h1,h2,h3,h4,h5,h6,h7,h8⟩<;>dsimp only at h1 h2 h3 h4 h5 h6 h7 h8<;>subst h1<;>simp[aJ,h7,h8]
theorem Px {r:RV}(h:MayR r):(putR r).length≤51:=by
 rw[Uh h]
 split
 ·omega
 ·split
  ·omega
  ·split
   ·omega
   ·omega
theorem Py {r:VV}(h:MayV r):(putV r).length≤54:=by
 obtain⟨kind,src,dst,asset,amount,id,due,hash,sec⟩:=r
 unfold putV
 rcases h with⟨h1,hs,h2,h3,h4,h5,h6,h7,h8⟩|⟨h1,hs,h2,h3,h4,h5,h6,h7,h8⟩|⟨h1,hs,h2,h3,h4,h5,h6,h7,h8⟩|⟨h1,hs,h2,h3,h4,h5,h6,h7,h8⟩<;>dsimp only at h1 hs h2 h3 h4 h5 h6 h7 h8<;>subst h1<;>simp[aJ,h7,h8]
theorem DZ (p:PV):(putP p).length=3:=by simp[putP,aJ]
theorem tC {x:BV}(h:∀ r∈x.l,r.ok):Bytes (encB x).2:=by
 unfold encB
 split
 ·exact(ah _ _).append ((ah _ _).append (dA fun r hr=>Gq (h r hr)))
 ·exact kT
theorem tH {x:AV}(h:∀ r∈x.v,r.ok):Bytes (encA x).2:=by
 unfold encA
 split
 ·exact(ah _ _).append ((ah _ _).append ((ah _ _).append ((dA fun r _=>Gs r).append ((ah _ _).append (dA fun r hr=>tu (h r hr))))))
 ·exact kT
theorem Pz (x:BV):(encB x).2.length≤4000:=by
 unfold encB
 split
 ·rename_i h
  have h1:=h.2.1
  have h2:=oU (f:=putR) (fun r hr=>Px (h.2.2 r hr))
  simp only[tq,List.length_append,aJ]
  omega
 ·simp
theorem PD (x:AV):(encA x).2.length≤30000:=by
 unfold encA
 split
 ·rename_i h
  have h1:=h.2.2.1;have h3:=h.2.2.2.1
  have h2:=oU (f:=putV) (fun r hr=>Py (h.2.2.2.2.2 r hr))
  have h4:=oU (f:=putP) (m:=3) (fun r (_:r∈x.p)=>Nat.le_of_eq (DZ r))
  simp only[bytesA,List.length_append,aJ]
  omega
 ·simp
end Req
namespace Purse
open Num Sha
structure PS where
 np:Nat
 na:Nat
 v:Nat→Nat→Int
def tot (v:Nat→Nat→Int):Nat→Nat→Int
 | 0,_=>0
 | k+1,a=>tot v k a+v k a
def upd (v:Nat→Nat→Int) (i a:Nat) (x:Int):Nat→Nat→Int:=fun j b=>if j=i∧b=a then x else v j b
theorem upd_same (v:Nat→Nat→Int) (i a:Nat) (x:Int):upd v i a x i a=x:=by simp[upd]
theorem dL (v:Nat→Nat→Int) (i a:Nat) (x:Int) {j b:Nat}(h:¬ (j=i∧b=a)):upd v i a x j b=v j b:=by simp[upd,h]
theorem jS (v:Nat→Nat→Int) (i a:Nat) (x:Int):∀ (k b:Nat),tot (upd v i a x) k b=tot v k b+if i < k∧b=a then x - v i a else 0
  | 0,b=>by simp[tot]
  | k+1,b=>by
    simp only[tot,jS v i a x k b]
    by_cases hb:b=a
    · subst hb
      by_cases h1:i < k
      · rw[if_pos ⟨h1,rfl⟩,if_pos ⟨by omega,rfl⟩,dL _ _ _ _ (by omega)];omega
      · by_cases h2:i=k
        · subst h2
          rw[if_neg (by omega),if_pos ⟨by omega,rfl⟩,upd_same];omega
        · rw[if_neg (by omega),if_neg (by omega),dL _ _ _ _ (by omega)];omega
    · rw[if_neg (by simp[hb]),if_neg (by simp[hb]),dL _ _ _ _ (by simp[hb])];omega
theorem jq {v:Nat→Nat→Int}{a:Nat}:∀ {n:Nat},(∀ i,i < n→0≤v i a)→0≤tot v n a
  | 0,_=>by simp[tot]
  | n+1,h=>by
    have h1:=jq (v:=v) (a:=a) (n:=n) (fun i hi=>h i (by omega))
    have h2:=h n (by omega)
    simp only[tot];omega
theorem Ea {v:Nat→Nat→Int}{a:Nat}{m:Nat}:∀ {n:Nat},m≤n→(∀ i,i < n→0≤v i a)→tot v m a≤tot v n a
  | 0,hm,_=>by
    have:m=0:=by omega
    subst this;exact Int.le_refl _
  | n+1,hm,h=>by
    by_cases he:m=n+1
    · subst he;exact Int.le_refl _
    · have h1:=Ea (v:=v) (a:=a) (m:=m) (n:=n) (by omega) (fun i hi=>h i (by omega))
      have h2:=h n (by omega)
      simp only[tot];omega
theorem VT {v:Nat→Nat→Int}{a i n:Nat}(hi:i < n) (h:∀ j,j < n→0≤v j a):v i a≤tot v n a:=by
 have h1:=Ea (v:=v) (a:=a) (m:=i+1) (n:=n) (by omega) h
 have h2:=jq (v:=v) (a:=a) (n:=i) (fun j hj=>h j (by omega))
 simp only[tot] at h1;omega
structure WF (s:PS):Prop where
 p2:2≤s.np
 p16:s.np≤16
 a1:1≤s.na
 a4:s.na≤4
 pos:∀ i a,i < s.np→a < s.na→0≤s.v i a
 sum:∀ a,a < s.na→tot s.v s.np a≤4611686018427387904
theorem WF.le {s:PS}(h:WF s) {i a:Nat}(hi:i < s.np) (ha:a < s.na):0≤s.v i a∧s.v i a≤4611686018427387904 :=
 ⟨h.pos i a hi ha,Int.le_trans (VT hi (fun j hj=>h.pos j a hj ha)) (h.sum a ha)⟩
theorem WF.tot0 {s:PS}(h:WF s) {a:Nat}(ha:a < s.na):0≤tot s.v s.np a:=jq (fun i hi=>h.pos i a hi ha)
def isP (s:PS) (i:Int):Bool:=decide (0≤i∧i < s.np)
def isA (s:PS) (a:Int):Bool:=decide (0≤a∧a < s.na)
theorem vz {s:PS}{i:Int}:isP s i=true ↔ 0≤i∧i < s.np:=by unfold isP;exact decide_eq_true_iff
theorem vC {s:PS}{i:Int}:isA s i=true ↔ 0≤i∧i < s.na:=by unfold isA;exact decide_eq_true_iff
theorem jT {s:PS}{i:Int}(h:isP s i=true):∃ k:Nat,i=k∧k < s.np:=by
 obtain⟨h1,h2⟩:=vz.1 h
 exact⟨i.toNat,by omega,by omega⟩
theorem qx {s:PS}{i:Int}(h:isA s i=true):∃ k:Nat,i=k∧k < s.na:=by
 obtain⟨h1,h2⟩:=vC.1 h
 exact⟨i.toNat,by omega,by omega⟩
def fitB (s:PS) (i a n:Int):Bool:=isP s i && isA s a && amtB n
theorem oV {s:PS}{i a n:Int}:fitB s i a n=true ↔ (∃ k:Nat,i=k∧k < s.np)∧(∃ b:Nat,a=b∧b < s.na)∧0≤n∧n≤4611686018427387904:=by
 unfold fitB
 simp only[Bool.and_eq_true,lW]
 constructor
 ·rintro ⟨⟨h1,h2⟩,h3⟩;exact⟨jT h1,qx h2,h3⟩
 ·rintro ⟨⟨k,rfl,hk⟩,⟨b,rfl,hb⟩,h3⟩;exact⟨⟨vz.2 (by omega),vC.2 (by omega)⟩,h3⟩
def totP (s:PS) (a:Int):Int:=if isA s a then tot s.v s.np a.toNat else 0
def put (s:PS) (i a:Nat) (x:Int):PS:={ s with v:=upd s.v i a x }
def giveP (s:PS) (i a n:Int):Int × PS:=if fitB s i a n && decide (totP s a+n≤4611686018427387904) then (0,put s i.toNat a.toNat (s.v i.toNat a.toNat+n)) else (1,s)
def iT (s:PS) (i a n:Int):Int × PS:=if fitB s i a n then (if s.v i.toNat a.toNat < n then (7,s) else (0,put s i.toNat a.toNat (s.v i.toNat a.toNat - n))) else (1,s)
def moveP (s:PS) (i j a n:Int):Int × PS :=
 if fitB s i a n && isP s j then (if i=j then (14,s) else if s.v i.toNat a.toNat < n then (7,s) else
  (0,put (put s i.toNat a.toNat (s.v i.toNat a.toNat - n)) j.toNat a.toNat (s.v j.toNat a.toNat+n))) else (1,s)
theorem WF.put {s:PS}(h:WF s) {i a:Nat}{x:Int}(hi:i < s.np) (ha:a < s.na) (hx:0≤x) (ht:tot s.v s.np a+(x - s.v i a)≤4611686018427387904):WF (put s i a x):=by
 refine⟨h.p2,h.p16,h.a1,h.a4,fun j b hj hb=>?_,fun b hb=>?_⟩
 ·show 0≤upd s.v i a x j b
  by_cases e:j=i∧b=a
  ·obtain⟨rfl,rfl⟩:=e;rw[upd_same];exact hx
  ·rw[dL _ _ _ _ e];exact h.pos j b hj hb
 ·show tot (upd s.v i a x) s.np b≤_
  rw[jS]
  by_cases e:b=a
  ·subst e;rw[if_pos ⟨hi,rfl⟩];exact ht
  ·rw[if_neg (by simp[e])];have:=h.sum b hb;omega
theorem VU (s:PS) (i a:Nat) (x:Int):(put s i a x).np=s.np:=rfl
theorem Ui (s:PS) (i a:Nat) (x:Int):(put s i a x).v=upd s.v i a x:=rfl
theorem PH {s:PS}(h:WF s) (i j a n:Int):WF (moveP s i j a n).2:=by
 unfold moveP
 split
 ·rename_i hc
  rw[Bool.and_eq_true] at hc
  obtain⟨⟨k,rfl,hk⟩,⟨b,rfl,hb⟩,h0,h1⟩:=oV.1 hc.1
  obtain⟨q,rfl,hq⟩:=jT hc.2
  simp only[Int.toNat_natCast]
  split
  ·exact h
  ·rename_i hne
   split
   ·exact h
   ·have hkq:q≠k:=fun e=>hne (by rw[e])
    refine(h.put hk hb (x:=s.v k b - n) (by omega) (by have:=h.sum b hb;omega)).put (i:=q) hq hb (by have:=h.pos q b hq hb;omega) ?_
    rw[Ui,VU,jS,if_pos ⟨hk,rfl⟩,dL _ _ _ _ (by omega)]
    have:=h.sum b hb;omega
 ·exact h
theorem oW {s:PS}{b:Nat}(hb:b < s.na):totP s b=tot s.v s.np b:=by
 unfold totP
 rw[if_pos (vC.2 ⟨by omega,by omega⟩),Int.toNat_natCast]
theorem PI {s:PS}{k b:Nat}{n:Int}(hf:fitB s k b n=true) (ht:totP s b+n≤4611686018427387904):giveP s k b n=(0,put s k b (s.v k b+n)):=by
 unfold giveP
 rw[if_pos (by rw[hf,decide_eq_true ht];rfl)]
 simp only[Int.toNat_natCast]
theorem PN {s:PS}{k b:Nat}{n:Int}(hf:fitB s k b n=true) (hn:¬ s.v k b < n):iT s k b n=(0,put s k b (s.v k b - n)):=by
 unfold iT
 rw[if_pos hf]
 simp only[Int.toNat_natCast]
 rw[if_neg hn]
theorem Jt {s:PS}{k b:Nat}{n:Int}(hf:fitB s k b n=true) (hn:s.v k b < n):iT s k b n=(7,s):=by
 unfold iT
 rw[if_pos hf]
 simp only[Int.toNat_natCast]
 rw[if_pos hn]
theorem Uj {s:PS}{i a n:Int}(hf:fitB s i a n=false):iT s i a n=(1,s):=by
 unfold iT
 rw[if_neg (by simp[hf])]
theorem PO {s:PS}{i b:Nat}(hi:i < s.np) (hb:b < s.na) (x:Int):totP (put s i b x) b=totP s b+(x - s.v i b):=by
 rw[oW (s:=put s i b x) hb,oW hb]
 show tot (upd s.v i b x) s.np b=_
 rw[jS,if_pos ⟨hi,rfl⟩]
theorem Uk {s:PS}{i b:Nat}{n:Int}(hi:i < s.np) (hb:b < s.na) (h0:0≤n) (h1:n≤4611686018427387904):fitB s i b n=true:=oV.2 ⟨⟨i,rfl,hi⟩,⟨b,rfl,hb⟩,h0,h1⟩
theorem Ju (s:PS) (i j a n:Int) (c:Nat):tot (moveP s i j a n).2.v s.np c=tot s.v s.np c:=by
 unfold moveP
 split
 ·rename_i hc
  rw[Bool.and_eq_true] at hc
  obtain⟨⟨k,rfl,hk⟩,⟨b,rfl,hb⟩,h0,h1⟩:=oV.1 hc.1
  obtain⟨q,rfl,hq⟩:=jT hc.2
  simp only[Int.toNat_natCast]
  split
  ·rfl
  ·rename_i hne
   split
   ·rfl
   ·have hkq:q≠k:=fun e=>hne (by rw[e])
    rw[Ui,Ui,jS,jS]
    by_cases hcb:c=b
    ·subst hcb
     rw[if_pos ⟨hk,rfl⟩,if_pos ⟨hq,rfl⟩,dL _ _ _ _ (by omega)]
     omega
    ·rw[if_neg (by simp[hcb]),if_neg (by simp[hcb])]
     omega
 ·rfl
theorem tK (s:PS) (i j a n:Int):(moveP s i j a n).2.np=s.np∧(moveP s i j a n).2.na=s.na:=by unfold moveP;split<;>(try split)<;>(try split)<;>exact⟨rfl,rfl⟩
def col (X:Nat→List Int) (n a:Nat):List Int:=(List.range n).map fun i=>at_ (X i) a
theorem vF (X:Nat→List Int) (n a:Nat):(col X n a).length=n:=by simp[col]
theorem VW (X:Nat→List Int) (n a i:Nat) (h:i < n):at_ (col X n a) i=at_ (X i) a:=at_range _ _ _ h
theorem kU (X:Nat→List Int) (n a:Nat):col X (n+1) a=col X n a++[at_ (X n) a]:=by simp[col,List.range_succ]
theorem bZ:∀ (t:Int) (l m:List Int),aZ t (l++m)=(aZ t l).bind (fun u=>aZ u m)
  | t,[],m=>rfl
  | t,n :: r,m=>by
    simp only[List.cons_append,aZ]
    split
    · exact bZ _ r m
    · rfl
def yu (X:Nat→List Int):Nat→Nat→Int:=fun i a=>at_ (X i) a
theorem yw {X:Nat→List Int}{a:Nat}:∀ {n:Nat},(aZ 0 (col X n a)).isSome=true →
    aZ 0 (col X n a)=some (tot (yu X) n a)∧(∀ i,i < n→0≤at_ (X i) a)∧tot (yu X) n a≤4611686018427387904
  | 0,_=>⟨rfl,by intro i hi;omega,by simp[tot]⟩
  | n+1,h=>by
    rw[kU,bZ] at h ⊢
    have h1:(aZ 0 (col X n a)).isSome=true:=by
      cases hq:aZ 0 (col X n a) with
      | none=>rw[hq] at h;simp at h
      | some u=>rfl
    obtain⟨e1,e2,e3⟩:=yw (n:=n) h1
    rw[e1] at h ⊢
    simp only[Option.bind_some,aZ] at h ⊢
    split at h
    · rename_i hb
      obtain⟨b1,b2,b3⟩:=lX.1 hb
      rw[if_pos hb]
      refine⟨rfl,fun i hi=>?_,b3⟩
      by_cases e:i=n
      · subst e;exact b2
      · exact e2 i (by omega)
    · simp at h
theorem Jv {X:Nat→List Int}{n a:Nat}(h:sumE (col X n a)=0):sumN (col X n a)=tot (yu X) n a∧(∀ i,i < n→0≤at_ (X i) a)∧tot (yu X) n a≤4611686018427387904:=by
 have:(aZ 0 (col X n a)).isSome=true:=by
  unfold sumE bit at h
  cases hq:(aZ 0 (col X n a)).isSome with
  | true=>rfl
  | false=>rw[hq] at h;simp at h
 obtain⟨e1,e2,e3⟩:=yw this
 exact⟨by simp[sumN,e1],e2,e3⟩
def colV (v:Nat→Nat→Int) (n a:Nat):List Int:=(List.range n).map fun i=>v i a
theorem Jw (v:Nat→Nat→Int) (n a:Nat):colV v (n+1) a=colV v n a++[v n a]:=by simp[colV,List.range_succ]
theorem Jy {v:Nat→Nat→Int}{a:Nat}:∀ {n:Nat},(∀ i,i < n→0≤v i a)→tot v n a≤4611686018427387904→aZ 0 (colV v n a)=some (tot v n a)
  | 0,_,_=>rfl
  | n+1,h,ht=>by
    have h0:=jq (v:=v) (a:=a) (n:=n) (fun i hi=>h i (by omega))
    have hn:0≤v n a:=h n (by omega)
    have h1:=Jy (v:=v) (a:=a) (n:=n) (fun i hi=>h i (by omega)) (by simp only[tot] at ht;omega)
    rw[Jw,bZ,h1]
    simp only[Option.bind_some,aZ]
    rw[if_pos (lX.2 ⟨h0,hn,by simp only[tot] at ht;exact ht⟩)]
    rfl
theorem WF.aZ {s:PS}(h:WF s) {a:Nat}(ha:a < s.na):Num.aZ 0 (colV s.v s.np a)=some (tot s.v s.np a):=Jy (fun i hi=>h.pos i a hi ha) (h.sum a ha)
theorem WF.sumN {s:PS}(h:WF s) {a:Nat}(ha:a < s.na):Num.sumN (colV s.v s.np a)=tot s.v s.np a:=by simp[Num.sumN,h.aZ ha]
theorem WF.sumE {s:PS}(h:WF s) {a:Nat}(ha:a < s.na):Num.sumE (colV s.v s.np a)=0:=by simp[Num.sumE,h.aZ ha,bit]
def mG (n:Nat) (X:Nat→List Int):Prop:=(2≤n∧n≤16)∧(1≤(X 0).length∧(X 0).length≤4)∧(∀ i,i < n→(X i).length=(X 0).length)∧∀ a,a < (X 0).length→sumE (col X n a)=0
def newP (n:Nat) (X:Nat→List Int):PS:=⟨n,(X 0).length,yu X⟩
theorem mG.wf {n:Nat}{X:Nat→List Int}(h:mG n X):WF (newP n X) :=
 ⟨h.1.1,h.1.2,h.2.1.1,h.2.1.2,fun i a hi ha=>(Jv (h.2.2.2 a ha)).2.1 i hi,fun a ha=>(Jv (h.2.2.2 a ha)).2.2⟩
end Purse
namespace Disk
open Sha
structure DS where
 now:List (List Int)
 last:List (List Int)
 pend:List Nat
 fuse:Int
 down:Bool
def bF:List Int:=List.replicate 64 0
def rowOf (l:List (List Int)) (i:Nat):List Int:=l.getD i []
def newD (n:Nat):DS:=⟨List.replicate n bF,List.replicate n bF,[],-1,false⟩
def burnD (s:DS):Bool × DS:=if s.fuse=0 then (true,{ s with down:=true }) else if 0 < s.fuse then (false,{ s with fuse:=s.fuse - 1 }) else (false,s)
def ins (i:Nat):List Nat→List Nat
 | []=>[i]
 | k :: l=>if k < i then k :: ins i l else if k=i then k :: l else i :: k :: l
def aQ (s:DS) (i:Int):Prop:=i < 0∨(s.now.length:Int)≤i
instance (s:DS) (i:Int):Decidable (aQ s i):=by unfold aQ;infer_instance
def putD (s:DS) (i:Nat) (xs:List Int):DS:={ s with now:=s.now.set i xs,pend:=ins i s.pend }
def writeD (s:DS) (i:Int) (xs:List Int):Int × DS :=
 if s.down=true then (13,s) else if aQ s i then (1,s) else if xs.length≠64 then (2,s) else if (burnD s).1=true then (13,(burnD s).2) else (0,putD (burnD s).2 i.toNat xs)
def oI (s:DS) (i:Int):Int × List Int:=if s.down=true then (13,[]) else if aQ s i then (1,[]) else (0,rowOf s.now i.toNat)
def Bl (s:DS):DS:={ s with last:=s.now,pend:=[] }
def syncD (s:DS):Int × DS:=if s.down=true then (13,s) else if (burnD s).1=true then (13,(burnD s).2) else (0,Bl (burnD s).2)
def fF (s:DS) (n:Int):DS:={ s with fuse:=if n < -1 then -1 else n }
def iU (keep:List Bool):Nat→List Nat→List (List Int) × List (List Int)→List (List Int) × List (List Int)
 | _,[],p=>p
 | k,i :: l,p=>iU keep (k+1) l (if keep.getD k false=true then (p.1,p.2.set i (rowOf p.1 i)) else (p.1.set i (rowOf p.2 i),p.2))
def aB (s:DS) (keep:List Bool):DS:=⟨(iU keep 0 s.pend (s.now,s.last)).1,(iU keep 0 s.pend (s.now,s.last)).2,[],-1,false⟩
def Sec (l:List Int):Prop:=l.length=64∧Bytes l
theorem yx:Sec bF:=⟨by simp[bF],fun x hx=>by have:=List.eq_of_mem_replicate hx;omega⟩
structure WF (n:Nat) (s:DS):Prop where
 n1:1≤n
 n2:n≤8192
 now:s.now.length=n
 last:s.last.length=n
 secs:∀ i,i < n→Sec (rowOf s.now i)∧Sec (rowOf s.last i)
 pend:∀ i∈s.pend,i < n
 rise:s.pend.Pairwise (· < ·)
 same:∀ i,i < n→i∉s.pend→rowOf s.now i=rowOf s.last i
 fuse:-1≤s.fuse∧s.fuse≤9223372036854775807
theorem cZ (n i:Nat) (h:i < n):rowOf (List.replicate n bF) i=bF:=by simp[rowOf,h]
theorem aS (l:List (List Int)) (i j:Nat) (x:List Int) (h:j < l.length):rowOf (l.set i x) j=if i=j then x else rowOf l j:=by
 simp only[rowOf,List.getD_eq_getElem?_getD,List.getElem?_set]
 by_cases hij:i=j
 ·subst hij;simp[h]
 ·simp[hij]
theorem Jz (n:Nat) (h1:1≤n) (h2:n≤8192):WF n (newD n) :=
 ⟨h1,h2,by simp[newD],by simp[newD],fun i hi=>by simp only[newD];rw[cZ _ _ hi];exact⟨yx,yx⟩,by simp[newD],by simp[newD],fun _ _ _=>rfl,by simp[newD]⟩
theorem ins_mem (i j:Nat) (l:List Nat):j∈ins i l ↔ j=i∨j∈l:=by
 induction l with
 | nil=>simp[ins]
 | cons k l ih =>
  unfold ins
  split
  ·rw[List.mem_cons,ih,List.mem_cons]
   constructor
   ·rintro (h|h|h)<;>simp[h]
   ·rintro (h|h|h)<;>simp[h]
  ·split
   ·rename_i h;subst h
    rw[List.mem_cons]
    constructor
    ·intro h;exact .inr h
    ·rintro (h|h)
     ·exact .inl h
     ·exact h
   ·rw[List.mem_cons]
theorem vG (i:Nat) (l:List Nat) (h:l.Pairwise (· < ·)):(ins i l).Pairwise (· < ·):=by
 induction l with
 | nil=>simp[ins]
 | cons k l ih =>
  rw[List.pairwise_cons] at h
  unfold ins
  split
  ·rename_i hk
   rw[List.pairwise_cons]
   refine⟨fun j hj=>?_,ih h.2⟩
   rcases(ins_mem i j l).1 hj with h1|h1
   ·omega
   ·exact h.1 j h1
  ·split
   ·exact List.pairwise_cons.2 h
   ·rename_i hk hk2
    rw[List.pairwise_cons]
    refine⟨fun j hj=>?_,List.pairwise_cons.2 h⟩
    rcases List.mem_cons.1 hj with h1|h1
    ·omega
    ·have:=h.1 j h1;omega
theorem qy {n:Nat}{s:DS}(h:WF n s):WF n (burnD s).2:=by
 unfold burnD
 split
 ·exact⟨h.n1,h.n2,h.now,h.last,h.secs,h.pend,h.rise,h.same,h.fuse⟩
 ·split
  ·have:=h.fuse
   exact⟨h.n1,h.n2,h.now,h.last,h.secs,h.pend,h.rise,h.same,by simp only;omega⟩
  ·exact h
theorem jr (s:DS):(burnD s).2.now=s.now:=by unfold burnD;split;rfl;split<;>rfl
theorem kV (s:DS):(burnD s).2.last=s.last:=by unfold burnD;split;rfl;split<;>rfl
theorem kX (s:DS):(burnD s).2.pend=s.pend:=by unfold burnD;split;rfl;split<;>rfl
theorem JA {n:Nat}{s:DS}(h:WF n s) (i:Nat) (xs:List Int) (hi:i < n) (hx:Sec xs):WF n (putD s i xs):=by
 refine⟨h.n1,h.n2,by simp[putD,h.now],h.last,fun j hj=>?_,fun j hj=>?_,vG i _ h.rise,fun j hj hn=>?_,h.fuse⟩
 ·simp only[putD]
  rw[aS _ _ _ _ (by rw[h.now];exact hj)]
  split
  ·exact⟨hx,(h.secs j hj).2⟩
  ·exact h.secs j hj
 ·rcases(ins_mem i j s.pend).1 hj with h1|h1
  ·omega
  ·exact h.pend j h1
 ·simp only[putD] at hn ⊢
  rw[aS _ _ _ _ (by rw[h.now];exact hj)]
  rw[ins_mem] at hn
  rw[if_neg (fun e=>hn (.inl e.symm))]
  exact h.same j hj (fun hm=>hn (.inr hm))
theorem PQ {n:Nat}{s:DS}(h:WF n s) (i:Int) (xs:List Int) (hx:Bytes xs):WF n (writeD s i xs).2:=by
 unfold writeD
 split
 ·exact h
 ·split
  ·exact h
  ·rename_i hi
   split
   ·exact h
   ·rename_i hl
    split
    ·exact qy h
    ·unfold aQ at hi
     exact JA (qy h) _ _ (by have:=h.now;omega) ⟨by omega,hx⟩
theorem JC {n:Nat}{s:DS}(h:WF n s):WF n (Bl s) :=
 ⟨h.n1,h.n2,h.now,h.now,fun i hi=>⟨(h.secs i hi).1,(h.secs i hi).1⟩,by simp[Bl],by simp[Bl],fun _ _ _=>rfl,h.fuse⟩
theorem Ul {n:Nat}{s:DS}(h:WF n s):WF n (syncD s).2:=by
 unfold syncD
 split
 ·exact h
 ·split
  ·exact qy h
  ·exact JC (qy h)
theorem JD {n:Nat}{s:DS}(h:WF n s) (f:Int) (hf:f≤9223372036854775807):WF n (fF s f) :=
 ⟨h.n1,h.n2,h.now,h.last,h.secs,h.pend,h.rise,h.same,by simp only[fF];split<;>omega⟩
structure Mid (n:Nat) (p:List (List Int) × List (List Int)) (l:List Nat):Prop where
 a:p.1.length=n
 b:p.2.length=n
 secs:∀ i,i < n→Sec (rowOf p.1 i)∧Sec (rowOf p.2 i)
 same:∀ i,i < n→i∉l→rowOf p.1 i=rowOf p.2 i
def fO (keep:List Bool) (k i:Nat) (p:List (List Int) × List (List Int)):List (List Int) × List (List Int) :=
 if keep.getD k false=true then (p.1,p.2.set i (rowOf p.1 i)) else (p.1.set i (rowOf p.2 i),p.2)
theorem nY (keep:List Bool) (k i:Nat) (l:List Nat) (p:List (List Int) × List (List Int)):iU keep k (i :: l) p=iU keep (k+1) l (fO keep k i p):=rfl
theorem mid_step {n:Nat}{p:List (List Int) × List (List Int)}{i:Nat}{l:List Nat}(h:Mid n p (i :: l)) (keep:List Bool) (k:Nat):Mid n (fO keep k i p) l:=by
 unfold fO
 split
 ·refine⟨h.a,by simp[h.b],fun j hj=>?_,fun j hj hn=>?_⟩
  ·simp only;rw[aS _ _ _ _ (by rw[h.b];exact hj)]
   split
   ·rename_i e;subst e;exact⟨(h.secs i hj).1,(h.secs i hj).1⟩
   ·exact h.secs j hj
  ·simp only;rw[aS _ _ _ _ (by rw[h.b];exact hj)]
   split
   ·rename_i e;subst e;rfl
   ·rename_i e
    exact h.same j hj (fun hm=>(List.mem_cons.1 hm).elim (fun h1=>e h1.symm) hn)
 ·refine⟨by simp[h.a],h.b,fun j hj=>?_,fun j hj hn=>?_⟩
  ·simp only;rw[aS _ _ _ _ (by rw[h.a];exact hj)]
   split
   ·rename_i e;subst e;exact⟨(h.secs i hj).2,(h.secs i hj).2⟩
   ·exact h.secs j hj
  ·simp only;rw[aS _ _ _ _ (by rw[h.a];exact hj)]
   split
   ·rename_i e;subst e;rfl
   ·rename_i e
    exact h.same j hj (fun hm=>(List.mem_cons.1 hm).elim (fun h1=>e h1.symm) hn)
theorem VY {n:Nat}(keep:List Bool) (l:List Nat) (k:Nat) (p:List (List Int) × List (List Int)) (h:Mid n p l):Mid n (iU keep k l p) []:=by
 induction l generalizing k p with
 | nil=>exact h
 | cons i l ih=>rw[nY];exact ih _ _ (mid_step h keep k)
theorem jv {n:Nat}{s:DS}(h:WF n s) (keep:List Bool):WF n (aB s keep):=by
 have m:=VY keep s.pend 0 (s.now,s.last) ⟨h.now,h.last,h.secs,h.same⟩
 exact⟨h.n1,h.n2,m.a,m.b,m.secs,by simp[aB],by simp[aB],fun i hi _=>m.same i hi (by simp),by simp[aB]⟩
end Disk
namespace Purse
open Num Sha
end Purse
namespace Req
open Sha Wire
def HoldR (r:RV):Prop :=
 (r.kind=1∧r.id=0∧r.due=0∧r.hash=[]∧r.sec=[]) ∨
 (r.kind=2∧r.id=0∧Tck r.due∧r.hash.length=32∧r.sec=[]) ∨
 (r.kind=3∧r.dst=0∧r.asset=0∧r.amount=0∧r.due=0∧r.hash=[]∧r.sec.length=32) ∨
 (r.kind=4∧r.dst=0∧r.asset=0∧r.amount=0∧r.due=0∧r.hash=[]∧r.sec=[])
def vH (r:VV):Prop :=
 (r.kind=1∧r.id=0∧r.due=0∧r.hash=[]∧r.sec=[]) ∨
 (r.kind=2∧Tck r.due∧r.hash.length=32∧r.sec=[]) ∨
 (r.kind=3∧r.src=0∧r.dst=0∧r.asset=0∧r.amount=0∧r.due=0∧r.hash=[]∧r.sec.length=32) ∨
 (r.kind=4∧r.src=0∧r.dst=0∧r.asset=0∧r.amount=0∧r.due=0∧r.hash=[]∧r.sec=[])
def RngR (r:RV):Prop:=B8 r.dst∧B8 r.asset∧Amt r.amount∧I16 r.id
def RngV (r:VV):Prop:=B8 r.src∧B8 r.dst∧B8 r.asset∧Amt r.amount∧I16 r.id
instance (r:RV):Decidable (HoldR r):=by unfold HoldR;infer_instance
instance (r:VV):Decidable (vH r):=by unfold vH;infer_instance
instance (r:RV):Decidable (RngR r):=by unfold RngR;infer_instance
instance (r:VV):Decidable (RngV r):=by unfold RngV;infer_instance
theorem vK {r:RV}:MayR r ↔ HoldR r∧RngR r:=by
 unfold MayR HoldR RngR B8 Amt I16
 constructor
 ·rintro (⟨h1,h2,h3,h4,h5,h6,h7,h8⟩|⟨h1,h2,h3,h4,h5,h6,h7,h8⟩|⟨h1,h2,h3,h4,h5,h6,h7,h8⟩|⟨h1,h2,h3,h4,h5,h6,h7,h8⟩)
  ·exact⟨.inl ⟨h1,h5,h6,h7,h8⟩,h2,h3,h4,by omega⟩
  ·exact⟨.inr (.inl ⟨h1,h5,h6,h7,h8⟩),h2,h3,h4,by omega⟩
  ·exact⟨.inr (.inr (.inl ⟨h1,h2,h3,h4,h6,h7,h8⟩)),by omega,by omega,by omega,h5⟩
  ·exact⟨.inr (.inr (.inr ⟨h1,h2,h3,h4,h6,h7,h8⟩)),by omega,by omega,by omega,h5⟩
 ·rintro ⟨h,k1,k2,k3,k4⟩
  rcases h with⟨h1,h2,h3,h4,h5⟩|⟨h1,h2,h3,h4,h5⟩|⟨h1,h2,h3,h4,h5,h6,h7⟩|⟨h1,h2,h3,h4,h5,h6,h7⟩
  ·exact .inl ⟨h1,k1,k2,k3,h2,h3,h4,h5⟩
  ·exact .inr (.inl ⟨h1,k1,k2,k3,h2,h3,h4,h5⟩)
  ·exact .inr (.inr (.inl ⟨h1,h2,h3,h4,k4,h5,h6,h7⟩))
  ·exact .inr (.inr (.inr ⟨h1,h2,h3,h4,k4,h5,h6,h7⟩))
theorem vM {r:VV}:MayV r ↔ vH r∧RngV r:=by
 unfold MayV vH RngV B8 Amt I16
 constructor
 ·rintro (⟨h1,hs,h2,h3,h4,h5,h6,h7,h8⟩|⟨h1,hs,h2,h3,h4,h5,h6,h7,h8⟩|⟨h1,hs,h2,h3,h4,h5,h6,h7,h8⟩|⟨h1,hs,h2,h3,h4,h5,h6,h7,h8⟩)
  ·exact⟨.inl ⟨h1,h5,h6,h7,h8⟩,hs,h2,h3,h4,by omega⟩
  ·exact⟨.inr (.inl ⟨h1,h6,h7,h8⟩),hs,h2,h3,h4,h5⟩
  ·exact⟨.inr (.inr (.inl ⟨h1,hs,h2,h3,h4,h6,h7,h8⟩)),by omega,by omega,by omega,by omega,h5⟩
  ·exact⟨.inr (.inr (.inr ⟨h1,hs,h2,h3,h4,h6,h7,h8⟩)),by omega,by omega,by omega,by omega,h5⟩
 ·rintro ⟨h,ks,k1,k2,k3,k4⟩
  rcases h with⟨h1,h2,h3,h4,h5⟩|⟨h1,h3,h4,h5⟩|⟨h1,hs,h2,h3,h4,h5,h6,h7⟩|⟨h1,hs,h2,h3,h4,h5,h6,h7⟩
  ·exact .inl ⟨h1,ks,k1,k2,k3,h2,h3,h4,h5⟩
  ·exact .inr (.inl ⟨h1,ks,k1,k2,k3,k4,h3,h4,h5⟩)
  ·exact .inr (.inr (.inl ⟨h1,hs,h2,h3,h4,k4,h5,h6,h7⟩))
  ·exact .inr (.inr (.inr ⟨h1,hs,h2,h3,h4,k4,h5,h6,h7⟩))
def wr (st:St) (p:Prop) [Decidable p] (b:List Int):St:=if st.1=0 then (if p then (0,st.2++b) else (1,[])) else st
theorem gZ (st:St) (p q:Prop) [Decidable p] [Decidable q] (a b:List Int):wr (wr st p a) q b=wr st (p∧q) (a++b):=by
 unfold wr
 by_cases h:st.1=0
 ·by_cases hp:p
  ·by_cases hq:q
   ·simp[h,hp,hq,List.append_assoc]
   ·simp[h,hp,hq]
  ·simp[h,hp]
 ·simp[h]
theorem nZ (st:St) {p q:Prop} [Decidable p] [Decidable q] (a:List Int) (h:p ↔ q):wr st p a=wr st q a:=by
 unfold wr;simp[h]
theorem Su (st:St):wr st True []=st:=by
 unfold wr
 split
 ·rename_i h
  obtain⟨e,xs⟩:=st
  dsimp only at h;subst h;simp
 ·rfl
theorem Eb (st:St) (n s:Int):encNum st n s=wr st (fits n s=true) (be n.toNat s.toNat):=rfl
theorem JE (n:Int):fits n 1=true ↔ B8 n:=by
 unfold fits B8
 rw[decide_eq_true_eq]
 constructor
 ·rintro ⟨-,-,h1,h2,h3⟩
  exact⟨h1,by have:(256:Int) ^ (1:Int).toNat=256:=rfl;omega⟩
 ·rintro ⟨h1,h2⟩
  exact⟨by omega,by omega,h1,by omega,by have:(256:Int) ^ (1:Int).toNat=256:=rfl;omega⟩
theorem XD (n:Int):fits n 2=true ↔ I16 n:=by
 unfold fits I16
 rw[decide_eq_true_eq]
 constructor
 ·rintro ⟨-,-,h1,h2,h3⟩
  exact⟨h1,by have:(256:Int) ^ (2:Int).toNat=65536:=rfl;omega⟩
 ·rintro ⟨h1,h2⟩
  exact⟨by omega,by omega,h1,by omega,by have:(256:Int) ^ (2:Int).toNat=65536:=rfl;omega⟩
theorem XE (n:Int):fits n 8=true ↔ Amt n:=by
 unfold fits Amt
 rw[decide_eq_true_eq]
 constructor
 ·rintro ⟨-,-,h1,h2,h3⟩
  exact⟨h1,h2⟩
 ·rintro ⟨h1,h2⟩
  exact⟨by omega,by omega,h1,h2,by have:(256:Int) ^ (8:Int).toNat=18446744073709551616:=rfl;omega⟩
theorem wr1 (st:St) (n:Int):encNum st n 1=wr st (B8 n) (be n.toNat 1):=by rw[Eb,nZ _ _ (JE n)];rfl
theorem wr2 (st:St) (n:Int):encNum st n 2=wr st (I16 n) (be n.toNat 2):=by rw[Eb,nZ _ _ (XD n)];rfl
theorem wr8 (st:St) (n:Int):encNum st n 8=wr st (Amt n) (be n.toNat 8):=by rw[Eb,nZ _ _ (XE n)];rfl
theorem PR (st:St) {p q:Prop} [Decidable p] [Decidable q] {a b:List Int}(h:p ↔ q) (e:a=b):wr st p a=wr st q b:=by
 subst e;exact nZ st _ h
theorem k_b (n:Int) (h:0≤n∧n≤255:=by decide):B8 n=True:=eq_true h
theorem k_i:I16 0=True:=eq_true (by decide)
theorem k_a:Amt 0=True:=eq_true (by decide)
def mJ (st:St) (a b c:Int):St:=encNum (encNum (encNum st a 1) b 1) c 8
theorem Ec (st:St) (a b c:Int):mJ st a b c=wr st (B8 a∧B8 b∧Amt c) (be a.toNat 1++(be b.toNat 1++be c.toNat 8)):=by
 unfold mJ
 rw[wr1,wr1,wr8,gZ,gZ]
def wText (st:St) (b:List Int):St:=wr st True b
theorem Gt (st:St) (b:List Int) (x:Int) (hx:0≤x∧x≤255):encNum (wText st b) x 1=wText st (b++[x]):=by
 unfold wText
 rw[wr1,gZ]
 have h:be x.toNat 1=[x]:=by
  simp only[be,Nat.pow_zero,Nat.div_one]
  congr 1
  omega
 rw[h]
 exact nZ _ _ ⟨fun _=>trivial,fun _=>⟨trivial,hx⟩⟩
theorem Ed (st:St) (p:Prop) [Decidable p] (b:List Int):(wr st p b).2.length≤st.2.length+b.length:=by
 unfold wr
 split
 ·split
  ·simp
  ·simp
 ·omega
def wReq (st:St) (r:RV):St:=wr st (RngR r) (putR r)
def wEv (st:St) (r:VV):St:=wr st (RngV r) (putV r)
def wRep (st:St) (r:PV):St:=encNum (encNum st r.code 1) r.id 2
theorem JF (st:St) (r:PV):wRep st r=wr st (MayP r) (putP r):=by
 unfold wRep
 rw[wr1,wr2,gZ];rfl
theorem XG (st:St) (a b c:Int):mJ (encNum st 1 1) a b c=wReq st ⟨1,a,b,c,0,0,[],[]⟩:=by
 rw[Ec,wr1,gZ,wReq]
 exact PR st (by simp only[RngR,k_b 1,k_i,true_and,and_true]) (by simp[putR])
theorem XH (st:St) (a b c due:Int) (hash:List Int) (hd:Tck due):encNum (wText (mJ (encNum st 2 1) a b c) hash) due 8=wReq st ⟨2,a,b,c,0,due,hash,[]⟩:=by
 rw[wText,Ec,wr1,wr8,gZ,gZ,gZ,wReq]
 have h:Amt due=True:=eq_true hd.amt
 exact PR st (by simp only[RngR,k_b 2,k_i,h,true_and,and_true]) (by simp[putR])
theorem XI (st:St) (id:Int) (sec:List Int):wText (encNum (encNum st 3 1) id 2) sec=wReq st ⟨3,0,0,0,id,0,[],sec⟩:=by
 rw[wText,wr1,wr2,gZ,gZ,wReq]
 exact PR st (by simp only[RngR,k_b 3,k_b 0,k_a,true_and,and_true]) (by simp[putR])
theorem XJ (st:St) (id:Int):encNum (encNum st 4 1) id 2=wReq st ⟨4,0,0,0,id,0,[],[]⟩:=by
 rw[wr1,wr2,gZ,wReq]
 exact PR st (by simp only[RngR,k_b 4,k_b 0,k_a,true_and]) (by simp[putR])
def wAll {α:Type} (f:St→α→St) (st:St) (l:List α):St:=l.foldl f st
theorem JG {α:Type}(f:St→α→St) (st:St) (l:List α) (x:α):wAll f st (l++[x])=f (wAll f st l) x:=by simp[wAll]
theorem Bo {α:Type}(f:St→α→St) (p:α→Prop) [∀ x,Decidable (p x)] (g:α→List Int) (hf:∀ st x,f st x=wr st (p x) (g x)) (l:List α) (st:St):wAll f st l=wr st (∀ x∈l,p x) (l.flatMap g):=by
 induction l generalizing st with
 | nil =>
  rw[nZ st (q:=True) _ ⟨fun _=>trivial,fun _ x hx=>by simp at hx⟩]
  exact(Su st).symm
 | cons x l ih =>
  show wAll f (f st x) l=_
  rw[ih,hf,gZ,List.flatMap_cons]
  exact nZ _ _ ⟨fun h y hy=>by
   rcases List.mem_cons.1 hy with rfl|hy
   ·exact h.1
   ·exact h.2 y hy,fun h=>⟨h x (List.mem_cons_self ..),fun y hy=>h y (List.mem_cons_of_mem _ hy)⟩⟩
theorem vN {α:Type}{f:St→α→St}{m:Nat}:∀ {l:List α}{st:St},(∀ st,∀ x∈l,(f st x).2.length≤st.2.length+m)→(wAll f st l).2.length≤st.2.length+m * l.length
  | [],st,_=>by simp[wAll]
  | x :: l,st,h=>by
    have h1:=h st x (List.mem_cons_self ..)
    have h2:=vN (l:=l) (st:=f st x) (fun st y hy=>h st y (List.mem_cons_of_mem _ hy))
    show (wAll f (f st x) l).2.length≤_
    rw[List.length_cons,Nat.mul_add]
    omega
theorem Gu {r:RV}(h:HoldR r):(putR r).length≤51:=by
 obtain⟨kind,dst,asset,amount,id,due,hash,sec⟩:=r
 unfold putR
 rcases h with⟨h1,h2,h3,h4,h5⟩|⟨h1,h2,h3,h4,h5⟩|⟨h1,h2,h3,h4,h5,h6,h7⟩|⟨h1,h2,h3,h4,h5,h6,h7⟩<;>dsimp only at *<;>subst h1<;>simp[aJ, *]
theorem PU {st:St}{r:RV}(h:HoldR r):(wReq st r).2.length≤st.2.length+54:=Nat.le_trans (Ed _ _ _) (by have:=Gu h;omega)
theorem PW {st:St}{r:PV}:(wRep st r).2.length≤st.2.length+54:=by
 rw[JF];exact Nat.le_trans (Ed _ _ _) (by rw[DZ];omega)
theorem JH {seen:Int}{l:List RV}(hl:l.length≤64) (h:∀ r∈l,HoldR r):wAll wReq (encNum (encNum (0,[]) seen 2) l.length 1) l=encB ⟨seen,l⟩:=by
 rw[Bo wReq RngR putR (fun _ _=>rfl),wr2,wr1,gZ,gZ]
 have e:∀ (p:Prop) [Decidable p] (b:List Int),wr (0,[]) p b=if p then (0,b) else (1,[]):=fun p _ b=>by simp[wr]
 rw[e]
 have hp:(I16 seen∧B8 (l.length:Int)∧∀ r∈l,RngR r) ↔ (I16 seen∧l.length≤64∧∀ r∈l,MayR r) :=
  ⟨fun k=>⟨k.1,hl,fun r hr=>vK.2 ⟨h r hr,k.2.2 r hr⟩⟩,fun k=>⟨k.1,⟨by omega,by omega⟩,fun r hr=>(vK.1 (k.2.2 r hr)).2⟩⟩
 by_cases hc:I16 seen∧B8 (l.length:Int)∧∀ r∈l,RngR r
 ·rw[if_pos hc,Po (x:=⟨seen,l⟩) (hp.1 hc),Int.toNat_natCast];rfl
 ·rw[if_neg hc,Jp (x:=⟨seen,l⟩) (fun k=>hc (hp.2 k))]
theorem JI {clock seen:Int}{p:List PV}{v:List VV}(hc:Tck clock) (hp:p.length≤64) (hv:v.length≤400) (h:∀ r∈v,vH r):wAll wEv (encNum (wAll wRep (encNum (encNum (encNum (0,[]) clock 8) seen 2) p.length 1) p) v.length 2) v=encA ⟨clock,seen,p,v⟩:=by
 rw[Bo wEv RngV putV (fun _ _=>rfl),Bo wRep MayP putP JF,wr2,wr2,wr1,wr8,gZ,gZ,gZ,gZ,gZ]
 have e:∀ (p:Prop) [Decidable p] (b:List Int),wr (0,[]) p b=if p then (0,b) else (1,[]):=fun p _ b=>by simp[wr]
 rw[e]
 have hq:(Amt clock∧I16 seen∧B8 (p.length:Int)∧(∀ r∈p,MayP r)∧I16 (v.length:Int)∧∀ r∈v,RngV r) ↔ (Tck clock∧I16 seen∧p.length≤64∧v.length≤400∧(∀ r∈p,MayP r)∧∀ r∈v,MayV r) :=
  ⟨fun k=>⟨hc,k.2.1,hp,hv,k.2.2.2.1,fun r hr=>vM.2 ⟨h r hr,k.2.2.2.2.2 r hr⟩⟩,fun k=>⟨k.1.amt,k.2.1,⟨by omega,by omega⟩,k.2.2.2.2.1,⟨by omega,by omega⟩,fun r hr=>(vM.1 (k.2.2.2.2.2 r hr)).2⟩⟩
 by_cases hh:Amt clock∧I16 seen∧B8 (p.length:Int)∧(∀ r∈p,MayP r)∧I16 (v.length:Int)∧∀ r∈v,RngV r
 ·rw[if_pos hh,oO (x:=⟨clock,seen,p,v⟩) (hq.1 hh)]
  simp only[Int.toNat_natCast];rfl
 ·rw[if_neg hh,uX (x:=⟨clock,seen,p,v⟩) (fun k=>hh (hq.2 k))]
end Req
namespace Disk
open Sha
theorem JJ {n:Nat}{s:DS}(h:WF n s):s.pend.length≤n:=by
 have h1:=h.rise
 have h2:=h.pend
 generalize s.pend=l at *
 clear h
 have:∀ (l:List Nat) (a:Nat),l.Pairwise (· < ·)→(∀ i∈l,a≤i∧i < n)→l.length+a≤n∨l=[]:=by
  intro l
  induction l with
  | nil=>intro a _ _;exact .inr rfl
  | cons x l ih =>
   intro a hp hb
   rw[List.pairwise_cons] at hp
   have hx:=hb x (by simp)
   rcases ih (x+1) hp.2 (fun i hi=>⟨hp.1 i hi,(hb i (by simp[hi])).2⟩) with h3|h3
   ·left;simp;omega
   ·subst h3;left;simp;omega
 rcases this l 0 h1 (fun i hi=>⟨Nat.zero_le _,h2 i hi⟩) with h3|h3
 ·omega
 ·subst h3;simp
end Disk
end Go.Proofs.YtlkeieoecfkkeaaGreat
