/-
  Parts laid together: MacSpec SealSpec GateSpec VaultAt VaultOk.
-/
import Derived.Test.YtlkeieoecfkkeaaGreatPart3
import Derived.Test.YtlkeieoecfkkeaaGreatPart2
namespace Go.Proofs.YtlkeieoecfkkeaaGreat
namespace Mac
open Sha
theorem qZ (op:BinOp) (a b:Int):0≤bits op .u8 a b∧bits op .u8 a b≤255:=by
 unfold bits
 cases op<;>simp only[IntKind.wrap_u8]<;>omega
def kpK (key:List Int) (c:Int) (k:Nat):List Int:=(List.range 64).map fun i=>if i < k then bits .xor .u8 (at_ key i) c else at_ key i
def kp (key:List Int) (c:Int):List Int:=(List.range 64).map fun i=>bits .xor .u8 (at_ key i) c
theorem kpK_len (key:List Int) (c:Int) (k:Nat):(kpK key c k).length=64:=by simp[kpK]
theorem aW (key:List Int) (c:Int):(kp key c).length=64:=by simp[kp]
theorem zx (key:List Int) (c:Int) (k i:Nat) (h:i < 64):at_ (kpK key c k) i=if i < k then bits .xor .u8 (at_ key i) c else at_ key i:=at_range _ _ _ h
theorem Xi (key:List Int) (c:Int) (i:Nat) (h:i < 64):at_ (kp key c) i=bits .xor .u8 (at_ key i) c:=at_range _ _ _ h
theorem iG (key:List Int) (c:Int):Bytes (kp key c):=by
 intro x hx
 obtain⟨i,_,rfl⟩:=List.mem_map.1 hx
 exact qZ _ _ _
theorem Xj (key:List Int) (c:Int):kpK key c 64=kp key c:=by
 apply iO
 ·rw[kpK_len,aW]
 ·intro i hi
  rw[kpK_len] at hi
  rw[zx _ _ _ _ hi,Xi _ _ _ hi,if_pos hi]
theorem U9 (key:List Int) (c:Int) (k:Nat):(kpK key c k).set k (bits .xor .u8 (at_ key k) c)=kpK key c (k+1):=by
 apply iO
 ·rw[List.length_set,kpK_len,kpK_len]
 ·intro i hi
  rw[List.length_set,kpK_len] at hi
  have hs:at_ ((kpK key c k).set k (bits .xor .u8 (at_ key k) c)) i=if k=i then bits .xor .u8 (at_ key k) c else at_ (kpK key c k) i:=by
   simp[at_,List.getD_eq_getElem?_getD,List.getElem?_set]
   by_cases hk:k=i
   ·subst hk;simp[kpK_len,hi]
   ·simp[hk]
  rw[hs,zx _ _ _ _ hi,zx _ _ _ _ hi]
  by_cases h:k=i
  ·subst h;simp
  ·rw[if_neg h]
   by_cases h2:i < k
   ·rw[if_pos h2,if_pos (by omega)]
   ·rw[if_neg h2,if_neg (by omega)]
theorem XW (key:List Int) (c:Int) (h:key.length≤64):(List.replicate 64 (0:Int)).take 0++key++(List.replicate 64 (0:Int)).drop (0+key.length)=kpK key c 0:=by
 apply iO
 ·rw[kpK_len];simp;omega
 ·intro i hi
  have h64:i < 64:=by simp at hi;omega
  rw[zx _ _ _ _ h64,if_neg (by omega)]
  by_cases hk:i < key.length
  ·rw[bT (by simpa using hk),cO (by simp)];simp
  ·rw[cO (by simp;omega),at_out (l:=key) (by omega)]
   simp only[at_,List.getD_eq_getElem?_getD,List.getElem?_drop,List.getElem?_replicate]
   split<;>rfl
def keyOf (key:List Int):List Int:=if 64 < key.length then sha key else key
def Ia (key text:List Int):List Int:=sha (kp key 92++sha (kp key 54++text))
def hmac (key text:List Int):List Int:=Ia (keyOf key) text
theorem ru {key:List Int}(h:64 < key.length):keyOf key=sha key:=if_pos h
theorem kC {key:List Int}(h:¬ 64 < key.length):keyOf key=key:=if_neg h
theorem dG (key text:List Int):(hmac key text).length=32:=rfl
def dif (f g:Nat→Int):Nat→Int
 | 0=>0
 | k+1=>bits .or .u8 (dif f g k) (bits .xor .u8 (f k) (g k))
theorem dif8 (f g:Nat→Int) (k:Nat):0≤dif f g k∧dif f g k≤255:=by
 cases k with
 | zero=>exact⟨by simp[dif],by simp[dif]⟩
 | succ k=>exact qZ _ _ _
theorem xor0 (a b:Int) (ha:0≤a∧a≤255) (hb:0≤b∧b≤255):bits .xor .u8 a b=0 ↔ a=b:=by
 rw[u8_xor a b ha.1 (by omega) hb.1 (by omega)]
 constructor
 ·intro h
  have h2:a.toNat ^^^ b.toNat=0:=by exact_mod_cast h
  have h3:a.toNat=b.toNat:=by
   apply Nat.eq_of_testBit_eq
   intro i
   have:=congrArg (fun n=>n.testBit i) h2
   simp only[Nat.testBit_xor,Nat.zero_testBit] at this
   revert this
   cases a.toNat.testBit i<;>cases b.toNat.testBit i<;>simp
  omega
 ·rintro rfl
  simp
theorem or0 (a b:Int) (ha:0≤a∧a≤255) (hb:0≤b∧b≤255):bits .or .u8 a b=0 ↔ a=0∧b=0:=by
 rw[u8_or a b ha.1 (by omega) hb.1 (by omega)]
 constructor
 ·intro h
  have h2:a.toNat ||| b.toNat=0:=by exact_mod_cast h
  have h3:=Nat.or_eq_zero_iff.1 h2
  omega
 ·rintro ⟨rfl,rfl⟩
  rfl
theorem QN {f g:Nat→Int}(hf:∀ i,0≤f i∧f i≤255) (hg:∀ i,0≤g i∧g i≤255) (k:Nat):dif f g k=0 ↔ ∀ i,i < k→f i=g i:=by
 induction k with
 | zero=>simp[dif]
 | succ k ih =>
  rw[dif,or0 _ _ (dif8 _ _ _) (qZ _ _ _),ih,xor0 _ _ (hf k) (hg k)]
  constructor
  ·rintro ⟨h1,h2⟩ i hi
   by_cases e:i=k
   ·subst e;exact h2
   ·exact h1 i (by omega)
  ·intro h
   exact⟨fun i hi=>h i (by omega),h k (by omega)⟩
theorem MQ {xs ys:List Int}(hx:Bytes xs) (hy:Bytes ys) (hl:xs.length=ys.length):decide (dif (at_ xs) (at_ ys) xs.length=0)=sameB xs ys:=by
 unfold sameB
 apply decide_eq_decide.2
 rw[QN hx.at_ hy.at_]
 constructor
 ·intro h;exact iO hl h
 ·rintro rfl i _;rfl
end Mac
namespace Seal
open Sha Wire Mac
structure NV where
 party:Int
 which:Int
 way:Int
 seq:Int
 body:List Int
def wayN (n:NV):Prop:=0≤n.party∧n.party < 16∧(n.which=0∨n.which=1)∧(n.way=0∨n.way=1)
def mayN (n:NV):Prop:=wayN n∧1≤n.seq∧n.seq < 4294967296
instance (n:NV):Decidable (wayN n):=by unfold wayN;infer_instance
instance (n:NV):Decidable (mayN n):=by unfold mayN;infer_instance
def lI (n:NV):List Int:=[110]++be n.party.toNat 1++be n.which.toNat 1++be n.way.toNat 1++be n.seq.toNat 4++be n.body.length 4
def iH (n:NV):List Int:=lI n++n.body
def errN (n:NV):Int:=if mayN n then (if 60000 < n.body.length then 3 else 0) else 1
def bJ (key:List Int) (n:NV):List Int:=iH n++hmac key (iH n)
def sealN (key:List Int) (n:NV):Int × List Int:=(errN n,if errN n=0 then bJ key n else [])
theorem wL {n:NV}:errN n=0 ↔ mayN n∧n.body.length≤60000:=by
 unfold errN
 by_cases h:mayN n
 ·rw[if_pos h]
  by_cases h2:60000 < n.body.length
  ·rw[if_pos h2];constructor
   ·intro h3;omega
   ·intro h3;omega
  ·rw[if_neg h2];exact⟨fun _=>⟨h,by omega⟩,fun _=>rfl⟩
 ·rw[if_neg h];constructor
  ·intro h3;omega
  ·intro h3;exact absurd h3.1 h
theorem lJ (n:NV):(lI n).length=12:=by simp[lI,aJ]
theorem kD (n:NV):Bytes (lI n):=by
 unfold lI
 refine(((((Bytes.append ?_ (ah _ _)).append (ah _ _)).append (ah _ _)).append (ah _ _)).append (ah _ _))
 intro x hx
 simp at hx
 omega
theorem lK (n:NV):(iH n).length=12+n.body.length:=by
 simp only[iH,List.length_append,lJ]
theorem kE (n:NV) (hb:Bytes n.body):Bytes (iH n):=(kD n).append hb
theorem iI (key text:List Int):Bytes (hmac key text):=by
 unfold hmac Ia
 intro x hx
 unfold sha out8 at hx
 obtain⟨y,hy,hx⟩:=List.mem_flatMap.1 hx
 simp only[List.mem_cons,List.not_mem_nil,or_false] at hx
 rcases hx with rfl|rfl|rfl|rfl<;>constructor<;>omega
theorem jb (key:List Int) (n:NV):(bJ key n).length=44+n.body.length:=by
 simp only[bJ,List.length_append,lK,dG];omega
theorem ry (key:List Int) (n:NV) (hb:Bytes n.body):Bytes (bJ key n):=(kE n hb).append (iI _ _)
def nS (b:List Int):Nat:=val ((b.drop 4).take 4)
def nN (b:List Int):Nat:=val ((b.drop 8).take 4)
def rC (b:List Int):Prop:=at_ b 0=110∧at_ b 1 < 16∧at_ b 2≤1∧at_ b 3≤1∧nN b≤60000
def peekOk (b:List Int):Prop:=44≤b.length∧rC b∧b.length=44+nN b
instance (b:List Int):Decidable (rC b):=by unfold rC;infer_instance
instance (b:List Int):Decidable (peekOk b):=by unfold peekOk;infer_instance
def peekN (b:List Int):Int × Int × Int × Int:=if peekOk b then (at_ b 1,at_ b 2,at_ b 3,0) else (0,0,0,2)
def gJ (key b:List Int):Int:=if peekOk b∧nS b≠0 then (if hmac key (b.take (b.length - 32))=b.drop (b.length - 32) then 0 else 4) else 2
def MX (b:List Int):NV:=⟨at_ b 1,at_ b 2,at_ b 3,nS b,(b.take (b.length - 32)).drop 12⟩
def openN (key b:List Int):NV × Int:=if gJ key b=0 then (MX b,0) else (⟨0,0,0,0,[]⟩,gJ key b)
theorem rD (key b:List Int):gJ key b=0∧peekOk b∧nS b≠0∧hmac key (b.take (b.length - 32))=b.drop (b.length - 32)∨gJ key b=2∧¬ (peekOk b∧nS b≠0)∨gJ key b=4∧peekOk b∧nS b≠0∧hmac key (b.take (b.length - 32))≠b.drop (b.length - 32):=by
 unfold gJ
 by_cases h:peekOk b∧nS b≠0
 ·rw[if_pos h]
  by_cases h2:hmac key (b.take (b.length - 32))=b.drop (b.length - 32)
  ·rw[if_pos h2];exact .inl ⟨rfl,h.1,h.2,h2⟩
  ·rw[if_neg h2];exact .inr (.inr ⟨rfl,h.1,h.2,h2⟩)
 ·rw[if_neg h];exact .inr (.inl ⟨rfl,h⟩)
/-! what was sealed is opened -/
theorem MZ (n:Int) (h:0≤n∧n < 256):be n.toNat 1=[n]:=by
 have h2:n.toNat < 256:=by omega
 simp only[be,Nat.pow_zero,Nat.div_one,List.cons.injEq,and_true]
 rw[Nat.mod_eq_of_lt h2];omega
theorem QO {n:NV}(h:mayN n):lI n=[110,n.party,n.which,n.way]++be n.seq.toNat 4++be n.body.length 4:=by
 obtain⟨⟨h1,h2,h3,h4⟩,-⟩:=h
 unfold lI
 rw[MZ _ ⟨h1,by omega⟩,MZ _ (by omega),MZ _ (by omega)]
 rfl
theorem jD (key:List Int) {n:NV}(h:mayN n):bJ key n=[110,n.party,n.which,n.way]++(be n.seq.toNat 4++(be n.body.length 4++(n.body++hmac key (iH n)))):=by
 unfold bJ
 rw[iH,QO h]
 simp only[List.append_assoc]
theorem jE (key:List Int) {n:NV}(h:mayN n) (hl:n.body.length≤60000) :
  at_ (bJ key n) 0=110∧at_ (bJ key n) 1=n.party∧at_ (bJ key n) 2=n.which∧at_ (bJ key n) 3=n.way∧(nS (bJ key n):Int)=n.seq∧nN (bJ key n)=n.body.length∧(bJ key n).take ((bJ key n).length - 32)=iH n∧(bJ key n).drop ((bJ key n).length - 32)=hmac key (iH n):=by
 have hT:(bJ key n).length - 32=(iH n).length:=by rw[jb,lK];omega
 have hs:n.seq.toNat < 256 ^ 4:=by have:=h.2;simp only[show (256:Nat) ^ 4=4294967296 from rfl];omega
 have hb:n.body.length < 256 ^ 4:=by simp only[show (256:Nat) ^ 4=4294967296 from rfl];omega
 refine⟨?_,?_,?_,?_,?_,?_,?_,?_⟩
 ·rw[jD key h];rfl
 ·rw[jD key h];rfl
 ·rw[jD key h];rfl
 ·rw[jD key h];rfl
 ·unfold nS
  rw[jD key h,List.drop_left' (by rfl),List.take_left' (aJ _ _),DW _ _ hs]
  have:=h.2;omega
 ·unfold nN
  rw[jD key h,← List.append_assoc,List.drop_left' (by simp[aJ]),List.take_left' (aJ _ _),DW _ _ hb]
 ·rw[hT];unfold bJ;rw[List.take_left' rfl]
 ·rw[hT];unfold bJ;rw[List.drop_left' rfl]
theorem zy (key:List Int) {n:NV}(h:mayN n) (hl:n.body.length≤60000):peekOk (bJ key n):=by
 obtain⟨e0,e1,e2,e3,-,e5,-,-⟩:=jE key h hl
 refine⟨by rw[jb];omega,⟨e0,?_,?_,?_,by rw[e5];omega⟩,by rw[jb,e5]⟩
 ·rw[e1];exact h.1.2.1
 ·rw[e2];have:=h.1.2.2.1;omega
 ·rw[e3];have:=h.1.2.2.2;omega
theorem Ib (key:List Int) {n:NV}(h:mayN n) (hl:n.body.length≤60000):MX (bJ key n)=n:=by
 obtain⟨-,e1,e2,e3,e4,-,e6,-⟩:=jE key h hl
 unfold MX
 rw[e1,e2,e3,e4,e6]
 unfold iH
 rw[List.drop_left' (lJ n)]
theorem zD (key:List Int) {n:NV}(h:mayN n) (hl:n.body.length≤60000):openN key (bJ key n)=(n,0):=by
 obtain⟨-,-,-,-,e4,-,e6,e7⟩:=jE key h hl
 have hE:gJ key (bJ key n)=0:=by
  unfold gJ
  rw[if_pos ⟨zy key h hl,by have:=h.2;omega⟩,e6,e7,if_pos rfl]
 unfold openN
 rw[if_pos hE,Ib key h hl]
theorem Ic (key:List Int) {n:NV}(h:mayN n) (hl:n.body.length≤60000):peekN (bJ key n)=(n.party,n.which,n.way,0):=by
 obtain⟨-,e1,e2,e3,-,-,-,-⟩:=jE key h hl
 unfold peekN
 rw[if_pos (zy key h hl),e1,e2,e3]
end Seal
namespace Gate
open Sha Wire Mac Seal
def keyV (seed:List Int) (party which:Int):List Int:=hmac seed [party % 256,which % 256]
def stampV (seed:List Int) (which:Int):List Int:=hmac seed [255,which % 256]
def rcpT (party which:Int) (seq:Nat) (ans:List Int):List Int:=[party % 256,which % 256]++be seq 4++ans
def rcpV (stamp:List Int) (party which:Int) (seq:Nat) (ans:List Int):List Int:=hmac stamp (rcpT party which seq ans)
end Gate
namespace Vault
open Num Sha Purse Escrow Wire Req Disk Go.Proofs.YtlkeieoecfkkeaaGreat.Frame
theorem Na (l:Ledger.LS) (c:Int):Ledger.clockL l (atV l c)=Ledger.clockL l c:=by
 unfold atV
 by_cases h:Tck c∧l.clock < c
 ·have e:(Ledger.clockL l c).clock=c:=by unfold Ledger.clockL;rw[if_pos h]
  rw[e]
 ·have e:Ledger.clockL l c=l:=by unfold Ledger.clockL;rw[if_neg h]
  rw[e]
  unfold Ledger.clockL
  rw[if_neg (fun q=>by have:=q.2;omega)]
theorem applyL_at (l:Ledger.LS) (p c:Int) (x:BV):Ledger.applyL l p (atV l c) x=Ledger.applyL l p c x:=by
 unfold Ledger.applyL
 rw[Na]
theorem XX (v:VS) (p:Nat) (seq c:Int) (x:BV):(doV v p seq (atV v.l c) x).l=(Ledger.applyL v.l p c x).2:=by
 show (Ledger.applyL v.l p (atV v.l c) x).2=_
 rw[applyL_at]
def XY (s0:Ledger.LS) (n:Nat):Prop:=(24+(14+63 * s0.cap.toNat+220 * s0.b.p.np)+62) / 63+(24+3300+62) / 63≤n / 2
structure Ok (s0:Ledger.LS) (n:Nat) (m:MV):Prop where
 up:Up s0 n m.s m.j m.v
 down:m.down=false
 fuse:m.s.fuse=-1
 large:XY s0 n
section
variable {s0 : Ledger.LS} {n : Nat} {m : MV} {x : BV} {b : List Int} {p : Nat} {seq clock de : Int}
theorem Ok.wv (h:Ok s0 n m):WV s0 m.v:=by
 obtain⟨v0,hr⟩:=h.up.rep
 exact hr.wv
theorem Nb {v:VS}{q:Nat}{s:Int}{c:Int}(hp:p < v.t.length):tAt (doV v p s c x) q=if q=p then ⟨s,x.seen,(Ledger.applyL v.l p c x).1⟩ else tAt v q:=by
 unfold tAt doV
 dsimp only
 rw[List.getD_eq_getElem?_getD,List.getElem?_set]
 by_cases h:p=q
 ·subst h;rw[if_pos rfl,if_pos rfl,if_pos hp];rfl
 ·rw[if_neg h,if_neg (Ne.symm h),List.getD_eq_getElem?_getD]
theorem Va (v:VS) (p:Nat) (s c:Int) (x:BV):(doV v p s c x).t.length=v.t.length:=by simp[doV]
theorem Nc (s0:Ledger.LS) (k q:Nat):tAt (newV s0 k) q=T0:=by
 unfold tAt newV
 rw[List.getD_eq_getElem?_getD,List.getElem?_replicate]
 split<;>rfl
end
end Vault
end Go.Proofs.YtlkeieoecfkkeaaGreat
