/-
  Parts laid together: ShaSpec EscrowSpec EscrowKeep LedgerSpec LedgerKeep LedgerHist LedgerPoll LedgerDo.
-/
import Derived.Test.YtchcgoabogcabaaGreatPart4
import Derived.Test.YtchcgoabogcabaaGreatPart3
namespace Go.Proofs.YtchcgoabogcabaaGreat.Sha
theorem mod32 (x:Int):W32 (x % 4294967296):=by unfold W32;omega
def wordOf (b:List Int) (i:Nat):Int :=
 bits .or .u32 (bits .or .u32 (bits .or .u32 (at_ b (4 * i) * 16777216) (at_ b (4 * i+1) * 65536)) (at_ b (4 * i+2) * 256)) (at_ b (4 * i+3))
theorem wordOf32 (b:List Int) (i:Nat):W32 (wordOf b i):=bits32 _ _ _
def near (y:Int):Int:=bits .xor .u32 (bits .xor .u32 (rotr y 17) (rotr y 19)) (y / 1024)
def far (x:Int):Int:=bits .xor .u32 (bits .xor .u32 (rotr x 7) (rotr x 18)) (x / 8)
def nxw (y b x d:Int):Int:=(near y+b+far x+d) % 4294967296
def nxl (l:List Int):Int:=nxw (at_ l (l.length - 2)) (at_ l (l.length - 7)) (at_ l (l.length - 15)) (at_ l (l.length - 16))
def grow (l:List Int):Nat→List Int
 | 0=>l
 | n+1=>let m:=grow l n;m++[nxl m]
theorem grow_len (l:List Int) (n:Nat):(grow l n).length=l.length+n:=by
 induction n with
 | zero=>rfl
 | succ n ih=>simp[grow,ih];omega
theorem grow_old (l:List Int) (n i:Nat) (h:i < l.length):at_ (grow l n) i=at_ l i:=by
 induction n with
 | zero=>rfl
 | succ n ih=>rw[grow,at_append_left (by rw[grow_len];omega),ih]
theorem grow_less (l:List Int) (n m i:Nat) (hm:m≤n) (h:i < l.length+m):at_ (grow l n) i=at_ (grow l m) i:=by
  induction n with
  | zero => obtain rfl:m=0:=by omega
            rfl
  | succ n ih =>
    by_cases e:m=n+1
    · subst e;rfl
    · rw[grow,at_append_left (by rw[grow_len];omega),ih (by omega)]
theorem grow_new (l:List Int) (h16:16≤l.length) (n i:Nat) (h0:l.length≤i) (h:i < l.length+n) :
  at_ (grow l n) i=nxw (at_ (grow l n) (i - 2)) (at_ (grow l n) (i - 7)) (at_ (grow l n) (i - 15)) (at_ (grow l n) (i - 16)):=by
 obtain⟨k,rfl⟩:∃ k,i=l.length+k:=⟨i - l.length,by omega⟩
 rw[grow_less l n (k+1) _ (by omega) (by omega),grow_less l n k (l.length+k - 2) (by omega) (by omega),grow_less l n k (l.length+k - 7) (by omega) (by omega),
  grow_less l n k (l.length+k - 15) (by omega) (by omega),grow_less l n k (l.length+k - 16) (by omega) (by omega)]
 rw[grow,at_append_right (by rw[grow_len];omega),grow_len,Nat.sub_self]
 simp only[nxl,grow_len]
 rfl
def sched (b:List Int):List Int:=grow ((List.range 16).map (wordOf b)) 48
theorem sched_len (b:List Int):(sched b).length=64:=by simp[sched,grow_len]
theorem sched_lo (b:List Int) (i:Nat) (h:i < 16):at_ (sched b) i=wordOf b i:=by
 rw[sched,grow_old _ _ _ (by simpa using h),at_range _ _ _ h]
theorem sched_hi (b:List Int) (i:Nat) (h0:16≤i) (h:i < 64):at_ (sched b) i=nxw (at_ (sched b) (i - 2)) (at_ (sched b) (i - 7)) (at_ (sched b) (i - 15)) (at_ (sched b) (i - 16)) :=
 grow_new _ (by simp) 48 i (by simpa using h0) (by simpa using h)
theorem sched32 (b:List Int) (i:Nat):W32 (at_ (sched b) i):=by
 by_cases h:i < 16
 ·rw[sched_lo b i h];exact wordOf32 _ _
 ·by_cases h2:i < 64
  ·rw[sched_hi b i (by omega) h2];unfold nxw W32;omega
  ·unfold at_;rw[List.getD_eq_getElem?_getD,List.getElem?_eq_none (by rw[sched_len];omega)];exact⟨by simp,by simp⟩
structure S8 where
 a:Int
 b:Int
 c:Int
 d:Int
 e:Int
 f:Int
 g:Int
 h:Int
def S8.toL (s:S8):List Int:=[s.a,s.b,s.c,s.d,s.e,s.f,s.g,s.h]
def S8.ok (s:S8):Prop:=W32 s.a∧W32 s.b∧W32 s.c∧W32 s.d∧W32 s.e∧W32 s.f∧W32 s.g∧W32 s.h
def not32 (x:Int):Int:=bits .xor .u32 IntKind.u32.max x
def ch (e f g:Int):Int:=bits .xor .u32 (bits .and .u32 e f) (bits .and .u32 (not32 e) g)
def maj (a b c:Int):Int:=bits .xor .u32 (bits .xor .u32 (bits .and .u32 a b) (bits .and .u32 a c)) (bits .and .u32 b c)
def step (s:S8) (k w:Int):S8 :=
 let t1:=(s.h+turns3 s.e 6 11 25+ch s.e s.f s.g+k+w) % 4294967296
 let t2:=(turns3 s.a 2 13 22+maj s.a s.b s.c) % 4294967296
 ⟨(t1+t2) % 4294967296,s.a,s.b,s.c,(s.d+t1) % 4294967296,s.e,s.f,s.g⟩
theorem step_ok {s:S8}(h:s.ok) (k w:Int):(step s k w).ok:=by
 obtain⟨h1,h2,h3,h4,h5,h6,h7,h8⟩:=h
 refine⟨?_,h1,h2,h3,?_,h5,h6,h7⟩
 ·exact mod32 _
 ·exact mod32 _
def rnds (s:S8) (w:Nat→Int):Nat→S8
 | 0=>s
 | n+1=>step (rnds s w n) (kW n:Nat) (w n)
theorem rnds_ok {s:S8}(h:s.ok) (w:Nat→Int) (n:Nat):(rnds s w n).ok:=by
 induction n with
 | zero=>exact h
 | succ n ih=>exact step_ok ih _ _
def S8.add (s t:S8):S8:=⟨(s.a+t.a) % 4294967296,(s.b+t.b) % 4294967296,(s.c+t.c) % 4294967296,(s.d+t.d) % 4294967296,(s.e+t.e) % 4294967296,(s.f+t.f) % 4294967296,(s.g+t.g) % 4294967296,(s.h+t.h) % 4294967296⟩
theorem S8.add_ok (s t:S8):(s.add t).ok:=by
 unfold S8.add S8.ok W32
 refine⟨?_,?_,?_,?_,?_,?_,?_,?_⟩<;>constructor<;>simp only<;>omega
theorem S8.add_at (s t:S8) (i:Nat) (h:i < 8):at_ (s.add t).toL i=(at_ s.toL i+at_ t.toL i) % 4294967296:=by
 match i,h with
 | 0,_|1,_|2,_|3,_|4,_|5,_|6,_|7,_=>rfl
theorem S8.at32 {s:S8}(h:s.ok) (i:Nat):W32 (at_ s.toL i):=by
 obtain⟨h1,h2,h3,h4,h5,h6,h7,h8⟩:=h
 match i with
 | 0=>exact h1
 | 1=>exact h2
 | 2=>exact h3
 | 3=>exact h4
 | 4=>exact h5
 | 5=>exact h6
 | 6=>exact h7
 | 7=>exact h8
 | n+8=>exact⟨by simp[at_,S8.toL],by simp[at_,S8.toL]⟩
def mixed (s:S8) (b:List Int):S8:=s.add (rnds s (at_ (sched b)) 64)
theorem mixed_ok (s:S8) (b:List Int):(mixed s b).ok:=S8.add_ok _ _
def blocks (s:S8):Nat→List Int→S8
 | 0,_=>s
 | n+1,l=>blocks (mixed s (l.take 64)) n (l.drop 64)
theorem blocks_ok {s:S8}(h:s.ok) (n:Nat) (l:List Int):(blocks s n l).ok:=by
 induction n generalizing s l with
 | zero=>exact h
 | succ n ih=>exact ih (mixed_ok _ _) _
theorem blocks_add (s:S8) (n m:Nat) (l:List Int):blocks s (n+m) l=blocks (blocks s n l) m (l.drop (64 * n)):=by
 induction n generalizing s l with
 | zero=>simp[blocks]
 | succ n ih =>
  rw[show n+1+m=n+m+1 by omega]
  simp only[blocks]
  rw[ih,List.drop_drop]
  congr 2
  omega
theorem blocks_take (s:S8) (n:Nat) (l:List Int) (m:Nat) (h:64 * n≤m):blocks s n (l.take m)=blocks s n l:=by
 induction n generalizing s l m with
 | zero=>rfl
 | succ n ih =>
  simp only[blocks]
  rw[List.take_take,show min 64 m=64 by omega,List.drop_take,ih _ _ _ (by omega)]
theorem blocks_append (s:S8) (n:Nat) (l r:List Int) (h:64 * n≤l.length):blocks s n (l++r)=blocks s n l:=by
 rw[← blocks_take s n (l++r) l.length h,List.take_left]
def S0:S8:=⟨(hW 0:Nat),(hW 1:Nat),(hW 2:Nat),(hW 3:Nat),(hW 4:Nat),(hW 5:Nat),(hW 6:Nat),(hW 7:Nat)⟩
theorem S0_ok:S0.ok:=by
 have h:=hW_lt
 have h0:=h 0 (by omega);have h1:=h 1 (by omega);have h2:=h 2 (by omega);have h3:=h 3 (by omega)
 have h4:=h 4 (by omega);have h5:=h 5 (by omega);have h6:=h 6 (by omega);have h7:=h 7 (by omega)
 unfold S8.ok S0 W32
 refine⟨?_,?_,?_,?_,?_,?_,?_,?_⟩<;>constructor<;>simp only<;>omega
def st (l:List Int):S8:=blocks S0 (l.length / 64) l
theorem st_ok (l:List Int):(st l).ok:=blocks_ok S0_ok _ _
theorem st_block (l b:List Int) (hl:l.length % 64=0) (hb:b.length=64):st (l++b)=mixed (st l) b:=by
 unfold st
 rw[List.length_append,hb,show (l.length+64) / 64=l.length / 64+1 by omega,blocks_add,blocks_append _ _ _ _ (by omega)]
 rw[show 64 * (l.length / 64)=l.length by omega,List.drop_left]
 simp only[blocks]
 rw[List.take_of_length_le (by omega)]
theorem st_rest (l r:List Int) (h:l.length % 64+r.length < 64):st (l++r)=st l:=by
 unfold st
 rw[List.length_append,show (l.length+r.length) / 64=l.length / 64 by omega,blocks_append _ _ _ _ (by omega)]
def be8 (n:Nat):List Int:=(List.range 8).map fun i=>((n / 256 ^ (7 - i) % 256:Nat):Int)
def padn (n:Nat):Nat:=(119 - n % 64) % 64
def tail (n:Nat):List Int:=128 :: (List.replicate (padn n) 0++be8 (n * 8))
theorem tail_len (n:Nat):(tail n).length=9+padn n:=by simp[tail,be8];omega
theorem padded_len (l:List Int):(l++tail l.length).length % 64=0:=by
 rw[List.length_append,tail_len];unfold padn;omega
def out8 (s:S8):List Int:=s.toL.flatMap fun x=>[x / 16777216 % 256,x / 65536 % 256,x / 256 % 256,x % 256]
def sha (l:List Int):List Int:=out8 (st (l++tail l.length))
theorem sha_len (l:List Int):(sha l).length=32:=rfl
/- what both the code and the document use: sums of states,rounds,bytes put out,the end -/
def addTo (s v:List Int) (k:Nat):List Int:=(List.range 8).map fun i=>if i < k then (at_ s i+at_ v i) % 4294967296 else at_ s i
theorem addTo_len (s v:List Int) (k:Nat):(addTo s v k).length=8:=by simp[addTo]
theorem addTo_at (s v:List Int) (k i:Nat) (h:i < 8):at_ (addTo s v k) i=if i < k then (at_ s i+at_ v i) % 4294967296 else at_ s i:=at_range _ _ _ h
theorem addTo_0 (s v:List Int) (h:s.length=8):addTo s v 0=s:=by
 apply at_ext
 ·rw[addTo_len,h]
 ·intro i hi
  rw[addTo_len] at hi
  rw[addTo_at _ _ _ _ hi];simp
theorem addTo_8 (s v:S8):addTo s.toL v.toL 8=(s.add v).toL:=by
 apply at_ext
 ·rw[addTo_len];rfl
 ·intro i hi
  rw[addTo_len] at hi
  rw[addTo_at _ _ _ _ hi,if_pos hi,S8.add_at _ _ _ hi]
theorem addTo_set (s v:List Int) (k:Nat):(addTo s v k).set k ((at_ s k+at_ v k) % 4294967296)=addTo s v (k+1):=by
 apply at_ext
 ·rw[List.length_set,addTo_len,addTo_len]
 ·intro i hi
  rw[List.length_set,addTo_len] at hi
  rw[at_set _ _ _ _ (by rw[addTo_len];exact hi),addTo_at _ _ _ _ hi,addTo_at _ _ _ _ hi]
  by_cases h:k=i
  ·subst h;simp
  ·rw[if_neg h]
   by_cases h2:i < k
   ·rw[if_pos h2,if_pos (by omega)]
   ·rw[if_neg h2,if_neg (by omega)]
theorem round_end {s r:S8}{W:Nat→Int}{k:Nat}{t1 t2:Int}(h:rnds s W k=r)
  (h1:t1=(r.h+turns3 r.e 6 11 25+ch r.e r.f r.g+(kW k:Nat)+W k) % 4294967296) (h2:t2=(turns3 r.a 2 13 22+maj r.a r.b r.c) % 4294967296) :
  rnds s W (k+1)=⟨(t1+t2) % 4294967296,r.a,r.b,r.c,(r.d+t1) % 4294967296,r.e,r.f,r.g⟩:=by
 rw[rnds,h,h1,h2];rfl
def outK (s:S8) (k:Nat):List Int:=(List.range k).flatMap fun i=>[at_ s.toL i / 16777216 % 256,at_ s.toL i / 65536 % 256,at_ s.toL i / 256 % 256,at_ s.toL i % 256]
theorem outK_8 (s:S8):outK s 8=out8 s:=rfl
theorem outK_succ (s:S8) (k:Nat):outK s (k+1)=outK s k++[at_ s.toL k / 16777216 % 256,at_ s.toL k / 65536 % 256,at_ s.toL k / 256 % 256,at_ s.toL k % 256]:=by simp[outK,List.range_succ]
theorem out8_bytes {s:S8}:Bytes (out8 s):=by
 intro x hx
 unfold out8 at hx
 obtain⟨y,hy,hx⟩:=List.mem_flatMap.1 hx
 simp only[List.mem_cons,List.not_mem_nil,or_false] at hx
 rcases hx with rfl|rfl|rfl|rfl<;>constructor<;>omega
theorem sha_bytes (l:List Int):Bytes (sha l):=out8_bytes
theorem padn_le (L:Nat):padn L≤63:=by unfold padn;omega
theorem be8_bytes (n:Nat):Bytes (be8 n):=by
 intro x hx
 unfold be8 at hx
 obtain⟨i,_,rfl⟩:=List.mem_map.1 hx
 omega
theorem tail_bytes (L:Nat):Bytes (tail L):=by
 intro x hx
 unfold tail at hx
 rcases List.mem_cons.1 hx with rfl|hx
 ·omega
 ·rcases List.mem_append.1 hx with hx|hx
  ·obtain⟨_,rfl⟩:=List.mem_replicate.1 hx;omega
  ·exact be8_bytes _ x hx
end Go.Proofs.YtchcgoabogcabaaGreat.Sha
namespace Go.Proofs.YtchcgoabogcabaaGreat.Escrow
open Go.Proofs.YtchcgoabogcabaaGreat.Num Go.Proofs.YtchcgoabogcabaaGreat.Sha Go.Proofs.YtchcgoabogcabaaGreat.Purse
structure EV where
 src:Int
 dst:Int
 asset:Int
 amount:Int
 due:Int
 state:Int
 hash:List Int
 secret:List Int
def noE:EV:=⟨0,0,0,0,0,0,[],[]⟩
structure BS where
 p:PS
 l:List EV
def atE (l:List EV) (i:Nat):EV:=l.getD i noE
def lockB (b:BS) (i j a n:Int) (h:List Int) (due clock:Int):(Int × Int) × BS :=
 if ¬ (isP b.p i=true∧isP b.p j=true∧isA b.p a=true∧amtB n=true∧n≠0∧tickB due=true∧tickB clock=true) then ((0,1),b)
 else if h.length≠32 then ((0,2),b)
 else if i=j then ((0,14),b)
 else if due≤clock then ((0,11),b)
 else if (takeP b.p i a n).1≠0 then ((0,(takeP b.p i a n).1),b)
 else (((b.l.length:Nat),0),⟨(takeP b.p i a n).2,b.l++[⟨i,j,a,n,due,0,h,[]⟩]⟩)
def hasE (l:List EV) (id:Int):Bool:=decide (0≤id∧id < l.length)
def claimB (b:BS) (who id:Int) (s:List Int) (clock:Int):Int × BS :=
 if hasE b.l id=false then (8,b)
 else if (atE b.l id.toNat).dst≠who then (14,b)
 else if (atE b.l id.toNat).state≠0 then (9,b)
 else if (atE b.l id.toNat).due≤clock∨tickB clock=false then (11,b)
 else if s.length≠32 then (2,b)
 else if sha s≠(atE b.l id.toNat).hash then (10,b)
 else if (giveP b.p who (atE b.l id.toNat).asset (atE b.l id.toNat).amount).1≠0 then ((giveP b.p who (atE b.l id.toNat).asset (atE b.l id.toNat).amount).1,b)
 else (0,⟨(giveP b.p who (atE b.l id.toNat).asset (atE b.l id.toNat).amount).2,b.l.set id.toNat { atE b.l id.toNat with state:=1,secret:=s }⟩)
def refundB (b:BS) (who id clock:Int):Int × BS :=
 if hasE b.l id=false then (8,b)
 else if (atE b.l id.toNat).src≠who then (14,b)
 else if (atE b.l id.toNat).state≠0 then (9,b)
 else if clock < (atE b.l id.toNat).due∨tickB clock=false then (11,b)
 else if (giveP b.p who (atE b.l id.toNat).asset (atE b.l id.toNat).amount).1≠0 then ((giveP b.p who (atE b.l id.toNat).asset (atE b.l id.toNat).amount).1,b)
 else (0,⟨(giveP b.p who (atE b.l id.toNat).asset (atE b.l id.toNat).amount).2,b.l.set id.toNat { atE b.l id.toNat with state:=2 }⟩)
def getB (b:BS) (id:Int):EV × Bool:=if hasE b.l id=true then (atE b.l id.toNat,true) else (noE,false)
def openN (l:List EV):Nat→Nat
 | 0=>0
 | k+1=>openN l k+if (atE l k).state=0 then 1 else 0
def openB (b:BS):Int:=openN b.l b.l.length
def lockedN (l:List EV) (a:Int):Nat→Int
 | 0=>0
 | k+1=>lockedN l a k+if (atE l k).state=0∧(atE l k).asset=a then (atE l k).amount else 0
def totB (b:BS) (a:Int):Int:=totP b.p a+lockedN b.l a b.l.length
theorem hasE_iff {l:List EV}{id:Int}:hasE l id=true ↔ 0≤id∧id < l.length:=by unfold hasE;exact decide_eq_true_iff
theorem hasE_nat {l:List EV}{id:Int}(h:hasE l id=true):∃ k:Nat,id=k∧k < l.length:=by
 obtain⟨h1,h2⟩:=hasE_iff.1 h
 exact⟨id.toNat,by omega,by omega⟩
theorem atE_append_left {l m:List EV}{k:Nat}(h:k < l.length):atE (l++m) k=atE l k:=by simp[atE,List.getD_eq_getElem?_getD,List.getElem?_append_left h]
theorem atE_append_last (l:List EV) (x:EV):atE (l++[x]) l.length=x:=by simp[atE,List.getD_eq_getElem?_getD]
theorem atE_set {l:List EV}{i k:Nat}(x:EV) (h:k < l.length):atE (l.set i x) k=if i=k then x else atE l k:=by
 simp[atE,List.getD_eq_getElem?_getD,List.getElem?_set]
 by_cases e:i=k
 ·subst e;simp[h]
 ·simp[e]
theorem openN_congr {l m:List EV}:∀ {k:Nat},(∀ i,i < k→(atE l i).state=(atE m i).state)→openN l k=openN m k
  | 0,_=>rfl
  | k+1,h=>by
    unfold openN
    rw[openN_congr (k:=k) (fun i hi=>h i (by omega)),h k (by omega)]
theorem lockedN_congr {l m:List EV}{a:Int}:∀ {k:Nat},(∀ i,i < k→(atE l i).state=(atE m i).state∧(atE l i).asset=(atE m i).asset∧(atE l i).amount=(atE m i).amount)→lockedN l a k=lockedN m a k
  | 0,_=>rfl
  | k+1,h=>by
    unfold lockedN
    obtain⟨h1,h2,h3⟩:=h k (by omega)
    rw[lockedN_congr (k:=k) (fun i hi=>h i (by omega)),h1,h2,h3]
theorem lockedN_set {l:List EV}{a:Int}{i:Nat}{x:EV}(hi:i < l.length) (h0:(atE l i).state=0) (hx:x.state≠0):∀ {k:Nat},k≤l.length→lockedN (l.set i x) a k=lockedN l a k - if i < k∧(atE l i).asset=a then (atE l i).amount else 0
  | 0,_=>by simp[lockedN]
  | k+1,h=>by
    have ih:=lockedN_set (a:=a) (x:=x) hi h0 hx (k:=k) (by omega)
    show lockedN (l.set i x) a k+(if (atE (l.set i x) k).state=0∧(atE (l.set i x) k).asset=a then (atE (l.set i x) k).amount else 0)=lockedN l a k+(if (atE l k).state=0∧(atE l k).asset=a then (atE l k).amount else 0) - _
    rw[ih,atE_set x (by omega)]
    by_cases e:i=k
    · subst e
      rw[if_pos (rfl:i=i)]
      (repeat' split)<;>omega
    · rw[if_neg e]
      (repeat' split)<;>omega
structure WB (b:BS):Prop where
 p:WF b.p
 each:∀ k,k < b.l.length→isP b.p (atE b.l k).src=true∧isP b.p (atE b.l k).dst=true∧isA b.p (atE b.l k).asset=true∧0 < (atE b.l k).amount∧(atE b.l k).amount≤4611686018427387904∧Bytes (atE b.l k).hash∧Bytes (atE b.l k).secret
 sum:∀ a,isA b.p a=true→totB b a≤4611686018427387904
theorem WB.locked {b:BS}(h:WB b) (a:Int):∀ {k:Nat},k≤b.l.length→0≤lockedN b.l a k
  | 0,_=>Int.le_refl _
  | k+1,hk=>by
    have h1:=h.locked a (k:=k) (by omega)
    have h2:=(h.each k (by omega)).2.2.2.1
    unfold lockedN
    split<;>omega
theorem WB.locked_mono {b:BS}(h:WB b) (a:Int) {j:Nat}:∀ {k:Nat},j≤k→k≤b.l.length→lockedN b.l a j≤lockedN b.l a k
  | 0,hj,_=>by
    obtain rfl:j=0:=by omega
    exact Int.le_refl _
  | k+1,hj,hk=>by
    by_cases e:j=k+1
    · subst e;exact Int.le_refl _
    · have h1:=h.locked_mono a (j:=j) (k:=k) (by omega) (by omega)
      have h2:=(h.each k (by omega)).2.2.2.1
      rw[show lockedN b.l a (k+1)=lockedN b.l a k+(if (atE b.l k).state=0∧(atE b.l k).asset=a then (atE b.l k).amount else 0) from rfl]
      split<;>omega
theorem WB.fits {b:BS}(h:WB b) {i:Nat}(hi:i < b.l.length) (h0:(atE b.l i).state=0):(atE b.l i).amount≤lockedN b.l (atE b.l i).asset b.l.length:=by
 have h1:=h.locked_mono (atE b.l i).asset (j:=i+1) (k:=b.l.length) (by omega) (Nat.le_refl _)
 have h2:=h.locked (atE b.l i).asset (k:=i) (by omega)
 have h3:lockedN b.l (atE b.l i).asset (i+1)=lockedN b.l (atE b.l i).asset i+(atE b.l i).amount:=by
  show _+(if _ then _ else _)=_
  rw[if_pos ⟨h0,rfl⟩]
 omega
theorem totP_put_any {s:PS}{i b:Nat}(hi:i < s.np) (hb:b < s.na) (x a:Int):totP (put s i b x) a=totP s a+if a=(b:Int) then x - s.v i b else 0:=by
 by_cases e:a=(b:Int)
 ·subst e
  rw[if_pos rfl,totP_put hi hb]
 ·rw[if_neg e]
  unfold totP
  cases ha:isA s a with
  | false =>
   rw[if_neg (by rw[show isA (put s i b x) a=isA s a from rfl,ha];decide),if_neg (by decide)]
   rfl
  | true =>
   rw[if_pos (by rw[show isA (put s i b x) a=isA s a from rfl,ha]),if_pos rfl]
   obtain⟨c,rfl,hc⟩:=isA_nat ha
   simp only[Int.toNat_natCast]
   show tot (upd s.v i b x) s.np c=_
   rw[tot_upd,if_neg (fun h=>e (by rw[h.2]))]
theorem take_inv {s:PS}{i a n:Int}(h:(takeP s i a n).1=0):∃ k b:Nat,i=k∧a=b∧k < s.np∧b < s.na∧0≤n∧n≤4611686018427387904∧¬ s.v k b < n∧(takeP s i a n).2=put s k b (s.v k b - n):=by
 cases hf:fitB s i a n with
 | false=>rw[take_no hf] at h;simp at h
 | true =>
  obtain⟨⟨k,rfl,hk⟩,⟨b,rfl,hb⟩,h0,h1⟩:=fitB_iff.1 hf
  by_cases ht:s.v k b < n
  ·rw[take_less hf ht] at h;simp at h
  ·exact⟨k,b,rfl,rfl,hk,hb,h0,h1,ht,by rw[take_yes hf ht]⟩
theorem lockedN_snoc (l:List EV) (e:EV) (a:Int):lockedN (l++[e]) a (l++[e]).length=lockedN l a l.length+if e.state=0∧e.asset=a then e.amount else 0:=by
 rw[List.length_append,List.length_singleton]
 show lockedN (l++[e]) a l.length+(if (atE (l++[e]) l.length).state=0∧(atE (l++[e]) l.length).asset=a then (atE (l++[e]) l.length).amount else 0)=_
 rw[atE_append_last,lockedN_congr (l:=l++[e]) (m:=l) (a:=a) (k:=l.length) (fun i hi=>by rw[atE_append_left hi];exact⟨rfl,rfl,rfl⟩)]
theorem openN_snoc (l:List EV) (e:EV):openN (l++[e]) (l++[e]).length=openN l l.length+if e.state=0 then 1 else 0:=by
 rw[List.length_append,List.length_singleton]
 show openN (l++[e]) l.length+(if (atE (l++[e]) l.length).state=0 then 1 else 0)=_
 rw[atE_append_last,openN_congr (l:=l++[e]) (m:=l) (k:=l.length) (fun i hi=>by rw[atE_append_left hi])]
theorem lock_inv {b:BS}{i j a n due clock:Int}{h:List Int}(k:(lockB b i j a n h due clock).1.2=0):∃ i' j' a':Nat,i=i'∧j=j'∧a=a'∧i' < b.p.np∧j' < b.p.np∧a' < b.p.na∧0 < n∧n≤4611686018427387904∧¬ b.p.v i' a' < n∧i'≠j'∧h.length=32 ∧
  lockB b i j a n h due clock=((((b.l.length:Nat):Int),0),(⟨put b.p i' a' (b.p.v i' a' - n),b.l++[⟨i,j,a,n,due,0,h,[]⟩]⟩:BS)):=by
 unfold lockB at k ⊢
 by_cases h1:isP b.p i=true∧isP b.p j=true∧isA b.p a=true∧amtB n=true∧n≠0∧tickB due=true∧tickB clock=true
 ·rw[if_neg (fun q=>q h1)] at k ⊢
  by_cases h2:h.length≠32
  ·rw[if_pos h2] at k;simp at k
  ·rw[if_neg h2] at k ⊢
   by_cases h3:i=j
   ·rw[if_pos h3] at k;simp at k
   ·rw[if_neg h3] at k ⊢
    by_cases h4:due≤clock
    ·rw[if_pos h4] at k;simp at k
    ·rw[if_neg h4] at k ⊢
     by_cases h5:(takeP b.p i a n).1≠0
     ·rw[if_pos h5] at k;exact absurd k h5
     ·rw[if_neg h5]
      obtain⟨i',a',rfl,rfl,hi,ha,n0,n1,hv,he⟩:=take_inv (Decidable.not_not.1 h5)
      obtain⟨j',rfl,hj⟩:=isP_nat h1.2.1
      exact⟨i',j',a',rfl,rfl,rfl,hi,hj,ha,by have:=h1.2.2.2.2.1;omega,n1,hv,by omega,Decidable.not_not.1 h2,by rw[he]⟩
 ·rw[if_pos h1] at k;simp at k
theorem lock_no {b:BS}{i j a n due clock:Int}{h:List Int}(k:(lockB b i j a n h due clock).1.2≠0):(lockB b i j a n h due clock).2=b∧(lockB b i j a n h due clock).1.1=0:=by
 unfold lockB at k ⊢
 by_cases h1:isP b.p i=true∧isP b.p j=true∧isA b.p a=true∧amtB n=true∧n≠0∧tickB due=true∧tickB clock=true
 ·rw[if_neg (fun q=>q h1)] at k ⊢
  by_cases h2:h.length≠32
  ·rw[if_pos h2];exact⟨rfl,rfl⟩
  ·rw[if_neg h2] at k ⊢
   by_cases h3:i=j
   ·rw[if_pos h3];exact⟨rfl,rfl⟩
   ·rw[if_neg h3] at k ⊢
    by_cases h4:due≤clock
    ·rw[if_pos h4];exact⟨rfl,rfl⟩
    ·rw[if_neg h4] at k ⊢
     by_cases h5:(takeP b.p i a n).1≠0
     ·rw[if_pos h5];exact⟨rfl,rfl⟩
     ·rw[if_neg h5] at k;simp at k
 ·rw[if_pos h1];exact⟨rfl,rfl⟩
theorem lock_wb {b:BS}{i j a n due clock:Int}{h:List Int}(w:WB b) (hb:Bytes h):WB (lockB b i j a n h due clock).2∧(∀ c,totB (lockB b i j a n h due clock).2 c=totB b c)∧(lockB b i j a n h due clock).2.p.np=b.p.np∧(lockB b i j a n h due clock).2.p.na=b.p.na:=by
 by_cases k:(lockB b i j a n h due clock).1.2=0
 ·obtain⟨i',j',a',rfl,rfl,rfl,hi,hj,ha,n0,n1,hv,hij,hl,he⟩:=lock_inv k
  rw[he]
  have hw:WF (put b.p i' a' (b.p.v i' a' - n)):=w.p.put hi ha (by omega) (by have:=w.p.sum a' ha;omega)
  have ht:∀ c,totB ⟨put b.p i' a' (b.p.v i' a' - n),b.l++[⟨i',j',a',n,due,0,h,[]⟩]⟩ c=totB b c:=by
   intro c
   unfold totB
   rw[totP_put_any hi ha,lockedN_snoc]
   by_cases e:c=(a':Int)
   ·subst e
    rw[if_pos rfl,if_pos ⟨rfl,rfl⟩]
    show totP b.p a'+(b.p.v i' a' - n - b.p.v i' a')+(lockedN b.l a' b.l.length+n)=_
    omega
   ·rw[if_neg e,if_neg (fun q=>e q.2.symm)];omega
  refine⟨⟨hw,fun q hq=>?_,fun c hc=>by rw[ht];exact w.sum c hc⟩,ht,rfl,rfl⟩
  simp only[List.length_append,List.length_singleton] at hq
  by_cases e:q < b.l.length
  ·simp only[atE_append_left e]
   exact w.each q e
  ·obtain rfl:q=b.l.length:=by omega
   simp only[atE_append_last]
   exact⟨isP_iff.2 ⟨by omega,by show (i':Int) < b.p.np;omega⟩,isP_iff.2 ⟨by omega,by show (j':Int) < b.p.np;omega⟩,isA_iff.2 ⟨by omega,by show (a':Int) < b.p.na;omega⟩,n0,n1,hb,fun x hx=>by simp at hx⟩
 ·rw[(lock_no k).1]
  exact⟨w,fun _=>rfl,rfl,rfl⟩
theorem give_back {b:BS}(w:WB b) {k:Nat}(hk:k < b.l.length) (h0:(atE b.l k).state=0) {who:Int}(hp:isP b.p who=true):∃ i a:Nat,who=i∧(atE b.l k).asset=a∧i < b.p.np∧a < b.p.na ∧
  giveP b.p who (atE b.l k).asset (atE b.l k).amount=(0,put b.p i a (b.p.v i a+(atE b.l k).amount))∧WF (put b.p i a (b.p.v i a+(atE b.l k).amount)):=by
 obtain⟨h1,h2,h3,h4,h5,h6,h7⟩:=w.each k hk
 obtain⟨i,rfl,hi⟩:=isP_nat hp
 obtain⟨a,ha,ha2⟩:=isA_nat h3
 have hf:=w.fits hk h0
 have hs:=w.sum (atE b.l k).asset h3
 unfold totB at hs
 rw[ha] at hf hs ⊢
 refine⟨i,a,rfl,rfl,hi,ha2,?_,?_⟩
 ·rw[give_yes (fitB_at hi ha2 (by omega) h5) (by omega)]
 ·have e:=w.p.put (i:=i) (a:=a) (x:=b.p.v i a+(atE b.l k).amount) hi ha2 (by have:=w.p.pos i a hi ha2;omega) (by
   rw[totP_nat ha2] at hs;omega)
  exact e
theorem close_wb {b:BS}(w:WB b) {k:Nat}(hk:k < b.l.length) (h0:(atE b.l k).state=0) {i a:Nat}(hi:i < b.p.np) (ha2:a < b.p.na) (ha:(atE b.l k).asset=a) (hw:WF (put b.p i a (b.p.v i a+(atE b.l k).amount))) {x:EV}(hx:x.state≠0)
  (e1:x.src=(atE b.l k).src) (e2:x.dst=(atE b.l k).dst) (e3:x.asset=(atE b.l k).asset) (e4:x.amount=(atE b.l k).amount) (e5:x.hash=(atE b.l k).hash) (e6:Bytes x.secret) :
  WB ⟨put b.p i a (b.p.v i a+(atE b.l k).amount),b.l.set k x⟩∧∀ c,totB ⟨put b.p i a (b.p.v i a+(atE b.l k).amount),b.l.set k x⟩ c=totB b c:=by
 have ht:∀ c,totB ⟨put b.p i a (b.p.v i a+(atE b.l k).amount),b.l.set k x⟩ c=totB b c:=by
  intro c
  unfold totB
  rw[totP_put_any hi ha2,List.length_set,lockedN_set hk h0 hx (Nat.le_refl _),ha]
  by_cases e:c=(a:Int)
  ·subst e
   rw[if_pos rfl,if_pos ⟨hk,rfl⟩];omega
  ·rw[if_neg e,if_neg (fun q=>e q.2.symm)];omega
 refine⟨⟨hw,fun q hq=>?_,fun c hc=>by rw[ht];exact w.sum c hc⟩,ht⟩
 simp only[List.length_set] at hq
 simp only[atE_set x hq]
 by_cases e:k=q
 ·subst e
  rw[if_pos rfl,e1,e2,e3,e4,e5]
  obtain⟨h1,h2,h3,h4,h5,h6,h7⟩:=w.each k hk
  exact⟨h1,h2,h3,h4,h5,h6,e6⟩
 ·rw[if_neg e]
  exact w.each q hq
theorem claim_cases {b:BS}(w:WB b) (who id:Int) {s:List Int}(hs:Bytes s) (clock:Int):(∃ e:Int,e≠0∧claimB b who id s clock=(e,b)) ∨
  ∃ k i a:Nat,id=k∧k < b.l.length∧who=i∧i < b.p.np∧a < b.p.na∧(atE b.l k).dst=who∧(atE b.l k).state=0∧¬ (atE b.l k).due≤clock∧tickB clock=true∧s.length=32∧sha s=(atE b.l k).hash∧(atE b.l k).asset=a ∧
   claimB b who id s clock=(0,⟨put b.p i a (b.p.v i a+(atE b.l k).amount),b.l.set k { atE b.l k with state:=1,secret:=s }⟩) ∧
   WB ⟨put b.p i a (b.p.v i a+(atE b.l k).amount),b.l.set k { atE b.l k with state:=1,secret:=s }⟩ ∧
   ∀ c,totB ⟨put b.p i a (b.p.v i a+(atE b.l k).amount),b.l.set k { atE b.l k with state:=1,secret:=s }⟩ c=totB b c:=by
 unfold claimB
 by_cases h1:hasE b.l id=false
 ·rw[if_pos h1];exact .inl ⟨8,by decide,rfl⟩
 ·rw[if_neg h1]
  obtain⟨k,rfl,hk⟩:=hasE_nat (by simpa using h1)
  simp only[Int.toNat_natCast]
  by_cases h2:(atE b.l k).dst≠who
  ·rw[if_pos h2];exact .inl ⟨14,by decide,rfl⟩
  ·rw[if_neg h2]
   by_cases h3:(atE b.l k).state≠0
   ·rw[if_pos h3];exact .inl ⟨9,by decide,rfl⟩
   ·rw[if_neg h3]
    by_cases h4:(atE b.l k).due≤clock∨tickB clock=false
    ·rw[if_pos h4];exact .inl ⟨11,by decide,rfl⟩
    ·rw[if_neg h4]
     by_cases h5:s.length≠32
     ·rw[if_pos h5];exact .inl ⟨2,by decide,rfl⟩
     ·rw[if_neg h5]
      by_cases h6:sha s≠(atE b.l k).hash
      ·rw[if_pos h6];exact .inl ⟨10,by decide,rfl⟩
      ·rw[if_neg h6]
       have d:=Decidable.not_not.1 h2
       have s0:=Decidable.not_not.1 h3
       obtain⟨i,a,e1,e2,hi,ha,hg,hw⟩:=give_back w hk s0 (who:=who) (by rw[← d];exact(w.each k hk).2.1)
       rw[hg,if_neg (by simp)]
       obtain⟨c1,c2⟩:=close_wb w hk s0 hi ha e2 hw (x:={ atE b.l k with state:=1,secret:=s }) (by simp) rfl rfl rfl rfl rfl hs
       exact .inr ⟨k,i,a,rfl,hk,e1,hi,ha,d,s0,fun q=>h4 (.inl q),by simpa using fun q=>h4 (.inr q),Decidable.not_not.1 h5,Decidable.not_not.1 h6,e2,rfl,c1,c2⟩
theorem refund_cases {b:BS}(w:WB b) (who id clock:Int):(∃ e:Int,e≠0∧refundB b who id clock=(e,b)) ∨
  ∃ k i a:Nat,id=k∧k < b.l.length∧who=i∧i < b.p.np∧a < b.p.na∧(atE b.l k).src=who∧(atE b.l k).state=0∧¬ clock < (atE b.l k).due∧tickB clock=true∧(atE b.l k).asset=a ∧
   refundB b who id clock=(0,⟨put b.p i a (b.p.v i a+(atE b.l k).amount),b.l.set k { atE b.l k with state:=2 }⟩) ∧
   WB ⟨put b.p i a (b.p.v i a+(atE b.l k).amount),b.l.set k { atE b.l k with state:=2 }⟩ ∧
   ∀ c,totB ⟨put b.p i a (b.p.v i a+(atE b.l k).amount),b.l.set k { atE b.l k with state:=2 }⟩ c=totB b c:=by
 unfold refundB
 by_cases h1:hasE b.l id=false
 ·rw[if_pos h1];exact .inl ⟨8,by decide,rfl⟩
 ·rw[if_neg h1]
  obtain⟨k,rfl,hk⟩:=hasE_nat (by simpa using h1)
  simp only[Int.toNat_natCast]
  by_cases h2:(atE b.l k).src≠who
  ·rw[if_pos h2];exact .inl ⟨14,by decide,rfl⟩
  ·rw[if_neg h2]
   by_cases h3:(atE b.l k).state≠0
   ·rw[if_pos h3];exact .inl ⟨9,by decide,rfl⟩
   ·rw[if_neg h3]
    by_cases h4:clock < (atE b.l k).due∨tickB clock=false
    ·rw[if_pos h4];exact .inl ⟨11,by decide,rfl⟩
    ·rw[if_neg h4]
     have d:=Decidable.not_not.1 h2
     have s0:=Decidable.not_not.1 h3
     obtain⟨i,a,e1,e2,hi,ha,hg,hw⟩:=give_back w hk s0 (who:=who) (by rw[← d];exact(w.each k hk).1)
     rw[hg,if_neg (by simp)]
     obtain⟨c1,c2⟩:=close_wb w hk s0 hi ha e2 hw (x:={ atE b.l k with state:=2 }) (by simp) rfl rfl rfl rfl rfl (w.each k hk).2.2.2.2.2.2
     exact .inr ⟨k,i,a,rfl,hk,e1,hi,ha,d,s0,fun q=>h4 (.inl q),by simpa using fun q=>h4 (.inr q),e2,rfl,c1,c2⟩
theorem WB.none {b:BS}(w:WB b) {a:Int}(ha:isA b.p a=false):∀ {k:Nat},k≤b.l.length→lockedN b.l a k=0
  | 0,_=>rfl
  | k+1,hk=>by
    have h1:=w.none ha (k:=k) (by omega)
    have h2:=(w.each k (by omega)).2.2.1
    show lockedN b.l a k+(if (atE b.l k).state=0∧(atE b.l k).asset=a then (atE b.l k).amount else 0)=0
    rw[h1,if_neg]
    · rfl
    · rintro ⟨-,e⟩
      rw[e,ha] at h2
      cases h2
theorem WB.part {b:BS}(w:WB b) (a:Int) {k:Nat}(hk:k≤b.l.length):0≤totP b.p a+lockedN b.l a k∧totP b.p a+lockedN b.l a k≤4611686018427387904:=by
 have h0:=w.locked a hk
 have ht:0≤totP b.p a:=by
  unfold totP
  cases ha:isA b.p a with
  | false=>rw[if_neg (by decide)];exact Int.le_refl _
  | true =>
   obtain⟨c,rfl,hc⟩:=isA_nat ha
   rw[if_pos rfl,Int.toNat_natCast]
   exact w.p.tot0 hc
 refine⟨by omega,?_⟩
 cases ha:isA b.p a with
 | false =>
  rw[w.none ha hk]
  unfold totP
  rw[ha,if_neg (by decide)]
  omega
 | true =>
  have h1:=w.locked_mono a hk (Nat.le_refl _)
  have h2:=w.sum a ha
  unfold totB at h2
  omega
end Go.Proofs.YtchcgoabogcabaaGreat.Escrow
namespace Go.Proofs.YtchcgoabogcabaaGreat.Ledger
open Go.Proofs.YtchcgoabogcabaaGreat.Num Go.Proofs.YtchcgoabogcabaaGreat.Sha Go.Proofs.YtchcgoabogcabaaGreat.Purse Go.Proofs.YtchcgoabogcabaaGreat.Escrow Go.Proofs.YtchcgoabogcabaaGreat.Wire Go.Proofs.YtchcgoabogcabaaGreat.Req
structure LE where
 v:VV
 who:Int
 at_:Int
structure LS where
 cap:Int
 b:BS
 clock:Int
 e:List LE
def evs (s:LS):List VV:=s.e.map (·.v)
theorem evs_len (s:LS):(evs s).length=s.e.length:=by simp[evs]
def roomL (s:LS) (n:Int):Bool:=decide ((s.e.length:Int)+openB s.b+n≤s.cap)
def evOf (party id:Int) (r:RV):VV:=⟨r.kind,if r.kind≤2 then party else 0,r.dst,r.asset,r.amount,if r.kind=2 then id else r.id,r.due,r.hash,r.sec⟩
def actL (s:LS) (party:Int) (r:RV):(Int × Int) × BS :=
 if r.kind=1 then
  (if roomL s 1=false then ((0,12),s.b) else if r.amount=0 then ((0,1),s.b) else ((0,(moveP s.b.p party r.dst r.asset r.amount).1),⟨(moveP s.b.p party r.dst r.asset r.amount).2,s.b.l⟩))
 else if r.kind=2 then
  (if roomL s 2=false then ((0,12),s.b) else lockB s.b party r.dst r.asset r.amount r.hash r.due s.clock)
 else if r.kind=3 then ((0,(claimB s.b party r.id r.sec s.clock).1),(claimB s.b party r.id r.sec s.clock).2)
 else ((0,(refundB s.b party r.id s.clock).1),(refundB s.b party r.id s.clock).2)
def oneL (s:LS) (party:Int) (r:RV):PV × LS :=
  if MayR r∧isP s.b.p party=true then
    (if (actL s party r).1.2=0 then (⟨0,(actL s party r).1.1⟩,⟨s.cap,(actL s party r).2,s.clock,s.e++[⟨evOf party (actL s party r).1.1 r,party,s.clock⟩]⟩)
     else (⟨(actL s party r).1.2,0⟩,s))
  else (⟨1,0⟩,s)
def manyL (s:LS) (party:Int):List RV→List PV × LS
 | []=>([],s)
 | r :: l=>((oneL s party r).1 :: (manyL (oneL s party r).2 party l).1,(manyL (oneL s party r).2 party l).2)
theorem manyL_snoc (s:LS) (party:Int) (l:List RV) (r:RV):manyL s party (l++[r])=((manyL s party l).1++[(oneL (manyL s party l).2 party r).1],(oneL (manyL s party l).2 party r).2):=by
 induction l generalizing s with
 | nil=>rfl
 | cons x l ih=>simp only[List.cons_append,manyL,ih]
theorem manyL_len (s:LS) (party:Int) (l:List RV):(manyL s party l).1.length=l.length:=by
 induction l generalizing s with
 | nil=>rfl
 | cons x l ih=>simp only[manyL,List.length_cons,ih]
def clockL (s:LS) (clock:Int):LS:=if Tck clock∧s.clock < clock then ⟨s.cap,s.b,clock,s.e⟩ else s
def fromL (s:LS) (seen:Int):List VV:=if 0≤seen∧seen≤s.e.length then (evs s).drop seen.toNat else []
def applyL (s:LS) (party clock:Int) (x:BV):AV × LS :=
 (⟨(manyL (clockL s clock) party (x.l.take 64)).2.clock,((manyL (clockL s clock) party (x.l.take 64)).2.e.length:Nat),(manyL (clockL s clock) party (x.l.take 64)).1,fromL (manyL (clockL s clock) party (x.l.take 64)).2 x.seen⟩,(manyL (clockL s clock) party (x.l.take 64)).2)
def newL (n:Nat) (X:Nat→List Int) (cap:Int):LS:=⟨cap,⟨newP n X,[]⟩,0,[]⟩
def confOk (n:Nat) (X:Nat→List Int) (cap:Int):Prop:=newOk n X∧1≤cap∧cap≤400
def putLE (x:LE):List Int:=be x.who.toNat 1++(be x.at_.toNat 8++putV x.v)
def saveL (s:LS):List Int:=be s.clock.toNat 8++(be s.e.length 2++s.e.flatMap putLE)
structure WL (s:LS):Prop where
 wb:WB s.b
 cap:1≤s.cap∧s.cap≤400
 room:(s.e.length:Int)+openB s.b≤s.cap
 clock:Tck s.clock
 each:∀ x∈s.e,MayV x.v∧x.v.ok∧isP s.b.p x.who=true∧Tck x.at_
 locks:s.b.l.length≤s.e.length
 hash:∀ k,k < s.b.l.length→(atE s.b.l k).state=0∨(atE s.b.l k).state=1∨(atE s.b.l k).state=2
theorem WL.len {s:LS}(h:WL s):s.e.length≤400:=by
 have h1:=h.room;have h2:=h.cap.2
 have h3:0≤openB s.b:=by unfold openB;omega
 omega
theorem newL_wl {n:Nat}{X:Nat→List Int}{cap:Int}(h:confOk n X cap):WL (newL n X cap) where
 wb:=by
  refine⟨h.1.wf,fun k hk=>absurd hk (Nat.not_lt_zero _),fun a ha=>?_⟩
  obtain⟨q,rfl,hq⟩:=isA_nat ha
  show totP (newP n X) q+0≤_
  rw[Int.add_zero,totP_nat (s:=newP n X) hq]
  exact h.1.wf.sum q hq
 cap:=h.2
 room:=by
  show ((0:Nat):Int)+openB ⟨newP n X,[]⟩≤cap
  have:openB ⟨newP n X,[]⟩=0:=rfl
  rw[this];have:=h.2.1;omega
 clock:=(by decide:Tck 0)
 each x hx:=by simp[newL] at hx
 locks:=Nat.le_refl _
 hash k hk:=absurd hk (Nat.not_lt_zero _)
theorem clockL_e (s:LS) (c:Int):(clockL s c).e=s.e:=by unfold clockL;split<;>rfl
theorem clockL_b (s:LS) (c:Int):(clockL s c).b=s.b:=by unfold clockL;split<;>rfl
theorem clockL_cap (s:LS) (c:Int):(clockL s c).cap=s.cap:=by unfold clockL;split<;>rfl
theorem clockL_le (s:LS) (c:Int):s.clock≤(clockL s c).clock:=by
 unfold clockL
 split
 ·rename_i h;have:=h.2;exact Int.le_of_lt this
 ·exact Int.le_refl _
theorem clockL_wl {s:LS}(h:WL s) (c:Int):WL (clockL s c):=by
 unfold clockL
 split
 ·rename_i hc;exact⟨h.wb,h.cap,h.room,hc.1,h.each,h.locks,h.hash⟩
 ·exact h
theorem actL_no {s:LS}(w:WL s) {party:Int}{r:RV}(hr:r.ok) (h:(actL s party r).1.2≠0):(actL s party r).2=s.b∧(actL s party r).1.1=0:=by
 unfold actL at h ⊢
 split
 ·rename_i h1
  rw[if_pos h1] at h
  split
  ·exact⟨rfl,rfl⟩
  ·rename_i h2
   rw[if_neg h2] at h
   split
   ·exact⟨rfl,rfl⟩
   ·rename_i h3
    rw[if_neg h3] at h
    refine⟨?_,rfl⟩
    unfold moveP at h ⊢
    split
    ·rename_i h4
     rw[if_pos h4] at h
     split
     ·rfl
     ·rename_i h5
      rw[if_neg h5] at h
      split
      ·rfl
      ·rename_i h6
       rw[if_neg h6] at h
       exact absurd rfl h
    ·rfl
 ·rename_i h1
  rw[if_neg h1] at h
  split
  ·rename_i h2
   rw[if_pos h2] at h
   split
   ·exact⟨rfl,rfl⟩
   ·rename_i h3
    rw[if_neg h3] at h
    exact lock_no h
  ·rename_i h2
   rw[if_neg h2] at h
   split
   ·rename_i h3
    rw[if_pos h3] at h
    refine⟨?_,rfl⟩
    rcases claim_cases w.wb party r.id hr.2 s.clock with⟨e,-,he⟩|⟨k,i,a,-,-,-,-,-,-,-,-,-,-,-,-,he,-⟩
    ·rw[he]
    ·rw[he] at h;exact absurd rfl h
   ·rename_i h3
    rw[if_neg h3] at h
    refine⟨?_,rfl⟩
    rcases refund_cases w.wb party r.id s.clock with⟨e,-,he⟩|⟨k,i,a,-,-,-,-,-,-,-,-,-,-,he,-⟩
    ·rw[he]
    ·rw[he] at h;exact absurd rfl h
theorem move_wb {b:BS}(w:WB b) (i j a n:Int):WB ⟨(moveP b.p i j a n).2,b.l⟩∧∀ c,totB ⟨(moveP b.p i j a n).2,b.l⟩ c=totB b c:=by
 have hn:=moveP_size b.p i j a n
 have hP:∀ x,isP (moveP b.p i j a n).2 x=isP b.p x:=fun x=>by unfold isP;rw[hn.1]
 have hA:∀ x,isA (moveP b.p i j a n).2 x=isA b.p x:=fun x=>by unfold isA;rw[hn.2]
 have ht:∀ c,totB ⟨(moveP b.p i j a n).2,b.l⟩ c=totB b c:=fun c=>by
  unfold totB
  congr 1
  show totP (moveP b.p i j a n).2 c=totP b.p c
  unfold totP
  rw[hA,hn.1]
  have:=moveP_tot b.p i j a n c.toNat
  rw[this]
 refine⟨⟨moveP_wf w.p i j a n,fun k hk=>?_,fun c hc=>?_⟩,ht⟩
 ·have:=w.each k hk
  simp only[hP,hA]
  exact this
 ·rw[ht]
  exact w.sum c (by rw[← hA];exact hc)
theorem lock_open {b:BS}{i j a n due clock:Int}{h:List Int}(k:(lockB b i j a n h due clock).1.2=0):openB (lockB b i j a n h due clock).2=openB b+1∧(lockB b i j a n h due clock).2.l.length=b.l.length+1:=by
 obtain⟨i',j',a',rfl,rfl,rfl,hi,hj,ha,n0,n1,hv,hij,hl,he⟩:=lock_inv k
 rw[he]
 refine⟨?_,by simp⟩
 show ((openN (b.l++[_]) (b.l++[_]).length:Nat):Int)=(openN b.l b.l.length:Nat)+1
 rw[openN_snoc]
 simp
theorem openN_set {l:List EV}{i:Nat}{x:EV}(hi:i < l.length) (h0:(atE l i).state=0) (hx:x.state≠0):∀ {k:Nat},k≤l.length→openN (l.set i x) k+(if i < k then 1 else 0)=openN l k
  | 0,_=>by simp[openN]
  | k+1,h=>by
    have ih:=openN_set (x:=x) hi h0 hx (k:=k) (by omega)
    show openN (l.set i x) k+(if (atE (l.set i x) k).state=0 then 1 else 0)+_=openN l k+(if (atE l k).state=0 then 1 else 0)
    rw[atE_set x (by omega)]
    by_cases e:i=k
    · subst e
      rw[if_pos (rfl:i=i),if_neg hx,if_pos h0,if_pos (by omega)]
      rw[if_neg (by omega)] at ih
      omega
    · rw[if_neg e]
      (repeat' split)<;>(repeat' split at ih)<;>omega
theorem states_set {l:List EV}{i:Nat}{x:EV}(hx:x.state=0∨x.state=1∨x.state=2) (h:∀ k,k < l.length→(atE l k).state=0∨(atE l k).state=1∨(atE l k).state=2):∀ k,k < (l.set i x).length→(atE (l.set i x) k).state=0∨(atE (l.set i x) k).state=1∨(atE (l.set i x) k).state=2:=by
 intro k hk
 rw[List.length_set] at hk
 rw[atE_set x hk]
 split
 ·exact hx
 ·exact h k hk
theorem oneL_done {s:LS}(w:WL s) {party:Int}{r:RV}(hr:r.ok) (hm:MayR r) (hp:isP s.b.p party=true) (h:(actL s party r).1.2=0) :
  WL ⟨s.cap,(actL s party r).2,s.clock,s.e++[⟨evOf party (actL s party r).1.1 r,party,s.clock⟩]⟩∧(∀ c,totB (actL s party r).2 c=totB s.b c)∧(actL s party r).2.p.np=s.b.p.np∧(actL s party r).2.p.na=s.b.p.na:=by
 have hpb:B8 party:=by
  obtain⟨k,rfl,hk⟩:=isP_nat hp
  have:=w.wb.p.p16
  exact⟨by omega,by omega⟩
 have hv:∀ id,I16 id→(r.kind≠2→id=0)→MayV (evOf party id r)∧(evOf party id r).ok:=by
  intro id hid _
  refine⟨?_,hr⟩
  unfold evOf
  rcases hm with⟨h1,h2,h3,h4,h5,h6,h7,h8⟩|⟨h1,h2,h3,h4,h5,h6,h7,h8⟩|⟨h1,h2,h3,h4,h5,h6,h7,h8⟩|⟨h1,h2,h3,h4,h5,h6,h7,h8⟩<;>unfold MayV<;>simp[*]
 have hlen:=w.len
 have fin:∀ (b':BS) (id:Int),WB b'→b'.p.np=s.b.p.np→((s.e.length:Int)+1)+openB b'≤s.cap→b'.l.length≤s.e.length+1→(∀ k,k < b'.l.length→(atE b'.l k).state=0∨(atE b'.l k).state=1∨(atE b'.l k).state=2)→MayV (evOf party id r)∧(evOf party id r).ok →
   WL ⟨s.cap,b',s.clock,s.e++[⟨evOf party id r,party,s.clock⟩]⟩:=fun b' id h1 h2 h3 h4 h5 h6=>by
  have hP:∀ x,isP b'.p x=isP s.b.p x:=fun x=>by unfold isP;rw[h2]
  refine⟨h1,w.cap,by simp only[List.length_append,List.length_singleton];push_cast;exact h3,w.clock,fun x hx=>?_,by simp only[List.length_append,List.length_singleton];exact h4,h5⟩
  rcases List.mem_append.1 hx with hx|hx
  ·have:=w.each x hx
   exact⟨this.1,this.2.1,by rw[hP];exact this.2.2.1,this.2.2.2⟩
  ·rw[List.mem_singleton] at hx
   subst hx
   exact⟨h6.1,h6.2,by rw[hP];exact hp,w.clock⟩
 have hroom:∀ n,roomL s n≠false→(s.e.length:Int)+openB s.b+n≤s.cap:=fun n k=>by
  unfold roomL at k
  simpa using k
 unfold actL at h ⊢
 split
 ·rename_i h1
  rw[if_pos h1] at h
  split
  ·rename_i h2;rw[if_pos h2] at h;simp at h
  ·rename_i h2
   rw[if_neg h2] at h
   split
   ·rename_i h3;rw[if_pos h3] at h;simp at h
   ·rename_i h3
    rw[if_neg h3] at h
    obtain⟨k1,k2⟩:=move_wb w.wb party r.dst r.asset r.amount
    have hs:=moveP_size s.b.p party r.dst r.asset r.amount
    refine⟨fin _ 0 k1 hs.1 ?_ (by have:=w.locks;dsimp only;omega) w.hash (hv 0 ⟨by omega,by omega⟩ (fun _=>rfl)),k2,hs.1,hs.2⟩
    have:=hroom 1 h2
    show _+openB ⟨_,s.b.l⟩≤_
    have e:openB ⟨(moveP s.b.p party r.dst r.asset r.amount).2,s.b.l⟩=openB s.b:=rfl
    rw[e];omega
 ·rename_i h1
  rw[if_neg h1] at h
  split
  ·rename_i h2
   rw[if_pos h2] at h
   split
   ·rename_i h3;rw[if_pos h3] at h;simp at h
   ·rename_i h3
    rw[if_neg h3] at h
    obtain⟨k1,k2,k3,k4⟩:=lock_wb (i:=party) (j:=r.dst) (a:=r.asset) (n:=r.amount) (due:=r.due) (clock:=s.clock) w.wb hr.1
    obtain⟨o1,o2⟩:=lock_open h
    have hl:=w.locks
    obtain⟨_,_,_,_,_,_,_,_,_,_,_,_,_,_,he⟩:=lock_inv h
    have hid:(lockB s.b party r.dst r.asset r.amount r.hash r.due s.clock).1.1=(s.b.l.length:Nat):=by rw[he]
    refine⟨fin _ _ k1 k3 ?_ (by rw[o2];omega) ?_ (hv _ (by rw[hid];exact⟨by omega,by omega⟩) (fun q=>absurd h2 q)),k2,k3,k4⟩
    ·have:=hroom 2 h3
     rw[o1];omega
    ·intro k hk
     have hll:(lockB s.b party r.dst r.asset r.amount r.hash r.due s.clock).2.l=s.b.l++[⟨party,r.dst,r.asset,r.amount,r.due,0,r.hash,[]⟩]:=by rw[he]
     rw[hll] at hk ⊢
     simp only[List.length_append,List.length_singleton] at hk
     by_cases q:k < s.b.l.length
     ·rw[atE_append_left q];exact w.hash k q
     ·obtain rfl:k=s.b.l.length:=by omega
      rw[atE_append_last];exact .inl rfl
  ·rename_i h2
   rw[if_neg h2] at h
   split
   ·rename_i h3
    rw[if_pos h3] at h
    rcases claim_cases w.wb party r.id hr.2 s.clock with⟨e,he0,he⟩|⟨k,i,a,hk0,hk,-,hi,ha,-,h0,-,-,-,-,-,he,hw,ht⟩
    ·rw[he] at h;exact absurd h he0
    ·rw[he]
     refine⟨fin _ 0 hw rfl ?_ (by simp only[List.length_set];have:=w.locks;omega) (states_set (.inr (.inl rfl)) w.hash) (hv 0 ⟨by omega,by omega⟩ (fun _=>rfl)),ht,rfl,rfl⟩
     have e:=openN_set (x:={ atE s.b.l k with state:=1,secret:=r.sec }) hk h0 (by simp) (Nat.le_refl _)
     rw[if_pos hk] at e
     have:=w.room
     show _+((openN (s.b.l.set k _) (s.b.l.set k _).length:Nat):Int)≤_
     rw[List.length_set]
     unfold openB at this
     omega
   ·rename_i h3
    rw[if_neg h3] at h
    rcases refund_cases w.wb party r.id s.clock with⟨e,he0,he⟩|⟨k,i,a,hk0,hk,-,hi,ha,-,h0,-,-,-,he,hw,ht⟩
    ·rw[he] at h;exact absurd h he0
    ·rw[he]
     refine⟨fin _ 0 hw rfl ?_ (by simp only[List.length_set];have:=w.locks;omega) (states_set (.inr (.inr rfl)) w.hash) (hv 0 ⟨by omega,by omega⟩ (fun _=>rfl)),ht,rfl,rfl⟩
     have e:=openN_set (x:={ atE s.b.l k with state:=2 }) hk h0 (by simp) (Nat.le_refl _)
     rw[if_pos hk] at e
     have:=w.room
     show _+((openN (s.b.l.set k _) (s.b.l.set k _).length:Nat):Int)≤_
     rw[List.length_set]
     unfold openB at this
     omega
def nlock:List VV→Nat
 | []=>0
 | v :: l=>(if v.kind=2 then 1 else 0)+nlock l
theorem nlock_append (l m:List VV):nlock (l++m)=nlock l+nlock m:=by
 induction l with
 | nil=>simp[nlock]
 | cons v l ih=>simp only[List.cons_append,nlock,ih];omega
def stOf (k:Int):Int→List VV→Int
 | s,[]=>s
 | s,v :: l=>stOf k (if 2 < v.kind∧v.id=k then v.kind - 2 else s) l
theorem stOf_append (k s:Int) (l m:List VV):stOf k s (l++m)=stOf k (stOf k s l) m:=by
 induction l generalizing s with
 | nil=>rfl
 | cons v l ih=>exact ih _
structure WI (s:LS):Prop where
 all:nlock (evs s)=s.b.l.length
 lock:∀ (i:Nat) (v:VV),(evs s)[i]?=some v→v.kind=2→v.id=nlock ((evs s).take i)∧v.src=(atE s.b.l (nlock ((evs s).take i))).src∧v.dst=(atE s.b.l (nlock ((evs s).take i))).dst∧v.amount=(atE s.b.l (nlock ((evs s).take i))).amount∧v.asset=(atE s.b.l (nlock ((evs s).take i))).asset∧v.hash=(atE s.b.l (nlock ((evs s).take i))).hash∧v.due=(atE s.b.l (nlock ((evs s).take i))).due
 close:∀ (i:Nat) (v:VV),(evs s)[i]?=some v→2 < v.kind→0≤v.id∧v.id < (nlock ((evs s).take i):Nat)∧stOf v.id 0 ((evs s).take i)=0
 st:∀ k:Nat,k < s.b.l.length→stOf (k:Int) 0 (evs s)=(atE s.b.l k).state
 due:∀ (i:Nat) (v:VV),(evs s)[i]?=some v→v.kind=1∨v.kind=2∨v.kind=3∨v.kind=4
theorem newL_wi (n:Nat) (X:Nat→List Int) (cap:Int):WI (newL n X cap) where
 all:=rfl
 lock i v h:=by simp[newL,evs] at h
 close i v h:=by simp[newL,evs] at h
 st k hk:=absurd hk (Nat.not_lt_zero _)
 due i v h:=by simp[newL,evs] at h
theorem clockL_wi {s:LS}(h:WI s) (c:Int):WI (clockL s c):=by
 unfold clockL
 split
 ·exact⟨h.all,h.lock,h.close,h.st,h.due⟩
 ·exact h
theorem evs_snoc (s:LS) (b:BS) (x:LE):evs ⟨s.cap,b,s.clock,s.e++[x]⟩=evs s++[x.v]:=by simp[evs]
theorem nlock_take_lt {l:List VV}{i:Nat}{v:VV}(h:l[i]?=some v) (hk:v.kind=2):nlock (l.take i) < nlock l:=by
 obtain⟨hi,rfl⟩:=List.getElem?_eq_some_iff.1 h
 have:l=l.take i++(l[i] :: l.drop (i+1)):=by
  rw[← List.drop_eq_getElem_cons hi,List.take_append_drop]
 have e:nlock l=nlock (l.take i)+nlock (l[i] :: l.drop (i+1)):=by
  rw[← nlock_append,← this]
 rw[e]
 simp only[nlock,if_pos hk]
 omega
theorem stOf_out {k:Int}:∀ {l:List VV}{s:Int},(∀ v∈l,2 < v.kind→v.id≠k)→stOf k s l=s
  | [],_,_=>rfl
  | v :: l,s,h=>by
    show stOf k (if 2 < v.kind∧v.id=k then v.kind - 2 else s) l=s
    rw[if_neg (fun q=>h v (List.mem_cons_self ..) q.1 q.2)]
    exact stOf_out (fun u hu=>h u (List.mem_cons_of_mem _ hu))
theorem wi_step {s:LS}(w:WI s) {b':BS}{x:LE}
  (hk:x.v.kind=1∨x.v.kind=2∨x.v.kind=3∨x.v.kind=4)
  (h1:x.v.kind=1→b'.l=s.b.l)
  (h2:x.v.kind=2→∃ e,b'.l=s.b.l++[e]∧e.state=0∧x.v.id=s.b.l.length∧x.v.src=e.src∧x.v.dst=e.dst∧x.v.amount=e.amount∧x.v.asset=e.asset∧x.v.hash=e.hash∧x.v.due=e.due)
  (h3:2 < x.v.kind→∃ k e,x.v.id=(k:Nat)∧k < s.b.l.length∧(atE s.b.l k).state=0∧b'.l=s.b.l.set k e∧e.state=x.v.kind - 2∧e.src=(atE s.b.l k).src∧e.dst=(atE s.b.l k).dst∧e.amount=(atE s.b.l k).amount∧e.asset=(atE s.b.l k).asset∧e.hash=(atE s.b.l k).hash∧e.due=(atE s.b.l k).due) :
  WI ⟨s.cap,b',s.clock,s.e++[x]⟩:=by
 have same:∀ j,j < s.b.l.length→j < b'.l.length∧(atE b'.l j).src=(atE s.b.l j).src∧(atE b'.l j).dst=(atE s.b.l j).dst∧(atE b'.l j).amount=(atE s.b.l j).amount∧(atE b'.l j).asset=(atE s.b.l j).asset∧(atE b'.l j).hash=(atE s.b.l j).hash∧(atE b'.l j).due=(atE s.b.l j).due:=by
  intro j hj
  rcases hk with q|q|q
  ·rw[h1 q];exact⟨hj,rfl,rfl,rfl,rfl,rfl,rfl⟩
  ·obtain⟨e,he,-⟩:=h2 q
   rw[he,atE_append_left hj]
   exact⟨by simp;omega,rfl,rfl,rfl,rfl,rfl,rfl⟩
  ·obtain⟨k,e,-,hkl,-,he,-,e1,e2,e3,e4,e5,e6⟩:=h3 (by omega)
   rw[he,atE_set e hj]
   refine⟨by rw[List.length_set];exact hj,?_⟩
   split
   ·rename_i hkj;subst hkj;exact⟨e1,e2,e3,e4,e5,e6⟩
   ·exact⟨rfl,rfl,rfl,rfl,rfl,rfl⟩
 have parts:∀ i v,(evs s++[x.v])[i]?=some v→(i < (evs s).length∧(evs s)[i]?=some v∧(evs s++[x.v]).take i=(evs s).take i)∨(i=(evs s).length∧v=x.v∧(evs s++[x.v]).take i=evs s):=by
  intro i v h
  by_cases hi:i < (evs s).length
  ·rw[List.getElem?_append_left hi] at h
   exact .inl ⟨hi,h,List.take_append_of_le_length (by omega)⟩
  ·have hl:=(List.getElem?_eq_some_iff.1 h).1
   simp only[List.length_append,List.length_singleton] at hl
   obtain rfl:i=(evs s).length:=by omega
   rw[List.getElem?_append_right (Nat.le_refl _)] at h
   simp at h
   exact .inr ⟨rfl,h.symm,by simp⟩
 refine⟨?_,?_,?_,?_,?_⟩<;>simp only[evs_snoc]
 ·rw[nlock_append,w.all]
  rcases hk with q|q|q
  ·rw[h1 q];simp[nlock,q]
  ·obtain⟨e,he,-⟩:=h2 q
   rw[he];simp[nlock,q]
  ·obtain⟨k,e,-,-,-,he,-⟩:=h3 (by omega)
   rw[he];simp[nlock];omega
 ·intro i v h hv
  rcases parts i v h with⟨hi,h0,ht⟩|⟨hi,rfl,ht⟩
  ·rw[ht]
   obtain⟨a1,a2,a3,a4,a5,a6,a7⟩:=w.lock i v h0 hv
   have hlt:=nlock_take_lt h0 hv
   rw[w.all] at hlt
   obtain⟨-,c1,c2,c3,c4,c5,c6⟩:=same _ hlt
   exact⟨a1,by rw[c1];exact a2,by rw[c2];exact a3,by rw[c3];exact a4,by rw[c4];exact a5,by rw[c5];exact a6,by rw[c6];exact a7⟩
  ·rw[ht,w.all]
   obtain⟨e,he,-,e0,e1,e2,e3,e4,e5,e6⟩:=h2 hv
   rw[he,atE_append_last]
   exact⟨e0,e1,e2,e3,e4,e5,e6⟩
 ·intro i v h hv
  rcases parts i v h with⟨hi,h0,ht⟩|⟨hi,rfl,ht⟩
  ·rw[ht];exact w.close i v h0 hv
  ·rw[ht,w.all]
   obtain⟨k,e,e0,hkl,hst,-⟩:=h3 hv
   rw[e0]
   exact⟨by omega,by omega,by rw[w.st k hkl];exact hst⟩
 ·intro k hkl
  rw[stOf_append]
  show (if 2 < x.v.kind∧x.v.id=(k:Int) then x.v.kind - 2 else stOf k 0 (evs s))=_
  rcases hk with q|q|q
  ·rw[if_neg (fun r=>by omega)]
   rw[show b'.l=s.b.l from h1 q] at hkl ⊢
   exact w.st k hkl
  ·rw[if_neg (fun r=>by omega)]
   obtain⟨e,he,e0,-⟩:=h2 q
   rw[show b'.l=s.b.l++[e] from he] at hkl ⊢
   simp only[List.length_append,List.length_singleton] at hkl
   by_cases hj:k < s.b.l.length
   ·rw[atE_append_left hj];exact w.st k hj
   ·obtain rfl:k=s.b.l.length:=by omega
    rw[atE_append_last,e0]
    refine stOf_out (fun v hv hk2=>?_)
    obtain⟨i,hi⟩:=List.mem_iff_getElem?.1 hv
    have:=(w.close i v hi hk2).2.1
    have h5:nlock ((evs s).take i)≤nlock (evs s):=by
     have:evs s=(evs s).take i++(evs s).drop i:=(List.take_append_drop ..).symm
     have e:=congrArg nlock this
     rw[nlock_append] at e
     omega
    rw[w.all] at h5
    omega
  ·obtain⟨j,e,e0,hj,-,he,e1,-⟩:=h3 (by omega)
   rw[show b'.l=s.b.l.set j e from he] at hkl ⊢
   rw[List.length_set] at hkl
   rw[atE_set e hkl,e0]
   by_cases hjk:j=k
   ·subst hjk
    rw[if_pos ⟨by omega,rfl⟩,if_pos rfl,e1]
   ·rw[if_neg (fun r=>hjk (by have:=r.2;omega)),if_neg hjk]
    exact w.st k hkl
 ·intro i v h
  rcases parts i v h with⟨hi,h0,ht⟩|⟨hi,rfl,ht⟩
  ·exact w.due i v h0
  ·exact hk
structure Keeps (s s':LS):Prop where
 wl:WL s'
 wi:WI s'
 tot:∀ c,totB s'.b c=totB s.b c
 np:s'.b.p.np=s.b.p.np
 na:s'.b.p.na=s.b.p.na
 cap:s'.cap=s.cap
 clock:s.clock≤s'.clock
 e:∃ m,s'.e=s.e++m
theorem Keeps.refl {s:LS}(h:WL s) (k:WI s):Keeps s s:=⟨h,k,fun _=>rfl,rfl,rfl,rfl,Int.le_refl _,[],by simp⟩
theorem Keeps.trans {a b c:LS}(h:Keeps a b) (k:Keeps b c):Keeps a c :=
 ⟨k.wl,k.wi,fun x=>(k.tot x).trans (h.tot x),k.np.trans h.np,k.na.trans h.na,k.cap.trans h.cap,Int.le_trans h.clock k.clock,by
  obtain⟨m,hm⟩:=h.e;obtain⟨n,hn⟩:=k.e
  exact⟨m++n,by rw[hn,hm,List.append_assoc]⟩⟩
theorem clockL_keeps {s:LS}(h:WL s) (k:WI s) (c:Int):Keeps s (clockL s c) :=
 ⟨clockL_wl h c,clockL_wi k c,fun x=>by rw[clockL_b],by rw[clockL_b],by rw[clockL_b],clockL_cap s c,clockL_le s c,[],by rw[clockL_e];simp⟩
theorem oneL_keeps {s:LS}(w:WL s) (wi:WI s) {party:Int}{r:RV}(hr:r.ok):Keeps s (oneL s party r).2∧(oneL s party r).2.clock=s.clock∧(oneL s party r).2.e.length=s.e.length+(if (oneL s party r).1.code=0 then 1 else 0):=by
 unfold oneL
 by_cases h1:MayR r∧isP s.b.p party=true
 ·rw[if_pos h1]
  by_cases h2:(actL s party r).1.2=0
  ·rw[if_pos h2]
   obtain⟨k1,k2,k3,k4⟩:=oneL_done w hr h1.1 h1.2 h2
   refine⟨⟨k1,?_,k2,k3,k4,rfl,Int.le_refl _,_,rfl⟩,rfl,by simp⟩
   have hkind:r.kind=1∨r.kind=2∨r.kind=3∨r.kind=4:=by
    rcases h1.1 with h|h|h|h
    ·exact .inl h.1
    ·exact .inr (.inl h.1)
    ·exact .inr (.inr (.inl h.1))
    ·exact .inr (.inr (.inr h.1))
   refine wi_step wi hkind (fun q=>?_) (fun q=>?_) (fun q=>?_)
   ·have q':r.kind=1:=q
    unfold actL at h2 ⊢
    rw[if_pos q'] at h2 ⊢
    split
    ·rfl
    ·split
     ·rfl
     ·rfl
   ·have q':r.kind=2:=q
    have q1:¬ r.kind=1:=by omega
    unfold actL at h2 ⊢
    rw[if_neg q1,if_pos q'] at h2 ⊢
    by_cases h3:roomL s 2=false
    ·rw[if_pos h3] at h2;simp at h2
    ·rw[if_neg h3] at h2 ⊢
     obtain⟨i',j',a',e1,e2,e3,-,-,-,-,-,-,-,-,he⟩:=lock_inv h2
     rw[he]
     refine⟨_,rfl,rfl,?_,?_,rfl,rfl,rfl,rfl,rfl⟩
     ·show (if r.kind=2 then ((s.b.l.length:Nat):Int) else r.id)=_
      rw[if_pos q']
     ·show (if r.kind≤2 then party else 0)=_
      rw[if_pos (by omega)]
   ·have q':2 < r.kind:=q
    have q1:¬ r.kind=1:=by omega
    have q2:¬ r.kind=2:=by omega
    have hid:(evOf party (actL s party r).1.1 r).id=r.id:=if_neg q2
    unfold actL at h2 hid ⊢
    rw[if_neg q1,if_neg q2] at h2 hid ⊢
    by_cases h3:r.kind=3
    ·rw[if_pos h3] at h2 hid ⊢
     rcases claim_cases w.wb party r.id hr.2 s.clock with⟨e,he0,he⟩|⟨k,i,a,hk0,hk,-,hi,ha,-,h0,-,-,-,-,-,he,hw,ht⟩
     ·rw[he] at h2;exact absurd h2 he0
     ·refine⟨k,{ atE s.b.l k with state:=1,secret:=r.sec },?_,hk,h0,by rw[he],?_,rfl,rfl,rfl,rfl,rfl,rfl⟩
      ·exact hid.trans hk0
      ·show (1:Int)=r.kind - 2;omega
    ·rw[if_neg h3] at h2 hid ⊢
     rcases refund_cases w.wb party r.id s.clock with⟨e,he0,he⟩|⟨k,i,a,hk0,hk,-,hi,ha,-,h0,-,-,-,he,hw,ht⟩
     ·rw[he] at h2;exact absurd h2 he0
     ·refine⟨k,{ atE s.b.l k with state:=2 },?_,hk,h0,by rw[he],?_,rfl,rfl,rfl,rfl,rfl,rfl⟩
      ·exact hid.trans hk0
      ·show (2:Int)=r.kind - 2;omega
  ·rw[if_neg h2]
   exact⟨Keeps.refl w wi,rfl,by simp[h2]⟩
 ·rw[if_neg h1]
  exact⟨Keeps.refl w wi,rfl,by simp⟩
def ndone:List PV→Nat
 | []=>0
 | p :: l=>(if p.code=0 then 1 else 0)+ndone l
theorem manyL_keeps {s:LS}(w:WL s) (wi:WI s) (party:Int):∀ (l:List RV),(∀ r∈l,r.ok)→Keeps s (manyL s party l).2∧(manyL s party l).2.clock=s.clock∧(manyL s party l).2.e.length=s.e.length+ndone (manyL s party l).1
  | [],_=>⟨Keeps.refl w wi,rfl,rfl⟩
  | r :: l,h=>by
    obtain⟨k1,k2,k3⟩:=oneL_keeps (party:=party) w wi (h r (List.mem_cons_self ..))
    obtain⟨j1,j2,j3⟩:=manyL_keeps k1.wl k1.wi party l (fun x hx=>h x (List.mem_cons_of_mem _ hx))
    refine⟨k1.trans j1,j2.trans k2,?_⟩
    show (manyL (oneL s party r).2 party l).2.e.length=s.e.length+((if (oneL s party r).1.code=0 then 1 else 0)+ndone (manyL (oneL s party r).2 party l).1)
    rw[j3,k3];omega
theorem applyL_keeps {s:LS}(w:WL s) (wi:WI s) (party clock:Int) (x:BV) (hx:∀ r∈x.l,r.ok):Keeps s (applyL s party clock x).2∧(applyL s party clock x).2.e.length=s.e.length+ndone (applyL s party clock x).1.p:=by
 have k0:=clockL_keeps w wi clock
 obtain⟨k1,k2,k3⟩:=manyL_keeps k0.wl k0.wi party (x.l.take 64) (fun r hr=>hx r (List.mem_of_mem_take hr))
 refine⟨k0.trans k1,?_⟩
 show (manyL (clockL s clock) party (x.l.take 64)).2.e.length=s.e.length+ndone (manyL (clockL s clock) party (x.l.take 64)).1
 rw[k3,clockL_e]
def reqOf (v:VV):RV:=⟨v.kind,v.dst,v.asset,v.amount,if v.kind=2 then 0 else v.id,v.due,v.hash,v.sec⟩
theorem reqOf_ev {r:RV}(h:MayR r) (party id:Int):reqOf (evOf party id r)=r:=by
 obtain⟨kind,dst,asset,amount,rid,due,hash,sec⟩:=r
 unfold reqOf evOf
 rcases h with⟨h1,h2,h3,h4,h5,h6,h7,h8⟩|⟨h1,h2,h3,h4,h5,h6,h7,h8⟩|⟨h1,h2,h3,h4,h5,h6,h7,h8⟩|⟨h1,h2,h3,h4,h5,h6,h7,h8⟩<;>dsimp only at h1 h5<;>subst h1<;>simp[*]
def stepE (s:LS) (x:LE):LS:=(oneL (clockL s x.at_) x.who (reqOf x.v)).2
def preE (s0:LS) (l:List LE):LS:=l.foldl stepE s0
theorem preE_snoc (s0:LS) (l:List LE) (x:LE):preE s0 (l++[x])=stepE (preE s0 l) x:=by simp[preE]
inductive Reach (s0:LS):LS→Prop
 | start:Reach s0 s0
 | tick {s:LS} (c:Int):Reach s0 s→Reach s0 (clockL s c)
 | one {s:LS} (p:Int) (r:RV):Reach s0 s→r.ok→Reach s0 (oneL s p r).2
theorem Reach.many {s0:LS}(p:Int):∀ {l:List RV}{s:LS},Reach s0 s→(∀ r∈l,r.ok)→Reach s0 (manyL s p l).2
 | [],_,h,_=>h
 | r :: l,_,h,hl=>(Reach.one p r h (hl r (List.mem_cons_self ..))).many p (l:=l) (fun x hx=>hl x (List.mem_cons_of_mem _ hx))
theorem Reach.apply {s0 s:LS}(h:Reach s0 s) (p c:Int) (x:BV) (hx:∀ r∈x.l,r.ok):Reach s0 (applyL s p c x).2 :=
 (h.tick c).many p (fun r hr=>hx r (List.mem_of_mem_take hr))
theorem Reach.keeps {s0 s:LS}(h:Reach s0 s) (w:WL s0) (wi:WI s0):Keeps s0 s:=by
 induction h with
 | start=>exact Keeps.refl w wi
 | tick c _ ih=>exact ih.trans (clockL_keeps ih.wl ih.wi c)
 | one p r _ hr ih=>exact ih.trans (oneL_keeps ih.wl ih.wi hr).1
structure Hist (s0 s:LS):Prop where
 full:∃ c,preE s0 s.e=⟨s.cap,s.b,c,s.e⟩∧c≤s.clock
 each:∀ i,i≤s.e.length→(preE s0 (s.e.take i)).e=s.e.take i
 when_:∀ (i:Nat) (x:LE),s.e[i]?=some x→(preE s0 (s.e.take i)).clock≤x.at_
theorem Reach.hist {s0 s:LS}(h:Reach s0 s) (w:WL s0) (wi:WI s0) (h0:s0.e=[]):Hist s0 s:=by
 induction h with
 | start =>
  refine⟨⟨s0.clock,by rw[h0];show s0=_;rw[← h0],Int.le_refl _⟩,fun i hi=>?_,fun i x hx=>?_⟩
  ·rw[h0,List.take_nil];exact h0
  ·rw[h0] at hx;simp at hx
 | @tick s c hs ih =>
  obtain⟨⟨c0,h1,h2⟩,h3,h4⟩:=ih
  refine⟨⟨c0,?_,Int.le_trans h2 (clockL_le s c)⟩,?_,?_⟩
  ·rw[clockL_e,clockL_b,clockL_cap];exact h1
  ·rw[clockL_e];exact h3
  ·rw[clockL_e];exact h4
 | @one s p r hs hr ih =>
  have K:=hs.keeps w wi
  unfold oneL
  by_cases h1:MayR r∧isP s.b.p p=true
  ·rw[if_pos h1]
   by_cases h2:(actL s p r).1.2=0
   ·rw[if_pos h2]
    obtain⟨⟨c0,e1,e2⟩,h3,h4⟩:=ih
    have hcl:clockL ⟨s.cap,s.b,c0,s.e⟩ s.clock=s:=by
     unfold clockL
     by_cases hc:c0 < s.clock
     ·rw[if_pos ⟨K.wl.clock,hc⟩]
     ·rw[if_neg (fun q=>hc q.2)]
      have:c0=s.clock:=by omega
      subst this;rfl
    have hst:preE s0 (s.e++[⟨evOf p (actL s p r).1.1 r,p,s.clock⟩])=⟨s.cap,(actL s p r).2,s.clock,s.e++[⟨evOf p (actL s p r).1.1 r,p,s.clock⟩]⟩:=by
     rw[preE_snoc,e1]
     unfold stepE
     dsimp only
     rw[hcl,reqOf_ev h1.1]
     unfold oneL
     rw[if_pos h1,if_pos h2]
    refine⟨⟨s.clock,hst,Int.le_refl _⟩,fun i hi=>?_,fun i x hx=>?_⟩
    ·dsimp only at hi ⊢
     by_cases hi2:i≤s.e.length
     ·rw[List.take_append_of_le_length hi2];exact h3 i hi2
     ·simp only[List.length_append,List.length_singleton] at hi
      obtain rfl:i=s.e.length+1:=by omega
      rw[List.take_of_length_le (by simp),hst]
    ·dsimp only at hx ⊢
     by_cases hi2:i < s.e.length
     ·rw[List.getElem?_append_left hi2] at hx
      rw[List.take_append_of_le_length (by omega)]
      exact h4 i x hx
     ·have hl:=(List.getElem?_eq_some_iff.1 hx).1
      simp only[List.length_append,List.length_singleton] at hl
      obtain rfl:i=s.e.length:=by omega
      rw[List.getElem?_append_right (Nat.le_refl _)] at hx
      simp at hx
      subst hx
      rw[List.take_append_of_le_length (Nat.le_refl _),List.take_length,e1]
      exact e2
   ·rw[if_neg h2];exact ih
  ·rw[if_neg h1];exact ih
def getLE (st:St):LE × St:=(⟨(getV (decNum (decNum st 1).2 8).2).1,(decNum st 1).1,(decNum (decNum st 1).2 8).1⟩,(getV (decNum (decNum st 1).2 8).2).2)
theorem getLE_back {x:LE}(hv:MayV x.v) (hw:B8 x.who) (ha:Tck x.at_) (t:List Int):getLE (0,putLE x++t)=(x,(0,t)):=by
 unfold getLE putLE
 simp only[List.append_assoc,nb1 _ hw,nb8 _ ha.amt,getV_back hv]
theorem WL.who {s:LS}(w:WL s) {x:LE}(hx:x∈s.e):B8 x.who:=by
 obtain⟨k,hk,hlt⟩:=isP_nat (w.each x hx).2.2.1
 have:=w.wb.p.p16
 exact⟨by omega,by omega⟩
theorem save_inj {s1 s2:LS}(w1:WL s1) (w2:WL s2) (h:saveL s1=saveL s2):s1.clock=s2.clock∧s1.e=s2.e:=by
 have r1:∀ s:LS,WL s→decNum (0,saveL s) 8=(s.clock,(0,be s.e.length 2++s.e.flatMap putLE)):=fun s w=>nb8 _ w.clock.amt
 have r2:∀ s:LS,WL s→decNum (0,be s.e.length 2++s.e.flatMap putLE) 2=(((s.e.length:Nat):Int),(0,s.e.flatMap putLE)):=fun s w=>by
  have:=nb2 (n:=s.e.length) (s.e.flatMap putLE) ⟨by omega,by have:=w.len;omega⟩
  rwa [Int.toNat_natCast] at this
 have r3:∀ s:LS,WL s→many getLE s.e.length (0,s.e.flatMap putLE)=(s.e,(0,[])):=fun s w=>by
  have:=many_back getLE putLE s.e [] (fun x hx t=>getLE_back (w.each x hx).1 (w.who hx) (w.each x hx).2.2.2 t)
  rwa [List.append_nil] at this
 have e1:=r1 s1 w1
 rw[h,r1 s2 w2] at e1
 injection e1 with e1 e2
 injection e2 with _ e2
 have f1:=r2 s1 w1
 rw[← e2,r2 s2 w2] at f1
 injection f1 with f1 f2
 injection f2 with _ f2
 have g1:=r3 s1 w1
 have hl:s1.e.length=s2.e.length:=by omega
 rw[hl,← f2,r3 s2 w2] at g1
 injection g1 with g1 _
 exact⟨e1.symm,g1.symm⟩
theorem reach_one {s0 s1 s2:LS}(w:WL s0) (wi:WI s0) (h0:s0.e=[]) (h1:Reach s0 s1) (h2:Reach s0 s2) (h:saveL s1=saveL s2):s1=s2:=by
 have k1:=h1.keeps w wi;have k2:=h2.keeps w wi
 obtain⟨e1,e2⟩:=save_inj k1.wl k2.wl h
 obtain⟨⟨c1,f1,-⟩,-,-⟩:=h1.hist w wi h0
 obtain⟨⟨c2,f2,-⟩,-,-⟩:=h2.hist w wi h0
 rw[e2] at f1
 rw[f1] at f2
 obtain⟨a1,a2,a3,a4⟩:=s1
 obtain⟨b1,b2,b3,b4⟩:=s2
 dsimp only at e1 e2 f2
 injection f2 with g1 g2 g3 g4
 subst e1 e2 g1 g2
 rfl
theorem newL_e (n:Nat) (X:Nat→List Int) (cap:Int):(newL n X cap).e=[]:=rfl
theorem saveL_bytes {s:LS}(w:WL s):Bytes (saveL s) :=
 (be_bytes _ _).append ((be_bytes _ _).append (flat_bytes fun x hx=>(be_bytes _ _).append ((be_bytes _ _).append (putV_bytes (w.each x hx).2.1))))
theorem saveL_len {s:LS}(w:WL s):(saveL s).length≤40000:=by
 have h1:=w.len
 have h2:=flat_len (f:=putLE) (m:=63) (l:=s.e) (fun x hx=>by
  have:=putV_len (w.each x hx).1
  simp only[putLE,List.length_append,be_len];omega)
 simp only[saveL,List.length_append,be_len]
 omega
theorem fromL_in {s:LS}{k:Nat}(h:k≤s.e.length):fromL s k=(evs s).drop k:=by
 unfold fromL
 rw[if_pos ⟨by omega,by omega⟩,Int.toNat_natCast]
theorem fromL_out {s:LS}{seen:Int}(h:¬ (0≤seen∧seen≤s.e.length)):fromL s seen=[]:=by
 unfold fromL
 rw[if_neg h]
theorem fromL_may {s:LS}(w:WL s) (seen:Int):∀ v∈fromL s seen,MayV v∧v.ok:=by
 intro v hv
 have hm:v∈evs s:=by
  unfold fromL at hv
  split at hv
  ·exact List.mem_of_mem_drop hv
  ·simp at hv
 obtain⟨x,hx,rfl⟩:=List.mem_map.1 hm
 have:=w.each x hx
 exact⟨this.1,this.2.1⟩
theorem evs_ok {s:LS}(w:WL s):∀ v∈evs s,v.ok:=by
 intro v hv
 obtain⟨x,hx,rfl⟩:=List.mem_map.1 hv
 exact(w.each x hx).2.1
def roomK (s:LS) (k:Int):Bool:=if k=1 then roomL s 1 else if k=2 then roomL s 2 else true
def transL (s:LS) (party:Int) (r:RV):Int × BS:=if r.amount=0 then (1,s.b) else ((moveP s.b.p party r.dst r.asset r.amount).1,⟨(moveP s.b.p party r.dst r.asset r.amount).2,s.b.l⟩)
def doL (s:LS) (party:Int) (r:RV):(Int × Int) × BS :=
 if r.kind=1 then ((0,(transL s party r).1),(transL s party r).2)
 else if r.kind=2 then lockB s.b party r.dst r.asset r.amount r.hash r.due s.clock
 else if r.kind=3 then ((0,(claimB s.b party r.id r.sec s.clock).1),(claimB s.b party r.id r.sec s.clock).2)
 else ((0,(refundB s.b party r.id s.clock).1),(refundB s.b party r.id s.clock).2)
theorem actL_full {s:LS}{party:Int}{r:RV}(h:roomK s r.kind=false):actL s party r=((0,12),s.b):=by
 unfold actL;unfold roomK at h
 split
 ·rename_i h1;rw[if_pos h1] at h;rw[if_pos h]
 ·rename_i h1
  rw[if_neg h1] at h
  split
  ·rename_i h2;rw[if_pos h2] at h;rw[if_pos h]
  ·rename_i h2;rw[if_neg h2] at h;cases h
theorem actL_do {s:LS}{party:Int}{r:RV}(h:roomK s r.kind=true):actL s party r=doL s party r:=by
 unfold actL doL transL;unfold roomK at h
 split
 ·rename_i h1;rw[if_pos h1] at h;rw[if_neg (by rw[h];simp)]
  split<;>rfl
 ·rename_i h1
  rw[if_neg h1] at h
  split
  ·rename_i h2;rw[if_pos h2] at h;rw[if_neg (by rw[h];simp)]
  ·rfl
theorem oneL_range {s:LS}{party:Int}{r:RV}(h:¬ (MayR r∧isP s.b.p party=true)):oneL s party r=(⟨1,0⟩,s):=if_neg h
theorem oneL_full {s:LS}{party:Int}{r:RV}(h:MayR r∧isP s.b.p party=true) (k:roomK s r.kind=false):oneL s party r=(⟨12,0⟩,s):=by
 unfold oneL
 rw[if_pos h,actL_full k]
 rfl
theorem oneL_no {s:LS}{party:Int}{r:RV}(h:MayR r∧isP s.b.p party=true) (k:roomK s r.kind=true) (e:(doL s party r).1.2≠0):oneL s party r=(⟨(doL s party r).1.2,0⟩,s):=by
 unfold oneL
 rw[if_pos h,actL_do k,if_neg e]
theorem oneL_yes {s:LS}{party:Int}{r:RV}(h:MayR r∧isP s.b.p party=true) (k:roomK s r.kind=true) (e:(doL s party r).1.2=0):oneL s party r=(⟨0,(doL s party r).1.1⟩,⟨s.cap,(doL s party r).2,s.clock,s.e++[⟨evOf party (doL s party r).1.1 r,party,s.clock⟩]⟩):=by
 unfold oneL
 rw[if_pos h,actL_do k,if_pos e]
theorem doL_no {s:LS}(w:WL s) {party:Int}{r:RV}(hr:r.ok) (k:roomK s r.kind=true) (h:(doL s party r).1.2≠0):(doL s party r).2=s.b:=by
 rw[← actL_do k] at h ⊢
 exact(actL_no w hr h).1
theorem whole_iff (r:RV):(encB ⟨0,[r]⟩).1=0 ↔ MayR r:=by
 have h:OkB ⟨0,[r]⟩ ↔ MayR r:=⟨fun k=>k.2.2 r (List.mem_singleton.2 rfl),fun k=>⟨(by decide:I16 0),(by omega:(1:Nat)≤64),fun u hu=>by rw[List.mem_singleton] at hu;exact hu▸k⟩⟩
 unfold encB
 by_cases k:OkB ⟨0,[r]⟩
 ·rw[if_pos k];exact⟨fun _=>h.1 k,fun _=>rfl⟩
 ·rw[if_neg k];exact⟨fun q=>absurd q (by decide),fun q=>absurd (h.2 q) k⟩
theorem whole_code (r:RV):(encB ⟨0,[r]⟩).1=0∨(encB ⟨0,[r]⟩).1=1:=by
 unfold encB;split
 ·exact .inl rfl
 ·exact .inr rfl
theorem MayR.lens {r:RV}(h:MayR r):(r.hash=[]∨r.hash.length=32)∧(r.sec=[]∨r.sec.length=32):=by
 rcases h with⟨-,-,-,-,-,-,h1,h2⟩|⟨-,-,-,-,-,-,h1,h2⟩|⟨-,-,-,-,-,-,h1,h2⟩|⟨-,-,-,-,-,-,h1,h2⟩<;>constructor<;>simp[h1,h2]
def evC_ (party id:Int) (r:RV):VV:=⟨r.kind,if r.kind=1∨r.kind=2 then party else 0,r.dst,r.asset,r.amount,if r.kind=2 then id else r.id,r.due,r.hash,r.sec⟩
theorem evC_is {party id:Int}{r:RV}(h:MayR r):evC_ party id r=evOf party id r:=by
 unfold evC_ evOf
 rcases h with⟨h1,-⟩|⟨h1,-⟩|⟨h1,-⟩|⟨h1,-⟩<;>simp[h1]
end Go.Proofs.YtchcgoabogcabaaGreat.Ledger
