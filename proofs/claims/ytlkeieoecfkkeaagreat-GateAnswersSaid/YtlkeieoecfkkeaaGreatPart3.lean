/-
  Parts laid together: ShaMath ShaSpec EscrowSpec EscrowKeep LedgerSpec LedgerKeep LedgerHist LedgerPoll FrameSpec FrameGetSpec FrameBackSpec FrameCutSpec JournalSpec JournalKeep JournalLay JournalMore JournalTop VaultSpec VaultJour VaultRep JWriteSpec LedgerDo FrameOkSpec JText.
-/
import Derived.Laws.BitsLemmas
import Derived.Laws.BitsAllLaws
import Derived.Laws.Bits64b
import Derived.KernelRfl
import Derived.Test.YtlkeieoecfkkeaaGreatPart2
namespace Go.Proofs.YtlkeieoecfkkeaaGreat
namespace Sha
def W32 (x:Int):Prop:=0≤x∧x < 4294967296
theorem Wv (op:BinOp) (a b:Int):W32 (bits op .u32 a b):=by
 unfold bits W32
 cases op<;>simp only[IntKind.wrap_u32]<;>omega
theorem Ko (a b:Int):bits .or .u32 a b=bits .or .u32 b a:=by
 unfold bits
 simp only[BitVec.or_comm]
def rotr (x:Int) (k:Nat):Int:=bits .or .u32 (x / 2 ^ k) (x * 2 ^ (32 - k) % 4294967296)
theorem UI (k m:Nat) (h1:1≤k) (hm:k+m=32):bits .and .u64 (IntKind.u64.wrap (-(k:Int))) 31=(m:Int):=by
 have e:IntKind.u64.wrap (-(k:Int))=((18446744073709551616 - k:Nat):Int):=by rw[IntKind.wrap_u64];omega
 rw[e]
 have h:=bits_and_u64_nat (18446744073709551616 - k) 31 (by omega) (by omega)
 have e2:(18446744073709551616 - k) &&& 31=(18446744073709551616 - k) % 32:=Nat.and_two_pow_sub_one_eq_mod _ 5
 rw[e2] at h
 rw[show (31:Int)=((31:Nat):Int) from rfl,h]
 omega
theorem Wx (x:Int) (k m:Nat) (hm:k+m=32):bits .or .u32 (x * 2 ^ m % 4294967296) (x / 2 ^ (32 - m))=rotr x k:=by
 obtain rfl:m=32 - k:=by omega
 rw[Ko,rotr,show 32 - (32 - k)=k by omega]
def lg (x:Int) (i j k:Nat):Int:=bits .xor .u32 (bits .xor .u32 (rotr x i) (rotr x j)) (rotr x k)
def prB (n:Nat):Bool:=(List.range 40).all fun d=>decide (d < 2) || decide (n < d * d) || decide (n % d≠0)
theorem Wy {n d:Nat}(h2:2≤d) (h4:d < 40) (hd:d * d≤n) (h:n % d=0):prB n=false:=by
 rw[Bool.eq_false_iff]
 intro hp
 unfold prB at hp
 have:=List.all_eq_true.1 hp d (List.mem_range.2 h4)
 simp at this
 omega
theorem UJ {n d:Nat}(hn:n < d * d) (h:∀ e,2≤e→e < d→n % e≠0):prB n=true:=by
 unfold prB
 rw[List.all_eq_true]
 intro e _
 by_cases h2:e < 2
 ·simp[h2]
 ·by_cases he:e < d
  ·have:=h e (by omega) he
   simp[this]
  ·have:d * d≤e * e:=Nat.mul_le_mul (by omega) (by omega)
   have:n < e * e:=by omega
   simp[this]
def sqTop (n:Nat):Nat:=n * n / 18446744073709551616
def cuTop (n:Nat):Nat:=n * n / 18446744073709551616 * n+n * n % 18446744073709551616 * n / 18446744073709551616
def dh (g:Nat→Nat) (top:Nat):Nat→Nat→Nat
 | 0,r=>r
 | k+1,r=>if g (r ||| 2 ^ k) < top then dh g top k (r ||| 2 ^ k) else dh g top k r
def frac (g:Nat→Nat) (top:Nat):Nat:=dh g top 35 0 % 4294967296
def qE:Nat→Nat
 | 0=>0
 | k+1=>2 ^ k
theorem GI (k:Nat):qE (k+1) / 2=qE k:=by
 cases k with
 | zero=>rfl
 | succ k=>simp[qE,Nat.pow_succ]
theorem WA {r k:Nat}(hr:r < 34359738368) (hk:k < 35):r ||| 2 ^ k < 34359738368 :=
 Nat.or_lt_two_pow (n:=35) hr (Nat.pow_lt_pow_right (by omega) hk)
theorem Ej {k:Nat}(hk:k < 35):2 ^ k < 34359738368:=Nat.pow_lt_pow_right (n:=35) (by omega) hk
theorem WC {n:Nat}(h:n < 34359738368):n * n≤1180591620648691826689:=by
 have h1:n≤34359738367:=by omega
 have:=Nat.mul_le_mul h1 h1
 omega
theorem cu_a {n:Nat}(h:n < 34359738368):n * n / 18446744073709551616 * n≤2199023255552:=by
 have:=WC h
 have h1:n * n / 18446744073709551616≤63:=by omega
 have:n * n / 18446744073709551616 * n≤63 * n:=Nat.mul_le_mul h1 (Nat.le_refl _)
 omega
theorem cu_b {n:Nat}(h:n < 34359738368):n * n % 18446744073709551616 * n / 18446744073709551616 < 34359738368:=by
 have h1:n * n % 18446744073709551616 < 18446744073709551616:=Nat.mod_lt _ (by omega)
 have h2:n * n % 18446744073709551616 * n≤18446744073709551616 * n:=Nat.mul_le_mul (by omega) (Nat.le_refl _)
 omega
def WE:List Nat:=[2,3,5,7,11,13,17,19,23,29,31,37,41,43,47,53,59,61,67,71,73,79,83,89,97,101,103,107,109,113,127,131,137,139,149,151,157,163,167,173,179,181,191,193,197,199,211,223,227,229,233,239,241,251,257,263,269,271,277,281,283,293,307,311,313]
def pW (i:Nat):Nat:=WE.getD i 0
theorem UK:∀ i,i < 64→pW i < pW (i+1)∧pW (i+1) < 1000∧2≤pW i∧prB (pW (i+1))=true∧∀ e,e < pW (i+1)→pW i < e→prB e=false:=by decide +kernel
def K:List Nat:=[0x428a2f98,0x71374491,0xb5c0fbcf,0xe9b5dba5,0x3956c25b,0x59f111f1,0x923f82a4,0xab1c5ed5,
 0xd807aa98,0x12835b01,0x243185be,0x550c7dc3,0x72be5d74,0x80deb1fe,0x9bdc06a7,0xc19bf174,
 0xe49b69c1,0xefbe4786,0x0fc19dc6,0x240ca1cc,0x2de92c6f,0x4a7484aa,0x5cb0a9dc,0x76f988da,
 0x983e5152,0xa831c66d,0xb00327c8,0xbf597fc7,0xc6e00bf3,0xd5a79147,0x06ca6351,0x14292967,
 0x27b70a85,0x2e1b2138,0x4d2c6dfc,0x53380d13,0x650a7354,0x766a0abb,0x81c2c92e,0x92722c85,
 0xa2bfe8a1,0xa81a664b,0xc24b8b70,0xc76c51a3,0xd192e819,0xd6990624,0xf40e3585,0x106aa070,
 0x19a4c116,0x1e376c08,0x2748774c,0x34b0bcb5,0x391c0cb3,0x4ed8aa4a,0x5b9cca4f,0x682e6ff3,
 0x748f82ee,0x78a5636f,0x84c87814,0x8cc70208,0x90befffa,0xa4506ceb,0xbef9a3f7,0xc67178f2]
def H0:List Nat:=[0x6a09e667,0xbb67ae85,0x3c6ef372,0xa54ff53a,0x510e527f,0x9b05688c,0x1f83d9ab,0x5be0cd19]
def kW (i:Nat):Nat:=K.getD i 0
def hW (i:Nat):Nat:=H0.getD i 0
theorem K_is:∀ i,i < 64→frac cuTop (pW i * 4294967296)=kW i:=by decide +kernel
theorem H_is:∀ i,i < 8→frac sqTop (pW i)=hW i:=by decide +kernel
theorem XO:∀ i,i < 8→hW i < 4294967296:=by decide +kernel
end Sha
namespace Sha
theorem WG (x:Int):W32 (x % 4294967296):=by unfold W32;omega
def yF (b:List Int) (i:Nat):Int :=
 bits .or .u32 (bits .or .u32 (bits .or .u32 (at_ b (4 * i) * 16777216) (at_ b (4 * i+1) * 65536)) (at_ b (4 * i+2) * 256)) (at_ b (4 * i+3))
theorem Qi (b:List Int) (i:Nat):W32 (yF b i):=Wv _ _ _
def near (y:Int):Int:=bits .xor .u32 (bits .xor .u32 (rotr y 17) (rotr y 19)) (y / 1024)
def far (x:Int):Int:=bits .xor .u32 (bits .xor .u32 (rotr x 7) (rotr x 18)) (x / 8)
def nxw (y b x d:Int):Int:=(near y+b+far x+d) % 4294967296
def nxl (l:List Int):Int:=nxw (at_ l (l.length - 2)) (at_ l (l.length - 7)) (at_ l (l.length - 15)) (at_ l (l.length - 16))
def grow (l:List Int):Nat→List Int
 | 0=>l
 | n+1=>let m:=grow l n;m++[nxl m]
theorem jw (l:List Int) (n:Nat):(grow l n).length=l.length+n:=by
 induction n with
 | zero=>rfl
 | succ n ih=>simp[grow,ih];omega
theorem Qj (l:List Int) (n i:Nat) (h:i < l.length):at_ (grow l n) i=at_ l i:=by
 induction n with
 | zero=>rfl
 | succ n ih=>rw[grow,bT (by rw[jw];omega),ih]
theorem iW (l:List Int) (n m i:Nat) (hm:m≤n) (h:i < l.length+m):at_ (grow l n) i=at_ (grow l m) i:=by
  induction n with
  | zero => obtain rfl:m=0:=by omega
            rfl
  | succ n ih =>
    by_cases e:m=n+1
    · subst e;rfl
    · rw[grow,bT (by rw[jw];omega),ih (by omega)]
theorem Qk (l:List Int) (h16:16≤l.length) (n i:Nat) (h0:l.length≤i) (h:i < l.length+n) :
  at_ (grow l n) i=nxw (at_ (grow l n) (i - 2)) (at_ (grow l n) (i - 7)) (at_ (grow l n) (i - 15)) (at_ (grow l n) (i - 16)):=by
 obtain⟨k,rfl⟩:∃ k,i=l.length+k:=⟨i - l.length,by omega⟩
 rw[iW l n (k+1) _ (by omega) (by omega),iW l n k (l.length+k - 2) (by omega) (by omega),iW l n k (l.length+k - 7) (by omega) (by omega),
  iW l n k (l.length+k - 15) (by omega) (by omega),iW l n k (l.length+k - 16) (by omega) (by omega)]
 rw[grow,cO (by rw[jw];omega),jw,Nat.sub_self]
 simp only[nxl,jw]
 rfl
def sched (b:List Int):List Int:=grow ((List.range 16).map (yF b)) 48
theorem bG (b:List Int):(sched b).length=64:=by simp[sched,jw]
theorem vX (b:List Int) (i:Nat) (h:i < 16):at_ (sched b) i=yF b i:=by
 rw[sched,Qj _ _ _ (by simpa using h),at_range _ _ _ h]
theorem vY (b:List Int) (i:Nat) (h0:16≤i) (h:i < 64):at_ (sched b) i=nxw (at_ (sched b) (i - 2)) (at_ (sched b) (i - 7)) (at_ (sched b) (i - 15)) (at_ (sched b) (i - 16)) :=
 Qk _ (by simp) 48 i (by simpa using h0) (by simpa using h)
theorem fH (b:List Int) (i:Nat):W32 (at_ (sched b) i):=by
 by_cases h:i < 16
 ·rw[vX b i h];exact Qi _ _
 ·by_cases h2:i < 64
  ·rw[vY b i (by omega) h2];unfold nxw W32;omega
  ·unfold at_;rw[List.getD_eq_getElem?_getD,List.getElem?_eq_none (by rw[bG];omega)];exact⟨by simp,by simp⟩
structure S8 where
 a:Int
 b:Int
 c:Int
 d:Int
 e:Int
 f:Int
 g:Int
 h:Int
def S8.toL (s:S8):List Int:=[s.a,s.b,s.c,s.d,s.e,s.f,s.g,s.h]
def S8.ok (s:S8):Prop:=W32 s.a∧W32 s.b∧W32 s.c∧W32 s.d∧W32 s.e∧W32 s.f∧W32 s.g∧W32 s.h
def Kq (x:Int):Int:=bits .xor .u32 IntKind.u32.max x
def ch (e f g:Int):Int:=bits .xor .u32 (bits .and .u32 e f) (bits .and .u32 (Kq e) g)
def maj (a b c:Int):Int:=bits .xor .u32 (bits .xor .u32 (bits .and .u32 a b) (bits .and .u32 a c)) (bits .and .u32 b c)
def step (s:S8) (k w:Int):S8 :=
 let t1:=(s.h+lg s.e 6 11 25+ch s.e s.f s.g+k+w) % 4294967296
 let t2:=(lg s.a 2 13 22+maj s.a s.b s.c) % 4294967296
 ⟨(t1+t2) % 4294967296,s.a,s.b,s.c,(s.d+t1) % 4294967296,s.e,s.f,s.g⟩
theorem step_ok {s:S8}(h:s.ok) (k w:Int):(step s k w).ok:=by
 obtain⟨h1,h2,h3,h4,h5,h6,h7,h8⟩:=h
 refine⟨?_,h1,h2,h3,?_,h5,h6,h7⟩
 ·exact WG _
 ·exact WG _
def rnds (s:S8) (w:Nat→Int):Nat→S8
 | 0=>s
 | n+1=>step (rnds s w n) (kW n:Nat) (w n)
theorem Kt {s:S8}(h:s.ok) (w:Nat→Int) (n:Nat):(rnds s w n).ok:=by
 induction n with
 | zero=>exact h
 | succ n ih=>exact step_ok ih _ _
def S8.add (s t:S8):S8:=⟨(s.a+t.a) % 4294967296,(s.b+t.b) % 4294967296,(s.c+t.c) % 4294967296,(s.d+t.d) % 4294967296,(s.e+t.e) % 4294967296,(s.f+t.f) % 4294967296,(s.g+t.g) % 4294967296,(s.h+t.h) % 4294967296⟩
theorem S8.add_ok (s t:S8):(s.add t).ok:=by
 unfold S8.add S8.ok W32
 refine⟨?_,?_,?_,?_,?_,?_,?_,?_⟩<;>constructor<;>simp only<;>omega
theorem S8.nU (s t:S8) (i:Nat) (h:i < 8):at_ (s.add t).toL i=(at_ s.toL i+at_ t.toL i) % 4294967296:=by
 match i,h with
 | 0,_|1,_|2,_|3,_|4,_|5,_|6,_|7,_=>rfl
theorem S8.at32 {s:S8}(h:s.ok) (i:Nat):W32 (at_ s.toL i):=by
 obtain⟨h1,h2,h3,h4,h5,h6,h7,h8⟩:=h
 match i with
 | 0=>exact h1
 | 1=>exact h2
 | 2=>exact h3
 | 3=>exact h4
 | 4=>exact h5
 | 5=>exact h6
 | 6=>exact h7
 | 7=>exact h8
 | n+8=>exact⟨by simp[at_,S8.toL],by simp[at_,S8.toL]⟩
def mixed (s:S8) (b:List Int):S8:=s.add (rnds s (at_ (sched b)) 64)
theorem Ql (s:S8) (b:List Int):(mixed s b).ok:=S8.add_ok _ _
def blocks (s:S8):Nat→List Int→S8
 | 0,_=>s
 | n+1,l=>blocks (mixed s (l.take 64)) n (l.drop 64)
theorem yG {s:S8}(h:s.ok) (n:Nat) (l:List Int):(blocks s n l).ok:=by
 induction n generalizing s l with
 | zero=>exact h
 | succ n ih=>exact ih (Ql _ _) _
theorem ug (s:S8) (n m:Nat) (l:List Int):blocks s (n+m) l=blocks (blocks s n l) m (l.drop (64 * n)):=by
 induction n generalizing s l with
 | zero=>simp[blocks]
 | succ n ih =>
  rw[show n+1+m=n+m+1 by omega]
  simp only[blocks]
  rw[ih,List.drop_drop]
  congr 2
  omega
theorem BK (s:S8) (n:Nat) (l:List Int) (m:Nat) (h:64 * n≤m):blocks s n (l.take m)=blocks s n l:=by
 induction n generalizing s l m with
 | zero=>rfl
 | succ n ih =>
  simp only[blocks]
  rw[List.take_take,show min 64 m=64 by omega,List.drop_take,ih _ _ _ (by omega)]
theorem lh (s:S8) (n:Nat) (l r:List Int) (h:64 * n≤l.length):blocks s n (l++r)=blocks s n l:=by
 rw[← BK s n (l++r) l.length h,List.take_left]
def S0:S8:=⟨(hW 0:Nat),(hW 1:Nat),(hW 2:Nat),(hW 3:Nat),(hW 4:Nat),(hW 5:Nat),(hW 6:Nat),(hW 7:Nat)⟩
theorem WH:S0.ok:=by
 have h:=XO
 have h0:=h 0 (by omega);have h1:=h 1 (by omega);have h2:=h 2 (by omega);have h3:=h 3 (by omega)
 have h4:=h 4 (by omega);have h5:=h 5 (by omega);have h6:=h 6 (by omega);have h7:=h 7 (by omega)
 unfold S8.ok S0 W32
 refine⟨?_,?_,?_,?_,?_,?_,?_,?_⟩<;>constructor<;>simp only<;>omega
def st (l:List Int):S8:=blocks S0 (l.length / 64) l
theorem GK (l:List Int):(st l).ok:=yG WH _ _
theorem Em (l b:List Int) (hl:l.length % 64=0) (hb:b.length=64):st (l++b)=mixed (st l) b:=by
 unfold st
 rw[List.length_append,hb,show (l.length+64) / 64=l.length / 64+1 by omega,ug,lh _ _ _ _ (by omega)]
 rw[show 64 * (l.length / 64)=l.length by omega,List.drop_left]
 simp only[blocks]
 rw[List.take_of_length_le (by omega)]
theorem BL (l r:List Int) (h:l.length % 64+r.length < 64):st (l++r)=st l:=by
 unfold st
 rw[List.length_append,show (l.length+r.length) / 64=l.length / 64 by omega,lh _ _ _ _ (by omega)]
def be8 (n:Nat):List Int:=(List.range 8).map fun i=>((n / 256 ^ (7 - i) % 256:Nat):Int)
def padn (n:Nat):Nat:=(119 - n % 64) % 64
def tail (n:Nat):List Int:=128 :: (List.replicate (padn n) 0++be8 (n * 8))
theorem pq (n:Nat):(tail n).length=9+padn n:=by simp[tail,be8];omega
theorem GL (l:List Int):(l++tail l.length).length % 64=0:=by
 rw[List.length_append,pq];unfold padn;omega
def out8 (s:S8):List Int:=s.toL.flatMap fun x=>[x / 16777216 % 256,x / 65536 % 256,x / 256 % 256,x % 256]
def sha (l:List Int):List Int:=out8 (st (l++tail l.length))
theorem eF (l:List Int):(sha l).length=32:=rfl
/- what both the code and the document use: sums of states,rounds,bytes put out,the end -/
def rZ (s v:List Int) (k:Nat):List Int:=(List.range 8).map fun i=>if i < k then (at_ s i+at_ v i) % 4294967296 else at_ s i
theorem addTo_len (s v:List Int) (k:Nat):(rZ s v k).length=8:=by simp[rZ]
theorem jy (s v:List Int) (k i:Nat) (h:i < 8):at_ (rZ s v k) i=if i < k then (at_ s i+at_ v i) % 4294967296 else at_ s i:=at_range _ _ _ h
theorem Ku (s v:List Int) (h:s.length=8):rZ s v 0=s:=by
 apply iO
 ·rw[addTo_len,h]
 ·intro i hi
  rw[addTo_len] at hi
  rw[jy _ _ _ _ hi];simp
theorem Kv (s v:S8):rZ s.toL v.toL 8=(s.add v).toL:=by
 apply iO
 ·rw[addTo_len];rfl
 ·intro i hi
  rw[addTo_len] at hi
  rw[jy _ _ _ _ hi,if_pos hi,S8.nU _ _ _ hi]
theorem yH (s v:List Int) (k:Nat):(rZ s v k).set k ((at_ s k+at_ v k) % 4294967296)=rZ s v (k+1):=by
 apply iO
 ·rw[List.length_set,addTo_len,addTo_len]
 ·intro i hi
  rw[List.length_set,addTo_len] at hi
  rw[at_set _ _ _ _ (by rw[addTo_len];exact hi),jy _ _ _ _ hi,jy _ _ _ _ hi]
  by_cases h:k=i
  ·subst h;simp
  ·rw[if_neg h]
   by_cases h2:i < k
   ·rw[if_pos h2,if_pos (by omega)]
   ·rw[if_neg h2,if_neg (by omega)]
theorem yI {s r:S8}{W:Nat→Int}{k:Nat}{t1 t2:Int}(h:rnds s W k=r)
  (h1:t1=(r.h+lg r.e 6 11 25+ch r.e r.f r.g+(kW k:Nat)+W k) % 4294967296) (h2:t2=(lg r.a 2 13 22+maj r.a r.b r.c) % 4294967296) :
  rnds s W (k+1)=⟨(t1+t2) % 4294967296,r.a,r.b,r.c,(r.d+t1) % 4294967296,r.e,r.f,r.g⟩:=by
 rw[rnds,h,h1,h2];rfl
def outK (s:S8) (k:Nat):List Int:=(List.range k).flatMap fun i=>[at_ s.toL i / 16777216 % 256,at_ s.toL i / 65536 % 256,at_ s.toL i / 256 % 256,at_ s.toL i % 256]
theorem SC (s:S8):outK s 8=out8 s:=rfl
theorem yJ (s:S8) (k:Nat):outK s (k+1)=outK s k++[at_ s.toL k / 16777216 % 256,at_ s.toL k / 65536 % 256,at_ s.toL k / 256 % 256,at_ s.toL k % 256]:=by simp[outK,List.range_succ]
theorem GM {s:S8}:Bytes (out8 s):=by
 intro x hx
 unfold out8 at hx
 obtain⟨y,hy,hx⟩:=List.mem_flatMap.1 hx
 simp only[List.mem_cons,List.not_mem_nil,or_false] at hx
 rcases hx with rfl|rfl|rfl|rfl<;>constructor<;>omega
theorem fU (l:List Int):Bytes (sha l):=GM
theorem vZ (L:Nat):padn L≤63:=by unfold padn;omega
theorem Kw (n:Nat):Bytes (be8 n):=by
 intro x hx
 unfold be8 at hx
 obtain⟨i,_,rfl⟩:=List.mem_map.1 hx
 omega
theorem uh (L:Nat):Bytes (tail L):=by
 intro x hx
 unfold tail at hx
 rcases List.mem_cons.1 hx with rfl|hx
 ·omega
 ·rcases List.mem_append.1 hx with hx|hx
  ·obtain⟨_,rfl⟩:=List.mem_replicate.1 hx;omega
  ·exact Kw _ x hx
end Sha
namespace Escrow
open Num Sha Purse
structure EV where
 src:Int
 dst:Int
 asset:Int
 amount:Int
 due:Int
 state:Int
 hash:List Int
 secret:List Int
def noE:EV:=⟨0,0,0,0,0,0,[],[]⟩
structure BS where
 p:PS
 l:List EV
def atE (l:List EV) (i:Nat):EV:=l.getD i noE
def fV (b:BS) (i j a n:Int) (h:List Int) (due clock:Int):(Int × Int) × BS :=
 if ¬ (isP b.p i=true∧isP b.p j=true∧isA b.p a=true∧amtB n=true∧n≠0∧tickB due=true∧tickB clock=true) then ((0,1),b)
 else if h.length≠32 then ((0,2),b)
 else if i=j then ((0,14),b)
 else if due≤clock then ((0,11),b)
 else if (iT b.p i a n).1≠0 then ((0,(iT b.p i a n).1),b)
 else (((b.l.length:Nat),0),⟨(iT b.p i a n).2,b.l++[⟨i,j,a,n,due,0,h,[]⟩]⟩)
def hasE (l:List EV) (id:Int):Bool:=decide (0≤id∧id < l.length)
def oq (b:BS) (who id:Int) (s:List Int) (clock:Int):Int × BS :=
 if hasE b.l id=false then (8,b)
 else if (atE b.l id.toNat).dst≠who then (14,b)
 else if (atE b.l id.toNat).state≠0 then (9,b)
 else if (atE b.l id.toNat).due≤clock∨tickB clock=false then (11,b)
 else if s.length≠32 then (2,b)
 else if sha s≠(atE b.l id.toNat).hash then (10,b)
 else if (giveP b.p who (atE b.l id.toNat).asset (atE b.l id.toNat).amount).1≠0 then ((giveP b.p who (atE b.l id.toNat).asset (atE b.l id.toNat).amount).1,b)
 else (0,⟨(giveP b.p who (atE b.l id.toNat).asset (atE b.l id.toNat).amount).2,b.l.set id.toNat { atE b.l id.toNat with state:=1,secret:=s }⟩)
def fJ (b:BS) (who id clock:Int):Int × BS :=
 if hasE b.l id=false then (8,b)
 else if (atE b.l id.toNat).src≠who then (14,b)
 else if (atE b.l id.toNat).state≠0 then (9,b)
 else if clock < (atE b.l id.toNat).due∨tickB clock=false then (11,b)
 else if (giveP b.p who (atE b.l id.toNat).asset (atE b.l id.toNat).amount).1≠0 then ((giveP b.p who (atE b.l id.toNat).asset (atE b.l id.toNat).amount).1,b)
 else (0,⟨(giveP b.p who (atE b.l id.toNat).asset (atE b.l id.toNat).amount).2,b.l.set id.toNat { atE b.l id.toNat with state:=2 }⟩)
def getB (b:BS) (id:Int):EV × Bool:=if hasE b.l id=true then (atE b.l id.toNat,true) else (noE,false)
def openN (l:List EV):Nat→Nat
 | 0=>0
 | k+1=>openN l k+if (atE l k).state=0 then 1 else 0
def openB (b:BS):Int:=openN b.l b.l.length
def aF (l:List EV) (a:Int):Nat→Int
 | 0=>0
 | k+1=>aF l a k+if (atE l k).state=0∧(atE l k).asset=a then (atE l k).amount else 0
def totB (b:BS) (a:Int):Int:=totP b.p a+aF b.l a b.l.length
theorem Qm {l:List EV}{id:Int}:hasE l id=true ↔ 0≤id∧id < l.length:=by unfold hasE;exact decide_eq_true_iff
theorem wu {l:List EV}{id:Int}(h:hasE l id=true):∃ k:Nat,id=k∧k < l.length:=by
 obtain⟨h1,h2⟩:=Qm.1 h
 exact⟨id.toNat,by omega,by omega⟩
theorem aT {l m:List EV}{k:Nat}(h:k < l.length):atE (l++m) k=atE l k:=by simp[atE,List.getD_eq_getElem?_getD,List.getElem?_append_left h]
theorem aU (l:List EV) (x:EV):atE (l++[x]) l.length=x:=by simp[atE,List.getD_eq_getElem?_getD]
theorem jV {l:List EV}{i k:Nat}(x:EV) (h:k < l.length):atE (l.set i x) k=if i=k then x else atE l k:=by
 simp[atE,List.getD_eq_getElem?_getD,List.getElem?_set]
 by_cases e:i=k
 ·subst e;simp[h]
 ·simp[e]
theorem qF {l m:List EV}:∀ {k:Nat},(∀ i,i < k→(atE l i).state=(atE m i).state)→openN l k=openN m k
  | 0,_=>rfl
  | k+1,h=>by
    unfold openN
    rw[qF (k:=k) (fun i hi=>h i (by omega)),h k (by omega)]
theorem lm {l m:List EV}{a:Int}:∀ {k:Nat},(∀ i,i < k→(atE l i).state=(atE m i).state∧(atE l i).asset=(atE m i).asset∧(atE l i).amount=(atE m i).amount)→aF l a k=aF m a k
  | 0,_=>rfl
  | k+1,h=>by
    unfold aF
    obtain⟨h1,h2,h3⟩:=h k (by omega)
    rw[lm (k:=k) (fun i hi=>h i (by omega)),h1,h2,h3]
theorem lockedN_set {l:List EV}{a:Int}{i:Nat}{x:EV}(hi:i < l.length) (h0:(atE l i).state=0) (hx:x.state≠0):∀ {k:Nat},k≤l.length→aF (l.set i x) a k=aF l a k - if i < k∧(atE l i).asset=a then (atE l i).amount else 0
  | 0,_=>by simp[aF]
  | k+1,h=>by
    have ih:=lockedN_set (a:=a) (x:=x) hi h0 hx (k:=k) (by omega)
    show aF (l.set i x) a k+(if (atE (l.set i x) k).state=0∧(atE (l.set i x) k).asset=a then (atE (l.set i x) k).amount else 0)=aF l a k+(if (atE l k).state=0∧(atE l k).asset=a then (atE l k).amount else 0) - _
    rw[ih,jV x (by omega)]
    by_cases e:i=k
    · subst e
      rw[if_pos (rfl:i=i)]
      (repeat' split)<;>omega
    · rw[if_neg e]
      (repeat' split)<;>omega
structure WB (b:BS):Prop where
 p:WF b.p
 each:∀ k,k < b.l.length→isP b.p (atE b.l k).src=true∧isP b.p (atE b.l k).dst=true∧isA b.p (atE b.l k).asset=true∧0 < (atE b.l k).amount∧(atE b.l k).amount≤4611686018427387904∧Bytes (atE b.l k).hash∧Bytes (atE b.l k).secret
 sum:∀ a,isA b.p a=true→totB b a≤4611686018427387904
theorem WB.locked {b:BS}(h:WB b) (a:Int):∀ {k:Nat},k≤b.l.length→0≤aF b.l a k
  | 0,_=>Int.le_refl _
  | k+1,hk=>by
    have h1:=h.locked a (k:=k) (by omega)
    have h2:=(h.each k (by omega)).2.2.2.1
    unfold aF
    split<;>omega
theorem WB.locked_mono {b:BS}(h:WB b) (a:Int) {j:Nat}:∀ {k:Nat},j≤k→k≤b.l.length→aF b.l a j≤aF b.l a k
  | 0,hj,_=>by
    obtain rfl:j=0:=by omega
    exact Int.le_refl _
  | k+1,hj,hk=>by
    by_cases e:j=k+1
    · subst e;exact Int.le_refl _
    · have h1:=h.locked_mono a (j:=j) (k:=k) (by omega) (by omega)
      have h2:=(h.each k (by omega)).2.2.2.1
      rw[show aF b.l a (k+1)=aF b.l a k+(if (atE b.l k).state=0∧(atE b.l k).asset=a then (atE b.l k).amount else 0) from rfl]
      split<;>omega
theorem WB.fits {b:BS}(h:WB b) {i:Nat}(hi:i < b.l.length) (h0:(atE b.l i).state=0):(atE b.l i).amount≤aF b.l (atE b.l i).asset b.l.length:=by
 have h1:=h.locked_mono (atE b.l i).asset (j:=i+1) (k:=b.l.length) (by omega) (Nat.le_refl _)
 have h2:=h.locked (atE b.l i).asset (k:=i) (by omega)
 have h3:aF b.l (atE b.l i).asset (i+1)=aF b.l (atE b.l i).asset i+(atE b.l i).amount:=by
  show _+(if _ then _ else _)=_
  rw[if_pos ⟨h0,rfl⟩]
 omega
theorem ou {s:PS}{i b:Nat}(hi:i < s.np) (hb:b < s.na) (x a:Int):totP (put s i b x) a=totP s a+if a=(b:Int) then x - s.v i b else 0:=by
 by_cases e:a=(b:Int)
 ·subst e
  rw[if_pos rfl,PO hi hb]
 ·rw[if_neg e]
  unfold totP
  cases ha:isA s a with
  | false =>
   rw[if_neg (by rw[show isA (put s i b x) a=isA s a from rfl,ha];decide),if_neg (by decide)]
   rfl
  | true =>
   rw[if_pos (by rw[show isA (put s i b x) a=isA s a from rfl,ha]),if_pos rfl]
   obtain⟨c,rfl,hc⟩:=qx ha
   simp only[Int.toNat_natCast]
   show tot (upd s.v i b x) s.np c=_
   rw[jS,if_neg (fun h=>e (by rw[h.2]))]
theorem Qn {s:PS}{i a n:Int}(h:(iT s i a n).1=0):∃ k b:Nat,i=k∧a=b∧k < s.np∧b < s.na∧0≤n∧n≤4611686018427387904∧¬ s.v k b < n∧(iT s i a n).2=put s k b (s.v k b - n):=by
 cases hf:fitB s i a n with
 | false=>rw[Uj hf] at h;simp at h
 | true =>
  obtain⟨⟨k,rfl,hk⟩,⟨b,rfl,hb⟩,h0,h1⟩:=oV.1 hf
  by_cases ht:s.v k b < n
  ·rw[Jt hf ht] at h;simp at h
  ·exact⟨k,b,rfl,rfl,hk,hb,h0,h1,ht,by rw[PN hf ht]⟩
theorem yK (l:List EV) (e:EV) (a:Int):aF (l++[e]) a (l++[e]).length=aF l a l.length+if e.state=0∧e.asset=a then e.amount else 0:=by
 rw[List.length_append,List.length_singleton]
 show aF (l++[e]) a l.length+(if (atE (l++[e]) l.length).state=0∧(atE (l++[e]) l.length).asset=a then (atE (l++[e]) l.length).amount else 0)=_
 rw[aU,lm (l:=l++[e]) (m:=l) (a:=a) (k:=l.length) (fun i hi=>by rw[aT hi];exact⟨rfl,rfl,rfl⟩)]
theorem GN (l:List EV) (e:EV):openN (l++[e]) (l++[e]).length=openN l l.length+if e.state=0 then 1 else 0:=by
 rw[List.length_append,List.length_singleton]
 show openN (l++[e]) l.length+(if (atE (l++[e]) l.length).state=0 then 1 else 0)=_
 rw[aU,qF (l:=l++[e]) (m:=l) (k:=l.length) (fun i hi=>by rw[aT hi])]
theorem pz {b:BS}{i j a n due clock:Int}{h:List Int}(k:(fV b i j a n h due clock).1.2=0):∃ i' j' a':Nat,i=i'∧j=j'∧a=a'∧i' < b.p.np∧j' < b.p.np∧a' < b.p.na∧0 < n∧n≤4611686018427387904∧¬ b.p.v i' a' < n∧i'≠j'∧h.length=32 ∧
  fV b i j a n h due clock=((((b.l.length:Nat):Int),0),(⟨put b.p i' a' (b.p.v i' a' - n),b.l++[⟨i,j,a,n,due,0,h,[]⟩]⟩:BS)):=by
 unfold fV at k ⊢
 by_cases h1:isP b.p i=true∧isP b.p j=true∧isA b.p a=true∧amtB n=true∧n≠0∧tickB due=true∧tickB clock=true
 ·rw[if_neg (fun q=>q h1)] at k ⊢
  by_cases h2:h.length≠32
  ·rw[if_pos h2] at k;simp at k
  ·rw[if_neg h2] at k ⊢
   by_cases h3:i=j
   ·rw[if_pos h3] at k;simp at k
   ·rw[if_neg h3] at k ⊢
    by_cases h4:due≤clock
    ·rw[if_pos h4] at k;simp at k
    ·rw[if_neg h4] at k ⊢
     by_cases h5:(iT b.p i a n).1≠0
     ·rw[if_pos h5] at k;exact absurd k h5
     ·rw[if_neg h5]
      obtain⟨i',a',rfl,rfl,hi,ha,n0,n1,hv,he⟩:=Qn (Decidable.not_not.1 h5)
      obtain⟨j',rfl,hj⟩:=jT h1.2.1
      exact⟨i',j',a',rfl,rfl,rfl,hi,hj,ha,by have:=h1.2.2.2.2.1;omega,n1,hv,by omega,Decidable.not_not.1 h2,by rw[he]⟩
 ·rw[if_pos h1] at k;simp at k
theorem UL {b:BS}{i j a n due clock:Int}{h:List Int}(k:(fV b i j a n h due clock).1.2≠0):(fV b i j a n h due clock).2=b∧(fV b i j a n h due clock).1.1=0:=by
 unfold fV at k ⊢
 by_cases h1:isP b.p i=true∧isP b.p j=true∧isA b.p a=true∧amtB n=true∧n≠0∧tickB due=true∧tickB clock=true
 ·rw[if_neg (fun q=>q h1)] at k ⊢
  by_cases h2:h.length≠32
  ·rw[if_pos h2];exact⟨rfl,rfl⟩
  ·rw[if_neg h2] at k ⊢
   by_cases h3:i=j
   ·rw[if_pos h3];exact⟨rfl,rfl⟩
   ·rw[if_neg h3] at k ⊢
    by_cases h4:due≤clock
    ·rw[if_pos h4];exact⟨rfl,rfl⟩
    ·rw[if_neg h4] at k ⊢
     by_cases h5:(iT b.p i a n).1≠0
     ·rw[if_pos h5];exact⟨rfl,rfl⟩
     ·rw[if_neg h5] at k;simp at k
 ·rw[if_pos h1];exact⟨rfl,rfl⟩
theorem UM {b:BS}{i j a n due clock:Int}{h:List Int}(w:WB b) (hb:Bytes h):WB (fV b i j a n h due clock).2∧(∀ c,totB (fV b i j a n h due clock).2 c=totB b c)∧(fV b i j a n h due clock).2.p.np=b.p.np∧(fV b i j a n h due clock).2.p.na=b.p.na:=by
 by_cases k:(fV b i j a n h due clock).1.2=0
 ·obtain⟨i',j',a',rfl,rfl,rfl,hi,hj,ha,n0,n1,hv,hij,hl,he⟩:=pz k
  rw[he]
  have hw:WF (put b.p i' a' (b.p.v i' a' - n)):=w.p.put hi ha (by omega) (by have:=w.p.sum a' ha;omega)
  have ht:∀ c,totB ⟨put b.p i' a' (b.p.v i' a' - n),b.l++[⟨i',j',a',n,due,0,h,[]⟩]⟩ c=totB b c:=by
   intro c
   unfold totB
   rw[ou hi ha,yK]
   by_cases e:c=(a':Int)
   ·subst e
    rw[if_pos rfl,if_pos ⟨rfl,rfl⟩]
    show totP b.p a'+(b.p.v i' a' - n - b.p.v i' a')+(aF b.l a' b.l.length+n)=_
    omega
   ·rw[if_neg e,if_neg (fun q=>e q.2.symm)];omega
  refine⟨⟨hw,fun q hq=>?_,fun c hc=>by rw[ht];exact w.sum c hc⟩,ht,rfl,rfl⟩
  simp only[List.length_append,List.length_singleton] at hq
  by_cases e:q < b.l.length
  ·simp only[aT e]
   exact w.each q e
  ·obtain rfl:q=b.l.length:=by omega
   simp only[aU]
   exact⟨vz.2 ⟨by omega,by show (i':Int) < b.p.np;omega⟩,vz.2 ⟨by omega,by show (j':Int) < b.p.np;omega⟩,vC.2 ⟨by omega,by show (a':Int) < b.p.na;omega⟩,n0,n1,hb,fun x hx=>by simp at hx⟩
 ·rw[(UL k).1]
  exact⟨w,fun _=>rfl,rfl,rfl⟩
theorem yL {b:BS}(w:WB b) {k:Nat}(hk:k < b.l.length) (h0:(atE b.l k).state=0) {who:Int}(hp:isP b.p who=true):∃ i a:Nat,who=i∧(atE b.l k).asset=a∧i < b.p.np∧a < b.p.na ∧
  giveP b.p who (atE b.l k).asset (atE b.l k).amount=(0,put b.p i a (b.p.v i a+(atE b.l k).amount))∧WF (put b.p i a (b.p.v i a+(atE b.l k).amount)):=by
 obtain⟨h1,h2,h3,h4,h5,h6,h7⟩:=w.each k hk
 obtain⟨i,rfl,hi⟩:=jT hp
 obtain⟨a,ha,ha2⟩:=qx h3
 have hf:=w.fits hk h0
 have hs:=w.sum (atE b.l k).asset h3
 unfold totB at hs
 rw[ha] at hf hs ⊢
 refine⟨i,a,rfl,rfl,hi,ha2,?_,?_⟩
 ·rw[PI (Uk hi ha2 (by omega) h5) (by omega)]
 ·have e:=w.p.put (i:=i) (a:=a) (x:=b.p.v i a+(atE b.l k).amount) hi ha2 (by have:=w.p.pos i a hi ha2;omega) (by
   rw[oW ha2] at hs;omega)
  exact e
theorem Eo {b:BS}(w:WB b) {k:Nat}(hk:k < b.l.length) (h0:(atE b.l k).state=0) {i a:Nat}(hi:i < b.p.np) (ha2:a < b.p.na) (ha:(atE b.l k).asset=a) (hw:WF (put b.p i a (b.p.v i a+(atE b.l k).amount))) {x:EV}(hx:x.state≠0)
  (e1:x.src=(atE b.l k).src) (e2:x.dst=(atE b.l k).dst) (e3:x.asset=(atE b.l k).asset) (e4:x.amount=(atE b.l k).amount) (e5:x.hash=(atE b.l k).hash) (e6:Bytes x.secret) :
  WB ⟨put b.p i a (b.p.v i a+(atE b.l k).amount),b.l.set k x⟩∧∀ c,totB ⟨put b.p i a (b.p.v i a+(atE b.l k).amount),b.l.set k x⟩ c=totB b c:=by
 have ht:∀ c,totB ⟨put b.p i a (b.p.v i a+(atE b.l k).amount),b.l.set k x⟩ c=totB b c:=by
  intro c
  unfold totB
  rw[ou hi ha2,List.length_set,lockedN_set hk h0 hx (Nat.le_refl _),ha]
  by_cases e:c=(a:Int)
  ·subst e
   rw[if_pos rfl,if_pos ⟨hk,rfl⟩];omega
  ·rw[if_neg e,if_neg (fun q=>e q.2.symm)];omega
 refine⟨⟨hw,fun q hq=>?_,fun c hc=>by rw[ht];exact w.sum c hc⟩,ht⟩
 simp only[List.length_set] at hq
 simp only[jV x hq]
 by_cases e:k=q
 ·subst e
  rw[if_pos rfl,e1,e2,e3,e4,e5]
  obtain⟨h1,h2,h3,h4,h5,h6,h7⟩:=w.each k hk
  exact⟨h1,h2,h3,h4,h5,h6,e6⟩
 ·rw[if_neg e]
  exact w.each q hq
theorem claim_cases {b:BS}(w:WB b) (who id:Int) {s:List Int}(hs:Bytes s) (clock:Int):(∃ e:Int,e≠0∧oq b who id s clock=(e,b)) ∨
  ∃ k i a:Nat,id=k∧k < b.l.length∧who=i∧i < b.p.np∧a < b.p.na∧(atE b.l k).dst=who∧(atE b.l k).state=0∧¬ (atE b.l k).due≤clock∧tickB clock=true∧s.length=32∧sha s=(atE b.l k).hash∧(atE b.l k).asset=a ∧
   oq b who id s clock=(0,⟨put b.p i a (b.p.v i a+(atE b.l k).amount),b.l.set k { atE b.l k with state:=1,secret:=s }⟩) ∧
   WB ⟨put b.p i a (b.p.v i a+(atE b.l k).amount),b.l.set k { atE b.l k with state:=1,secret:=s }⟩ ∧
   ∀ c,totB ⟨put b.p i a (b.p.v i a+(atE b.l k).amount),b.l.set k { atE b.l k with state:=1,secret:=s }⟩ c=totB b c:=by
 unfold oq
 by_cases h1:hasE b.l id=false
 ·rw[if_pos h1];exact .inl ⟨8,by decide,rfl⟩
 ·rw[if_neg h1]
  obtain⟨k,rfl,hk⟩:=wu (by simpa using h1)
  simp only[Int.toNat_natCast]
  by_cases h2:(atE b.l k).dst≠who
  ·rw[if_pos h2];exact .inl ⟨14,by decide,rfl⟩
  ·rw[if_neg h2]
   by_cases h3:(atE b.l k).state≠0
   ·rw[if_pos h3];exact .inl ⟨9,by decide,rfl⟩
   ·rw[if_neg h3]
    by_cases h4:(atE b.l k).due≤clock∨tickB clock=false
    ·rw[if_pos h4];exact .inl ⟨11,by decide,rfl⟩
    ·rw[if_neg h4]
     by_cases h5:s.length≠32
     ·rw[if_pos h5];exact .inl ⟨2,by decide,rfl⟩
     ·rw[if_neg h5]
      by_cases h6:sha s≠(atE b.l k).hash
      ·rw[if_pos h6];exact .inl ⟨10,by decide,rfl⟩
      ·rw[if_neg h6]
       have d:=Decidable.not_not.1 h2
       have s0:=Decidable.not_not.1 h3
       obtain⟨i,a,e1,e2,hi,ha,hg,hw⟩:=yL w hk s0 (who:=who) (by rw[← d];exact(w.each k hk).2.1)
       rw[hg,if_neg (by simp)]
       obtain⟨c1,c2⟩:=Eo w hk s0 hi ha e2 hw (x:={ atE b.l k with state:=1,secret:=s }) (by simp) rfl rfl rfl rfl rfl hs
       exact .inr ⟨k,i,a,rfl,hk,e1,hi,ha,d,s0,fun q=>h4 (.inl q),by simpa using fun q=>h4 (.inr q),Decidable.not_not.1 h5,Decidable.not_not.1 h6,e2,rfl,c1,c2⟩
theorem refund_cases {b:BS}(w:WB b) (who id clock:Int):(∃ e:Int,e≠0∧fJ b who id clock=(e,b)) ∨
  ∃ k i a:Nat,id=k∧k < b.l.length∧who=i∧i < b.p.np∧a < b.p.na∧(atE b.l k).src=who∧(atE b.l k).state=0∧¬ clock < (atE b.l k).due∧tickB clock=true∧(atE b.l k).asset=a ∧
   fJ b who id clock=(0,⟨put b.p i a (b.p.v i a+(atE b.l k).amount),b.l.set k { atE b.l k with state:=2 }⟩) ∧
   WB ⟨put b.p i a (b.p.v i a+(atE b.l k).amount),b.l.set k { atE b.l k with state:=2 }⟩ ∧
   ∀ c,totB ⟨put b.p i a (b.p.v i a+(atE b.l k).amount),b.l.set k { atE b.l k with state:=2 }⟩ c=totB b c:=by
 unfold fJ
 by_cases h1:hasE b.l id=false
 ·rw[if_pos h1];exact .inl ⟨8,by decide,rfl⟩
 ·rw[if_neg h1]
  obtain⟨k,rfl,hk⟩:=wu (by simpa using h1)
  simp only[Int.toNat_natCast]
  by_cases h2:(atE b.l k).src≠who
  ·rw[if_pos h2];exact .inl ⟨14,by decide,rfl⟩
  ·rw[if_neg h2]
   by_cases h3:(atE b.l k).state≠0
   ·rw[if_pos h3];exact .inl ⟨9,by decide,rfl⟩
   ·rw[if_neg h3]
    by_cases h4:clock < (atE b.l k).due∨tickB clock=false
    ·rw[if_pos h4];exact .inl ⟨11,by decide,rfl⟩
    ·rw[if_neg h4]
     have d:=Decidable.not_not.1 h2
     have s0:=Decidable.not_not.1 h3
     obtain⟨i,a,e1,e2,hi,ha,hg,hw⟩:=yL w hk s0 (who:=who) (by rw[← d];exact(w.each k hk).1)
     rw[hg,if_neg (by simp)]
     obtain⟨c1,c2⟩:=Eo w hk s0 hi ha e2 hw (x:={ atE b.l k with state:=2 }) (by simp) rfl rfl rfl rfl rfl (w.each k hk).2.2.2.2.2.2
     exact .inr ⟨k,i,a,rfl,hk,e1,hi,ha,d,s0,fun q=>h4 (.inl q),by simpa using fun q=>h4 (.inr q),e2,rfl,c1,c2⟩
theorem WB.none {b:BS}(w:WB b) {a:Int}(ha:isA b.p a=false):∀ {k:Nat},k≤b.l.length→aF b.l a k=0
  | 0,_=>rfl
  | k+1,hk=>by
    have h1:=w.none ha (k:=k) (by omega)
    have h2:=(w.each k (by omega)).2.2.1
    show aF b.l a k+(if (atE b.l k).state=0∧(atE b.l k).asset=a then (atE b.l k).amount else 0)=0
    rw[h1,if_neg]
    · rfl
    · rintro ⟨-,e⟩
      rw[e,ha] at h2
      cases h2
theorem WB.part {b:BS}(w:WB b) (a:Int) {k:Nat}(hk:k≤b.l.length):0≤totP b.p a+aF b.l a k∧totP b.p a+aF b.l a k≤4611686018427387904:=by
 have h0:=w.locked a hk
 have ht:0≤totP b.p a:=by
  unfold totP
  cases ha:isA b.p a with
  | false=>rw[if_neg (by decide)];exact Int.le_refl _
  | true =>
   obtain⟨c,rfl,hc⟩:=qx ha
   rw[if_pos rfl,Int.toNat_natCast]
   exact w.p.tot0 hc
 refine⟨by omega,?_⟩
 cases ha:isA b.p a with
 | false =>
  rw[w.none ha hk]
  unfold totP
  rw[ha,if_neg (by decide)]
  omega
 | true =>
  have h1:=w.locked_mono a hk (Nat.le_refl _)
  have h2:=w.sum a ha
  unfold totB at h2
  omega
end Escrow
namespace Ledger
open Num Sha Purse Escrow Wire Req
structure LE where
 v:VV
 who:Int
 at_:Int
structure LS where
 cap:Int
 b:BS
 clock:Int
 e:List LE
def evs (s:LS):List VV:=s.e.map (·.v)
theorem BO (s:LS):(evs s).length=s.e.length:=by simp[evs]
def yM (s:LS) (n:Int):Bool:=decide ((s.e.length:Int)+openB s.b+n≤s.cap)
def evOf (party id:Int) (r:RV):VV:=⟨r.kind,if r.kind≤2 then party else 0,r.dst,r.asset,r.amount,if r.kind=2 then id else r.id,r.due,r.hash,r.sec⟩
def actL (s:LS) (party:Int) (r:RV):(Int × Int) × BS :=
 if r.kind=1 then
  (if yM s 1=false then ((0,12),s.b) else if r.amount=0 then ((0,1),s.b) else ((0,(moveP s.b.p party r.dst r.asset r.amount).1),⟨(moveP s.b.p party r.dst r.asset r.amount).2,s.b.l⟩))
 else if r.kind=2 then
  (if yM s 2=false then ((0,12),s.b) else fV s.b party r.dst r.asset r.amount r.hash r.due s.clock)
 else if r.kind=3 then ((0,(oq s.b party r.id r.sec s.clock).1),(oq s.b party r.id r.sec s.clock).2)
 else ((0,(fJ s.b party r.id s.clock).1),(fJ s.b party r.id s.clock).2)
def oneL (s:LS) (party:Int) (r:RV):PV × LS :=
  if MayR r∧isP s.b.p party=true then
    (if (actL s party r).1.2=0 then (⟨0,(actL s party r).1.1⟩,⟨s.cap,(actL s party r).2,s.clock,s.e++[⟨evOf party (actL s party r).1.1 r,party,s.clock⟩]⟩)
     else (⟨(actL s party r).1.2,0⟩,s))
  else (⟨1,0⟩,s)
def manyL (s:LS) (party:Int):List RV→List PV × LS
 | []=>([],s)
 | r :: l=>((oneL s party r).1 :: (manyL (oneL s party r).2 party l).1,(manyL (oneL s party r).2 party l).2)
theorem GR (s:LS) (party:Int) (l:List RV) (r:RV):manyL s party (l++[r])=((manyL s party l).1++[(oneL (manyL s party l).2 party r).1],(oneL (manyL s party l).2 party r).2):=by
 induction l generalizing s with
 | nil=>rfl
 | cons x l ih=>simp only[List.cons_append,manyL,ih]
theorem yN (s:LS) (party:Int) (l:List RV):(manyL s party l).1.length=l.length:=by
 induction l generalizing s with
 | nil=>rfl
 | cons x l ih=>simp only[manyL,List.length_cons,ih]
def clockL (s:LS) (clock:Int):LS:=if Tck clock∧s.clock < clock then ⟨s.cap,s.b,clock,s.e⟩ else s
def oJ (s:LS) (seen:Int):List VV:=if 0≤seen∧seen≤s.e.length then (evs s).drop seen.toNat else []
def applyL (s:LS) (party clock:Int) (x:BV):AV × LS :=
 (⟨(manyL (clockL s clock) party (x.l.take 64)).2.clock,((manyL (clockL s clock) party (x.l.take 64)).2.e.length:Nat),(manyL (clockL s clock) party (x.l.take 64)).1,oJ (manyL (clockL s clock) party (x.l.take 64)).2 x.seen⟩,(manyL (clockL s clock) party (x.l.take 64)).2)
def newL (n:Nat) (X:Nat→List Int) (cap:Int):LS:=⟨cap,⟨newP n X,[]⟩,0,[]⟩
def bU (n:Nat) (X:Nat→List Int) (cap:Int):Prop:=mG n X∧1≤cap∧cap≤400
def WJ (x:LE):List Int:=be x.who.toNat 1++(be x.at_.toNat 8++putV x.v)
def Qo (s:LS):List Int:=be s.clock.toNat 8++(be s.e.length 2++s.e.flatMap WJ)
structure WL (s:LS):Prop where
 wb:WB s.b
 cap:1≤s.cap∧s.cap≤400
 room:(s.e.length:Int)+openB s.b≤s.cap
 clock:Tck s.clock
 each:∀ x∈s.e,MayV x.v∧x.v.ok∧isP s.b.p x.who=true∧Tck x.at_
 locks:s.b.l.length≤s.e.length
 hash:∀ k,k < s.b.l.length→(atE s.b.l k).state=0∨(atE s.b.l k).state=1∨(atE s.b.l k).state=2
theorem WL.len {s:LS}(h:WL s):s.e.length≤400:=by
 have h1:=h.room;have h2:=h.cap.2
 have h3:0≤openB s.b:=by unfold openB;omega
 omega
theorem Ky {n:Nat}{X:Nat→List Int}{cap:Int}(h:bU n X cap):WL (newL n X cap) where
 wb:=by
  refine⟨h.1.wf,fun k hk=>absurd hk (Nat.not_lt_zero _),fun a ha=>?_⟩
  obtain⟨q,rfl,hq⟩:=qx ha
  show totP (newP n X) q+0≤_
  rw[Int.add_zero,oW (s:=newP n X) hq]
  exact h.1.wf.sum q hq
 cap:=h.2
 room:=by
  show ((0:Nat):Int)+openB ⟨newP n X,[]⟩≤cap
  have:openB ⟨newP n X,[]⟩=0:=rfl
  rw[this];have:=h.2.1;omega
 clock:=(by decide:Tck 0)
 each x hx:=by simp[newL] at hx
 locks:=Nat.le_refl _
 hash k hk:=absurd hk (Nat.not_lt_zero _)
theorem lq (s:LS) (c:Int):(clockL s c).e=s.e:=by unfold clockL;split<;>rfl
theorem ww (s:LS) (c:Int):(clockL s c).b=s.b:=by unfold clockL;split<;>rfl
theorem GU (s:LS) (c:Int):(clockL s c).cap=s.cap:=by unfold clockL;split<;>rfl
theorem yO (s:LS) (c:Int):s.clock≤(clockL s c).clock:=by
 unfold clockL
 split
 ·rename_i h;have:=h.2;exact Int.le_of_lt this
 ·exact Int.le_refl _
theorem yP {s:LS}(h:WL s) (c:Int):WL (clockL s c):=by
 unfold clockL
 split
 ·rename_i hc;exact⟨h.wb,h.cap,h.room,hc.1,h.each,h.locks,h.hash⟩
 ·exact h
theorem UN {b:BS}(w:WB b) (i j a n:Int):WB ⟨(moveP b.p i j a n).2,b.l⟩∧∀ c,totB ⟨(moveP b.p i j a n).2,b.l⟩ c=totB b c:=by
 have hn:=tK b.p i j a n
 have hP:∀ x,isP (moveP b.p i j a n).2 x=isP b.p x:=fun x=>by unfold isP;rw[hn.1]
 have hA:∀ x,isA (moveP b.p i j a n).2 x=isA b.p x:=fun x=>by unfold isA;rw[hn.2]
 have ht:∀ c,totB ⟨(moveP b.p i j a n).2,b.l⟩ c=totB b c:=fun c=>by
  unfold totB
  congr 1
  show totP (moveP b.p i j a n).2 c=totP b.p c
  unfold totP
  rw[hA,hn.1]
  have:=Ju b.p i j a n c.toNat
  rw[this]
 refine⟨⟨PH w.p i j a n,fun k hk=>?_,fun c hc=>?_⟩,ht⟩
 ·have:=w.each k hk
  simp only[hP,hA]
  exact this
 ·rw[ht]
  exact w.sum c (by rw[← hA];exact hc)
theorem Kz {b:BS}{i j a n due clock:Int}{h:List Int}(k:(fV b i j a n h due clock).1.2=0):openB (fV b i j a n h due clock).2=openB b+1∧(fV b i j a n h due clock).2.l.length=b.l.length+1:=by
 obtain⟨i',j',a',rfl,rfl,rfl,hi,hj,ha,n0,n1,hv,hij,hl,he⟩:=pz k
 rw[he]
 refine⟨?_,by simp⟩
 show ((openN (b.l++[_]) (b.l++[_]).length:Nat):Int)=(openN b.l b.l.length:Nat)+1
 rw[GN]
 simp
theorem qG {l:List EV}{i:Nat}{x:EV}(hi:i < l.length) (h0:(atE l i).state=0) (hx:x.state≠0):∀ {k:Nat},k≤l.length→openN (l.set i x) k+(if i < k then 1 else 0)=openN l k
  | 0,_=>by simp[openN]
  | k+1,h=>by
    have ih:=qG (x:=x) hi h0 hx (k:=k) (by omega)
    show openN (l.set i x) k+(if (atE (l.set i x) k).state=0 then 1 else 0)+_=openN l k+(if (atE l k).state=0 then 1 else 0)
    rw[jV x (by omega)]
    by_cases e:i=k
    · subst e
      rw[if_pos (rfl:i=i),if_neg hx,if_pos h0,if_pos (by omega)]
      rw[if_neg (by omega)] at ih
      omega
    · rw[if_neg e]
      (repeat' split)<;>(repeat' split at ih)<;>omega
theorem uj {l:List EV}{i:Nat}{x:EV}(hx:x.state=0∨x.state=1∨x.state=2) (h:∀ k,k < l.length→(atE l k).state=0∨(atE l k).state=1∨(atE l k).state=2):∀ k,k < (l.set i x).length→(atE (l.set i x) k).state=0∨(atE (l.set i x) k).state=1∨(atE (l.set i x) k).state=2:=by
 intro k hk
 rw[List.length_set] at hk
 rw[jV x hk]
 split
 ·exact hx
 ·exact h k hk
theorem KU {s:LS}(w:WL s) {party:Int}{r:RV}(hr:r.ok) (hm:MayR r) (hp:isP s.b.p party=true) (h:(actL s party r).1.2=0) :
  WL ⟨s.cap,(actL s party r).2,s.clock,s.e++[⟨evOf party (actL s party r).1.1 r,party,s.clock⟩]⟩∧(∀ c,totB (actL s party r).2 c=totB s.b c)∧(actL s party r).2.p.np=s.b.p.np∧(actL s party r).2.p.na=s.b.p.na:=by
 have hpb:B8 party:=by
  obtain⟨k,rfl,hk⟩:=jT hp
  have:=w.wb.p.p16
  exact⟨by omega,by omega⟩
 have hv:∀ id,I16 id→(r.kind≠2→id=0)→MayV (evOf party id r)∧(evOf party id r).ok:=by
  intro id hid _
  refine⟨?_,hr⟩
  unfold evOf
  rcases hm with⟨h1,h2,h3,h4,h5,h6,h7,h8⟩|⟨h1,h2,h3,h4,h5,h6,h7,h8⟩|⟨h1,h2,h3,h4,h5,h6,h7,h8⟩|⟨h1,h2,h3,h4,h5,h6,h7,h8⟩<;>unfold MayV<;>simp[*]
 have hlen:=w.len
 have fin:∀ (b':BS) (id:Int),WB b'→b'.p.np=s.b.p.np→((s.e.length:Int)+1)+openB b'≤s.cap→b'.l.length≤s.e.length+1→(∀ k,k < b'.l.length→(atE b'.l k).state=0∨(atE b'.l k).state=1∨(atE b'.l k).state=2)→MayV (evOf party id r)∧(evOf party id r).ok →
   WL ⟨s.cap,b',s.clock,s.e++[⟨evOf party id r,party,s.clock⟩]⟩:=fun b' id h1 h2 h3 h4 h5 h6=>by
  have hP:∀ x,isP b'.p x=isP s.b.p x:=fun x=>by unfold isP;rw[h2]
  refine⟨h1,w.cap,by simp only[List.length_append,List.length_singleton];push_cast;exact h3,w.clock,fun x hx=>?_,by simp only[List.length_append,List.length_singleton];exact h4,h5⟩
  rcases List.mem_append.1 hx with hx|hx
  ·have:=w.each x hx
   exact⟨this.1,this.2.1,by rw[hP];exact this.2.2.1,this.2.2.2⟩
  ·rw[List.mem_singleton] at hx
   subst hx
   exact⟨h6.1,h6.2,by rw[hP];exact hp,w.clock⟩
 have hroom:∀ n,yM s n≠false→(s.e.length:Int)+openB s.b+n≤s.cap:=fun n k=>by
  unfold yM at k
  simpa using k
 unfold actL at h ⊢
 split
 ·rename_i h1
  rw[if_pos h1] at h
  split
  ·rename_i h2;rw[if_pos h2] at h;simp at h
  ·rename_i h2
   rw[if_neg h2] at h
   split
   ·rename_i h3;rw[if_pos h3] at h;simp at h
   ·rename_i h3
    rw[if_neg h3] at h
    obtain⟨k1,k2⟩:=UN w.wb party r.dst r.asset r.amount
    have hs:=tK s.b.p party r.dst r.asset r.amount
    refine⟨fin _ 0 k1 hs.1 ?_ (by have:=w.locks;dsimp only;omega) w.hash (hv 0 ⟨by omega,by omega⟩ (fun _=>rfl)),k2,hs.1,hs.2⟩
    have:=hroom 1 h2
    show _+openB ⟨_,s.b.l⟩≤_
    have e:openB ⟨(moveP s.b.p party r.dst r.asset r.amount).2,s.b.l⟩=openB s.b:=rfl
    rw[e];omega
 ·rename_i h1
  rw[if_neg h1] at h
  split
  ·rename_i h2
   rw[if_pos h2] at h
   split
   ·rename_i h3;rw[if_pos h3] at h;simp at h
   ·rename_i h3
    rw[if_neg h3] at h
    obtain⟨k1,k2,k3,k4⟩:=UM (i:=party) (j:=r.dst) (a:=r.asset) (n:=r.amount) (due:=r.due) (clock:=s.clock) w.wb hr.1
    obtain⟨o1,o2⟩:=Kz h
    have hl:=w.locks
    obtain⟨_,_,_,_,_,_,_,_,_,_,_,_,_,_,he⟩:=pz h
    have hid:(fV s.b party r.dst r.asset r.amount r.hash r.due s.clock).1.1=(s.b.l.length:Nat):=by rw[he]
    refine⟨fin _ _ k1 k3 ?_ (by rw[o2];omega) ?_ (hv _ (by rw[hid];exact⟨by omega,by omega⟩) (fun q=>absurd h2 q)),k2,k3,k4⟩
    ·have:=hroom 2 h3
     rw[o1];omega
    ·intro k hk
     have hll:(fV s.b party r.dst r.asset r.amount r.hash r.due s.clock).2.l=s.b.l++[⟨party,r.dst,r.asset,r.amount,r.due,0,r.hash,[]⟩]:=by rw[he]
     rw[hll] at hk ⊢
     simp only[List.length_append,List.length_singleton] at hk
     by_cases q:k < s.b.l.length
     ·rw[aT q];exact w.hash k q
     ·obtain rfl:k=s.b.l.length:=by omega
      rw[aU];exact .inl rfl
  ·rename_i h2
   rw[if_neg h2] at h
   split
   ·rename_i h3
    rw[if_pos h3] at h
    rcases claim_cases w.wb party r.id hr.2 s.clock with⟨e,he0,he⟩|⟨k,i,a,hk0,hk,-,hi,ha,-,h0,-,-,-,-,-,he,hw,ht⟩
    ·rw[he] at h;exact absurd h he0
    ·rw[he]
     refine⟨fin _ 0 hw rfl ?_ (by simp only[List.length_set];have:=w.locks;omega) (uj (.inr (.inl rfl)) w.hash) (hv 0 ⟨by omega,by omega⟩ (fun _=>rfl)),ht,rfl,rfl⟩
     have e:=qG (x:={ atE s.b.l k with state:=1,secret:=r.sec }) hk h0 (by simp) (Nat.le_refl _)
     rw[if_pos hk] at e
     have:=w.room
     show _+((openN (s.b.l.set k _) (s.b.l.set k _).length:Nat):Int)≤_
     rw[List.length_set]
     unfold openB at this
     omega
   ·rename_i h3
    rw[if_neg h3] at h
    rcases refund_cases w.wb party r.id s.clock with⟨e,he0,he⟩|⟨k,i,a,hk0,hk,-,hi,ha,-,h0,-,-,-,he,hw,ht⟩
    ·rw[he] at h;exact absurd h he0
    ·rw[he]
     refine⟨fin _ 0 hw rfl ?_ (by simp only[List.length_set];have:=w.locks;omega) (uj (.inr (.inr rfl)) w.hash) (hv 0 ⟨by omega,by omega⟩ (fun _=>rfl)),ht,rfl,rfl⟩
     have e:=qG (x:={ atE s.b.l k with state:=2 }) hk h0 (by simp) (Nat.le_refl _)
     rw[if_pos hk] at e
     have:=w.room
     show _+((openN (s.b.l.set k _) (s.b.l.set k _).length:Nat):Int)≤_
     rw[List.length_set]
     unfold openB at this
     omega
def dC:List VV→Nat
 | []=>0
 | v :: l=>(if v.kind=2 then 1 else 0)+dC l
theorem iY (l m:List VV):dC (l++m)=dC l+dC m:=by
 induction l with
 | nil=>simp[dC]
 | cons v l ih=>simp only[List.cons_append,dC,ih];omega
def stOf (k:Int):Int→List VV→Int
 | s,[]=>s
 | s,v :: l=>stOf k (if 2 < v.kind∧v.id=k then v.kind - 2 else s) l
theorem BP (k s:Int) (l m:List VV):stOf k s (l++m)=stOf k (stOf k s l) m:=by
 induction l generalizing s with
 | nil=>rfl
 | cons v l ih=>exact ih _
structure WI (s:LS):Prop where
 all:dC (evs s)=s.b.l.length
 lock:∀ (i:Nat) (v:VV),(evs s)[i]?=some v→v.kind=2→v.id=dC ((evs s).take i)∧v.src=(atE s.b.l (dC ((evs s).take i))).src∧v.dst=(atE s.b.l (dC ((evs s).take i))).dst∧v.amount=(atE s.b.l (dC ((evs s).take i))).amount∧v.asset=(atE s.b.l (dC ((evs s).take i))).asset∧v.hash=(atE s.b.l (dC ((evs s).take i))).hash∧v.due=(atE s.b.l (dC ((evs s).take i))).due
 close:∀ (i:Nat) (v:VV),(evs s)[i]?=some v→2 < v.kind→0≤v.id∧v.id < (dC ((evs s).take i):Nat)∧stOf v.id 0 ((evs s).take i)=0
 st:∀ k:Nat,k < s.b.l.length→stOf (k:Int) 0 (evs s)=(atE s.b.l k).state
 due:∀ (i:Nat) (v:VV),(evs s)[i]?=some v→v.kind=1∨v.kind=2∨v.kind=3∨v.kind=4
theorem KX (n:Nat) (X:Nat→List Int) (cap:Int):WI (newL n X cap) where
 all:=rfl
 lock i v h:=by simp[newL,evs] at h
 close i v h:=by simp[newL,evs] at h
 st k hk:=absurd hk (Nat.not_lt_zero _)
 due i v h:=by simp[newL,evs] at h
theorem KY {s:LS}(h:WI s) (c:Int):WI (clockL s c):=by
 unfold clockL
 split
 ·exact⟨h.all,h.lock,h.close,h.st,h.due⟩
 ·exact h
theorem Qp (s:LS) (b:BS) (x:LE):evs ⟨s.cap,b,s.clock,s.e++[x]⟩=evs s++[x.v]:=by simp[evs]
theorem wB {l:List VV}{i:Nat}{v:VV}(h:l[i]?=some v) (hk:v.kind=2):dC (l.take i) < dC l:=by
 obtain⟨hi,rfl⟩:=List.getElem?_eq_some_iff.1 h
 have:l=l.take i++(l[i] :: l.drop (i+1)):=by
  rw[← List.drop_eq_getElem_cons hi,List.take_append_drop]
 have e:dC l=dC (l.take i)+dC (l[i] :: l.drop (i+1)):=by
  rw[← iY,← this]
 rw[e]
 simp only[dC,if_pos hk]
 omega
theorem Ep {k:Int}:∀ {l:List VV}{s:Int},(∀ v∈l,2 < v.kind→v.id≠k)→stOf k s l=s
  | [],_,_=>rfl
  | v :: l,s,h=>by
    show stOf k (if 2 < v.kind∧v.id=k then v.kind - 2 else s) l=s
    rw[if_neg (fun q=>h v (List.mem_cons_self ..) q.1 q.2)]
    exact Ep (fun u hu=>h u (List.mem_cons_of_mem _ hu))
theorem vT {s:LS}(w:WI s) {b':BS}{x:LE}
  (hk:x.v.kind=1∨x.v.kind=2∨x.v.kind=3∨x.v.kind=4)
  (h1:x.v.kind=1→b'.l=s.b.l)
  (h2:x.v.kind=2→∃ e,b'.l=s.b.l++[e]∧e.state=0∧x.v.id=s.b.l.length∧x.v.src=e.src∧x.v.dst=e.dst∧x.v.amount=e.amount∧x.v.asset=e.asset∧x.v.hash=e.hash∧x.v.due=e.due)
  (h3:2 < x.v.kind→∃ k e,x.v.id=(k:Nat)∧k < s.b.l.length∧(atE s.b.l k).state=0∧b'.l=s.b.l.set k e∧e.state=x.v.kind - 2∧e.src=(atE s.b.l k).src∧e.dst=(atE s.b.l k).dst∧e.amount=(atE s.b.l k).amount∧e.asset=(atE s.b.l k).asset∧e.hash=(atE s.b.l k).hash∧e.due=(atE s.b.l k).due) :
  WI ⟨s.cap,b',s.clock,s.e++[x]⟩:=by
 have same:∀ j,j < s.b.l.length→j < b'.l.length∧(atE b'.l j).src=(atE s.b.l j).src∧(atE b'.l j).dst=(atE s.b.l j).dst∧(atE b'.l j).amount=(atE s.b.l j).amount∧(atE b'.l j).asset=(atE s.b.l j).asset∧(atE b'.l j).hash=(atE s.b.l j).hash∧(atE b'.l j).due=(atE s.b.l j).due:=by
  intro j hj
  rcases hk with q|q|q
  ·rw[h1 q];exact⟨hj,rfl,rfl,rfl,rfl,rfl,rfl⟩
  ·obtain⟨e,he,-⟩:=h2 q
   rw[he,aT hj]
   exact⟨by simp;omega,rfl,rfl,rfl,rfl,rfl,rfl⟩
  ·obtain⟨k,e,-,hkl,-,he,-,e1,e2,e3,e4,e5,e6⟩:=h3 (by omega)
   rw[he,jV e hj]
   refine⟨by rw[List.length_set];exact hj,?_⟩
   split
   ·rename_i hkj;subst hkj;exact⟨e1,e2,e3,e4,e5,e6⟩
   ·exact⟨rfl,rfl,rfl,rfl,rfl,rfl⟩
 have parts:∀ i v,(evs s++[x.v])[i]?=some v→(i < (evs s).length∧(evs s)[i]?=some v∧(evs s++[x.v]).take i=(evs s).take i)∨(i=(evs s).length∧v=x.v∧(evs s++[x.v]).take i=evs s):=by
  intro i v h
  by_cases hi:i < (evs s).length
  ·rw[List.getElem?_append_left hi] at h
   exact .inl ⟨hi,h,List.take_append_of_le_length (by omega)⟩
  ·have hl:=(List.getElem?_eq_some_iff.1 h).1
   simp only[List.length_append,List.length_singleton] at hl
   obtain rfl:i=(evs s).length:=by omega
   rw[List.getElem?_append_right (Nat.le_refl _)] at h
   simp at h
   exact .inr ⟨rfl,h.symm,by simp⟩
 refine⟨?_,?_,?_,?_,?_⟩<;>simp only[Qp]
 ·rw[iY,w.all]
  rcases hk with q|q|q
  ·rw[h1 q];simp[dC,q]
  ·obtain⟨e,he,-⟩:=h2 q
   rw[he];simp[dC,q]
  ·obtain⟨k,e,-,-,-,he,-⟩:=h3 (by omega)
   rw[he];simp[dC];omega
 ·intro i v h hv
  rcases parts i v h with⟨hi,h0,ht⟩|⟨hi,rfl,ht⟩
  ·rw[ht]
   obtain⟨a1,a2,a3,a4,a5,a6,a7⟩:=w.lock i v h0 hv
   have hlt:=wB h0 hv
   rw[w.all] at hlt
   obtain⟨-,c1,c2,c3,c4,c5,c6⟩:=same _ hlt
   exact⟨a1,by rw[c1];exact a2,by rw[c2];exact a3,by rw[c3];exact a4,by rw[c4];exact a5,by rw[c5];exact a6,by rw[c6];exact a7⟩
  ·rw[ht,w.all]
   obtain⟨e,he,-,e0,e1,e2,e3,e4,e5,e6⟩:=h2 hv
   rw[he,aU]
   exact⟨e0,e1,e2,e3,e4,e5,e6⟩
 ·intro i v h hv
  rcases parts i v h with⟨hi,h0,ht⟩|⟨hi,rfl,ht⟩
  ·rw[ht];exact w.close i v h0 hv
  ·rw[ht,w.all]
   obtain⟨k,e,e0,hkl,hst,-⟩:=h3 hv
   rw[e0]
   exact⟨by omega,by omega,by rw[w.st k hkl];exact hst⟩
 ·intro k hkl
  rw[BP]
  show (if 2 < x.v.kind∧x.v.id=(k:Int) then x.v.kind - 2 else stOf k 0 (evs s))=_
  rcases hk with q|q|q
  ·rw[if_neg (fun r=>by omega)]
   rw[show b'.l=s.b.l from h1 q] at hkl ⊢
   exact w.st k hkl
  ·rw[if_neg (fun r=>by omega)]
   obtain⟨e,he,e0,-⟩:=h2 q
   rw[show b'.l=s.b.l++[e] from he] at hkl ⊢
   simp only[List.length_append,List.length_singleton] at hkl
   by_cases hj:k < s.b.l.length
   ·rw[aT hj];exact w.st k hj
   ·obtain rfl:k=s.b.l.length:=by omega
    rw[aU,e0]
    refine Ep (fun v hv hk2=>?_)
    obtain⟨i,hi⟩:=List.mem_iff_getElem?.1 hv
    have:=(w.close i v hi hk2).2.1
    have h5:dC ((evs s).take i)≤dC (evs s):=by
     have:evs s=(evs s).take i++(evs s).drop i:=(List.take_append_drop ..).symm
     have e:=congrArg dC this
     rw[iY] at e
     omega
    rw[w.all] at h5
    omega
  ·obtain⟨j,e,e0,hj,-,he,e1,-⟩:=h3 (by omega)
   rw[show b'.l=s.b.l.set j e from he] at hkl ⊢
   rw[List.length_set] at hkl
   rw[jV e hkl,e0]
   by_cases hjk:j=k
   ·subst hjk
    rw[if_pos ⟨by omega,rfl⟩,if_pos rfl,e1]
   ·rw[if_neg (fun r=>hjk (by have:=r.2;omega)),if_neg hjk]
    exact w.st k hkl
 ·intro i v h
  rcases parts i v h with⟨hi,h0,ht⟩|⟨hi,rfl,ht⟩
  ·exact w.due i v h0
  ·exact hk
structure aA (s s':LS):Prop where
 wl:WL s'
 wi:WI s'
 tot:∀ c,totB s'.b c=totB s.b c
 np:s'.b.p.np=s.b.p.np
 na:s'.b.p.na=s.b.p.na
 cap:s'.cap=s.cap
 clock:s.clock≤s'.clock
 e:∃ m,s'.e=s.e++m
theorem aA.refl {s:LS}(h:WL s) (k:WI s):aA s s:=⟨h,k,fun _=>rfl,rfl,rfl,rfl,Int.le_refl _,[],by simp⟩
theorem aA.trans {a b c:LS}(h:aA a b) (k:aA b c):aA a c :=
 ⟨k.wl,k.wi,fun x=>(k.tot x).trans (h.tot x),k.np.trans h.np,k.na.trans h.na,k.cap.trans h.cap,Int.le_trans h.clock k.clock,by
  obtain⟨m,hm⟩:=h.e;obtain⟨n,hn⟩:=k.e
  exact⟨m++n,by rw[hn,hm,List.append_assoc]⟩⟩
theorem fA {s:LS}(h:WL s) (k:WI s) (c:Int):aA s (clockL s c) :=
 ⟨yP h c,KY k c,fun x=>by rw[ww],by rw[ww],by rw[ww],GU s c,yO s c,[],by rw[lq];simp⟩
theorem mO {s:LS}(w:WL s) (wi:WI s) {party:Int}{r:RV}(hr:r.ok):aA s (oneL s party r).2∧(oneL s party r).2.clock=s.clock∧(oneL s party r).2.e.length=s.e.length+(if (oneL s party r).1.code=0 then 1 else 0):=by
 unfold oneL
 by_cases h1:MayR r∧isP s.b.p party=true
 ·rw[if_pos h1]
  by_cases h2:(actL s party r).1.2=0
  ·rw[if_pos h2]
   obtain⟨k1,k2,k3,k4⟩:=KU w hr h1.1 h1.2 h2
   refine⟨⟨k1,?_,k2,k3,k4,rfl,Int.le_refl _,_,rfl⟩,rfl,by simp⟩
   have hkind:r.kind=1∨r.kind=2∨r.kind=3∨r.kind=4:=by
    rcases h1.1 with h|h|h|h
    ·exact .inl h.1
    ·exact .inr (.inl h.1)
    ·exact .inr (.inr (.inl h.1))
    ·exact .inr (.inr (.inr h.1))
   refine vT wi hkind (fun q=>?_) (fun q=>?_) (fun q=>?_)
   ·have q':r.kind=1:=q
    unfold actL at h2 ⊢
    rw[if_pos q'] at h2 ⊢
    split
    ·rfl
    ·split
     ·rfl
     ·rfl
   ·have q':r.kind=2:=q
    have q1:¬ r.kind=1:=by omega
    unfold actL at h2 ⊢
    rw[if_neg q1,if_pos q'] at h2 ⊢
    by_cases h3:yM s 2=false
    ·rw[if_pos h3] at h2;simp at h2
    ·rw[if_neg h3] at h2 ⊢
     obtain⟨i',j',a',e1,e2,e3,-,-,-,-,-,-,-,-,he⟩:=pz h2
     rw[he]
     refine⟨_,rfl,rfl,?_,?_,rfl,rfl,rfl,rfl,rfl⟩
     ·show (if r.kind=2 then ((s.b.l.length:Nat):Int) else r.id)=_
      rw[if_pos q']
     ·show (if r.kind≤2 then party else 0)=_
      rw[if_pos (by omega)]
   ·have q':2 < r.kind:=q
    have q1:¬ r.kind=1:=by omega
    have q2:¬ r.kind=2:=by omega
    have hid:(evOf party (actL s party r).1.1 r).id=r.id:=if_neg q2
    unfold actL at h2 hid ⊢
    rw[if_neg q1,if_neg q2] at h2 hid ⊢
    by_cases h3:r.kind=3
    ·rw[if_pos h3] at h2 hid ⊢
     rcases claim_cases w.wb party r.id hr.2 s.clock with⟨e,he0,he⟩|⟨k,i,a,hk0,hk,-,hi,ha,-,h0,-,-,-,-,-,he,hw,ht⟩
     ·rw[he] at h2;exact absurd h2 he0
     ·refine⟨k,{ atE s.b.l k with state:=1,secret:=r.sec },?_,hk,h0,by rw[he],?_,rfl,rfl,rfl,rfl,rfl,rfl⟩
      ·exact hid.trans hk0
      ·show (1:Int)=r.kind - 2;omega
    ·rw[if_neg h3] at h2 hid ⊢
     rcases refund_cases w.wb party r.id s.clock with⟨e,he0,he⟩|⟨k,i,a,hk0,hk,-,hi,ha,-,h0,-,-,-,he,hw,ht⟩
     ·rw[he] at h2;exact absurd h2 he0
     ·refine⟨k,{ atE s.b.l k with state:=2 },?_,hk,h0,by rw[he],?_,rfl,rfl,rfl,rfl,rfl,rfl⟩
      ·exact hid.trans hk0
      ·show (2:Int)=r.kind - 2;omega
  ·rw[if_neg h2]
   exact⟨aA.refl w wi,rfl,by simp[h2]⟩
 ·rw[if_neg h1]
  exact⟨aA.refl w wi,rfl,by simp⟩
def Lc:List PV→Nat
 | []=>0
 | p :: l=>(if p.code=0 then 1 else 0)+Lc l
theorem iw {s:LS}(w:WL s) (wi:WI s) (party:Int):∀ (l:List RV),(∀ r∈l,r.ok)→aA s (manyL s party l).2∧(manyL s party l).2.clock=s.clock∧(manyL s party l).2.e.length=s.e.length+Lc (manyL s party l).1
  | [],_=>⟨aA.refl w wi,rfl,rfl⟩
  | r :: l,h=>by
    obtain⟨k1,k2,k3⟩:=mO (party:=party) w wi (h r (List.mem_cons_self ..))
    obtain⟨j1,j2,j3⟩:=iw k1.wl k1.wi party l (fun x hx=>h x (List.mem_cons_of_mem _ hx))
    refine⟨k1.trans j1,j2.trans k2,?_⟩
    show (manyL (oneL s party r).2 party l).2.e.length=s.e.length+((if (oneL s party r).1.code=0 then 1 else 0)+Lc (manyL (oneL s party r).2 party l).1)
    rw[j3,k3];omega
theorem oC {s:LS}(w:WL s) (wi:WI s) (party clock:Int) (x:BV) (hx:∀ r∈x.l,r.ok):aA s (applyL s party clock x).2∧(applyL s party clock x).2.e.length=s.e.length+Lc (applyL s party clock x).1.p:=by
 have k0:=fA w wi clock
 obtain⟨k1,k2,k3⟩:=iw k0.wl k0.wi party (x.l.take 64) (fun r hr=>hx r (List.mem_of_mem_take hr))
 refine⟨k0.trans k1,?_⟩
 show (manyL (clockL s clock) party (x.l.take 64)).2.e.length=s.e.length+Lc (manyL (clockL s clock) party (x.l.take 64)).1
 rw[k3,lq]
def XP (v:VV):RV:=⟨v.kind,v.dst,v.asset,v.amount,if v.kind=2 then 0 else v.id,v.due,v.hash,v.sec⟩
def XQ (s:LS) (x:LE):LS:=(oneL (clockL s x.at_) x.who (XP x.v)).2
def preE (s0:LS) (l:List LE):LS:=l.foldl XQ s0
inductive Reach (s0:LS):LS→Prop
 | start:Reach s0 s0
 | tick {s:LS} (c:Int):Reach s0 s→Reach s0 (clockL s c)
 | one {s:LS} (p:Int) (r:RV):Reach s0 s→r.ok→Reach s0 (oneL s p r).2
theorem Reach.many {s0:LS}(p:Int):∀ {l:List RV}{s:LS},Reach s0 s→(∀ r∈l,r.ok)→Reach s0 (manyL s p l).2
 | [],_,h,_=>h
 | r :: l,_,h,hl=>(Reach.one p r h (hl r (List.mem_cons_self ..))).many p (l:=l) (fun x hx=>hl x (List.mem_cons_of_mem _ hx))
theorem Reach.apply {s0 s:LS}(h:Reach s0 s) (p c:Int) (x:BV) (hx:∀ r∈x.l,r.ok):Reach s0 (applyL s p c x).2 :=
 (h.tick c).many p (fun r hr=>hx r (List.mem_of_mem_take hr))
theorem Reach.keeps {s0 s:LS}(h:Reach s0 s) (w:WL s0) (wi:WI s0):aA s0 s:=by
 induction h with
 | start=>exact aA.refl w wi
 | tick c _ ih=>exact ih.trans (fA ih.wl ih.wi c)
 | one p r _ hr ih=>exact ih.trans (mO ih.wl ih.wi hr).1
theorem WL.who {s:LS}(w:WL s) {x:LE}(hx:x∈s.e):B8 x.who:=by
 obtain⟨k,hk,hlt⟩:=jT (w.each x hx).2.2.1
 have:=w.wb.p.p16
 exact⟨by omega,by omega⟩
theorem BQ {s:LS}(w:WL s):Bytes (Qo s) :=
 (ah _ _).append ((ah _ _).append (dA fun x hx=>(ah _ _).append ((ah _ _).append (tu (w.each x hx).2.1))))
theorem Qq {s:LS}{k:Nat}(h:k≤s.e.length):oJ s k=(evs s).drop k:=by
 unfold oJ
 rw[if_pos ⟨by omega,by omega⟩,Int.toNat_natCast]
theorem yQ {s:LS}{seen:Int}(h:¬ (0≤seen∧seen≤s.e.length)):oJ s seen=[]:=by
 unfold oJ
 rw[if_neg h]
end Ledger
namespace Frame
open Sha Wire
structure FV where
 kind:Int
 gen:Int
 seq:Int
 body:List Int
def dR (f:FV):List Int:=[99,102]++be f.kind.toNat 1++be 0 1++be f.gen.toNat 4++be f.seq.toNat 4++be f.body.length 4
def textF (f:FV):List Int:=dR f++(sha (dR f++f.body)).take 8++f.body
def errF (f:FV):Int:=if 60000 < f.body.length then 3 else if fits f.kind 1=true∧fits f.gen 4=true∧fits f.seq 4=true then 0 else 1
def sectorsF (n:Int):Int:=if n < 0∨60000 < n then 0 else (24+n+62) / 63
theorem uk (l:List Int):Bytes (sha l):=by
 intro x hx
 unfold sha out8 at hx
 obtain⟨y,hy,hx⟩:=List.mem_flatMap.1 hx
 simp only[List.mem_cons,List.not_mem_nil,or_false] at hx
 rcases hx with rfl|rfl|rfl|rfl<;>constructor<;>omega
theorem yR (h:List Int) (hh:Bytes h) (s:List Int) (b:List Int) (hb:Bytes b):Bytes (h++(sha s).take 8++b):=(hh.append ((uk s).take 8)).append hb
theorem aV (f:FV):(dR f).length=16:=by simp[dR,aJ]
theorem iZ (f:FV):(textF f).length=24+f.body.length:=by
 simp only[textF,List.length_append,aV,List.length_take,eF]
 omega
theorem jW (f:FV):Bytes (dR f):=by
 unfold dR
 refine(((((Bytes.append ?_ (ah _ _)).append (ah _ _)).append (ah _ _)).append (ah _ _)).append (ah _ _))
 intro x hx
 simp at hx
 omega
theorem qH (f:FV) (hb:Bytes f.body):Bytes (textF f):=yR _ (jW f) _ _ hb
def chunk (b:List Int) (m:Nat):List Int:=(if m=0 then 1 else 2) :: (b.drop (63 * m)).take 63
def secs (n:Nat):Nat:=(n+62) / 63
theorem Ld (b:List Int) (m:Nat):(chunk b m).length=1+min 63 (b.length - 63 * m):=by
 simp[chunk,List.length_take,List.length_drop];omega
theorem wC (b:List Int) (m:Nat) (h:m≤secs b.length):(cat (chunk b) m).length=m+min (63 * m) b.length:=by
 induction m with
 | zero=>simp[cat]
 | succ m ih =>
  have h63:63 * m≤b.length:=by unfold secs at h;omega
  rw[cat,List.length_append,ih (by omega),Ld _ _]
  omega
def laid (b:List Int):List Int:=cat (chunk b) (secs b.length)++List.replicate (64 * secs b.length - (secs b.length+b.length)) 0
theorem lu (b:List Int):(laid b).length=64 * secs b.length:=by
 rw[laid,List.length_append,wC _ _ (Nat.le_refl _),List.length_replicate]
 unfold secs
 omega
def putF (f:FV):Int × List Int:=(errF f,if errF f=0 then laid (textF f) else [])
theorem BR (b:List Int) (hb:Bytes b) (m:Nat):Bytes (chunk b m):=by
 intro x hx
 rcases List.mem_cons.1 hx with h|h
 ·subst h;split<;>omega
 ·exact((hb.drop _).take _) x h
theorem qI (b:List Int) (hb:Bytes b) (m:Nat):Bytes (cat (chunk b) m):=by
 induction m with
 | zero=>intro x hx;simp[cat] at hx
 | succ m ih=>exact ih.append (BR b hb m)
theorem ul (b:List Int) (hb:Bytes b):Bytes (laid b):=(qI b hb _).append (fun x hx=>by have:=List.eq_of_mem_replicate hx;omega)
def h14 (b:List Int):List Int:=(b.take 17).drop 3
def fK (b:List Int):Nat:=val ((h14 b).take 1)
def fG (b:List Int):Nat:=val (((h14 b).drop 2).take 4)
def fS (b:List Int):Nat:=val (((h14 b).drop 6).take 4)
def fN (b:List Int):Nat:=val (((h14 b).drop 10).take 4)
def allF (b:List Int) (k:Nat):List Int:=cat (fun i=>(b.drop (64 * i+1)).take 63) k
def fB (b:List Int):List Int:=((allF b (sectorsF (fN b)).toNat).take (24+fN b)).drop 24
def frameOf (b:List Int):FV:=⟨fK b,fG b,fS b,fB b⟩
def noF:FV:=⟨0,0,0,[]⟩
def BU (b:List Int):Prop:=64≤b.length∧at_ b 0=1∧sectorsF (fN b)≠0∧64 * sectorsF (fN b)≤b.length∧(putF (frameOf b)).1=0∧(putF (frameOf b)).2=b.take (64 * sectorsF (fN b)).toNat
instance (b:List Int):Decidable (BU b):=by unfold BU;infer_instance
def getF (b:List Int):FV × Int × Int:=if BU b then (frameOf b,sectorsF (fN b),0) else (noF,0,2)
theorem val4 (l:List Int) (h:Bytes l) (hl:l.length≤4):val l < 4294967296:=by
 have:=yt l h
 have h2:256 ^ l.length≤256 ^ 4:=Nat.pow_le_pow_right (by omega) hl
 omega
theorem wE {b:List Int}(k:Nat) (h:64 * k≤b.length):(allF b k).length=63 * k:=by
 induction k with
 | zero=>rfl
 | succ k ih =>
  unfold allF at *
  rw[cat,List.length_append,ih (by omega),List.length_take,List.length_drop]
  omega
theorem GV {b:List Int}(h:Bytes b) (k:Nat):Bytes (allF b k):=by
 induction k with
 | zero=>intro x hx;simp[allF,cat] at hx
 | succ k ih=>exact ih.append ((h.drop _).take _)
theorem jX {X:Nat→List Int}{c:Nat}(m:Nat) (h:∀ j,j < m→(X j).length=c):(cat X m).length=c * m:=by
 induction m with
 | zero=>rfl
 | succ m ih=>rw[cat,List.length_append,ih (fun j hj=>h j (by omega)),h m (by omega),Nat.mul_succ]
theorem qJ {X:Nat→List Int}{c:Nat}(m:Nat) (h:∀ j,j < m→(X j).length=c) (i:Nat) (hi:i < m) (r:List Int):((cat X m++r).drop (c * i)).take c=X i:=by
 induction m generalizing r with
 | zero=>omega
 | succ m ih =>
  rw[cat,List.append_assoc]
  by_cases h1:i < m
  ·exact ih (fun j hj=>h j (by omega)) h1 (X m++r)
  ·obtain rfl:i=m:=by omega
   rw[← jX i (fun j hj=>h j (by omega)),List.drop_append_of_le_length (Nat.le_refl _),List.drop_length,List.nil_append,List.take_append_of_le_length (by rw[h i (by omega)];exact Nat.le_refl _),List.take_of_length_le (by rw[h i (by omega)];exact Nat.le_refl _)]
theorem mP (l:List Int) (c m:Nat):cat (fun i=>(l.drop (c * i)).take c) m=l.take (c * m):=by
 induction m with
 | zero=>simp[cat]
 | succ m ih=>rw[cat,ih,Nat.mul_succ,List.take_add]
theorem fZ {X Y:Nat→List Int}(m:Nat) (h:∀ i,i < m→X i=Y i):cat X m=cat Y m:=by
 induction m with
 | zero=>rfl
 | succ m ih=>rw[cat,cat,ih (fun i hi=>h i (by omega)),h m (by omega)]
def padF (t:List Int):List Int:=t++List.replicate (63 * secs t.length - t.length) 0
theorem wF (t:List Int):(padF t).length=63 * secs t.length:=by
 unfold padF;rw[List.length_append,List.length_replicate];unfold secs;omega
def mk (i:Nat):Int:=if i=0 then 1 else 2
theorem BZ (t:List Int):laid t=cat (fun i=>mk i :: ((padF t).drop (63 * i)).take 63) (secs t.length):=by
 have hS:∀ m,m≤secs t.length→m < secs t.length∨m=0→cat (chunk t) m=cat (fun i=>mk i :: ((padF t).drop (63 * i)).take 63) m:=by
  intro m hm h2
  apply fZ
  intro i hi
  have:63 * (i+1)≤t.length:=by unfold secs at *;omega
  unfold chunk mk padF
  rw[List.drop_append_of_le_length (by omega),List.take_append_of_le_length (by rw[List.length_drop];omega)]
 unfold laid
 cases h:secs t.length with
 | zero =>
  have:t.length=0:=by unfold secs at h;omega
  simp[cat,this]
 | succ m =>
  rw[cat,cat,hS m (by omega) (by omega),List.append_assoc]
  congr 1
  unfold chunk mk padF
  rw[List.cons_append]
  congr 1
  have h1:63 * m≤t.length:=by unfold secs at h;omega
  have h2:t.length≤63 * m+63:=by unfold secs at h;omega
  rw[List.drop_append_of_le_length h1,List.take_of_length_le (by rw[List.length_drop];omega),List.take_of_length_le (by rw[List.length_append,List.length_drop,List.length_replicate,h];omega)]
  congr 2
  rw[h];omega
theorem mQ (t r:List Int) (i:Nat) (hi:i < secs t.length):((laid t++r).drop (64 * i)).take 64=mk i :: ((padF t).drop (63 * i)).take 63:=by
 rw[BZ]
 exact qJ (X:=fun i=>mk i :: ((padF t).drop (63 * i)).take 63) (secs t.length) (fun j hj=>by simp only[List.length_cons,List.length_take,List.length_drop,wF];omega) i hi r
theorem qK (t r:List Int) (i:Nat) (hi:i < secs t.length):at_ ((laid t++r).drop (64 * i)) 0=mk i:=by
 have h:=mQ t r i hi
 have h2:=bY (l:=(laid t++r).drop (64 * i)) (n:=64) (i:=0) (by omega)
 rw[h] at h2
 rw[← h2];rfl
theorem yS (t r:List Int) (i:Nat) (hi:i < secs t.length):((laid t++r).drop (64 * i+1)).take 63=((padF t).drop (63 * i)).take 63:=by
 have h:=congrArg (List.drop 1) (mQ t r i hi)
 rw[List.drop_take,List.drop_drop] at h
 exact h
theorem Es (t r:List Int):allF (laid t++r) (secs t.length)=padF t:=by
 unfold allF
 rw[fZ (Y:=fun i=>((padF t).drop (63 * i)).take 63) _ (fun i hi=>yS t r i hi),mP,List.take_of_length_le (by rw[wF];exact Nat.le_refl _)]
theorem Le (t r:List Int) (h:24≤t.length):h14 (laid t++r)=(t.take 16).drop 2:=by
 have h0:=mQ t r 0 (by unfold secs;omega)
 simp only[Nat.mul_zero,List.drop_zero] at h0
 have h1:(laid t++r).take 17=((laid t++r).take 64).take 17:=by rw[List.take_take];rfl
 unfold h14
 rw[h1,h0]
 show List.drop 2 (((padF t).take 63).take 16)=_
 rw[List.take_take,show min 16 63=16 from rfl]
 unfold padF
 rw[List.take_append_of_le_length (by omega)]
theorem mV {n:Int}{s:Nat}(h:fits n s=true):((val (be n.toNat s):Nat):Int)=n:=by
 obtain⟨h1,-,-,-,h2⟩:=qo h
 rw[Int.toNat_natCast] at h1
 rw[h1];omega
theorem get_put (f:FV) (r:List Int) (he:errF f=0):getF (laid (textF f)++r)=(f,sectorsF f.body.length,0):=by
 obtain⟨hn,f1,f2,f3⟩:f.body.length≤60000∧fits f.kind 1=true∧fits f.gen 4=true∧fits f.seq 4=true:=by
  unfold errF at he
  split at he
  ·omega
  ·split at he
   ·next h1 h2=>exact⟨by omega,h2⟩
   ·omega
 have hL:=iZ f
 have hS:secs (textF f).length=(24+f.body.length+62) / 63:=by unfold secs;rw[hL]
 have hK:sectorsF f.body.length=((secs (textF f).length:Nat):Int):=by unfold sectorsF;rw[if_neg (by omega),hS];omega
 have hh:h14 (laid (textF f)++r)=be f.kind.toNat 1++be 0 1++be f.gen.toNat 4++be f.seq.toNat 4++be f.body.length 4:=by
  rw[Le _ _ (by omega)]
  have:(textF f).take 16=dR f:=by
   unfold textF
   rw[List.append_assoc,List.take_append_of_le_length (by rw[aV];exact Nat.le_refl _),List.take_of_length_le (by rw[aV];exact Nat.le_refl _)]
  rw[this]
  unfold dR
  rfl
 have k1:((fK (laid (textF f)++r):Nat):Int)=f.kind:=by
  unfold fK
  rw[hh]
  rw[show (be f.kind.toNat 1++be 0 1++be f.gen.toNat 4++be f.seq.toNat 4++be f.body.length 4).take 1=be f.kind.toNat 1 by simp[be]]
  exact mV (s:=1) f1
 have k2:((fG (laid (textF f)++r):Nat):Int)=f.gen:=by
  unfold fG
  rw[hh]
  rw[show ((be f.kind.toNat 1++be 0 1++be f.gen.toNat 4++be f.seq.toNat 4++be f.body.length 4).drop 2).take 4=be f.gen.toNat 4 by simp[be]]
  exact mV (s:=4) f2
 have k3:((fS (laid (textF f)++r):Nat):Int)=f.seq:=by
  unfold fS
  rw[hh]
  rw[show ((be f.kind.toNat 1++be 0 1++be f.gen.toNat 4++be f.seq.toNat 4++be f.body.length 4).drop 6).take 4=be f.seq.toNat 4 by simp[be]]
  exact mV (s:=4) f3
 have k4:fN (laid (textF f)++r)=f.body.length:=by
  unfold fN
  rw[hh]
  rw[show ((be f.kind.toNat 1++be 0 1++be f.gen.toNat 4++be f.seq.toNat 4++be f.body.length 4).drop 10).take 4=be f.body.length 4 by simp[be]]
  exact DW _ _ (by omega)
 have k5:fB (laid (textF f)++r)=f.body:=by
  unfold fB
  rw[k4,hK,Int.toNat_natCast,Es]
  unfold padF
  rw[List.take_append_of_le_length (by omega),List.take_of_length_le (by omega)]
  unfold textF
  rw[List.drop_append_of_le_length (by simp only[List.length_append,aV,List.length_take,eF];omega),List.drop_of_length_le (by simp only[List.length_append,aV,List.length_take,eF];omega),List.nil_append]
 have kF:frameOf (laid (textF f)++r)=f:=by unfold frameOf;rw[k1,k2,k3,k5]
 have hll:=lu (textF f)
 have ok:BU (laid (textF f)++r):=by
  refine⟨by rw[List.length_append,hll];omega,?_,?_,?_,?_,?_⟩
  ·have:=qK (textF f) r 0 (by omega)
   rw[Nat.mul_zero,List.drop_zero] at this
   exact this
  ·rw[k4,hK];omega
  ·rw[k4,hK,List.length_append,hll];omega
  ·rw[kF];simp only[putF];exact he
  ·rw[kF,k4,hK]
   simp only[putF]
   rw[if_pos he,show (64 * ((secs (textF f).length:Nat):Int)).toNat=64 * secs (textF f).length by omega,List.take_append_of_le_length (by omega),List.take_of_length_le (by omega)]
 unfold getF
 rw[if_pos ok,kF,k4]
theorem Qr {b:List Int}(h:at_ b 0≠1):getF b=(noF,0,2):=by unfold getF;rw[if_neg (fun hk=>h hk.2.1)]
theorem wG {f:FV}(he:errF f=0):f.body.length≤60000∧fits f.kind 1=true∧fits f.gen 4=true∧fits f.seq 4=true:=by
 unfold errF at he
 split at he
 ·omega
 ·split at he
  ·next h1 h2=>exact⟨by omega,h2⟩
  ·omega
end Frame
namespace Journal
open Sha Disk Go.Proofs.YtlkeieoecfkkeaaGreat.Frame
structure JV where
 half:Nat
 gen:Int
 has:Bool
 pict:List Int
 recs:List (List Int)
 pos:Nat
 seq:Int
 dead:Bool
def hn (s:DS):Nat:=s.now.length / 2
def textJ (s:DS) (half m:Nat):List Int:=cat (fun i=>rowOf s.now (half * hn s+m+i)) (hn s - m)
def noJ:JV:=⟨0,0,false,[],[],0,1,false⟩
def headJ (s:DS) (half:Nat) (v:JV):JV :=
 if (getF (textJ s half 0)).2.2=0∧(getF (textJ s half 0)).1.kind=1∧(getF (textJ s half 0)).1.seq=0∧(v.has=false∨v.gen < (getF (textJ s half 0)).1.gen) then
  { v with half:=half,gen:=(getF (textJ s half 0)).1.gen,has:=true,pict:=(getF (textJ s half 0)).1.body,pos:=(getF (textJ s half 0)).2.1.toNat }
 else v
def jJ (s:DS) (v:JV):Prop:=(getF (textJ s v.half v.pos)).2.2=0∧(getF (textJ s v.half v.pos)).1.kind=2∧(getF (textJ s v.half v.pos)).1.gen=v.gen∧(getF (textJ s v.half v.pos)).1.seq=v.seq
instance (s:DS) (v:JV):Decidable (jJ s v):=by unfold jJ;infer_instance
def jY (s:DS) (v:JV):JV:={ v with recs:=v.recs++[(getF (textJ s v.half v.pos)).1.body],pos:=v.pos+(getF (textJ s v.half v.pos)).2.1.toNat,seq:=v.seq+1 }
def recsJ (s:DS):Nat→JV→JV
 | 0,v=>v
 | k+1,v=>if jJ s v then recsJ s k (jY s v) else v
def openJ (s:DS):JV:=if s.down=true then { noJ with dead:=true } else recsJ s (hn s) (headJ s 1 (headJ s 0 noJ))
def yT (s:DS) (v:JV):Int:=(hn s:Int) - v.pos
def piece (b:List Int) (i:Nat):List Int:=(b.drop (64 * i)).take 64
def rowsJ (b:List Int) (home:Nat):Nat→Nat→DS→Int × DS
 | 0,_,s=>(0,s)
 | k+1,i,s=>if (writeD s (home+i:Nat) (piece b i)).1=0 then rowsJ b home k (i+1) (writeD s (home+i:Nat) (piece b i)).2 else writeD s (home+i:Nat) (piece b i)
def mW (r:Int × DS) (f:DS→Int × DS):Int × DS:=if r.1=0 then f r.2 else r
theorem then_ok {r:Int × DS}{s:DS}{f:DS→Int × DS}(h:r=(0,s)):mW r f=f s:=by subst h;rfl
theorem mX {r:Int × DS}{s:DS}{f:DS→Int × DS}(h:r=(13,s)):mW r f=(13,s):=by subst h;rfl
def layJ (s:DS) (home:Nat) (b:List Int):Int × DS :=
 mW (mW (mW (rowsJ b home (b.length / 64 - 1) 1 s) fun s=>if 64 < b.length then syncD s else (0,s)) fun s=>writeD s (home:Nat) (piece b 0)) syncD
def Cc (v:JV):JV:={ v with dead:=true }
def recF (v:JV) (b:List Int):FV:=⟨2,v.gen,v.seq,b⟩
def dU (v:JV) (b:List Int):FV:=⟨1,v.gen+1,0,b⟩
def appendJ (s:DS) (v:JV) (b:List Int):Int × DS × JV :=
 if v.dead=true∨s.down=true then (13,s,Cc v)
 else if (putF (recF v b)).1≠0 then ((putF (recF v b)).1,s,v)
 else if yT s v < ((putF (recF v b)).2.length / 64:Nat) then (12,s,v)
 else
  let r:=layJ s (v.half * hn s+v.pos) (putF (recF v b)).2
  if r.1=0 then (0,r.2,{ v with recs:=v.recs++[b],pos:=v.pos+(putF (recF v b)).2.length / 64,seq:=v.seq+1 })
  else (r.1,r.2,Cc v)
def compactJ (s:DS) (v:JV) (b:List Int):Int × DS × JV :=
 if v.dead=true∨s.down=true then (13,s,Cc v)
 else if 60000 < b.length then (3,s,v)
 else if (putF (dU v b)).1≠0∨hn s < (putF (dU v b)).2.length / 64 then (12,s,v)
 else
  let r:=layJ s ((1 - v.half) * hn s) (putF (dU v b)).2
  if r.1=0 then (0,r.2,⟨1 - v.half,v.gen+1,true,b,[],(putF (dU v b)).2.length / 64,1,v.dead⟩)
  else (r.1,r.2,Cc v)
def kF (b:List Int):Nat:=(24+b.length+62) / 63
theorem Ce (f:FV):secs (textF f).length=kF f.body:=by unfold secs kF;rw[iZ]
theorem qL (b:List Int):1≤kF b:=by unfold kF;omega
theorem qM {b:List Int}(h:b.length≤60000):(sectorsF b.length).toNat=kF b:=by
 unfold sectorsF kF
 rw[if_neg (by omega)]
 omega
def row (s:DS) (half m:Nat):List Int:=rowOf s.now (half * hn s+m)
def FrAt (s:DS) (half m:Nat) (f:FV):Prop:=errF f=0∧m+kF f.body≤hn s∧∀ i,i < kF f.body→row s half (m+i)=piece (laid (textF f)) i
theorem Cf (X:Nat→List Int) (a b:Nat):cat X (a+b)=cat X a++cat (fun i=>X (a+i)) b:=by
 induction b with
 | zero=>simp[cat]
 | succ b ih=>rw[← Nat.add_assoc,cat,ih,cat,List.append_assoc]
theorem mY (s:DS) (half m k:Nat) (h:m+k≤hn s):textJ s half m=cat (fun i=>row s half (m+i)) k++textJ s half (m+k):=by
 unfold textJ row
 rw[show hn s - m=k+(hn s - (m+k)) by omega,Cf]
 congr 1
 ·exact fZ _ (fun i _=>by rw[Nat.add_assoc])
 ·exact fZ _ (fun i _=>by congr 1;omega)
theorem UO {s:DS}{half m:Nat}{f:FV}(h:FrAt s half m f):textJ s half m=laid (textF f)++textJ s half (m+kF f.body):=by
 obtain⟨-,h2,h3⟩:=h
 rw[mY s half m _ h2,fZ (Y:=fun i=>((laid (textF f)).drop (64 * i)).take 64) _ (fun i hi=>h3 i hi),mP,List.take_of_length_le]
 rw[lu,Ce];exact Nat.le_refl _
theorem Et {s:DS}{half m:Nat}{f:FV}(h:FrAt s half m f):getF (textJ s half m)=(f,sectorsF f.body.length,0):=by
 rw[UO h]
 exact get_put f _ h.1
def Old (g:Int) (r:List Int):Prop:=at_ r 0≠1∨((fG r:Nat):Int) < g
theorem um (s:DS) (half m:Nat) (hm:m < hn s):textJ s half m=row s half m++textJ s half (m+1):=by
 rw[mY s half m 1 (by omega)]
 simp[cat]
theorem qN {s:DS}{half m:Nat}{g:Int}(h64:∀ j,j < hn s→(row s half j).length=64) (h:m < hn s→Old g (row s half m)):(getF (textJ s half m)).2.2=0→(getF (textJ s half m)).1.gen < g:=by
 intro h0
 by_cases hm:m < hn s
 ·have e:=um s half m hm
  have hl:=h64 m hm
  rcases h hm with h1|h1
  ·rw[Qr] at h0
   ·cases h0
   ·rw[e,bT (by omega)];exact h1
  ·have hg:fG (textJ s half m)=fG (row s half m):=by
    unfold fG h14
    rw[e,List.take_append_of_le_length (by omega)]
   unfold getF at h0 ⊢
   split
   ·show ((fG (textJ s half m):Nat):Int) < g
    rw[hg];exact h1
   ·rename_i hk;rw[if_neg hk] at h0;cases h0
 ·have hz:textJ s half m=[]:=by unfold textJ;rw[show hn s - m=0 by omega];rfl
  rw[hz] at h0
  unfold getF at h0
  rw[if_neg (fun hk=>by have:=hk.1;simp at this)] at h0
  cases h0
def Chain (s:DS) (half:Nat) (gen:Int):Nat→Int→List (List Int)→Nat→Prop
 | m,_,[],e=>m=e
 | m,q,b :: l,e=>FrAt s half m ⟨2,gen,q,b⟩∧Chain s half gen (m+kF b) (q+1) l e
theorem Chain.le {s:DS}{half:Nat}{gen:Int}{l:List (List Int)}:∀ {m:Nat}{q:Int}{e:Nat},Chain s half gen m q l e→m+l.length≤e:=by
 induction l with
 | nil=>intro m q e h;simp only[Chain] at h;simp;omega
 | cons b l ih =>
  intro m q e h
  have:=ih h.2
  have:=qL b
  simp only[List.length_cons]
  omega
theorem Chain.snoc {s:DS}{half:Nat}{gen:Int}{b:List Int}{l:List (List Int)}:∀ {m:Nat}{q:Int}{e:Nat},Chain s half gen m q l e→FrAt s half e ⟨2,gen,q+l.length,b⟩→Chain s half gen m q (l++[b]) (e+kF b):=by
 induction l with
 | nil =>
  intro m q e h k
  simp only[Chain] at h
  subst h
  refine⟨?_,rfl⟩
  simpa using k
 | cons c l ih =>
  intro m q e h k
  refine⟨h.1,ih h.2 ?_⟩
  rw[show q+1+(l.length:Int)=q+((c :: l).length:Nat) by simp only[List.length_cons];omega]
  exact k
theorem FrAt.same {s s':DS}{half m:Nat}{f:FV}(h:FrAt s half m f) (hh:hn s'=hn s) (hr:∀ j,m≤j→j < m+kF f.body→row s' half j=row s half j):FrAt s' half m f :=
 ⟨h.1,by rw[hh];exact h.2.1,fun i hi=>by rw[hr _ (by omega) (by omega)];exact h.2.2 i hi⟩
theorem Chain.same {s s':DS}{half:Nat}{gen:Int}{l:List (List Int)}(hh:hn s'=hn s):∀ {m:Nat}{q:Int}{e:Nat},Chain s half gen m q l e→(∀ j,m≤j→j < e→row s' half j=row s half j)→Chain s' half gen m q l e:=by
 induction l with
 | nil=>intro m q e h _;exact h
 | cons b l ih =>
  intro m q e h hr
  have hle:=h.2.le
  exact⟨h.1.same hh (fun j h1 h2=>hr j h1 (by simp only at h2;omega)),ih h.2 (fun j h1 h2=>hr j (by omega) h2)⟩
theorem Qs {s:DS}{half:Nat}{gen:Int}{l:List (List Int)}:∀ {v:JV}{e fuel:Nat},v.half=half→v.gen=gen→Chain s half gen v.pos v.seq l e→l.length≤fuel→¬ jJ s { v with pos:=e,seq:=v.seq+l.length } →
  recsJ s fuel v={ v with recs:=v.recs++l,pos:=e,seq:=v.seq+l.length }:=by
 induction l with
 | nil =>
  intro v e fuel h1 h2 h3 _ h5
  simp only[Chain] at h3
  subst h3
  have hv:({ v with pos:=v.pos,seq:=v.seq+(([]:List (List Int)).length:Nat) }:JV)=v:=by cases v;simp
  have hv2:({ v with recs:=v.recs++[],pos:=v.pos,seq:=v.seq+(([]:List (List Int)).length:Nat) }:JV)=v:=by cases v;simp
  rw[hv] at h5
  rw[hv2]
  cases fuel with
  | zero=>rfl
  | succ k=>unfold recsJ;rw[if_neg h5]
 | cons b l ih =>
  intro v e fuel h1 h2 h3 h4 h5
  cases fuel with
  | zero=>simp at h4
  | succ k =>
   obtain⟨f1,f2⟩:=h3
   have hg:=Et f1
   have hb:=(wG f1.1).1
   have hm:jJ s v:=by
    unfold jJ
    rw[h1,hg]
    exact⟨rfl,rfl,h2.symm,rfl⟩
   have hn:jY s v={ v with recs:=v.recs++[b],pos:=v.pos+kF b,seq:=v.seq+1 }:=by
    unfold jY
    rw[h1,hg]
    simp only[qM hb]
   unfold recsJ
   rw[if_pos hm,hn,ih (v:={ v with recs:=v.recs++[b],pos:=v.pos+kF b,seq:=v.seq+1 }) h1 h2 f2 (by simpa using h4) ?_]
   ·simp only[List.append_assoc,List.singleton_append,List.length_cons]
    congr 1
    omega
   ·simp only[List.length_cons] at h5 ⊢
    rw[show v.seq+1+(l.length:Int)=v.seq+((l.length+1:Nat):Int) by omega]
    exact h5
structure aA (n:Nat) (s:DS) (v:JV):Prop where
 wf:WF n s
 half:v.half=0∨v.half=1
 start:(v.has=false∧v.half=0∧v.gen=0∧v.pict=[]∧Chain s 0 0 0 1 v.recs v.pos)∨(v.has=true∧1≤v.gen∧FrAt s v.half 0 ⟨1,v.gen,0,v.pict⟩∧Chain s v.half v.gen (kF v.pict) 1 v.recs v.pos)
 seq:v.seq=1+v.recs.length
 pos:v.pos≤hn s
 low:∀ m,m < v.pos→Old (v.gen+1) (row s v.half m)
 high:∀ m,v.pos≤m→m < hn s→Old v.gen (row s v.half m)
 other:∀ m,m < hn s→Old v.gen (row s (1 - v.half) m)
theorem jZ {n:Nat}{s:DS}(h:WF n s):hn s=n / 2:=by unfold hn;rw[h.now]
theorem wH {n:Nat}{s:DS}(h:WF n s) (half:Nat) (hh:half=0∨half=1) (j:Nat) (hj:j < hn s):(row s half j).length=64:=by
 have:=jZ h
 refine((h.secs _ ?_).1).1
 rcases hh with rfl|rfl<;>omega
theorem wI {s:DS}{half:Nat}{v:JV}(h:¬ ((getF (textJ s half 0)).2.2=0∧(getF (textJ s half 0)).1.kind=1∧(getF (textJ s half 0)).1.seq=0∧(v.has=false∨v.gen < (getF (textJ s half 0)).1.gen))):headJ s half v=v:=by
 unfold headJ;rw[if_neg h]
theorem uq {b:List Int}(h:(getF b).2.2=0):0≤(getF b).1.gen:=by
 unfold getF at h ⊢
 split
 ·show (0:Int)≤((fG b:Nat):Int);omega
 ·rename_i hk;rw[if_neg hk] at h;cases h
theorem aA.open_is {n:Nat}{s:DS}{v:JV}(h:aA n s v) (hd:s.down=false):openJ s={ v with dead:=false }:=by
 have h64:=fun half hh=>wH h.wf half hh
 have hmore:∀ q:Int,¬ jJ s ⟨v.half,v.gen,v.has,v.pict,[],v.pos,q,false⟩:=fun q hm=>by
  have hl:=qN (s:=s) (half:=v.half) (m:=v.pos) (g:=v.gen) (h64 _ h.half) (fun hm=>h.high _ (Nat.le_refl _) hm) hm.1
  have:=hm.2.2.1
  simp only at this
  omega
 unfold openJ
 rw[if_neg (by rw[hd];decide)]
 have fin:∀ p:Nat,Chain s v.half v.gen p 1 v.recs v.pos→recsJ s (hn s) ⟨v.half,v.gen,v.has,v.pict,[],p,1,false⟩={ v with dead:=false }:=fun p hc=>by
  have hle:=hc.le
  have:=h.pos
  rw[Qs (v:=⟨v.half,v.gen,v.has,v.pict,[],p,1,false⟩) rfl rfl hc (by omega) (hmore _)]
  simp only[List.nil_append,← h.seq]
 rcases h.start with⟨a1,a2,a3,a4,a5⟩|⟨a1,a2,a3,a4⟩
 ·have e0:headJ s 0 noJ=noJ:=wI (fun hc=>by
   cases hr:v.recs with
   | nil =>
    rw[hr] at a5
    have hl:=qN (s:=s) (half:=0) (m:=0) (g:=v.gen) (h64 _ (.inl rfl)) (fun hm=>by have:=h.high 0 (by simp only[Chain] at a5;omega) hm;rwa [a2] at this) hc.1
    have:=uq hc.1
    omega
   | cons b l =>
    rw[hr] at a5
    have:=hc.2.1
    rw[Et a5.1] at this
    cases this)
  have e1:headJ s 1 noJ=noJ:=wI (fun hc=>by
   have hl:=qN (s:=s) (half:=1) (m:=0) (g:=v.gen) (h64 _ (.inr rfl)) (fun hm=>by have:=h.other 0 hm;rwa [a2] at this) hc.1
   have:=uq hc.1
   omega)
  rw[e0,e1]
  have:=fin 0 (by rw[a2,a3];exact a5)
  rw[← this,a1,a2,a3,a4]
  rfl
 ·have hg:=Et a3
  have hb:=(wG a3.1).1
  have hk:(sectorsF ((v.pict.length:Nat):Int)).toNat=kF v.pict:=qM hb
  have hF:∀ x:JV,x.recs=[]→x.seq=1→x.dead=false→(x.has=false∨x.gen < v.gen)→headJ s v.half x=⟨v.half,v.gen,v.has,v.pict,[],kF v.pict,1,false⟩:=fun x x1 x2 x3 x4=>by
   unfold headJ
   rw[hg,if_pos ⟨rfl,rfl,rfl,x4⟩]
   simp only[hk,x1,x2,x3,a1]
  rw[← fin _ a4]
  congr 1
  rcases h.half with hh|hh
  ·have e0:=hF noJ rfl rfl rfl (.inl rfl)
   rw[hh] at e0
   rw[e0,hh]
   refine wI (fun hc=>?_)
   have hl:=qN (s:=s) (half:=1) (m:=0) (g:=v.gen) (h64 _ (.inr rfl)) (fun hm=>by have:=h.other 0 hm;rwa [hh] at this) hc.1
   rcases hc.2.2.2 with hx|hx
   ·simp only[a1] at hx;cases hx
   ·simp only at hx;omega
  ·have e1:=hF (headJ s 0 noJ)
   rw[hh] at e1
   rw[hh]
   refine e1 ?_ ?_ ?_ ?_
   ·unfold headJ;split<;>rfl
   ·unfold headJ;split<;>rfl
   ·unfold headJ;split<;>rfl
   ·by_cases hc:(getF (textJ s 0 0)).2.2=0∧(getF (textJ s 0 0)).1.kind=1∧(getF (textJ s 0 0)).1.seq=0∧(noJ.has=false∨noJ.gen < (getF (textJ s 0 0)).1.gen)
    ·have hl:=qN (s:=s) (half:=0) (m:=0) (g:=v.gen) (h64 _ (.inl rfl)) (fun hm=>by have:=h.other 0 hm;rwa [hh] at this) hc.1
     unfold headJ
     rw[if_pos hc]
     exact .inr hl
    ·rw[wI hc];exact .inl rfl
theorem burn_two (s:DS):((burnD s).1=true∨(burnD s).1=false∧(burnD s).2.down=s.down):=by
 unfold burnD
 split
 ·exact .inl rfl
 ·split<;>exact .inr ⟨rfl,rfl⟩
theorem yU {n:Nat}{s:DS}(h:WF n s) (hd:s.down=false) {j:Nat}(hj:j < n) {x:List Int}(hx:Sec x):∃ t,WF n t∧t.last=s.last ∧
  ((writeD s (j:Nat) x=(13,t)∧t.now=s.now∧t.pend=s.pend∧s.fuse≠-1)∨(writeD s (j:Nat) x=(0,t)∧t.now=s.now.set j x∧t.pend=ins j s.pend∧t.down=false∧(s.fuse=-1→t.fuse=-1))):=by
 have hw:=PQ h (j:Int) x hx.2
 have hns:¬ aQ s (j:Int):=by unfold aQ;have:=h.now;omega
 have hl:¬ x.length≠64:=by have:=hx.1;omega
 unfold writeD at hw ⊢
 rw[if_neg (by rw[hd];decide),if_neg hns,if_neg hl] at hw ⊢
 rcases burn_two s with hb|⟨hb,hb2⟩
 ·rw[if_pos hb] at hw ⊢
  refine⟨_,hw,kV s,.inl ⟨rfl,jr s,kX s,fun hf=>?_⟩⟩
  unfold burnD at hb
  rw[hf] at hb
  simp at hb
 ·rw[if_neg (by rw[hb];decide)] at hw ⊢
  refine⟨_,hw,kV s,.inr ⟨rfl,?_,?_,?_,fun hf=>?_⟩⟩
  ·show (burnD s).2.now.set _ x=_;rw[jr];rfl
  ·show ins _ (burnD s).2.pend=_;rw[kX];rfl
  ·show (burnD s).2.down=false;rw[hb2];exact hd
  ·show (burnD s).2.fuse=-1
   unfold burnD
   rw[hf];exact hf
theorem Eu {n:Nat}{s:DS}(h:WF n s) (hd:s.down=false):∃ t,WF n t∧t.now=s.now ∧
  ((syncD s=(13,t)∧t.last=s.last∧t.pend=s.pend∧s.fuse≠-1)∨(syncD s=(0,t)∧t.last=s.now∧t.pend=[]∧t.down=false∧(s.fuse=-1→t.fuse=-1))):=by
 have hw:=Ul h
 unfold syncD at hw ⊢
 rw[if_neg (by rw[hd];decide)] at hw ⊢
 rcases burn_two s with hb|⟨hb,hb2⟩
 ·rw[if_pos hb] at hw ⊢
  refine⟨_,hw,jr s,.inl ⟨rfl,kV s,kX s,fun hf=>?_⟩⟩
  unfold burnD at hb
  rw[hf] at hb
  simp at hb
 ·rw[if_neg (by rw[hb];decide)] at hw ⊢
  refine⟨_,hw,jr s,.inr ⟨rfl,?_,rfl,?_,fun hf=>?_⟩⟩
  ·show (burnD s).2.now=_;exact jr s
  ·show (burnD s).2.down=false;rw[hb2];exact hd
  ·show (burnD s).2.fuse=-1
   unfold burnD
   rw[hf];exact hf
structure Torn (n:Nat) (s0:DS) (b:List Int) (home k:Nat) (s:DS):Prop where
 wf:WF n s
 out:∀ j,j < n→(j≤home∨home+k≤j)→rowOf s.now j=rowOf s0.now j∧rowOf s.last j=rowOf s0.now j
 mid:∀ j,j < n→(rowOf s.now j=rowOf s0.now j∨rowOf s.now j=piece b (j - home))∧(rowOf s.last j=rowOf s0.now j∨rowOf s.last j=piece b (j - home))
theorem Torn.same {n:Nat}{s0 s t:DS}{b:List Int}{home k:Nat}(h:Torn n s0 b home k s) (w:WF n t) (e1:t.now=s.now) (e2:t.last=s.last):Torn n s0 b home k t :=
 ⟨w,fun j hj ho=>by rw[e1,e2];exact h.out j hj ho,fun j hj=>by rw[e1,e2];exact h.mid j hj⟩
theorem Torn.put {n:Nat}{s0 s t:DS}{b:List Int}{home k i:Nat}(h:Torn n s0 b home k s) (w:WF n t) (hi:1≤i∧i < k) (e1:t.now=s.now.set (home+i) (piece b i)) (e2:t.last=s.last):Torn n s0 b home k t:=by
 refine⟨w,fun j hj ho=>?_,fun j hj=>?_⟩
 ·rw[e1,e2,aS _ _ _ _ (by rw[h.wf.now];exact hj),if_neg (by omega)]
  exact h.out j hj ho
 ·rw[e1,e2,aS _ _ _ _ (by rw[h.wf.now];exact hj)]
  refine⟨?_,(h.mid j hj).2⟩
  split
  ·rename_i e;subst e;right;congr 1;omega
  ·exact(h.mid j hj).1
theorem yV {b:List Int}{k i:Nat}(hb:Bytes b) (hl:b.length=64 * k) (hi:i < k):Sec (piece b i) :=
 ⟨by unfold piece;rw[List.length_take,List.length_drop];omega,(hb.drop _).take _⟩
theorem Ew {n:Nat}{s0:DS}{b:List Int}{home k:Nat}(hb:Bytes b) (hl:b.length=64 * k) (hh:home+k≤n):∀ (m i:Nat) (s:DS),1≤i→i+m=k→Torn n s0 b home k s→s.down=false→(∀ j,1≤j→j < i→rowOf s.now (home+j)=piece b j) →
    ∃ t,Torn n s0 b home k t∧((rowsJ b home m i s=(13,t)∧s.fuse≠-1)∨(rowsJ b home m i s=(0,t)∧t.down=false∧(∀ j,1≤j→j < k→rowOf t.now (home+j)=piece b j)∧(s.fuse=-1→t.fuse=-1)))
  | 0,i,s,h1,h2,h3,h4,h5=>⟨s,h3,.inr ⟨rfl,h4,fun j a c=>h5 j a (by omega),id⟩⟩
  | m+1,i,s,h1,h2,h3,h4,h5=>by
    obtain⟨t,w,e1,h|h⟩:=yU h3.wf h4 (j:=home+i) (by omega) (yV hb hl (i:=i) (by omega))
    · refine⟨t,h3.same w h.2.1 e1,.inl ⟨?_,h.2.2.2⟩⟩
      unfold rowsJ
      rw[h.1,if_neg (by simp)]
    · have hT:=h3.put w ⟨h1,by omega⟩ h.2.1 e1
      obtain⟨t',k1,k2⟩:=Ew hb hl hh m (i+1) t (by omega) (by omega) hT h.2.2.2.1 (fun j a c=>by
        rw[h.2.1,aS _ _ _ _ (by rw[h3.wf.now];omega)]
        split
        · congr 1;omega
        · exact h5 j a (by omega))
      refine⟨t',k1,?_⟩
      unfold rowsJ
      rw[h.1,if_pos rfl]
      rcases k2 with k2|k2
      · exact .inl ⟨k2.1,fun hf=>k2.2 (h.2.2.2.2 hf)⟩
      · exact .inr ⟨k2.1,k2.2.1,k2.2.2.1,fun hf=>k2.2.2.2 (h.2.2.2.2 hf)⟩
structure Whole (n:Nat) (s0:DS) (b:List Int) (home k:Nat) (s:DS):Prop where
 wf:WF n s
 out:∀ j,j < n→(j < home∨home+k≤j)→rowOf s.now j=rowOf s0.now j∧rowOf s.last j=rowOf s0.now j
 now:∀ i,i < k→rowOf s.now (home+i)=piece b i
 last:∀ i,1≤i→i < k→rowOf s.last (home+i)=piece b i
 first:rowOf s.last home=rowOf s0.now home∨rowOf s.last home=piece b 0
theorem Ci {n:Nat}{s0:DS}{b:List Int}{home k:Nat}(h:WF n s0) (hp:s0.pend=[]) (hd:s0.down=false) (hb:Bytes b) (hl:b.length=64 * k) (hk:1≤k) (hh:home+k≤n) :
  ∃ t,(layJ s0 home b=(13,t)∧s0.fuse≠-1∧(Torn n s0 b home k t∨Whole n s0 b home k t))∨(layJ s0 home b=(0,t)∧Whole n s0 b home k t∧rowOf t.last home=piece b 0∧t.pend=[]∧t.down=false∧(s0.fuse=-1→t.fuse=-1)):=by
 have T0:Torn n s0 b home k s0:=⟨h,fun j hj _=>⟨rfl,(h.same j hj (by rw[hp];simp)).symm⟩,fun j hj=>⟨.inl rfl,.inl (h.same j hj (by rw[hp];simp)).symm⟩⟩
 have hdiv:b.length / 64 - 1=k - 1:=by omega
 obtain⟨t1,k1,k2⟩:=Ew hb hl hh (k - 1) 1 s0 (by omega) (by omega) T0 hd (fun j a c=>by omega)
 unfold layJ
 rw[hdiv]
 rcases k2 with⟨e1,f1⟩|⟨e1,d1,a1,f1⟩
 ·exact⟨t1,.inl ⟨by rw[mX (mX (mX e1))],f1,.inl k1⟩⟩
 ·rw[then_ok e1]
  have S:∃ t2,Torn n s0 b home k t2∧(((if 64 < b.length then syncD t1 else (0,t1))=(13,t2)∧s0.fuse≠-1)∨((if 64 < b.length then syncD t1 else (0,t1))=(0,t2)∧t2.down=false∧(∀ j,1≤j→j < k→rowOf t2.now (home+j)=piece b j∧rowOf t2.last (home+j)=piece b j)∧(s0.fuse=-1→t2.fuse=-1))):=by
   by_cases h64:64 < b.length
   ·rw[if_pos h64]
    obtain⟨t2,w,e2,g|g⟩:=Eu k1.wf d1
    ·exact⟨t2,k1.same w e2 g.2.1,.inl ⟨g.1,fun hf=>g.2.2.2 (f1 hf)⟩⟩
    ·refine⟨t2,⟨w,fun j hj ho=>?_,fun j hj=>?_⟩,.inr ⟨g.1,g.2.2.2.1,fun j a c=>?_,fun hf=>g.2.2.2.2 (f1 hf)⟩⟩
     ·rw[e2,g.2.1];exact⟨(k1.out j hj ho).1,(k1.out j hj ho).1⟩
     ·rw[e2,g.2.1];exact⟨(k1.mid j hj).1,(k1.mid j hj).1⟩
     ·rw[e2,g.2.1];exact⟨a1 j a c,a1 j a c⟩
   ·rw[if_neg h64]
    exact⟨t1,k1,.inr ⟨rfl,d1,fun j a c=>by omega,f1⟩⟩
  obtain⟨t2,T2,S2⟩:=S
  rcases S2 with⟨e2,f2⟩|⟨e2,d2,a2,f2⟩
  ·exact⟨t2,.inl ⟨by rw[mX (mX e2)],f2,.inl T2⟩⟩
  ·rw[then_ok e2]
   have hs0:=yV hb hl (i:=0) (by omega)
   obtain⟨t3,w3,e3,g|g⟩:=yU T2.wf d2 (j:=home) (by omega) hs0
   ·exact⟨t3,.inl ⟨by rw[mX g.1],fun hf=>g.2.2.2 (f2 hf),.inl (T2.same w3 g.2.1 e3)⟩⟩
   ·rw[then_ok g.1]
    have hn:∀ j,j < n→rowOf t3.now j=if home=j then piece b 0 else rowOf t2.now j:=fun j hj=>by rw[g.2.1,aS _ _ _ _ (by rw[T2.wf.now];exact hj)]
    have W3:Whole n s0 b home k t3:=by
     refine⟨w3,fun j hj ho=>?_,fun i hi=>?_,fun i a c=>?_,.inl ?_⟩
     ·rw[hn j hj,if_neg (by omega),e3];exact T2.out j hj (by omega)
     ·rw[hn _ (by omega)]
      by_cases hi0:i=0
      ·rw[if_pos (by omega),hi0]
      ·rw[if_neg (by omega)];exact(a2 i (by omega) hi).1
     ·rw[e3];exact(a2 i a c).2
     ·rw[e3];exact(T2.out home (by omega) (.inl (Nat.le_refl _))).2
    obtain⟨t4,w4,e4,q|q⟩:=Eu w3 g.2.2.2.1
    ·refine⟨t4,.inl ⟨q.1,fun hf=>q.2.2.2 (g.2.2.2.2 (f2 hf)),.inr ⟨w4,fun j hj ho=>?_,fun i hi=>?_,fun i a c=>?_,?_⟩⟩⟩
     ·rw[e4,q.2.1];exact W3.out j hj ho
     ·rw[e4];exact W3.now i hi
     ·rw[q.2.1];exact W3.last i a c
     ·rw[q.2.1];exact W3.first
    ·refine⟨t4,.inr ⟨q.1,⟨w4,fun j hj ho=>?_,fun i hi=>?_,fun i a c=>?_,.inr ?_⟩,?_,q.2.2.1,q.2.2.2.1,fun hf=>q.2.2.2.2 (g.2.2.2.2 (f2 hf))⟩⟩
     ·rw[e4,q.2.1];exact⟨(W3.out j hj ho).1,(W3.out j hj ho).1⟩
     ·rw[e4];exact W3.now i hi
     ·rw[q.2.1];exact W3.now i c
     ·rw[q.2.1];exact W3.now 0 (by omega)
     ·rw[q.2.1];exact W3.now 0 (by omega)
theorem yX {n:Nat}(keep:List Bool):∀ (l:List Nat) (k:Nat) (p:List (List Int) × List (List Int)),p.1.length=n→p.2.length=n→∀ j,j < n →
    (rowOf (iU keep k l p).1 j=rowOf p.1 j∨rowOf (iU keep k l p).1 j=rowOf p.2 j)
  | [],_,p,_,_,j,_=>.inl rfl
  | i :: l,k,p,h1,h2,j,hj=>by
    rw[nY]
    have hl:(fO keep k i p).1.length=n∧(fO keep k i p).2.length=n:=by
      unfold fO
      split<;>simp[h1,h2]
    have ih:=yX keep l (k+1) (fO keep k i p) hl.1 hl.2 j hj
    have e1:rowOf (fO keep k i p).1 j=rowOf p.1 j∨rowOf (fO keep k i p).1 j=rowOf p.2 j:=by
      unfold fO
      split
      · exact .inl rfl
      · simp only
        rw[aS _ _ _ _ (by rw[h1];exact hj)]
        split
        · rename_i e;subst e;exact .inr rfl
        · exact .inl rfl
    have e2:rowOf (fO keep k i p).2 j=rowOf p.1 j∨rowOf (fO keep k i p).2 j=rowOf p.2 j:=by
      unfold fO
      split
      · simp only
        rw[aS _ _ _ _ (by rw[h2];exact hj)]
        split
        · rename_i e;subst e;exact .inl rfl
        · exact .inr rfl
      · exact .inr rfl
    rcases ih with ih|ih<;>rw[ih]
    · exact e1
    · exact e2
theorem crash_row {n:Nat}{s:DS}(h:WF n s) (keep:List Bool) (j:Nat) (hj:j < n):rowOf (aB s keep).now j=rowOf s.now j∨rowOf (aB s keep).now j=rowOf s.last j :=
 yX keep s.pend 0 (s.now,s.last) h.now h.last j hj
theorem ut {n:Nat}{s0 s:DS}{b:List Int}{home k:Nat}(h:Torn n s0 b home k s) (keep:List Bool) :
  (∀ j,j < n→(j≤home∨home+k≤j)→rowOf (aB s keep).now j=rowOf s0.now j)∧∀ j,j < n→rowOf (aB s keep).now j=rowOf s0.now j∨rowOf (aB s keep).now j=piece b (j - home):=by
 refine⟨fun j hj ho=>?_,fun j hj=>?_⟩
 ·rcases crash_row h.wf keep j hj with e|e<;>rw[e]
  ·exact(h.out j hj ho).1
  ·exact(h.out j hj ho).2
 ·rcases crash_row h.wf keep j hj with e|e<;>rw[e]
  ·exact(h.mid j hj).1
  ·exact(h.mid j hj).2
theorem ku {n:Nat}{s0 s:DS}{b:List Int}{home k:Nat}(h:Whole n s0 b home k s) (keep:List Bool) (hk:1≤k) (hh:home+k≤n) :
  (∀ j,j < n→(j < home∨home+k≤j)→rowOf (aB s keep).now j=rowOf s0.now j)∧(∀ i,1≤i→i < k→rowOf (aB s keep).now (home+i)=piece b i)∧(rowOf (aB s keep).now home=rowOf s0.now home∨rowOf (aB s keep).now home=piece b 0):=by
 refine⟨fun j hj ho=>?_,fun i h1 h2=>?_,?_⟩
 ·rcases crash_row h.wf keep j hj with e|e<;>rw[e]
  ·exact(h.out j hj ho).1
  ·exact(h.out j hj ho).2
 ·rcases crash_row h.wf keep (home+i) (by omega) with e|e<;>rw[e]
  ·exact h.now i h2
  ·exact h.last i h1 h2
 ·rcases crash_row h.wf keep home (by omega) with e|e<;>rw[e]
  ·exact .inr (h.now 0 (by omega))
  ·exact h.first
theorem mZ {f:FV}{i:Nat}(h0:i≠0) (hi:i < kF f.body):at_ (piece (laid (textF f)) i) 0≠1:=by
 have h:=qK (textF f) [] i (by rw[Ce];exact hi)
 rw[List.append_nil] at h
 unfold piece
 rw[bY (by omega),h]
 unfold mk
 rw[if_neg h0]
 decide
theorem WO {s:DS}{half m:Nat}{f:FV}(h:FrAt s half m f) (h64:∀ j,j < hn s→(row s half j).length=64):((fG (row s half m):Nat):Int)=f.gen:=by
 have hg:=Et h
 have hm:m < hn s:=by have:=h.2.1;have:=qL f.body;omega
 have e:fG (textJ s half m)=fG (row s half m):=by
  unfold fG h14
  rw[um s half m hm,List.take_append_of_le_length (by have:=h64 m hm;omega)]
 rw[← e]
 unfold getF at hg
 split at hg
 ·have:=congrArg (fun x=>x.1.gen) hg
  exact this
 ·have:=congrArg (fun x=>x.2.2) hg
  simp at this
theorem SG {s:DS}{half m:Nat}{f:FV}(h:FrAt s half m f) (h64:∀ j,j < hn s→(row s half j).length=64):∀ i,i < kF f.body→Old (f.gen+1) (row s half (m+i)):=by
 intro i hi
 by_cases h0:i=0
 ·subst h0
  right
  rw[Nat.add_zero,WO h h64]
  omega
 ·left
  rw[h.2.2 i hi]
  exact mZ h0 hi
theorem Old.mono {g g':Int}{r:List Int}(h:Old g r) (hg:g≤g'):Old g' r:=h.imp id (fun h=>by omega)
theorem iy {n:Nat}{s c:DS}(h:WF n s) (w:WF n c):hn c=hn s:=by rw[jZ h,jZ w]
theorem aA.same {n:Nat}{s c:DS}{v:JV}(h:aA n s v) (w:WF n c) (h1:∀ m,m < v.pos→row c v.half m=row s v.half m) (h2:∀ m,v.pos≤m→m < hn s→row c v.half m=row s v.half m∨at_ (row c v.half m) 0≠1) (h3:∀ m,m < hn s→row c (1 - v.half) m=row s (1 - v.half) m):aA n c v:=by
 have hh:=iy h.wf w
 refine⟨w,h.half,?_,h.seq,by rw[hh];exact h.pos,fun m hm=>by rw[h1 m hm];exact h.low m hm,fun m a b=>?_,fun m hm=>by rw[h3 m (by rw[← hh];exact hm)];exact h.other m (by rw[← hh];exact hm)⟩
 ·rcases h.start with⟨a1,a2,a3,a4,a5⟩|⟨a1,a2,a3,a4⟩
  ·exact .inl ⟨a1,a2,a3,a4,a5.same hh (fun j _ hj=>by have:=h1 j hj;rwa [a2] at this)⟩
  ·have hle:=a4.le
   exact .inr ⟨a1,a2,a3.same hh (fun j _ hj=>h1 j (by simp only at hj;omega)),a4.same hh (fun j _ hj=>h1 j hj)⟩
 ·rw[hh] at b
  rcases h2 m a b with e|e
  ·rw[e];exact h.high m a b
  ·exact .inl e
theorem aA.append {n:Nat}{s c:DS}{v:JV}{b:List Int}(h:aA n s v) (w:WF n c) (hf:errF (recF v b)=0) (hr:v.pos+kF b≤hn s) (h1:∀ i,i < kF b→row c v.half (v.pos+i)=piece (laid (textF (recF v b))) i)
  (h2:∀ m,m < hn s→(m < v.pos∨v.pos+kF b≤m)→row c v.half m=row s v.half m) (h3:∀ m,m < hn s→row c (1 - v.half) m=row s (1 - v.half) m) (dead:Bool) :
  aA n c { v with recs:=v.recs++[b],pos:=v.pos+kF b,seq:=v.seq+1,dead:=dead }:=by
 have hh:=iy h.wf w
 have F:FrAt c v.half v.pos (recF v b):=⟨hf,by rw[hh];exact hr,h1⟩
 have h64:=wH w v.half h.half
 refine⟨w,h.half,?_,?_,by rw[hh];exact hr,fun m hm=>?_,fun m a c'=>?_,fun m hm=>by rw[h3 m (by rw[← hh];exact hm)];exact h.other m (by rw[← hh];exact hm)⟩
 ·have hq:=h.seq
  rcases h.start with⟨a1,a2,a3,a4,a5⟩|⟨a1,a2,a3,a4⟩
  ·refine .inl ⟨a1,a2,a3,a4,(a5.same hh (fun j _ hj=>by have:=h2 j (by have:=h.pos;omega) (.inl hj);rwa [a2] at this)).snoc ?_⟩
   unfold recF at F
   rw[a2,a3,hq] at F
   exact F
  ·have hle:=a4.le
   refine .inr ⟨a1,a2,a3.same hh (fun j _ hj=>h2 j (by simp only at hj;have:=h.pos;omega) (.inl (by simp only at hj;omega))),(a4.same hh (fun j _ hj=>h2 j (by have:=h.pos;omega) (.inl hj))).snoc ?_⟩
   unfold recF at F
   rw[hq] at F
   exact F
 ·have:=h.seq
  simp only[List.length_append,List.length_cons,List.length_nil]
  omega
 ·by_cases hlt:m < v.pos
  ·rw[h2 m (by have:=h.pos;omega) (.inl hlt)];exact h.low m hlt
  ·have:=SG F h64 (m - v.pos) (by simp only at hm;show m - v.pos < kF b;omega)
   rw[show v.pos+(m - v.pos)=m by omega] at this
   exact this
 ·rw[hh] at c'
  simp only at a
  rw[h2 m c' (.inr a)]
  exact h.high m (by omega) c'
theorem aA.compact {n:Nat}{s c:DS}{v:JV}{b:List Int}(h:aA n s v) (w:WF n c) (hf:errF (dU v b)=0) (hr:kF b≤hn s) (h1:∀ i,i < kF b→row c (1 - v.half) i=piece (laid (textF (dU v b))) i)
  (h2:∀ m,m < hn s→kF b≤m→row c (1 - v.half) m=row s (1 - v.half) m) (h3:∀ m,m < hn s→row c v.half m=row s v.half m) (dead:Bool) :
  aA n c ⟨1 - v.half,v.gen+1,true,b,[],kF b,1,dead⟩:=by
 have hh:=iy h.wf w
 have hhalf:1 - v.half=0∨1 - v.half=1:=by rcases h.half with e|e<;>omega
 have F:FrAt c (1 - v.half) 0 (dU v b):=⟨hf,by rw[hh];show 0+kF b≤hn s;omega,fun i hi=>by rw[Nat.zero_add];exact h1 i hi⟩
 have h64:=wH w (1 - v.half) hhalf
 have hg:0≤v.gen:=by
  rcases h.start with⟨-,-,a3,-⟩|⟨-,a2,-⟩<;>omega
 have hback:1 - (1 - v.half)=v.half:=by rcases h.half with e|e<;>omega
 refine⟨w,hhalf,.inr ⟨rfl,by simp only;omega,F,rfl⟩,rfl,by rw[hh];exact hr,fun m hm=>?_,fun m a c'=>?_,fun m hm=>?_⟩
 ·have:=SG F h64 m hm
  rw[Nat.zero_add] at this
  exact this
 ·rw[hh] at c'
  rw[h2 m c' a]
  exact(h.other m c').mono (by simp only;omega)
 ·rw[hh] at hm
  simp only[hback]
  rw[h3 m hm]
  by_cases hlt:m < v.pos
  ·exact h.low m hlt
  ·exact(h.high m (by omega) hm).mono (by omega)
theorem yY {n:Nat}{s:DS}(w:WF n s) (h:∀ j,j < n→rowOf s.now j=bF):aA n s noJ:=by
 have hz:∀ half m,half=0∨half=1→m < hn s→at_ (row s half m) 0≠1:=fun half m hh hm=>by
  have:=jZ w
  unfold row
  rw[h _ (by rcases hh with rfl|rfl<;>omega)]
  decide
 exact⟨w,.inl rfl,.inl ⟨rfl,rfl,rfl,rfl,rfl⟩,rfl,Nat.zero_le _,fun m hm=>absurd hm (Nat.not_lt_zero _),fun m _ hm=>.inl (hz 0 m (.inl rfl) hm),fun m hm=>.inl (hz 1 m (.inr rfl) hm)⟩
structure Calm (s:DS):Prop where
 pend:s.pend=[]
 down:s.down=false
 fuse:s.fuse=-1
def kw (v:JV) (b:List Int):JV:={ v with recs:=v.recs++[b],pos:=v.pos+kF b,seq:=v.seq+1 }
def CJ (v:JV) (b:List Int):JV:=⟨1 - v.half,v.gen+1,true,b,[],kF b,1,v.dead⟩
theorem uu {f:FV}(h:errF f=0):putF f=(0,laid (textF f)):=by unfold putF;rw[h,if_pos rfl]
theorem ni (f:FV):(laid (textF f)).length=64 * kF f.body:=by rw[lu,Ce]
theorem qO {f:FV}(h:Bytes f.body):Bytes (laid (textF f)):=ul _ (qH f h)
theorem ny {n:Nat}{s:DS}{v:JV}(h:aA n s v):v.half * hn s+hn s≤n∧(1 - v.half) * hn s+hn s≤n:=by
 have:=jZ h.wf
 rcases h.half with e|e<;>rw[e]<;>omega
theorem Lh {n:Nat}{s c:DS}{v:JV}(h:aA n s v) (w:WF n c) {k:Nat}(Q:Nat→List Int→Prop) (hr:v.pos+k≤hn s) (h1:∀ i,i < k→Q i (rowOf c.now (v.half * hn s+v.pos+i))) (h2:∀ j,j < n→(j < v.half * hn s+v.pos∨v.half * hn s+v.pos+k≤j)→rowOf c.now j=rowOf s.now j) :
  (∀ i,i < k→Q i (row c v.half (v.pos+i)))∧(∀ m,m < hn s→(m < v.pos∨v.pos+k≤m)→row c v.half m=row s v.half m)∧(∀ m,m < hn s→row c (1 - v.half) m=row s (1 - v.half) m):=by
 have hh:=iy h.wf w
 have hle:=ny h
 refine⟨fun i hi=>?_,fun m hm ho=>?_,fun m hm=>?_⟩
 ·unfold row;rw[hh,← Nat.add_assoc];exact h1 i hi
 ·unfold row;rw[hh];exact h2 _ (by omega) (by omega)
 ·unfold row;rw[hh]
  refine h2 _ (by omega) ?_
  rcases h.half with e|e
  ·rw[e] at hle ⊢;right;simp only[Nat.zero_mul,Nat.zero_add,Nat.sub_zero,Nat.one_mul];omega
  ·rw[e];left;simp only[Nat.sub_self,Nat.zero_mul,Nat.zero_add,Nat.one_mul];omega
theorem oD {n:Nat}{s c:DS}{v:JV}{b:List Int}(h:aA n s v) (w:WF n c) (hf:errF (recF v b)=0) (hr:v.pos+kF b≤hn s) (h1:∀ i,i < kF b→rowOf c.now (v.half * hn s+v.pos+i)=piece (laid (textF (recF v b))) i)
  (h2:∀ j,j < n→(j < v.half * hn s+v.pos∨v.half * hn s+v.pos+kF b≤j)→rowOf c.now j=rowOf s.now j):aA n c (kw v b):=by
 obtain⟨a1,a2,a3⟩:=Lh h w (fun i r=>r=piece (laid (textF (recF v b))) i) hr h1 h2
 exact h.append w hf hr a1 a2 a3 v.dead
theorem CQ {s:DS}{v:JV}{k:Nat}:yT s v < (k:Int) ↔ hn s < v.pos+k:=by unfold yT;omega
theorem yZ {n:Nat}{s:DS}{v:JV}{b:List Int}{fu:Int}(h:aA n s v) (c:Calm s) (hb:Bytes b) (keep:List Bool) (hfu:fu≤9223372036854775807) :
  Calm (aB (appendJ (fF s fu) v b).2.1 keep)∧WF n (aB (appendJ (fF s fu) v b).2.1 keep)∧(((appendJ (fF s fu) v b).1≠0∧aA n (aB (appendJ (fF s fu) v b).2.1 keep) v)∨aA n (aB (appendJ (fF s fu) v b).2.1 keep) (kw v b)):=by
 have wS:WF n (fF s fu):=JD h.wf fu hfu
 have hpend:(fF s fu).pend=[]:=c.pend
 have calm:∀ x:DS,Calm (aB x keep):=fun x=>⟨rfl,rfl,rfl⟩
 have stay:∀ x:DS,WF n x→x.now=s.now→x.last=s.last→WF n (aB x keep)∧aA n (aB x keep) v:=fun x wx e1 e2=>by
  have wc:=jv wx keep
  refine⟨wc,h.same wc ?_ ?_ ?_⟩
  all_goals
   have hs:∀ j,j < n→rowOf (aB x keep).now j=rowOf s.now j:=fun j hj=>by
    rcases crash_row wx keep j hj with e|e<;>rw[e]
    ·rw[e1]
    ·rw[e2];exact(h.wf.same j hj (by rw[c.pend];simp)).symm
   have hle:=ny h
   have hh:=iy h.wf wc
   have hpos:=h.pos
  ·intro m hm;unfold row;rw[hh];exact hs _ (by omega)
  ·intro m _ hm;left;unfold row;rw[hh];exact hs _ (by omega)
  ·intro m hm;unfold row;rw[hh];exact hs _ (by omega)
 refine⟨calm _,?_⟩
 unfold appendJ
 by_cases hd:v.dead=true∨(fF s fu).down=true
 ·rw[if_pos hd]
  obtain⟨a,b'⟩:=stay _ wS rfl rfl
  exact⟨a,.inl ⟨by simp,b'⟩⟩
 ·rw[if_neg hd]
  by_cases hp:(putF (recF v b)).1≠0
  ·rw[if_pos hp]
   obtain⟨a,b'⟩:=stay _ wS rfl rfl
   exact⟨a,.inl ⟨hp,b'⟩⟩
  ·have hf:errF (recF v b)=0:=by simpa [putF] using hp
   rw[if_neg hp,uu hf]
   have hl:=ni (recF v b)
   have hk:(laid (textF (recF v b))).length / 64=kF b:=by rw[hl];show 64 * kF b / 64=_;omega
   simp only[hk]
   have hhf:hn (fF s fu)=hn s:=rfl
   by_cases hr:yT (fF s fu) v < (kF b:Nat)
   ·rw[if_pos hr]
    obtain⟨a,b'⟩:=stay _ wS rfl rfl
    exact⟨a,.inl ⟨by simp,b'⟩⟩
   ·rw[if_neg hr,hhf]
    have hroom:v.pos+kF b≤hn s:=by
     rw[CQ,hhf] at hr
     omega
    have hle:=(ny h).1
    have hkb:=qL b
    have hdn:(fF s fu).down=false:=by simpa using fun e=>hd (.inr e)
    have hend:v.half * hn s+v.pos+kF b≤n:=by omega
    have new:∀ x:DS,WF n (aB x keep)→(∀ i,i < kF b→rowOf (aB x keep).now (v.half * hn s+v.pos+i)=piece (laid (textF (recF v b))) i)→(∀ j,j < n→(j < v.half * hn s+v.pos∨v.half * hn s+v.pos+kF b≤j)→rowOf (aB x keep).now j=rowOf s.now j)→aA n (aB x keep) (kw v b) :=
     fun x w a1 a2=>oD h w hf hroom a1 a2
    have old:∀ x:DS,WF n (aB x keep)→rowOf (aB x keep).now (v.half * hn s+v.pos)=rowOf s.now (v.half * hn s+v.pos)→(∀ i,i < kF b→rowOf (aB x keep).now (v.half * hn s+v.pos+i)=rowOf s.now (v.half * hn s+v.pos+i)∨rowOf (aB x keep).now (v.half * hn s+v.pos+i)=piece (laid (textF (recF v b))) i) →
      (∀ j,j < n→(j < v.half * hn s+v.pos∨v.half * hn s+v.pos+kF b≤j)→rowOf (aB x keep).now j=rowOf s.now j)→aA n (aB x keep) v:=fun x w a0 a1 a2=>by
     have hh:=iy h.wf w
     obtain⟨b1,b2,b3⟩:=Lh h w (k:=kF b) (fun i r=>r=rowOf s.now (v.half * hn s+v.pos+i)∨(i≠0∧r=piece (laid (textF (recF v b))) i)) hroom (fun i hi=>by
      by_cases hi0:i=0
      ·subst hi0;left;exact a0
      ·exact(a1 i hi).imp id (fun e=>⟨hi0,e⟩)) a2
     refine h.same w (fun m hm=>b2 m (by have:=h.pos;omega) (.inl hm)) (fun m h1 h2=>?_) b3
     by_cases hm:m < v.pos+kF b
     ·have:=b1 (m - v.pos) (by omega)
      rw[show v.pos+(m - v.pos)=m by omega] at this
      rcases this with e|⟨e0,e⟩
      ·left;rw[e];unfold row;congr 1;omega
      ·right;rw[e];exact mZ (f:=recF v b) e0 (by show m - v.pos < kF b;omega)
     ·exact .inl (b2 m h2 (.inr (by omega)))
    obtain⟨t,T|T⟩:=Ci wS hpend hdn (qO (f:=recF v b) hb) hl hkb (home:=v.half * hn s+v.pos) hend
    ·obtain⟨e,-,T|W⟩:=T
     ·rw[e]
      have wc:=jv T.wf keep
      obtain⟨c1,c2⟩:=ut T keep
      simp only[show (13:Int)≠0 by decide,if_neg,not_false_eq_true]
      refine⟨wc,.inl ⟨by decide,old t wc (c1 _ (by omega) (.inl (Nat.le_refl _))) (fun i hi=>?_) (fun j hj ho=>c1 j hj (by omega))⟩⟩
      have:=c2 (v.half * hn s+v.pos+i) (by omega)
      rw[show v.half * hn s+v.pos+i - (v.half * hn s+v.pos)=i by omega] at this
      exact this
     ·rw[e]
      have wc:=jv W.wf keep
      obtain⟨c1,c2,c3⟩:=ku W keep hkb hend
      simp only[show (13:Int)≠0 by decide,if_neg,not_false_eq_true]
      refine⟨wc,?_⟩
      rcases c3 with c3|c3
      ·refine .inl ⟨by decide,old t wc c3 (fun i hi=>?_) c1⟩
       by_cases hi0:i=0
       ·subst hi0;left;exact c3
       ·exact .inr (c2 i (by omega) hi)
      ·refine .inr (new t wc (fun i hi=>?_) c1)
       by_cases hi0:i=0
       ·subst hi0;exact c3
       ·exact c2 i (by omega) hi
    ·obtain⟨e,W,l0,-⟩:=T
     rw[e]
     have wc:=jv W.wf keep
     obtain⟨c1,c2,-⟩:=ku W keep hkb hend
     simp only[if_pos]
     refine⟨wc,.inr (new t wc (fun i hi=>?_) c1)⟩
     by_cases hi0:i=0
     ·subst hi0
      rcases crash_row W.wf keep _ (show v.half * hn s+v.pos < n by omega) with e1|e1
      ·rw[Nat.add_zero,e1];exact W.now 0 hkb
      ·rw[Nat.add_zero,e1];exact l0
     ·exact c2 i (by omega) hi
end Journal
namespace Vault
open Num Sha Purse Escrow Wire Req Disk Go.Proofs.YtlkeieoecfkkeaaGreat.Frame
structure TV where
 seq:Int
 seen:Int
 a:AV
def A0:AV:=⟨0,0,[],[]⟩
def T0:TV:=⟨0,0,A0⟩
structure VS where
 l:Ledger.LS
 t:List TV
def newV (s0:Ledger.LS) (n:Nat):VS:=⟨s0,List.replicate n T0⟩
def tAt (v:VS) (p:Nat):TV:=v.t.getD p T0
def putT (x:TV):List Int:=be x.seq.toNat 4++(if x.seq=0 then [] else be x.a.clock.toNat 8++(be x.a.seen.toNat 2++(be x.seen.toNat 2++(be x.a.p.length 1++x.a.p.flatMap putP))))
def pictV (v:VS):List Int:=be (Ledger.Qo v.l).length 4++(Ledger.Qo v.l++v.t.flatMap putT)
def recV (p:Nat) (seq at_:Int) (b:List Int):List Int:=be p 1++(be seq.toNat 4++(be at_.toNat 8++b))
def atV (l:Ledger.LS) (clock:Int):Int:=(Ledger.clockL l clock).clock
def doV (v:VS) (p:Nat) (seq at_:Int) (x:BV):VS:=⟨(Ledger.applyL v.l p at_ x).2,v.t.set p ⟨seq,x.seen,(Ledger.applyL v.l p at_ x).1⟩⟩
def qP (l:Ledger.LS) (seen told:Int):List VV:=if 0≤seen∧seen≤told then ((Ledger.evs l).drop seen.toNat).take (told - seen).toNat else []
structure WT (l:Ledger.LS) (x:TV):Prop where
 seq:0≤x.seq∧x.seq≤4294967295
 zero:x.seq=0→x=T0
 seen:I16 x.seen
 clock:Tck x.a.clock∧x.a.clock≤l.clock
 told:0≤x.a.seen∧x.a.seen≤l.e.length
 p:x.a.p.length≤64∧∀ r∈x.a.p,MayP r
 v:x.a.v=qP l x.seen x.a.seen
structure WV (s0:Ledger.LS) (v:VS):Prop where
 w0:Ledger.WL s0
 i0:Ledger.WI s0
 e0:s0.e=[]
 r:Ledger.Reach s0 v.l
 n:v.t.length=s0.b.p.np
 each:∀ x∈v.t,WT v.l x
section
variable {s0 l l' : Ledger.LS} {v : VS}
theorem WV.k (h:WV s0 v):Ledger.aA s0 v.l:=h.r.keeps h.w0 h.i0
theorem WV.wl (h:WV s0 v):Ledger.WL v.l:=h.k.wl
theorem WV.wi (h:WV s0 v):Ledger.WI v.l:=h.k.wi
theorem WV.np (h:WV s0 v):v.l.b.p.np=s0.b.p.np:=h.k.np
theorem WV.len (h:WV s0 v):v.t.length=v.l.b.p.np:=by rw[h.n,h.np]
theorem toldE_nil (l:Ledger.LS):qP l 0 0=[]:=by unfold qP;simp
theorem wt0 (w:Ledger.WL l):WT l T0 :=
 ⟨by decide,fun _=>rfl,(by decide:I16 0),⟨(by decide:Tck 0),w.clock.1⟩,⟨by decide,by show (0:Int)≤_;omega⟩,⟨by decide,by intro r hr;cases hr⟩,(toldE_nil l).symm⟩
theorem UQ (w:Ledger.WL s0) (wi:Ledger.WI s0) (h0:s0.e=[]):WV s0 (newV s0 s0.b.p.np) :=
 ⟨w,wi,h0,Ledger.Reach.start,by simp[newV],fun x hx=>by
  have:=List.eq_of_mem_replicate hx
  rw[this];exact wt0 w⟩
theorem CU {p:Nat}(hp:p < v.t.length):tAt v p∈v.t:=by
 unfold tAt;rw[List.getD_eq_getElem?_getD,List.getElem?_eq_getElem hp];exact List.getElem_mem hp
theorem Qu (w:Ledger.WL l) (party:Int) (r:RV):B8 (Ledger.actL l party r).1.2∧I16 (Ledger.actL l party r).1.1:=by
 have d:∀ k:Int,k=0∨k=1∨k=2∨k=7∨k=8∨k=9∨k=10∨k=11∨k=12∨k=14→B8 k:=fun k hk=>by unfold B8;omega
 have z:I16 0:=by decide
 have hl:l.b.l.length≤400:=Nat.le_trans w.locks w.len
 have m:∀ i j a n:Int,(moveP l.b.p i j a n).1=0∨(moveP l.b.p i j a n).1=1∨(moveP l.b.p i j a n).1=7∨(moveP l.b.p i j a n).1=14:=fun i j a n=>by
  unfold moveP;(repeat' split)<;>simp
 have tk:∀ i a n:Int,(iT l.b.p i a n).1=0∨(iT l.b.p i a n).1=1∨(iT l.b.p i a n).1=7:=fun i a n=>by
  unfold iT;(repeat' split)<;>simp
 have gv:∀ i a n:Int,(giveP l.b.p i a n).1=0∨(giveP l.b.p i a n).1=1:=fun i a n=>by
  unfold giveP;(repeat' split)<;>simp
 unfold Ledger.actL
 split
 ·split
  ·exact⟨d _ (by simp),z⟩
  ·split
   ·exact⟨d _ (by simp),z⟩
   ·refine⟨d _ ?_,z⟩
    have:=m party r.dst r.asset r.amount
    dsimp only;omega
 ·split
  ·split
   ·exact⟨d _ (by simp),z⟩
   ·have h1:=tk party r.asset r.amount
    unfold fV
    split
    ·exact⟨d _ (by simp),z⟩
    ·split
     ·exact⟨d _ (by simp),z⟩
     ·split
      ·exact⟨d _ (by simp),z⟩
      ·split
       ·exact⟨d _ (by simp),z⟩
       ·split
        ·exact⟨d _ (by dsimp only;omega),z⟩
        ·exact⟨d _ (by simp),by show I16 ((l.b.l.length:Nat):Int);unfold I16;omega⟩
  ·split
   ·refine⟨d _ ?_,z⟩
    dsimp only
    unfold oq
    have h1:=gv party (atE l.b.l r.id.toNat).asset (atE l.b.l r.id.toNat).amount
    (repeat' split)<;>dsimp only<;>omega
   ·refine⟨d _ ?_,z⟩
    dsimp only
    unfold fJ
    have h1:=gv party (atE l.b.l r.id.toNat).asset (atE l.b.l r.id.toNat).amount
    (repeat' split)<;>dsimp only<;>omega
theorem UR (w:Ledger.WL l) (party:Int) (r:RV):MayP (Ledger.oneL l party r).1:=by
 have h:=Qu w party r
 unfold Ledger.oneL
 split
 ·split
  ·exact⟨(by decide:B8 0),h.2⟩
  ·exact⟨h.1,(by decide:I16 0)⟩
 ·exact⟨(by decide:B8 1),(by decide:I16 0)⟩
theorem Ey (party:Int):∀ {rs:List RV}{l:Ledger.LS},Ledger.WL l→Ledger.WI l→(∀ r∈rs,r.ok)→∀ x∈(Ledger.manyL l party rs).1,MayP x
  | [],_,_,_,_,x,hx=>by simp[Ledger.manyL] at hx
  | r :: rs,l,w,wi,hr,x,hx=>by
    have k:=(Ledger.mO w wi (party:=party) (hr r (List.mem_cons_self ..))).1
    simp only[Ledger.manyL,List.mem_cons] at hx
    rcases hx with rfl|hx
    · exact UR w party r
    · exact Ey party (rs:=rs) k.wl k.wi (fun y hy=>hr y (List.mem_cons_of_mem _ hy)) x hx
theorem Ez (w:Ledger.WL l) (c:Int):Tck (atV l c)∧l.clock≤atV l c:=⟨(Ledger.yP w c).clock,Ledger.yO l c⟩
theorem GX {m:List Ledger.LE}(h:l'.e=l.e++m) {seen told:Int}(ht:told≤l.e.length):qP l' seen told=qP l seen told:=by
 unfold qP
 split
 ·rename_i hs
  have e:Ledger.evs l'=Ledger.evs l++m.map (·.v):=by simp[Ledger.evs,h]
  have hl:=Ledger.BO l
  rw[e,List.drop_append_of_le_length (by omega),List.take_append_of_le_length (by rw[List.length_drop];omega)]
 ·rfl
theorem WT.grow {x:TV}(h:WT l x) (k:Ledger.aA l l'):WT l' x:=by
 obtain⟨m,hm⟩:=k.e
 refine⟨h.seq,h.zero,h.seen,⟨h.clock.1,Int.le_trans h.clock.2 k.clock⟩,⟨h.told.1,?_⟩,h.p,?_⟩
 ·rw[hm,List.length_append];have:=h.told.2;omega
 ·rw[h.v,GX hm h.told.2]
structure OkX (x:BV):Prop where
 seen:I16 x.seen
 len:x.l.length≤64
 ok:∀ r∈x.l,r.ok
theorem Lj (w:Ledger.WL l) (wi:Ledger.WI l) {p at_ seq:Int}{x:BV}(hx:OkX x) (hq:1≤seq∧seq≤4294967295):WT (Ledger.applyL l p at_ x).2 ⟨seq,x.seen,(Ledger.applyL l p at_ x).1⟩:=by
 have k:=(Ledger.oC w wi p at_ x hx.ok).1
 have kc:=Ledger.fA w wi at_
 refine⟨by dsimp only;omega,fun h=>by dsimp only at h;omega,hx.seen,⟨k.wl.clock,Int.le_refl _⟩,⟨by show (0:Int)≤((_:Nat):Int);omega,Int.le_refl _⟩,⟨?_,?_⟩,?_⟩
 ·show (Ledger.manyL _ p (x.l.take 64)).1.length≤64
  rw[Ledger.yN,List.length_take];omega
 ·exact Ey p kc.wl kc.wi (fun r hr=>hx.ok r (List.mem_of_mem_take hr))
 ·show Ledger.oJ (Ledger.applyL l p at_ x).2 x.seen=qP (Ledger.applyL l p at_ x).2 x.seen (((Ledger.applyL l p at_ x).2.e.length:Nat):Int)
  unfold Ledger.oJ qP
  split
  ·rename_i hs
   have hl:=Ledger.BO (Ledger.applyL l p at_ x).2
   rw[List.take_of_length_le (by rw[List.length_drop];omega)]
  ·rfl
theorem SH (h:WV s0 v) {p:Nat}{seq at_:Int}{x:BV}(hx:OkX x) (hq:1≤seq∧seq≤4294967295):WV s0 (doV v p seq at_ x):=by
 have k:=(Ledger.oC h.wl h.wi p at_ x hx.ok).1
 refine⟨h.w0,h.i0,h.e0,h.r.apply p at_ x hx.ok,by simp only[doV,List.length_set];exact h.n,fun y hy=>?_⟩
 rcases List.mem_or_eq_of_mem_set hy with hy|rfl
 ·exact(h.each y hy).grow k
 ·exact Lj h.wl h.wi hx hq
theorem WT.okA (w:Ledger.WL l) {x:TV}(h:WT l x):OkA x.a:=by
 have hl:=w.len
 refine⟨h.clock.1,⟨h.told.1,by have:=h.told.2;omega⟩,h.p.1,?_,h.p.2,?_⟩
 ·rw[h.v];unfold qP
  split
  ·rw[List.length_take,List.length_drop,Ledger.BO];omega
  ·simp
 ·rw[h.v];unfold qP
  split
  ·intro y hy
   have:=List.mem_of_mem_drop (List.mem_of_mem_take hy)
   obtain⟨e,he,rfl⟩:=List.mem_map.1 this
   exact(w.each e he).1
  ·intro y hy;cases hy
theorem WT.vok (w:Ledger.WL l) {x:TV}(h:WT l x):∀ y∈x.a.v,y.ok:=by
 rw[h.v];unfold qP
 split
 ·intro y hy
  have:=List.mem_of_mem_drop (List.mem_of_mem_take hy)
  obtain⟨e,he,rfl⟩:=List.mem_map.1 this
  exact(w.each e he).2.1
 ·intro y hy;cases hy
end
def storeJ (s:DS) (j:Journal.JV) (pict rec:List Int):Int × DS × Journal.JV :=
  if (Journal.appendJ s j rec).1=12 then
    (if (Journal.compactJ (Journal.appendJ s j rec).2.1 (Journal.appendJ s j rec).2.2 pict).1=0 then
      Journal.appendJ (Journal.compactJ (Journal.appendJ s j rec).2.1 (Journal.appendJ s j rec).2.2 pict).2.1 (Journal.compactJ (Journal.appendJ s j rec).2.1 (Journal.appendJ s j rec).2.2 pict).2.2 rec
    else Journal.compactJ (Journal.appendJ s j rec).2.1 (Journal.appendJ s j rec).2.2 pict)
  else Journal.appendJ s j rec
structure MV where
 s:DS
 j:Journal.JV
 v:VS
 down:Bool
 served:Int
def handleM (m:MV) (party seq clock:Int) (b:List Int) (de:Int) (x:BV):(Int × List Int) × MV :=
 if m.down=true then ((13,[]),m)
 else if ¬ (0≤party∧party < m.v.t.length) then ((14,[]),m)
 else if 0 < seq∧seq=(tAt m.v party.toNat).seq then ((0,bytesA (tAt m.v party.toNat).a),m)
 else if seq≠(tAt m.v party.toNat).seq+1∨4294967295 < seq then ((5,[]),m)
 else if de≠0 then ((de,[]),m)
 else
  let r:=storeJ m.s m.j (pictV m.v) (recV party.toNat seq (atV m.v.l clock) b)
  if r.1=0 then ((0,bytesA (Ledger.applyL m.v.l party.toNat (atV m.v.l clock) x).1),⟨r.2.1,r.2.2,doV m.v party.toNat seq (atV m.v.l clock) x,false,m.served+1⟩)
  else ((r.1,[]),⟨r.2.1,r.2.2,m.v,decide (r.1=13),m.served⟩)
end Vault
namespace Journal
open Sha Disk Go.Proofs.YtlkeieoecfkkeaaGreat.Frame
theorem aA.same2 {n:Nat}{s c:DS}{v:JV}(h:aA n s v) (w:WF n c) (h1:∀ m,m < v.pos→row c v.half m=row s v.half m) (h2:∀ m,v.pos≤m→m < hn s→row c v.half m=row s v.half m∨at_ (row c v.half m) 0≠1) (h3:∀ m,m < hn s→row c (1 - v.half) m=row s (1 - v.half) m∨at_ (row c (1 - v.half) m) 0≠1):aA n c v:=by
 have hh:=iy h.wf w
 refine⟨w,h.half,?_,h.seq,by rw[hh];exact h.pos,fun m hm=>by rw[h1 m hm];exact h.low m hm,fun m a b=>?_,fun m hm=>?_⟩
 ·rcases h.start with⟨a1,a2,a3,a4,a5⟩|⟨a1,a2,a3,a4⟩
  ·exact .inl ⟨a1,a2,a3,a4,a5.same hh (fun j _ hj=>by have:=h1 j hj;rwa [a2] at this)⟩
  ·have hle:=a4.le
   exact .inr ⟨a1,a2,a3.same hh (fun j _ hj=>h1 j (by simp only at hj;omega)),a4.same hh (fun j _ hj=>h1 j hj)⟩
 ·rw[hh] at b
  rcases h2 m a b with e|e
  ·rw[e];exact h.high m a b
  ·exact .inl e
 ·rw[hh] at hm
  rcases h3 m hm with e|e
  ·rw[e];exact h.other m hm
  ·exact .inl e
theorem aA.fuse {n:Nat}{s:DS}{v:JV}(h:aA n s v) (fu:Int) (hfu:fu≤9223372036854775807):aA n (fF s fu) v :=
 h.same (JD h.wf fu hfu) (fun _ _=>rfl) (fun _ _ _=>.inl rfl) (fun _ _=>rfl)
theorem aA.dead {n:Nat}{s:DS}{v:JV}(h:aA n s v) (q:Bool):aA n s { v with dead:=q }:=⟨h.wf,h.half,h.start,h.seq,h.pos,h.low,h.high,h.other⟩
theorem Ll {n:Nat}{s:DS}(h:WF n s):fF (fF s (-1)) s.fuse=s:=by
 have:=h.fuse.1
 unfold fF
 dsimp only
 rw[if_neg (by omega)]
theorem G9 (s:DS) (fu:Int) (keep:List Bool):aB (fF s fu) keep=aB s keep:=rfl
theorem append_any {n:Nat}{s:DS}{v:JV}{b:List Int}(h:aA n s v) (hp:s.pend=[]) (hu:s.down=false) (hd:v.dead=false) (hb:Bytes b) (hf:errF (recF v b)=0) :
  (hn s < v.pos+kF b∧appendJ s v b=(12,s,v)) ∨
  (v.pos+kF b≤hn s∧∃ t,appendJ s v b=(0,t,kw v b)∧aA n t (kw v b)∧t.pend=[]∧t.down=false∧(s.fuse=-1→t.fuse=-1)) ∨
  (s.fuse≠-1∧∃ t j,appendJ s v b=(13,t,j)∧∀ keep,aA n (aB t keep) v∨aA n (aB t keep) (kw v b)):=by
 have hcr:=fun keep=>yZ (n:=n) (s:=fF s (-1)) (v:=v) (b:=b) (fu:=s.fuse) (h.fuse (-1) (by omega)) ⟨hp,hu,rfl⟩ hb keep h.wf.fuse.2
 rw[Ll h.wf] at hcr
 have hpt:=uu hf
 have hl:=ni (recF v b)
 have hk:(laid (textF (recF v b))).length / 64=kF b:=by rw[hl];show 64 * kF b / 64=_;omega
 have e:appendJ s v b=(if yT s v < (kF b:Nat) then (12,s,v) else if (layJ s (v.half * hn s+v.pos) (laid (textF (recF v b)))).1=0 then (0,(layJ s (v.half * hn s+v.pos) (laid (textF (recF v b)))).2,kw v b) else ((layJ s (v.half * hn s+v.pos) (laid (textF (recF v b)))).1,(layJ s (v.half * hn s+v.pos) (laid (textF (recF v b)))).2,Cc v)):=by
  unfold appendJ
  rw[if_neg (by rw[hd,hu];simp),hpt,if_neg (by simp)]
  simp only[hk]
  rfl
 by_cases hr:yT s v < (kF b:Nat)
 ·rw[if_pos hr] at e
  exact .inl ⟨CQ.1 hr,e⟩
 ·rw[if_neg hr] at e
  have hroom:v.pos+kF b≤hn s:=by rw[CQ] at hr;omega
  have hle:=(ny h).1
  obtain⟨t,T|T⟩:=Ci h.wf hp hu (qO (f:=recF v b) hb) hl (qL b) (home:=v.half * hn s+v.pos) (by show v.half * hn s+v.pos+kF b≤n;omega)
  ·obtain⟨e1,e2,-⟩:=T
   rw[e1,if_neg (show ¬ ((13:Int)=0) by decide)] at e
   refine .inr (.inr ⟨e2,t,_,e,fun keep=>?_⟩)
   have:=(hcr keep).2.2
   rw[e] at this
   exact this.imp (·.2) id
  ·obtain⟨e1,W,-,p1,p2,p3⟩:=T
   rw[e1,if_pos rfl] at e
   exact .inr (.inl ⟨hroom,t,e,oD h W.wf hf hroom (fun i hi=>W.now i hi) (fun j hj ho=>(W.out j hj ho).1),p1,p2,p3⟩)
theorem zf {n:Nat}{s c:DS}{v:JV}(h:aA n s v) (w:WF n c) {k:Nat}(Q:Nat→List Int→Prop) (hr:k≤hn s) (h1:∀ i,i < k→Q i (rowOf c.now ((1 - v.half) * hn s+i))) (h2:∀ j,j < n→(j < (1 - v.half) * hn s∨(1 - v.half) * hn s+k≤j)→rowOf c.now j=rowOf s.now j) :
  (∀ i,i < k→Q i (row c (1 - v.half) i))∧(∀ m,m < hn s→k≤m→row c (1 - v.half) m=row s (1 - v.half) m)∧(∀ m,m < hn s→row c v.half m=row s v.half m):=by
 have hh:=iy h.wf w
 have hle:=ny h
 refine⟨fun i hi=>?_,fun m hm ho=>?_,fun m hm=>?_⟩
 ·unfold row;rw[hh];exact h1 i hi
 ·unfold row;rw[hh];exact h2 _ (by omega) (by omega)
 ·unfold row;rw[hh]
  refine h2 _ (by omega) ?_
  rcases h.half with e|e
  ·rw[e] at hle ⊢;left;simp only[Nat.zero_mul,Nat.zero_add,Nat.sub_zero,Nat.one_mul];exact hm
  ·rw[e];right;simp only[Nat.sub_self,Nat.zero_mul,Nat.zero_add,Nat.one_mul];omega
theorem compact_any {n:Nat}{s:DS}{v:JV}{b:List Int}(h:aA n s v) (hp:s.pend=[]) (hu:s.down=false) (hd:v.dead=false) (hb:Bytes b) :
  ((60000 < b.length∨errF (dU v b)≠0∨hn s < kF b)∧∃ e,e≠0∧e≠13∧compactJ s v b=(e,s,v)) ∨
  (b.length≤60000∧errF (dU v b)=0∧kF b≤hn s∧∃ t,compactJ s v b=(0,t,CJ v b)∧aA n t (CJ v b)∧t.pend=[]∧t.down=false∧(s.fuse=-1→t.fuse=-1)) ∨
  (errF (dU v b)=0∧s.fuse≠-1∧∃ t j,compactJ s v b=(13,t,j)∧∀ keep,aA n (aB t keep) v∨aA n (aB t keep) (CJ v b)):=by
 by_cases h6:60000 < b.length
 ·refine .inl ⟨.inl h6,3,by decide,by decide,?_⟩
  unfold compactJ
  rw[if_neg (by rw[hd,hu];simp),if_pos h6]
 by_cases hf:errF (dU v b)=0
 rotate_left
 ·refine .inl ⟨.inr (.inl hf),12,by decide,by decide,?_⟩
  unfold compactJ
  have:(putF (dU v b)).1≠0:=by unfold putF;rw[if_neg hf];exact hf
  rw[if_neg (by rw[hd,hu];simp),if_neg h6,if_pos (.inl this)]
 have hpt:=uu hf
 have hl:=ni (dU v b)
 have hk:(laid (textF (dU v b))).length / 64=kF b:=by rw[hl];show 64 * kF b / 64=_;omega
 by_cases hr:hn s < kF b
 ·refine .inl ⟨.inr (.inr hr),12,by decide,by decide,?_⟩
  unfold compactJ
  rw[if_neg (by rw[hd,hu];simp),if_neg h6,hpt]
  simp only[hk]
  rw[if_pos (.inr hr)]
 have hroom:kF b≤hn s:=by omega
 have e:compactJ s v b=(if (layJ s ((1 - v.half) * hn s) (laid (textF (dU v b)))).1=0 then (0,(layJ s ((1 - v.half) * hn s) (laid (textF (dU v b)))).2,CJ v b) else ((layJ s ((1 - v.half) * hn s) (laid (textF (dU v b)))).1,(layJ s ((1 - v.half) * hn s) (laid (textF (dU v b)))).2,Cc v)):=by
  unfold compactJ
  rw[if_neg (by rw[hd,hu];simp),if_neg h6,hpt]
  simp only[hk]
  rw[if_neg (by simp;omega)]
  rfl
 have hle:=(ny h).2
 have hkb:=qL b
 have new:∀ c:DS,WF n c→(∀ i,i < kF b→rowOf c.now ((1 - v.half) * hn s+i)=piece (laid (textF (dU v b))) i)→(∀ j,j < n→(j < (1 - v.half) * hn s∨(1 - v.half) * hn s+kF b≤j)→rowOf c.now j=rowOf s.now j)→aA n c (CJ v b):=fun c w a1 a2=>by
  obtain⟨b1,b2,b3⟩:=zf h w (k:=kF b) (fun i r=>r=piece (laid (textF (dU v b))) i) hroom a1 a2
  exact h.compact w hf hroom b1 b2 b3 v.dead
 have old:∀ c:DS,WF n c→rowOf c.now ((1 - v.half) * hn s)=rowOf s.now ((1 - v.half) * hn s)→(∀ i,i < kF b→rowOf c.now ((1 - v.half) * hn s+i)=rowOf s.now ((1 - v.half) * hn s+i)∨rowOf c.now ((1 - v.half) * hn s+i)=piece (laid (textF (dU v b))) i)→(∀ j,j < n→(j < (1 - v.half) * hn s∨(1 - v.half) * hn s+kF b≤j)→rowOf c.now j=rowOf s.now j)→aA n c v:=fun c w a0 a1 a2=>by
  have hh:=iy h.wf w
  obtain⟨b1,b2,b3⟩:=zf h w (k:=kF b) (fun i r=>r=rowOf s.now ((1 - v.half) * hn s+i)∨(i≠0∧r=piece (laid (textF (dU v b))) i)) hroom (fun i hi=>by
   by_cases hi0:i=0
   ·subst hi0;left;exact a0
   ·exact(a1 i hi).imp id (fun e=>⟨hi0,e⟩)) a2
  refine h.same2 w (fun m hm=>b3 m (by have:=h.pos;omega)) (fun m _ hm=>.inl (b3 m hm)) (fun m hm=>?_)
  by_cases hmk:m < kF b
  ·rcases b1 m hmk with e|⟨e0,e⟩
   ·left;rw[e];rfl
   ·right;rw[e];exact mZ (f:=dU v b) e0 hmk
  ·exact .inl (b2 m hm (by omega))
 obtain⟨t,T|T⟩:=Ci h.wf hp hu (qO (f:=dU v b) hb) hl hkb (home:=(1 - v.half) * hn s) (by show (1 - v.half) * hn s+kF b≤n;omega)
 ·obtain⟨e1,e2,T⟩:=T
  rw[e1,if_neg (show ¬ ((13:Int)=0) by decide)] at e
  refine .inr (.inr ⟨hf,e2,t,_,e,fun keep=>?_⟩)
  have hend:(1 - v.half) * hn s+kF b≤n:=by omega
  rcases T with T|W
  ·have wc:=jv T.wf keep
   obtain⟨c1,c2⟩:=ut T keep
   refine .inl (old _ wc (c1 _ (by omega) (.inl (Nat.le_refl _))) (fun i hi=>?_) (fun j hj ho=>c1 j hj (by omega)))
   have:=c2 ((1 - v.half) * hn s+i) (by omega)
   rw[show (1 - v.half) * hn s+i - (1 - v.half) * hn s=i by omega] at this
   exact this
  ·have wc:=jv W.wf keep
   obtain⟨c1,c2,c3⟩:=ku W keep hkb hend
   rcases c3 with c3|c3
   ·refine .inl (old _ wc c3 (fun i hi=>?_) c1)
    by_cases hi0:i=0
    ·subst hi0;left;exact c3
    ·exact .inr (c2 i (by omega) hi)
   ·refine .inr (new _ wc (fun i hi=>?_) c1)
    by_cases hi0:i=0
    ·subst hi0;exact c3
    ·exact c2 i (by omega) hi
 ·obtain⟨e1,W,-,p1,p2,p3⟩:=T
  rw[e1,if_pos rfl] at e
  exact .inr (.inl ⟨by omega,hf,hroom,t,e,new t W.wf (fun i hi=>W.now i hi) (fun j hj ho=>(W.out j hj ho).1),p1,p2,p3⟩)
theorem dO (g:Int):Wire.fits g 4=true ↔ 0≤g∧g≤4294967295:=by
 unfold Wire.fits
 rw[decide_eq_true_iff]
 have:(256:Int) ^ (Int.toNat 4)=4294967296:=by decide
 rw[this]
 omega
theorem WP {n:Nat}{s:DS}{v:JV}(h:aA n s v):0≤v.gen∧v.gen≤4294967295:=by
 rcases h.start with⟨-,-,a3,-⟩|⟨-,a2,a3,-⟩
 ·omega
 ·have h4:=(dO v.gen).1 (wG a3.1).2.2.1
  omega
theorem rec_ok {n:Nat}{s:DS}{v:JV}{b:List Int}(h:aA n s v) (hb:b.length≤60000):errF (recF v b)=0:=by
 have hg:=WP h
 have hs:=h.seq
 have hp:=h.pos
 have hn2:hn s≤4096:=by have:=jZ h.wf;have:=h.wf.n2;omega
 have hl:v.recs.length≤v.pos:=by
  rcases h.start with⟨-,-,-,-,a5⟩|⟨-,-,-,a4⟩
  ·have:=a5.le;omega
  ·have:=a4.le;omega
 have h1:Wire.fits (recF v b).kind 1=true:=(by decide:Wire.fits 2 1=true)
 have h2:Wire.fits (recF v b).gen 4=true:=(dO v.gen).2 hg
 have h3:Wire.fits (recF v b).seq 4=true:=(dO v.seq).2 (by omega)
 unfold errF
 rw[if_neg (by show ¬ 60000 < b.length;omega),if_pos ⟨h1,h2,h3⟩]
end Journal
namespace Vault
open Num Sha Purse Escrow Wire Req Disk Go.Proofs.YtlkeieoecfkkeaaGreat.Frame
inductive Runs (v0:VS):List (List Int)→VS→Prop
  | nil:Runs v0 [] v0
  | snoc {l:List (List Int)} {v:VS} (p:Nat) (at_:Int) (b:List Int) (x:BV):Runs v0 l v→p < v.t.length→(tAt v p).seq+1≤4294967295→Tck at_→v.l.clock≤at_→encB x=(0,b)→(∀ r∈x.l,r.ok) →
      Runs v0 (l++[recV p ((tAt v p).seq+1) at_ b]) (doV v p ((tAt v p).seq+1) at_ x)
structure Rep (s0:Ledger.LS) (j:Journal.JV) (v0 v:VS):Prop where
 w0:WV s0 v0
 start:(j.has=false∧v0=newV s0 s0.b.p.np)∨(j.has=true∧j.pict=pictV v0)
 runs:Runs v0 j.recs v
section
variable {s0 : Ledger.LS} {v0 v v' : VS} {j : Journal.JV} {n : Nat} {s : DS}
theorem ED {x:BV}{b:List Int}(h:encB x=(0,b)) (hr:∀ r∈x.l,r.ok):OkX x:=by
 obtain⟨k,-⟩:=oP h
 exact⟨k.1,k.2.1,hr⟩
theorem Lm (h:WV s0 v) {p:Nat}(hp:p < v.t.length):0≤(tAt v p).seq∧(tAt v p).seq≤4294967295:=(h.each _ (CU hp)).seq
theorem Runs.wv {l:List (List Int)}(h:Runs v0 l v) (w:WV s0 v0):WV s0 v:=by
 induction h with
 | nil=>exact w
 | snoc p at_ b x _ hp hq _ _ hb hr ih=>exact SH ih (ED hb hr) ⟨by have:=Lm ih hp;omega,hq⟩
theorem Rep.wv (h:Rep s0 j v0 v):WV s0 v:=h.runs.wv h.w0
theorem Rep.plus (h:Rep s0 j v0 v) {p:Nat}{at_:Int}{b:List Int}{x:BV}(hp:p < v.t.length) (hq:(tAt v p).seq+1≤4294967295) (ht:Tck at_) (hc:v.l.clock≤at_) (hb:encB x=(0,b)) (hr:∀ r∈x.l,r.ok) :
  Rep s0 (Journal.kw j (recV p ((tAt v p).seq+1) at_ b)) v0 (doV v p ((tAt v p).seq+1) at_ x) :=
 ⟨h.w0,h.start,Runs.snoc p at_ b x h.runs hp hq ht hc hb hr⟩
theorem Rep.pict (h:Rep s0 j v0 v):Rep s0 (Journal.CJ j (pictV v)) v v:=⟨h.wv,.inr ⟨rfl,rfl⟩,Runs.nil⟩
theorem UT (w:Ledger.WL s0) (wi:Ledger.WI s0) (h0:s0.e=[]):Rep s0 Journal.noJ (newV s0 s0.b.p.np) (newV s0 s0.b.p.np):=⟨UQ w wi h0,.inl ⟨rfl,rfl⟩,Runs.nil⟩
theorem WV.np16 (h:WV s0 v):v.t.length≤16:=by rw[h.len];exact h.wl.wb.p.p16
theorem Ha (x:TV):Bytes (putT x):=by
 unfold putT
 refine(ah _ _).append ?_
 split
 ·intro y hy;cases hy
 ·exact(ah _ _).append ((ah _ _).append ((ah _ _).append ((ah _ _).append (dA fun r _=>(ah _ _).append (ah _ _)))))
theorem CV (h:WV s0 v):Bytes (pictV v):=(ah _ _).append ((Ledger.BQ h.wl).append (dA fun x _=>Ha x))
theorem nz {p:Nat}{seq at_:Int}{b:List Int}(hb:Bytes b):Bytes (recV p seq at_ b):=(ah _ _).append ((ah _ _).append ((ah _ _).append hb))
theorem lC (p:Nat) (seq at_:Int) (b:List Int):(recV p seq at_ b).length=13+b.length:=by
 simp only[recV,List.length_append,aJ];omega
def Gone (s0:Ledger.LS) (n:Nat) (t:DS) (v v':VS):Prop:=∀ keep,∃ j v0 u,Journal.aA n (aB t keep) j∧j.dead=false∧Rep s0 j v0 u∧(u=v∨u=v')
structure Up (s0:Ledger.LS) (n:Nat) (s:DS) (j:Journal.JV) (v:VS):Prop where
 k:Journal.aA n s j
 pend:s.pend=[]
 up:s.down=false
 dead:j.dead=false
 rep:∃ v0,Rep s0 j v0 v
theorem zg (h:Up s0 n s j v) {rec:List Int}(hb:Bytes rec) (hl:rec.length≤60000) (hv:∀ j' v0,Rep s0 j' v0 v→Rep s0 (Journal.kw j' rec) v0 v') :
  (∃ t j',storeJ s j (pictV v) rec=(0,t,j')∧Up s0 n t j' v'∧(s.fuse=-1→t.fuse=-1)) ∨
  (s.fuse≠-1∧∃ t j',storeJ s j (pictV v) rec=(13,t,j')∧Gone s0 n t v v') ∨
  (∃ e t j',e≠0∧e≠13∧storeJ s j (pictV v) rec=(e,t,j')∧Up s0 n t j' v∧(s.fuse=-1→t.fuse=-1)):=by
 obtain⟨v0,hr⟩:=h.rep
 have hw:=hr.wv
 have hpb:=CV hw
 rcases Journal.append_any h.k h.pend h.up h.dead hb (Journal.rec_ok h.k hl) with⟨-,e⟩|⟨-,t,e,k,a1,a2,a3⟩|⟨hf,t,j1,e,k⟩
 ·have es:storeJ s j (pictV v) rec=(if (Journal.compactJ s j (pictV v)).1=0 then Journal.appendJ (Journal.compactJ s j (pictV v)).2.1 (Journal.compactJ s j (pictV v)).2.2 rec else Journal.compactJ s j (pictV v)):=by
   unfold storeJ;rw[e,if_pos rfl]
  rcases Journal.compact_any h.k h.pend h.up h.dead hpb with⟨-,e1,h0,h13,c⟩|⟨-,-,-,t,c,k,a1,a2,a3⟩|⟨-,hf,t,j1,c,k⟩
  ·rw[c,if_neg h0] at es
   exact .inr (.inr ⟨e1,s,j,h0,h13,es,h,id⟩)
  ·rw[c,if_pos rfl] at es
   have hd:(Journal.CJ j (pictV v)).dead=false:=h.dead
   rcases Journal.append_any k a1 a2 hd hb (Journal.rec_ok k hl) with⟨-,e2⟩|⟨-,t2,e2,k2,b1,b2,b3⟩|⟨hf,t2,j2,e2,k2⟩
   ·dsimp only at es
    rw[e2] at es
    exact .inr (.inr ⟨12,t,_,by decide,by decide,es,⟨k,a1,a2,hd,_,hr.pict⟩,a3⟩)
   ·dsimp only at es
    rw[e2] at es
    exact .inl ⟨t2,_,es,⟨k2,b1,b2,hd,_,hv _ _ hr.pict⟩,fun q=>b3 (a3 q)⟩
   ·dsimp only at es
    rw[e2] at es
    refine .inr (.inl ⟨fun q=>hf (a3 q),t2,j2,es,fun keep=>?_⟩)
    rcases k2 keep with q|q
    ·exact⟨_,_,v,q,hd,hr.pict,.inl rfl⟩
    ·exact⟨_,_,v',q,hd,hv _ _ hr.pict,.inr rfl⟩
  ·rw[c,if_neg (show ¬ ((13:Int)=0) by decide)] at es
   refine .inr (.inl ⟨hf,t,j1,es,fun keep=>?_⟩)
   rcases k keep with q|q
   ·exact⟨j,v0,v,q,h.dead,hr,.inl rfl⟩
   ·exact⟨_,_,v,q,h.dead,hr.pict,.inl rfl⟩
 ·have es:storeJ s j (pictV v) rec=(0,t,Journal.kw j rec):=by unfold storeJ;rw[e,if_neg (show ¬ ((0:Int)=12) by decide)]
  exact .inl ⟨t,_,es,⟨k,a1,a2,h.dead,v0,hv _ _ hr⟩,a3⟩
 ·have es:storeJ s j (pictV v) rec=(13,t,j1):=by unfold storeJ;rw[e,if_neg (show ¬ ((13:Int)=12) by decide)]
  refine .inr (.inl ⟨hf,t,j1,es,fun keep=>?_⟩)
  rcases k keep with q|q
  ·exact⟨j,v0,v,q,h.dead,hr,.inl rfl⟩
  ·exact⟨_,v0,v',q,h.dead,hv _ _ hr,.inr rfl⟩
theorem Up.fuse (h:Up s0 n s j v) (fu:Int) (hfu:fu≤9223372036854775807):Up s0 n (fF s fu) j v:=⟨h.k.fuse fu hfu,h.pend,h.up,h.dead,h.rep⟩
theorem Gone.up {t:DS}{v v':VS}(h:Gone s0 n t v v') (keep:List Bool):∃ j u,Up s0 n (aB t keep) j u∧(u=v∨u=v'):=by
 obtain⟨j,v0,u,k,hd,hr,hu⟩:=h keep
 exact⟨j,u,⟨k,rfl,rfl,hd,v0,hr⟩,hu⟩
theorem Gone.fuse {t:DS}{v v':VS}(h:Gone s0 n t v v') (fu:Int):Gone s0 n (fF t fu) v v':=fun keep=>by
 rw[Journal.G9];exact h keep
end
end Vault
namespace Journal
open Sha Disk Go.Proofs.YtlkeieoecfkkeaaGreat.Frame
def stepW (b:List Int) (home:Nat) (p:Nat × Int × DS) (x:Nat):Nat × Int × DS:=if p.2.1=0 then (p.1+1,writeD p.2.2 (home+p.1:Nat) (piece b x)) else p
theorem uw (b:List Int) (home:Nat) (l:List Nat) (p:Nat × Int × DS) (h:p.2.1≠0):l.foldl (stepW b home) p=p:=by
 induction l with
 | nil=>rfl
 | cons x l ih=>rw[List.foldl_cons,show stepW b home p x=p by unfold stepW;rw[if_neg h]];exact ih
theorem uy (b:List Int) (home:Nat):∀ (k i:Nat) (s:DS),((List.range' i k).foldl (stepW b home) (i,0,s)).2=rowsJ b home k i s
  | 0,i,s=>rfl
  | k+1,i,s=>by
    rw[List.range'_succ,List.foldl_cons,show stepW b home (i,0,s) i=(i+1,writeD s (home+i:Nat) (piece b i)) by unfold stepW;rw[if_pos rfl]]
    unfold rowsJ
    by_cases h:(writeD s (home+i:Nat) (piece b i)).1=0
    · rw[if_pos h,← uy b home k (i+1)]
      congr 2
      exact Prod.ext rfl (Prod.ext h rfl)
    · rw[if_neg h,uw _ _ _ _ h]
theorem Lr (b:List Int) (home:Nat) (l:List Nat):∀ p,(l.foldl (stepW b home) p).1≤p.1+l.length:=by
 induction l with
 | nil=>intro p;simp
 | cons x l ih =>
  intro p
  rw[List.foldl_cons]
  refine Nat.le_trans (ih _) ?_
  unfold stepW
  split<;>simp<;>omega
theorem zh (b:List Int) (home k:Nat) (s:DS):((List.range k).foldl (stepW b home) (0,0,s)).2=rowsJ b home k 0 s:=by
 rw[List.range_eq_range'];exact uy b home k 0 s
theorem He (b:List Int) (home k m:Nat) (s:DS) (hm:m≤k) (h:((List.range m).foldl (stepW b home) (0,0,s)).2.1≠0):((List.range m).foldl (stepW b home) (0,0,s)).2=rowsJ b home k 0 s:=by
 rw[← zh b home k s]
 have e:List.range k=List.range m++List.range' m (k - m):=by
  rw[List.range_eq_range',List.range_eq_range',show k=m+(k - m) by omega,← List.range'_append];simp
 rw[e,List.foldl_append,uw _ _ _ _ h]
theorem zi (b:List Int) (home:Nat):∀ (k i:Nat) (s:DS),rowsJ (b.drop 64) (home+1) k i s=rowsJ b home k (i+1) s
  | 0,_,_=>rfl
  | k+1,i,s=>by
    have e1:piece (b.drop 64) i=piece b (i+1):=by unfold piece;rw[List.drop_drop,show 64+64 * i=64 * (i+1) by omega]
    have e2:home+1+i=home+(i+1):=by omega
    unfold rowsJ
    rw[e1,e2]
    split
    · exact zi b home k (i+1) _
    · rfl
theorem EE (b:List Int) (home:Nat) (s:DS):rowsJ (b.take 64) home 1 0 s=writeD s (home:Nat) (piece b 0):=by
 have e1:piece (b.take 64) 0=piece b 0:=by unfold piece;simp[List.take_take]
 unfold rowsJ rowsJ
 rw[e1,Nat.add_zero]
 split
 ·rename_i h;exact(Prod.ext h.symm rfl)
 ·rfl
def writeJ (b:List Int) (home k:Nat) (s:DS):Int × DS:=mW (rowsJ b home k 0 s) syncD
theorem Ls (b:List Int) (home:Nat) (s:DS):writeJ (b.take 64) home 1 s=mW (writeD s (home:Nat) (piece b 0)) syncD:=by unfold writeJ;rw[EE]
theorem Lt {b:List Int}(home:Nat) (s:DS) (h:b.length=64):layJ s home b=writeJ (b.take 64) home 1 s:=by
 rw[Ls]
 unfold layJ
 rw[show b.length / 64 - 1=0 by omega]
 unfold rowsJ
 simp only[if_neg (show ¬ 64 < b.length by omega)]
 rfl
theorem Qv {b:List Int}(home k:Nat) (s:DS) (h:b.length=64 * (k+1)) (hk:0 < k):layJ s home b=mW (writeJ (b.drop 64) (home+1) k s) (writeJ (b.take 64) home 1):=by
 unfold layJ
 rw[show b.length / 64 - 1=k by omega]
 unfold writeJ
 rw[zi]
 simp only[if_pos (show 64 < b.length by omega)]
 generalize rowsJ b home k (0+1) s=r
 unfold mW
 by_cases h1:r.1=0
 ·simp only[if_pos h1]
  by_cases h2:(syncD r.2).1=0
  ·simp only[if_pos h2]
   rw[EE]
  ·simp only[if_neg h2]
 ·simp only[if_neg h1]
end Journal
namespace Ledger
open Num Sha Purse Escrow Wire Req
def CW (s:LS) (k:Int):Bool:=if k=1 then yM s 1 else if k=2 then yM s 2 else true
def Lu (s:LS) (party:Int) (r:RV):Int × BS:=if r.amount=0 then (1,s.b) else ((moveP s.b.p party r.dst r.asset r.amount).1,⟨(moveP s.b.p party r.dst r.asset r.amount).2,s.b.l⟩)
def doL (s:LS) (party:Int) (r:RV):(Int × Int) × BS :=
 if r.kind=1 then ((0,(Lu s party r).1),(Lu s party r).2)
 else if r.kind=2 then fV s.b party r.dst r.asset r.amount r.hash r.due s.clock
 else if r.kind=3 then ((0,(oq s.b party r.id r.sec s.clock).1),(oq s.b party r.id r.sec s.clock).2)
 else ((0,(fJ s.b party r.id s.clock).1),(fJ s.b party r.id s.clock).2)
theorem UU {s:LS}{party:Int}{r:RV}(h:CW s r.kind=true):actL s party r=doL s party r:=by
 unfold actL doL Lu;unfold CW at h
 split
 ·rename_i h1;rw[if_pos h1] at h;rw[if_neg (by rw[h];simp)]
  split<;>rfl
 ·rename_i h1
  rw[if_neg h1] at h
  split
  ·rename_i h2;rw[if_pos h2] at h;rw[if_neg (by rw[h];simp)]
  ·rfl
theorem Hf {s:LS}{party:Int}{r:RV}(h:¬ (MayR r∧isP s.b.p party=true)):oneL s party r=(⟨1,0⟩,s):=if_neg h
theorem UV {s:LS}{party:Int}{r:RV}(h:MayR r∧isP s.b.p party=true) (k:CW s r.kind=true) (e:(doL s party r).1.2≠0):oneL s party r=(⟨(doL s party r).1.2,0⟩,s):=by
 unfold oneL
 rw[if_pos h,UU k,if_neg e]
theorem zk (r:RV):(encB ⟨0,[r]⟩).1=0 ↔ MayR r:=by
 have h:OkB ⟨0,[r]⟩ ↔ MayR r:=⟨fun k=>k.2.2 r (List.mem_singleton.2 rfl),fun k=>⟨(by decide:I16 0),(by omega:(1:Nat)≤64),fun u hu=>by rw[List.mem_singleton] at hu;exact hu▸k⟩⟩
 unfold encB
 by_cases k:OkB ⟨0,[r]⟩
 ·rw[if_pos k];exact⟨fun _=>h.1 k,fun _=>rfl⟩
 ·rw[if_neg k];exact⟨fun q=>absurd q (by decide),fun q=>absurd (h.2 q) k⟩
theorem whole_code (r:RV):(encB ⟨0,[r]⟩).1=0∨(encB ⟨0,[r]⟩).1=1:=by
 unfold encB;split
 ·exact .inl rfl
 ·exact .inr rfl
end Ledger
namespace Frame
open Sha Wire
def iD (b:List Int):List Int:=(allF b 1).take 16
theorem pF (b:List Int):iD b=(b.drop 1).take 16:=by
 unfold iD allF
 simp only[cat,Nat.mul_zero,Nat.zero_add,List.nil_append]
 rw[List.take_take];rfl
theorem jA (b:List Int):(iD b).drop 2=h14 b:=by
 rw[pF,List.take_drop]
 unfold h14
 rw[List.drop_drop]
theorem LC {b:List Int}(h:64≤b.length):(iD b).length=16:=by rw[pF,List.length_take,List.length_drop];omega
theorem CX {b:List Int}(hb:Bytes b):Bytes (iD b):=by rw[pF];exact(hb.drop _).take _
def hK (H:List Int):Nat:=val ((H.drop 2).take 1)
def hZ (H:List Int):Nat:=val ((H.drop 3).take 1)
def hG (H:List Int):Nat:=val ((H.drop 4).take 4)
def hS (H:List Int):Nat:=val ((H.drop 8).take 4)
def hN (H:List Int):Nat:=val ((H.drop 12).take 4)
def qQ (H:List Int):Prop:=val (H.take 2)=25446∧hZ H=0∧hN H≤60000
theorem LD (b:List Int):fK b=hK (iD b):=by unfold fK hK;rw[jA]
theorem LG (b:List Int):fG b=hG (iD b):=by unfold fG hG;rw[← jA,List.drop_drop]
theorem LH (b:List Int):fS b=hS (iD b):=by unfold fS hS;rw[← jA,List.drop_drop]
theorem nC (b:List Int):fN b=hN (iD b):=by unfold fN hN;rw[← jA,List.drop_drop]
theorem UW {H:List Int}(hl:H.length=16) (hb:Bytes H) (h2:val (H.take 2)=25446) (h0:hZ H=0) :
  H=[99,102]++be (hK H) 1++be 0 1++be (hG H) 4++be (hS H) 4++be (hN H) 4:=by
 have e2:be (val (H.take 2)) (H.take 2).length=H.take 2:=sW _ (hb.take _)
 have e3:be (hK H) ((H.drop 2).take 1).length=(H.drop 2).take 1:=sW _ ((hb.drop _).take _)
 have e4:be (hZ H) ((H.drop 3).take 1).length=(H.drop 3).take 1:=sW _ ((hb.drop _).take _)
 have e5:be (hG H) ((H.drop 4).take 4).length=(H.drop 4).take 4:=sW _ ((hb.drop _).take _)
 have e6:be (hS H) ((H.drop 8).take 4).length=(H.drop 8).take 4:=sW _ ((hb.drop _).take _)
 have e7:be (hN H) ((H.drop 12).take 4).length=(H.drop 12).take 4:=sW _ ((hb.drop _).take _)
 simp only[List.length_take,List.length_drop,hl] at e2 e3 e4 e5 e6 e7
 rw[h2] at e2
 rw[h0] at e4
 have d2:be 25446 2=[99,102]:=by decide +kernel
 rw[show min 2 16=2 from rfl,d2] at e2
 rw[show min 1 (16 - 2)=1 from rfl] at e3
 rw[show min 1 (16 - 3)=1 from rfl] at e4
 rw[show min 4 (16 - 4)=4 from rfl] at e5
 rw[show min 4 (16 - 8)=4 from rfl] at e6
 rw[show min 4 (16 - 12)=4 from rfl] at e7
 rw[e2,e3,e4,e5,e6,e7]
 match H,hl with
 | [a0,a1,a2,a3,a4,a5,a6,a7,a8,a9,b0,b1,b2,b3,b4,b5],_=>rfl
def sOf (b:List Int):Nat:=(sectorsF (fN b)).toNat
def codeOk (b:List Int):Prop :=
 64≤b.length∧at_ b 0=1∧qQ (iD b)∧64 * sOf b≤b.length∧(∀ i,i < sOf b→at_ b (64 * i)=mk i) ∧
 ((allF b (sOf b)).take 24).drop 16=(sha ((allF b (sOf b)).take 16++fB b)).take 8∧∀ x∈(allF b (sOf b)).drop (24+fN b),x=0
theorem EF {b:List Int}(h:fN b≤60000):sOf b=(24+fN b+62) / 63:=by unfold sOf sectorsF;rw[if_neg (by omega)];omega
theorem LP {b:List Int}(h:fN b≤60000) (hs:64 * sOf b≤b.length):(fB b).length=fN b:=by
 have e:=EF h
 have l:=wE (sOf b) hs
 unfold fB
 rw[List.length_drop,List.length_take]
 change min (24+fN b) (allF b (sOf b)).length - 24=fN b
 rw[l];omega
theorem dO {n:Nat}(h:n < 4294967296):fits (n:Int) 4=true:=by unfold fits;simp;omega
theorem Qw {n:Nat}(h:n < 256):fits (n:Int) 1=true:=by unfold fits;simp;omega
theorem LQ {b:List Int}(hb:Bytes b) (h:fN b≤60000) (hs:64 * sOf b≤b.length):errF (frameOf b)=0:=by
 have h1:fK b < 256:=by
  have:=yt ((h14 b).take 1) (((hb.take _).drop _).take _)
  have h2:256 ^ ((h14 b).take 1).length≤256 ^ 1:=Nat.pow_le_pow_right (by omega) (by simp;omega)
  unfold fK;omega
 have h2:fG b < 4294967296:=val4 _ ((((hb.take _).drop _).drop _).take _) (by simp;omega)
 have h3:fS b < 4294967296:=val4 _ ((((hb.take _).drop _).drop _).take _) (by simp;omega)
 unfold errF
 have hl:(frameOf b).body.length=fN b:=LP h hs
 rw[hl,if_neg (by omega),if_pos ⟨Qw h1,dO h2,dO h3⟩]
theorem LU {b:List Int}(hb:Bytes b):BU b ↔ codeOk b:=by
  constructor
  · rintro ⟨h1,h2,h3,h4,h5,h6⟩
    have hn:fN b≤60000:=by
      rcases Nat.lt_or_ge 60000 (fN b) with h|h
      · exact absurd (by unfold sectorsF;rw[if_pos (.inr (by omega))]) h3
      · exact h
    have hS:=EF hn
    have hSi : sectorsF (fN b) = (sOf b : Int) := by unfold sOf;have:0≤sectorsF (fN b):=by unfold sectorsF;split<;>omega
                                                     omega
    rw[hSi] at h4 h6
    have h4':64 * sOf b≤b.length:=by omega
    rw[show (64 * (sOf b:Int)).toNat=64 * sOf b by omega] at h6
    have he:errF (frameOf b)=0:=LQ hb hn h4'
    have hbl:(frameOf b).body.length=fN b:=LP hn h4'
    have htl:(textF (frameOf b)).length=24+fN b:=by rw[iZ,hbl]
    have hsec:secs (textF (frameOf b)).length=sOf b:=by rw[htl,hS];rfl
    simp only[putF] at h6
    rw[if_pos he] at h6
    have hbe:b=laid (textF (frameOf b))++b.drop (64 * sOf b):=by rw[h6,List.take_append_drop]
    obtain⟨f,hf⟩:∃ f,frameOf b=f:=⟨_,rfl⟩
    obtain⟨r,hr⟩:∃ r,b.drop (64 * sOf b)=r:=⟨_,rfl⟩
    rw[hf] at hbe hsec htl hbl
    rw[hr] at hbe
    have hfb:fB b=f.body:=by rw[← hf];rfl
    have hall:allF b (sOf b)=padF (textF f):=by
      have:=Es (textF f) r
      rw[hsec,← hbe] at this
      exact this
    have hone:iD b=dR f:=by
      have:=yS (textF f) r 0 (by omega)
      rw[← hbe] at this
      simp only[Nat.mul_zero,Nat.zero_add,List.drop_zero] at this
      have e1:iD b=((b.drop 1).take 63).take 16:=by rw[pF,List.take_take];rfl
      rw[e1,this,List.take_take,show min 16 63=16 from rfl]
      unfold padF textF
      rw[List.append_assoc,List.append_assoc,List.take_append_of_le_length (by rw[aV];omega),List.take_of_length_le (by rw[aV];omega)]
    have h16:(padF (textF f)).take 16=dR f:=by
      unfold padF textF
      rw[List.append_assoc,List.append_assoc,List.take_append_of_le_length (by rw[aV];omega),List.take_of_length_le (by rw[aV];omega)]
    refine⟨h1,h2,⟨?_,?_,by rw[← nC];exact hn⟩,h4',fun i hi=>?_,?_,?_⟩
    · rw[hone]
      rw[show (dR f).take 2=[99,102] by unfold dR;rfl]
      rfl
    · rw[hone]
      unfold hZ
      rw[show ((dR f).drop 3).take 1=[0] by simp[dR,be]]
      rfl
    · have:=qK (textF f) r i (by omega)
      rw[← hbe,jQ] at this
      exact this
    · rw[hall,h16,hfb]
      unfold padF textF
      have l24:(dR f++(sha (dR f++f.body)).take 8).length=24:=by rw[List.length_append,aV,List.length_take,eF];rfl
      rw[List.append_assoc,List.take_append_of_le_length (by omega),List.take_of_length_le (by omega),List.drop_append_of_le_length (by rw[aV];omega),List.drop_of_length_le (by rw[aV];omega),List.nil_append]
    · rw[hall]
      intro x hx
      unfold padF at hx
      rw[List.drop_append_of_le_length (by omega),List.drop_of_length_le (by omega),List.nil_append] at hx
      exact List.eq_of_mem_replicate hx
  · rintro ⟨h1,h2,⟨k1,k2,k3⟩,h4,h5,h6,h7⟩
    have hn:fN b≤60000:=by rw[nC];exact k3
    have hS:=EF hn
    have hSi : sectorsF (fN b) = (sOf b : Int) := by unfold sOf;have:0≤sectorsF (fN b):=by unfold sectorsF;split<;>omega
                                                     omega
    have he:errF (frameOf b)=0:=LQ hb hn h4
    have hbl:(frameOf b).body.length=fN b:=LP hn h4
    have htl:(textF (frameOf b)).length=24+fN b:=by rw[iZ,hbl]
    have hsec:secs (textF (frameOf b)).length=sOf b:=by rw[htl,hS];rfl
    refine⟨h1,h2,by rw[hSi];omega,by rw[hSi];omega,by simp only[putF];exact he,?_⟩
    simp only[putF]
    rw[if_pos he,hSi,show (64 * (sOf b:Int)).toNat=64 * sOf b by omega]
    obtain⟨X,hX⟩:∃ X,allF b (sOf b)=X:=⟨_,rfl⟩
    rw[hX] at h6 h7
    have hXl:X.length=63 * sOf b:=by rw[← hX];exact wE _ h4
    have hh:X.take 16=dR (frameOf b):=by
      have e1:X.take 16=iD b:=by
        rw[← hX]
        have:allF b (sOf b)=allF b 1++(allF b (sOf b)).drop 63:=by
          obtain⟨m,hm⟩:∃ m,sOf b=m+1:=⟨sOf b - 1,by omega⟩
          have e2:allF b 1=(allF b (sOf b)).take 63:=by
            have:=qJ (X:=fun i=>(b.drop (64 * i+1)).take 63) (c:=63) (sOf b) (fun j hj=>by rw[List.length_take,List.length_drop];omega) 0 (by omega) []
            rw[Nat.mul_zero,List.drop_zero,List.append_nil] at this
            unfold allF
            rw[this]
            rfl
          rw[e2,List.take_append_drop]
        rw[this,List.take_append_of_le_length (by rw[wE 1 (by omega)];omega)]
        rfl
      rw[e1,UW (LC h1) (CX hb) k1 k2]
      unfold dR
      have:(frameOf b).body.length=hN (iD b):=by rw[hbl,nC]
      rw[this]
      show _=[99,102]++be ((fK b:Nat):Int).toNat 1++be 0 1++be ((fG b:Nat):Int).toNat 4++be ((fS b:Nat):Int).toNat 4++be (hN (iD b)) 4
      rw[Int.toNat_natCast,Int.toNat_natCast,Int.toNat_natCast,LD,LG,LH]
    have hfB:fB b=(X.take (24+fN b)).drop 24:=by rw[← hX];rfl
    have hpad:padF (textF (frameOf b))=X:=by
      have z:X.drop (24+fN b)=List.replicate (63 * sOf b - (24+fN b)) 0:=by
        rw[List.eq_replicate_iff]
        exact⟨by rw[List.length_drop,hXl],h7⟩
      unfold padF
      rw[htl,show secs (24+fN b)=sOf b by rw[← htl];exact hsec,← z]
      have t1:textF (frameOf b)=X.take (24+fN b):=by
        unfold textF
        rw[← hh]
        have:(frameOf b).body=(X.take (24+fN b)).drop 24:=hfB
        rw[this,← hfB,← h6,hfB]
        have s1:X.take 24=(X.take (24+fN b)).take 24:=by rw[List.take_take,show min 24 (24+fN b)=24 by omega]
        have s2:X.take 16=(X.take 24).take 16:=by rw[List.take_take];rfl
        rw[s2,List.take_append_drop,s1,List.take_append_drop]
      rw[t1,List.take_append_drop]
    rw[BZ,hsec,hpad,← mP b 64 (sOf b)]
    refine fZ _ (fun i hi=>?_)
    have hp:=qJ (X:=fun i=>(b.drop (64 * i+1)).take 63) (c:=63) (sOf b) (fun j hj=>by rw[List.length_take,List.length_drop];omega) i hi []
    rw[List.append_nil] at hp
    have hp2:(X.drop (63 * i)).take 63=(b.drop (64 * i+1)).take 63:=by rw[← hX];exact hp
    rw[hp2,← h5 i hi]
    have hlt:64 * i < b.length:=by omega
    have hd:b.drop (64 * i)=at_ b (64 * i) :: b.drop (64 * i+1):=by
      rw[List.drop_eq_getElem_cons hlt]
      congr 1
      simp[at_,hlt]
    rw[hd]
    rfl
theorem WQ {b:List Int}(hb:Bytes b) (h:¬ codeOk b):getF b=(noF,0,2):=by unfold getF;rw[if_neg (fun k=>h ((LU hb).1 k))]
theorem UX {b:List Int}(hb:Bytes b) (h:codeOk b):getF b=(frameOf b,(sOf b:Int),0):=by
  have h3:=(LU hb).2 h
  have hn:fN b≤60000:=by rw[nC];exact h.2.2.1.2.2
  have hSi : sectorsF (fN b) = (sOf b : Int) := by unfold sOf;have:0≤sectorsF (fN b):=by unfold sectorsF;split<;>omega
                                                   omega
  unfold getF;rw[if_pos h3,hSi]
end Frame
namespace Journal
open Sha Disk Go.Proofs.YtlkeieoecfkkeaaGreat.Frame
def UY (s:DS) (half m k:Nat):List Int:=cat (fun i=>rowOf s.now (half * hn s+m+i)) k
theorem qR (s:DS) (half m:Nat):UY s half m (hn s - m)=textJ s half m:=rfl
theorem LV {n:Nat}{s:DS}(h:WF n s) {half m k:Nat}(hh:half≤1) (hk:m+k≤hn s):(UY s half m k).length=64 * k:=by
 have hhn:=jZ h
 refine jX (c:=64) k (fun j hj=>?_)
 have:half * hn s≤hn s:=by rcases(show half=0∨half=1 by omega) with e|e<;>subst e<;>omega
 exact((h.secs _ (by omega)).1).1
theorem Qx {n:Nat}{s:DS}(h:WF n s) (hd:s.down=false) {j:Nat}(hj:j < n):oI s (j:Nat)=(0,rowOf s.now j):=by
 unfold oI
 rw[if_neg (by simp[hd]),if_neg (by unfold aQ;rw[h.now];omega),Int.toNat_natCast]
theorem eG {b:List Int}(hb:Bytes b) (h:(getF b).2.2=0):0≤(getF b).1.gen∧(getF b).1.gen≤4294967295∧(getF b).1.seq≤4294967295∧1≤(getF b).2.1.toNat∧64 * (getF b).2.1.toNat≤b.length∧(getF b).2.1=((getF b).2.1.toNat:Nat):=by
 unfold getF at h ⊢
 by_cases hk:BU b
 ·rw[if_pos hk] at h ⊢
  have h2:fG b < 4294967296:=val4 _ ((((hb.take _).drop _).drop _).take _) (by simp;omega)
  have h3:fS b < 4294967296:=val4 _ ((((hb.take _).drop _).drop _).take _) (by simp;omega)
  obtain⟨-,-,k3,k4,-⟩:=hk
  have k0:0≤sectorsF (fN b):=by unfold sectorsF;split<;>omega
  simp only[frameOf]
  omega
 ·rw[if_neg hk] at h
  simp at h
theorem jB {n:Nat}{s:DS}(hwf:WF n s) {half m:Nat}(hh:half≤1):Bytes (textJ s half m):=by
 have hhn:=jZ hwf
 rw[← qR]
 unfold UY
 have:∀ k,k≤hn s - m→Bytes (cat (fun i=>rowOf s.now (half * hn s+m+i)) k):=fun k=>by
  induction k with
  | zero=>intro _ z hz;simp[cat] at hz
  | succ k ih =>
   intro hk
   refine(ih (by omega)).append ?_
   have:half * hn s≤hn s:=by rcases(show half=0∨half=1 by omega) with e|e<;>subst e<;>omega
   exact((hwf.secs _ (by omega)).1).2
 exact this _ (Nat.le_refl _)
theorem lD {n:Nat}{s:DS}(hwf:WF n s) {half m:Nat}(hh:half≤1):(textJ s half m).length=64 * (hn s - m):=by
 rcases Nat.le_total m (hn s) with hle|hle
 ·rw[← qR];exact LV hwf hh (by omega)
 ·rw[← qR,show hn s - m=0 by omega];rfl
end Journal
end Go.Proofs.YtlkeieoecfkkeaaGreat
