/-
  Parts laid together: ShaNum.
-/
import Derived.Test.YtlkeieoecfkkeaaGreatChecked
import Derived.Test.YtlkeieoecfkkeaaGreatPart3
import Derived.WalkKit
import Derived.WalkSpells
import Derived.WalkLawsBesides
import Derived.OpenShut
import Derived.Lib.Hide
import Derived.Lib.Mul64
import Derived.Laws.Bits64b
set_option maxHeartbeats 1000000
namespace Go.Proofs.YtlkeieoecfkkeaaGreat
namespace Sha
open Go.RowKit
theorem qh (x:Int) (k:Nat) (h1:1≤k) (h2:k≤31) (hx:W32 x) (w:World):Calls Tryz.prog 191 #[.int .u32 x,.int .i64 (-(k:Int))] w fun e w'=>e=.returned (.int .u32 (rotr x k))∧w=w':=by
 obtain⟨hx1,hx2⟩:=hx
 obtain⟨m,hm⟩:∃ m,k+m=32:=⟨32 - k,by omega⟩
 have ha:=UI k m h1 hm
 have hr:=Lib.hid (Wx x k m hm)
 have hm1:m≤31:=by omega
 clear hm
 go_enter Tryz.func191,Tryz.ntmps191
 go_wp2
 go_ret
 exact⟨by rw[← hr.out];rfl,rfl⟩
theorem xP (x:Int) (i j k:Nat) (hi:1≤i∧i≤31) (hj:1≤j∧j≤31) (hk:1≤k∧k≤31) (hx:W32 x) (w:World):Calls Tryz.prog 192 #[.int .u32 x,.int .i64 i,.int .i64 j,.int .i64 k] w fun e w'=>e=.returned (.int .u32 (lg x i j k))∧w=w':=by
 have Hx:=Lib.hid hx
 clear hx
 go_enter Tryz.func192,Tryz.ntmps192
 go_wp2_with (go_at_call 191;refine(qh _ _ (by omega) (by omega) Hx.out _).mono ?_;rintro e w' ⟨rfl,rfl⟩)
 go_ret
 exact⟨rfl,rfl⟩
theorem uK (a:Nat) (ha:a < 18446744073709551616):bits .and .u64 (a:Int) 4294967295=((a % 4294967296:Nat):Int):=by
 have h:=u64_and_nat a 4294967295 ha (by omega)
 rw[show a &&& 4294967295=a % 4294967296 from Nat.and_two_pow_sub_one_eq_mod a 32] at h
 exact h
theorem TD (a:Nat):(a:Int) / 4294967296=((a / 4294967296:Nat):Int):=by omega
theorem TE (a b:Nat):(a:Int) * (b:Int)=((a * b:Nat):Int):=by simp
theorem TF (a b:Nat):(a:Int)+(b:Int)=((a+b:Nat):Int):=by simp
theorem eU (a:Nat) (ha:a < 18446744073709551616):IntKind.u64.wrap (a:Int)=(a:Int):=by
 rw[IntKind.wrap_u64]
 omega
theorem IW (a:Nat):IntKind.u64.wrap (a:Int)=((a % 18446744073709551616:Nat):Int):=by
 rw[IntKind.wrap_u64]
 omega
section
open Go.Lib
theorem xQ (x y:Nat) (hx:x < 18446744073709551616) (hy:y < 18446744073709551616) (w:World) :
  Calls Tryz.prog 219 #[.int .u64 x,.int .u64 y] w fun e w'=>e=.returned (.tuple #[.int .u64 ((x * y / 18446744073709551616:Nat):Int),.int .u64 ((x * y % 18446744073709551616:Nat):Int)])∧w=w':=by
 obtain⟨bd,bt,bw,hhi⟩:=Lib.mul64_hi x y hx hy
 have ba:=Lib.half_mul_le (a:=x / 4294967296) (b:=y / 4294967296) (by omega) (by omega)
 have bb:=Lib.half_mul_le (a:=x / 4294967296) (b:=y % 4294967296) (by omega) (by omega)
 have bc:=Lib.half_mul_le (a:=x % 4294967296) (b:=y / 4294967296) (by omega) (by omega)
 have ba':x / 4294967296 * (y / 4294967296) < 18446744073709551616:=by omega
 have bb':x / 4294967296 * (y % 4294967296) < 18446744073709551616:=by omega
 have bc':x % 4294967296 * (y / 4294967296) < 18446744073709551616:=by omega
 have bh1:x / 4294967296 * (y / 4294967296)+(x / 4294967296 * (y % 4294967296)+x % 4294967296 * (y % 4294967296) / 4294967296) / 4294967296 < 18446744073709551616:=by omega
 have bh:x / 4294967296 * (y / 4294967296)+(x / 4294967296 * (y % 4294967296)+x % 4294967296 * (y % 4294967296) / 4294967296) / 4294967296+((x / 4294967296 * (y % 4294967296)+x % 4294967296 * (y % 4294967296) / 4294967296) % 4294967296+x % 4294967296 * (y / 4294967296)) / 4294967296 < 18446744073709551616:=by omega
 go_enter Tryz.func219,Tryz.ntmps219
 go_wp2
 simp only[uK x hx,uK y hy,TD,TE,TF,eU _ bd,eU _ bb',eU _ bt,uK _ bt,eU _ bc',eU _ bw,eU _ ba',eU _ bh1,eU _ bh,IW (x * y)]
 rw[hhi]
 go_ret2
 exact⟨rfl,rfl⟩
end
theorem FW (n:Nat) (hn:n < 34359738368) (w:World):Calls Tryz.prog 188 #[.int .u64 n] w fun e w'=>e=.returned (.int .u64 (sqTop n:Nat))∧w=w':=by
 go_enter Tryz.func188,Tryz.ntmps188
 go_wp2_with (go_at_call 219;refine(xQ _ _ (by omega) (by omega) _).mono ?_;rintro e w' ⟨rfl,rfl⟩)
 go_ret
 exact⟨rfl,rfl⟩
theorem DC (x y p q:Nat) (hx:x < 18446744073709551616) (hy:y < 18446744073709551616) (hp:x * y / 18446744073709551616=p) (hq:x * y % 18446744073709551616=q) (w:World) :
  Calls Tryz.prog 219 #[.int .u64 x,.int .u64 y] w fun e w'=>e=.returned (.tuple #[.int .u64 (p:Int),.int .u64 (q:Int)])∧w=w':=by
 subst hp hq;exact xQ x y hx hy w
theorem VI (n p r:Nat) (hp:p * n≤2199023255552) (hr:r < 34359738368) (h:cuTop n=p * n+r):IntKind.u64.wrap (IntKind.u64.wrap ((p:Int) * n)+r)=(cuTop n:Int):=by
 rw[h,IntKind.wrap_u64,IntKind.wrap_u64]
 have:((p * n:Nat):Int)≤2199023255552:=by omega
 rw[Int.natCast_mul] at this
 have h0:0≤(p:Int) * n:=by rw[← Int.natCast_mul];omega
 rw[Int.natCast_add,Int.natCast_mul]
 generalize (p:Int) * n=z at *
 omega
theorem TJ {a b:Int}(h:a=b):Ending.returned (.int .u64 a)=.returned (.int .u64 b):=by rw[h]
theorem OL (n:Nat) (hn:n < 34359738368) (w:World):Calls Tryz.prog 189 #[.int .u64 n] w fun e w'=>e=.returned (.int .u64 (cuTop n:Nat))∧w=w':=by
 have h1:=cu_a hn
 have h2:=cu_b hn
 have h3:n * n % 18446744073709551616 < 18446744073709551616:=Nat.mod_lt _ (by omega)
 have h4:cuTop n=n * n / 18446744073709551616 * n+n * n % 18446744073709551616 * n / 18446744073709551616:=rfl
 obtain⟨p,hp⟩:∃ p,n * n / 18446744073709551616=p:=⟨_,rfl⟩
 obtain⟨q,hq⟩:∃ q,n * n % 18446744073709551616=q:=⟨_,rfl⟩
 obtain⟨r,hr⟩:∃ r,q * n / 18446744073709551616=r:=⟨_,rfl⟩
 obtain⟨s,hs⟩:∃ s,q * n % 18446744073709551616=s:=⟨_,rfl⟩
 rw[hp] at h1 h4
 rw[hq] at h2 h3 h4
 rw[hr] at h2 h4
 have H:=Lib.hid (VI n p r h1 h2 h4)
 have c1:=Lib.hid fun w=>DC n n p q (by omega) (by omega) hp hq w
 have c2:=Lib.hid fun w=>DC q n r s (by omega) (by omega) hr hs w
 clear h1 h4 hp hq hr hs
 go_enter Tryz.func189,Tryz.ntmps189
 go_wp2_with fail
 refine(c1.out _).mono ?_
 rintro e w' ⟨rfl,rfl⟩
 go_wp2_with fail
 refine(c2.out _).mono ?_
 rintro e w' ⟨rfl,rfl⟩
 go_wp2
 go_ret
 exact⟨TJ (by rw[← H.out]),rfl⟩
theorem xR (n:Nat) (h2:2≤n) (hn:n < 1000) (w:World):Calls Tryz.prog 220 #[.int .u64 n] w fun e w'=>e=.returned (.bool (prB n))∧w=w':=by
 go_enter Tryz.func220,Tryz.ntmps220
 go_wp2
 go_loop [3] (fun d=>∃ k:Nat,2≤k∧k≤33∧Hid (∀ e,2≤e→e < k→n % e≠0)∧d=.int .u64 k) (fun d=>40 - (Go.RowKit.intOf d).toNat)
 case atStart=>exact⟨2,by omega,by omega,fun e h1 h2=>by omega,rfl⟩
 case round =>
  obtain⟨k,hk,hk2,hall,rfl⟩:=hrel
  obtain⟨s,hs⟩:∃ s,k * k=s:=⟨_,rfl⟩
  obtain⟨r,hr⟩:∃ r,n % k=r:=⟨_,rfl⟩
  have es:(k:Int) * (k:Int)=(s:Int):=by rw[← hs,Int.natCast_mul]
  have er:(n:Int) % (k:Int)=(r:Int):=by rw[← hr];rfl
  have bs:s≤33 * 33:=by rw[← hs];exact Nat.mul_le_mul hk2 hk2
  have Hs:=Lib.hid hs
  have Hr:=Lib.hid hr
  clear hs hr
  by_cases hlt:s≤n
  ·have hk3:k≤31:=by
    have:=Hs.out
    rcases Nat.lt_or_ge k 32 with h|h
    ·omega
    ·have:=Nat.mul_le_mul h h;omega
   by_cases h0:r=0
   ·subst h0
    go_wp2
    go_ret
    exact⟨by rw[Wy hk (by omega) (by rw[Hs.out];exact hlt) Hr.out];rfl,rfl⟩
   ·go_wp2
    go_round
    case rel=>exact⟨k+1,by omega,by omega,fun e h1 h2=>by
     by_cases he:e=k
     ·subst he;rw[Hr.out];exact h0
     ·exact hall e h1 (by omega),by go_num⟩
    case measure=>simp[Go.RowKit.intOf];omega
  ·go_wp2
   go_ret
   exact⟨by rw[UJ (by rw[Hs.out];omega) hall.out];rfl,rfl⟩
theorem IX (n:Nat) (h2:2≤n) (hn:n < 1000) (h:prB n=true) (w:World):Calls Tryz.prog 220 #[.int .u64 n] w fun e w'=>e=.returned (.bool true)∧w=w':=by
 have:=xR n h2 hn w;rwa [h] at this
theorem OM (n:Nat) (h2:2≤n) (hn:n < 1000) (h:prB n=false) (w:World):Calls Tryz.prog 220 #[.int .u64 n] w fun e w'=>e=.returned (.bool false)∧w=w':=by
 have:=xR n h2 hn w;rwa [h] at this
theorem next_any (n m:Nat) (h2:2≤n) (hnm:n < m) (hm:m < 1000) (hp:prB m=true) (hno:∀ e,e < m→n < e→prB e=false) (w:World):Calls Tryz.prog 190 #[.int .u64 n] w fun e w'=>e=.returned (.int .u64 m)∧w=w':=by
 have Hp:=Lib.hid hp
 have Hno:=Lib.hid hno
 clear hp hno
 go_enter Tryz.func190,Tryz.ntmps190
 go_wp2
 go_loop [0] (fun d=>∃ k:Nat,n < k∧k≤m∧d=.int .u64 k) (fun d=>m - (Go.RowKit.intOf d).toNat)
 case atStart=>exact⟨n+1,by omega,by omega,by go_num⟩
 case round =>
  obtain⟨k,hk,hk2,rfl⟩:=hrel
  by_cases hlt:k < m
  ·go_wp2_with (go_at_call 220;refine(OM _ (by omega) (by omega) (Hno.out k hlt hk) _).mono ?_;rintro e w' ⟨rfl,rfl⟩)
   go_round
   case rel=>exact⟨k+1,by omega,by omega,by go_num⟩
   case measure=>simp[Go.RowKit.intOf];omega
  ·obtain rfl:k=m:=by omega
   go_wp2_with (go_at_call 220;refine(IX _ (by omega) (by omega) Hp.out _).mono ?_;rintro e w' ⟨rfl,rfl⟩)
   go_ret
   exact⟨rfl,rfl⟩
def VJ (F:Nat) (g:Nat→Nat):Prop:=∀ (n:Nat) (w:World),n < 34359738368→g n < 18446744073709551616∧Calls Tryz.prog F #[.int .u64 n] w fun e w'=>e=.returned (.int .u64 (g n:Nat))∧w=w'
theorem RQ:VJ 188 sqTop:=fun n w hn=>⟨by unfold sqTop;have:=WC hn;omega,FW n hn w⟩
theorem RU:VJ 189 cuTop:=fun n w hn=>⟨by unfold cuTop;have:=cu_a hn;have:=cu_b hn;omega,OL n hn w⟩
theorem or64 (a b:Nat) (ha:a < 34359738368) (hb:b < 34359738368):bits .or .u64 (a:Int) (b:Int)=((a ||| b:Nat):Int):=bits_or_u64_nat a b (by omega) (by omega)
theorem Si (k:Nat):((qE (k+1):Nat):Int) / 2=(qE k:Nat):=by
 have:=GI k;omega
theorem AZ (top u:Nat) (h:dh sqTop top 0 u=dh sqTop top 35 0):Ending.returned (.int .u32 ((u:Int) % 4294967296))=.returned (.int .u32 (frac sqTop top:Nat)):=by
 unfold frac;rw[← h];simp[dh]
theorem TK (top:Nat) (w:World):Calls Tryz.prog 187 #[.int .u64 top,.func (.func 188) #[] #[]] w fun e w'=>e=.returned (.int .u32 (frac sqTop top:Nat))∧w=w':=by
 go_enter Tryz.func187,Tryz.ntmps187
 go_wp2
 go_loop [5,6] (fun r b=>∃ (k u:Nat),k≤35∧u < 34359738368∧Hid (dh sqTop top k u=dh sqTop top 35 0)∧r=.int .u64 u∧b=.int .u64 (qE k:Nat)) (fun _ b=>(Go.RowKit.intOf b).toNat)
 case atStart=>exact⟨35,0,by omega,by omega,rfl,rfl,rfl⟩
 case round =>
  obtain⟨k,u,hk,hu,hrel,rfl,rfl⟩:=hrel
  cases k with
  | zero =>
   have e:qE 0=0:=rfl
   rw[e]
   clear e
   go_wp2
   go_ret
   exact⟨AZ top u hrel.out,rfl⟩
  | succ k =>
   have hb:qE (k+1)=2 ^ k:=rfl
   have hb2:=Si k
   have hlt:=Ej (k:=k) (by omega)
   have hpos:0 < 2 ^ k:=Nat.two_pow_pos k
   have hor:=WA (r:=u) (k:=k) hu (by omega)
   have e:=or64 u (2 ^ k) hu hlt
   obtain⟨v,hv⟩:∃ v,u ||| 2 ^ k=v:=⟨_,rfl⟩
   rw[hv] at hor e
   have hstep:dh sqTop top (k+1) u=if sqTop v < top then dh sqTop top k v else dh sqTop top k u:=by rw[← hv];rfl
   rw[hstep] at hrel
   rw[hb] at hb2 ⊢
   clear hb hstep hv
   generalize 2 ^ k=b at *
   have Hb2:=Lib.hid hb2
   clear hb2
   have c:=fun w=>(RQ v w hor).2
   have hg:=(RQ v w hor).1
   obtain⟨q,hq⟩:∃ q,sqTop v=q:=⟨_,rfl⟩
   rw[hq] at hg c hrel
   have Hc:=Lib.hid c
   clear c hq
   by_cases hqt:q < top
   ·rw[if_pos hqt] at hrel
    go_wp2_with (go_at_call 188;refine(Hc.out _).mono ?_;rintro e w' ⟨rfl,rfl⟩)
    go_round
    case rel=>exact⟨k,v,by omega,hor,hrel,rfl,by rw[← Hb2.out]⟩
    case measure=>simp[Go.RowKit.intOf];omega
   ·rw[if_neg hqt] at hrel
    go_wp2_with (go_at_call 188;refine(Hc.out _).mono ?_;rintro e w' ⟨rfl,rfl⟩)
    go_round
    case rel=>exact⟨k,u,by omega,hu,hrel,rfl,by rw[← Hb2.out]⟩
    case measure=>simp[Go.RowKit.intOf];omega
theorem Bc (top u:Nat) (h:dh cuTop top 0 u=dh cuTop top 35 0):Ending.returned (.int .u32 ((u:Int) % 4294967296))=.returned (.int .u32 (frac cuTop top:Nat)):=by
 unfold frac;rw[← h];simp[dh]
theorem TM (top:Nat) (w:World):Calls Tryz.prog 187 #[.int .u64 top,.func (.func 189) #[] #[]] w fun e w'=>e=.returned (.int .u32 (frac cuTop top:Nat))∧w=w':=by
 go_enter Tryz.func187,Tryz.ntmps187
 go_wp2
 go_loop [5,6] (fun r b=>∃ (k u:Nat),k≤35∧u < 34359738368∧Hid (dh cuTop top k u=dh cuTop top 35 0)∧r=.int .u64 u∧b=.int .u64 (qE k:Nat)) (fun _ b=>(Go.RowKit.intOf b).toNat)
 case atStart=>exact⟨35,0,by omega,by omega,rfl,rfl,rfl⟩
 case round =>
  obtain⟨k,u,hk,hu,hrel,rfl,rfl⟩:=hrel
  cases k with
  | zero =>
   have e:qE 0=0:=rfl
   rw[e]
   clear e
   go_wp2
   go_ret
   exact⟨Bc top u hrel.out,rfl⟩
  | succ k =>
   have hb:qE (k+1)=2 ^ k:=rfl
   have hb2:=Si k
   have hlt:=Ej (k:=k) (by omega)
   have hpos:0 < 2 ^ k:=Nat.two_pow_pos k
   have hor:=WA (r:=u) (k:=k) hu (by omega)
   have e:=or64 u (2 ^ k) hu hlt
   obtain⟨v,hv⟩:∃ v,u ||| 2 ^ k=v:=⟨_,rfl⟩
   rw[hv] at hor e
   have hstep:dh cuTop top (k+1) u=if cuTop v < top then dh cuTop top k v else dh cuTop top k u:=by rw[← hv];rfl
   rw[hstep] at hrel
   rw[hb] at hb2 ⊢
   clear hb hstep hv
   generalize 2 ^ k=b at *
   have Hb2:=Lib.hid hb2
   clear hb2
   have c:=fun w=>(RU v w hor).2
   have hg:=(RU v w hor).1
   obtain⟨q,hq⟩:∃ q,cuTop v=q:=⟨_,rfl⟩
   rw[hq] at hg c hrel
   have Hc:=Lib.hid c
   clear c hq
   by_cases hqt:q < top
   ·rw[if_pos hqt] at hrel
    go_wp2_with (go_at_call 189;refine(Hc.out _).mono ?_;rintro e w' ⟨rfl,rfl⟩)
    go_round
    case rel=>exact⟨k,v,by omega,hor,hrel,rfl,by rw[← Hb2.out]⟩
    case measure=>simp[Go.RowKit.intOf];omega
   ·rw[if_neg hqt] at hrel
    go_wp2_with (go_at_call 189;refine(Hc.out _).mono ?_;rintro e w' ⟨rfl,rfl⟩)
    go_round
    case rel=>exact⟨k,u,by omega,hu,hrel,rfl,by rw[← Hb2.out]⟩
    case measure=>simp[Go.RowKit.intOf];omega
end Sha
end Go.Proofs.YtlkeieoecfkkeaaGreat
