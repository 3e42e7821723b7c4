/-
  Parts laid together: NumInts NumAmt NumAdd NumSum NumTick NumRTick NumRAmt NumRAdd NumRSum.
-/
import Derived.Test.YtlkeieoecfkkeaaGreatPart1
import Derived.Test.YtlkeieoecfkkeaaGreatChecked
import Derived.WalkKit
import Derived.WalkSpells
import Derived.WalkLawsBesides
import Derived.OpenShut
import Derived.Lib.Hide
import Derived.ProofKit
set_option maxHeartbeats 400000
namespace Go.Proofs.YtlkeieoecfkkeaaGreat
namespace Num
open Go.RowKit
def Ints (w:World) (a:Option Addr) (len:Nat) (l:List Int):Prop :=
 l.length=len∧len≤9223372036854775807∧(len=0∨∃ b off,a=some ⟨b,off,none⟩∧∀ i,i < len→w.cell? ⟨b,off+i,none⟩=some (.int .i64 (l.getD i 0)))
theorem NQ {l:List Int}{u:Int}(k:Nat) (hk:k=l.length) (h:aZ 0 (l.take k)=some u):Ending.returned (.tuple #[.int .i64 u,.int .i64 0])=.returned (.tuple #[.int .i64 (sumN l),.int .i64 (sumE l)]):=by
 subst hk
 rw[List.take_length] at h
 simp[sumN,sumE,h,bit]
theorem Fq {l:List Int}(k:Nat) (hk:k≤l.length) (h:aZ 0 (l.take k)=none):Ending.returned (.tuple #[.int .i64 0,.int .i64 1])=.returned (.tuple #[.int .i64 (sumN l),.int .i64 (sumE l)]):=by
 have:=FT l k h l.length hk
 rw[List.take_length] at this
 simp[sumN,sumE,this,bit]
theorem Fv {l:List Int}{k:Nat}{u n:Int}(hk:k < l.length) (h:aZ 0 (l.take k)=some u) (hn:l.getD k 0=n) (hb:addB u n=true):aZ 0 (l.take (k+1))=some (u+n):=by
 rw[sJ l k u hk h,hn,if_pos hb]
theorem NS {l:List Int}{k:Nat}{u n:Int}(hk:k < l.length) (h:aZ 0 (l.take k)=some u) (hn:l.getD k 0=n) (hb:addB u n=false):aZ 0 (l.take (k+1))=none:=by
 rw[sJ l k u hk h,hn,if_neg (by simp[hb])]
theorem Ints.below {w w':World}{a:Option Addr}{len:Nat}{l:List Int}(h:Ints w a len l) (hb:Below w.heap.size w w'):Ints w' a len l:=by
 obtain⟨h1,h2,h3⟩:=h
 refine⟨h1,h2,h3.imp id ?_⟩
 rintro ⟨b,off,rfl,hc⟩
 refine⟨b,off,rfl,fun i hi=>?_⟩
 have:=hc i hi
 rw[← this]
 exact hb.cell (p:=⟨b,off+i,none⟩) (World.block_lt_of_cell? _ _ this)
theorem uB (n:Int) (w:World):Calls Tryz.prog 242 #[.int .i64 n] w fun e w'=>e=.returned (.bool (amtB n))∧w=w':=by
 by_cases h0:0≤n
 ·by_cases h1:n≤4611686018427387904
  ·rw[IB h0 h1]
   go_enter Tryz.func242,Tryz.ntmps242
   go_wp2
   go_ret
   exact⟨rfl,rfl⟩
  ·rw[Du (by omega)]
   go_enter Tryz.func242,Tryz.ntmps242
   go_wp2
   go_ret
   exact⟨rfl,rfl⟩
 ·rw[Du (by omega)]
  go_enter Tryz.func242,Tryz.ntmps242
  go_wp2
  go_ret
  exact⟨rfl,rfl⟩
theorem kJ (a b:Int) (w:World):Calls Tryz.prog 221 #[.int .i64 a,.int .i64 b] w fun e w'=>e=.returned (.bool (amtB a && amtB b))∧w=w':=by
 cases ha:amtB a
 ·go_enter Tryz.func221,Tryz.ntmps221
  go_wp2_with (go_at_call 242;refine(uB _ _).mono ?_;rintro e w' ⟨rfl,rfl⟩)
  go_ret
  exact⟨rfl,rfl⟩
 ·go_enter Tryz.func221,Tryz.ntmps221
  go_wp2_with (go_at_call 242;refine(uB _ _).mono ?_;rintro e w' ⟨rfl,rfl⟩)
  go_ret
  exact⟨rfl,rfl⟩
theorem add_any (a b:Int) (w:World):Calls Tryz.prog 193 #[.int .i64 a,.int .i64 b] w fun e w'=>e=.returned (.tuple #[.int .i64 (addN a b),.int .i64 (addE a b)])∧w=w':=by
 cases ha:amtB a && amtB b
 ·have hn:addB a b=false:=by unfold addB;rw[ha];rfl
  obtain⟨e1,e2⟩:=gX hn
  rw[e1,e2]
  clear e1 e2 hn
  go_enter Tryz.func193,Tryz.ntmps193
  go_wp2_with (go_at_call 221;refine(kJ _ _ _).mono ?_;rintro e w' ⟨rfl,rfl⟩)
  go_ret2
  exact⟨rfl,rfl⟩
 ·have hb:=ha
  rw[Bool.and_eq_true,lW,lW] at hb
  obtain⟨⟨a0,a1⟩,b0,b1⟩:=hb
  by_cases hs:a+b≤4611686018427387904
  ·obtain⟨e1,e2⟩:=nU (lX.2 ⟨a0,b0,hs⟩)
   rw[e1,e2]
   clear e1 e2
   have ht:¬ (4611686018427387904 - b < a):=by omega
   go_enter Tryz.func193,Tryz.ntmps193
   go_wp2_with (go_at_call 221;refine(kJ _ _ _).mono ?_;rintro e w' ⟨rfl,rfl⟩)
   go_ret2
   exact⟨rfl,rfl⟩
  ·obtain⟨e1,e2⟩:=gX (sH (lX (a:=a) (b:=b)) (by omega))
   rw[e1,e2]
   clear e1 e2
   have ht:4611686018427387904 - b < a:=by omega
   go_enter Tryz.func193,Tryz.ntmps193
   go_wp2_with (go_at_call 221;refine(kJ _ _ _).mono ?_;rintro e w' ⟨rfl,rfl⟩)
   go_ret2
   exact⟨rfl,rfl⟩
theorem Vr (a b:Int) (w:World) (h:addB a b=true):Calls Tryz.prog 193 #[.int .i64 a,.int .i64 b] w fun e w'=>e=.returned (.tuple #[.int .i64 (a+b),.int .i64 0])∧w=w':=by
 have:=add_any a b w;rwa [(nU h).1,(nU h).2] at this
theorem Xt (a b:Int) (w:World) (h:addB a b=false):Calls Tryz.prog 193 #[.int .i64 a,.int .i64 b] w fun e w'=>e=.returned (.tuple #[.int .i64 0,.int .i64 1])∧w=w':=by
 have:=add_any a b w;rwa [(gX h).1,(gX h).2] at this
theorem sum_any (a:Option Addr) (len cap:Nat) (l:List Int) (w:World) (hl:Ints w a len l) :
  Calls Tryz.prog 152 #[.slice a len cap] w fun e w'=>e=.returned (.tuple #[.int .i64 (sumN l),.int .i64 (sumE l)])∧w=w':=by
 obtain⟨hlen,hmax,hc⟩:=hl
 have Hlen:=Lib.hid hlen
 clear hlen
 go_enter Tryz.func152,Tryz.ntmps152
 go_wp2
 go_loop [4,11] (fun t i=>∃ (k:Nat) (u:Int),k≤len∧i=.int .i64 k∧t=.int .i64 u∧Hid (aZ 0 (l.take k)=some u)) (fun _ i=>len - (intOf i).toNat)
 case atStart=>exact⟨0,0,Nat.zero_le _,rfl,rfl,rfl⟩
 case round =>
  obtain⟨k,u,hk,rfl,rfl,hs⟩:=hrel
  by_cases hlt:k < len
  ·rcases hc with h0|⟨b,off,rfl,hcell⟩
   ·omega
   ·have hck:=hcell k hlt
    clear hcell
    obtain⟨n,hn⟩:∃ n,l.getD k 0=n:=⟨_,rfl⟩
    rw[hn] at hck
    have Hn:=Lib.hid hn
    clear hn
    cases hb:addB u n
    ·have Hb:=Lib.hid hb
     clear hb
     go_wp2_with (go_at_call 193;refine(Xt _ _ _ Hb.out).mono ?_;rintro e w' ⟨rfl,rfl⟩)
     go_ret2
     exact⟨Fq (k+1) (by have:=Hlen.out;omega) (NS (by have:=Hlen.out;omega) hs.out Hn.out Hb.out),rfl⟩
    ·have Hb:=Lib.hid hb
     clear hb
     go_wp2_with (go_at_call 193;refine(Vr _ _ _ Hb.out).mono ?_;rintro e w' ⟨rfl,rfl⟩)
     go_round
     case rel=>exact⟨k+1,u+n,by omega,by go_num,rfl,Fv (by have:=Hlen.out;omega) hs.out Hn.out Hb.out⟩
     case measure=>simp[intOf];omega
  ·go_wp2
   go_ret2
   exact⟨NQ k (by have:=Hlen.out;omega) hs.out,rfl⟩
theorem lM (n:Int) (w:World):Calls Tryz.prog 129 #[.int .i64 n] w fun e w'=>e=.returned (.bool (tickB n))∧w=w':=by
 by_cases h0:0≤n
 ·by_cases h1:n≤1099511627776
  ·rw[uH h0 h1]
   go_enter Tryz.func129,Tryz.ntmps129
   go_wp2
   go_ret
   exact⟨rfl,rfl⟩
  ·rw[pY (by omega)]
   go_enter Tryz.func129,Tryz.ntmps129
   go_wp2
   go_ret
   exact⟨rfl,rfl⟩
 ·rw[pY (by omega)]
  go_enter Tryz.func129,Tryz.ntmps129
  go_wp2
  go_ret
  exact⟨rfl,rfl⟩
theorem zX (n:Int) (w:World):Calls Tryz.prog 62 #[.int .i64 n] w fun e w'=>e=.returned (.bool (tickB n))∧w=w':=by
 by_cases h0:0≤n
 ·by_cases h1:n≤1099511627776
  ·rw[uH h0 h1]
   go_enter Tryz.func62,Tryz.ntmps62
   go_wp2
   go_ret
   exact⟨rfl,rfl⟩
  ·rw[pY (by omega)]
   go_enter Tryz.func62,Tryz.ntmps62
   go_wp2
   go_ret
   exact⟨rfl,rfl⟩
 ·rw[pY (by omega)]
  go_enter Tryz.func62,Tryz.ntmps62
  go_wp2
  go_ret
  exact⟨rfl,rfl⟩
theorem iK (n:Int) (w:World):Calls Tryz.prog 103 #[.int .i64 n] w fun e w'=>e=.returned (.bool (amtB n))∧w=w':=by
 by_cases h0:0≤n
 ·by_cases h1:n≤4611686018427387904
  ·rw[IB h0 h1]
   go_enter Tryz.func103,Tryz.ntmps103
   go_wp2
   go_ret
   exact⟨rfl,rfl⟩
  ·rw[Du (by omega)]
   go_enter Tryz.func103,Tryz.ntmps103
   go_wp2
   go_ret
   exact⟨rfl,rfl⟩
 ·rw[Du (by omega)]
  go_enter Tryz.func103,Tryz.ntmps103
  go_wp2
  go_ret
  exact⟨rfl,rfl⟩
theorem Fz (a b:Int) (w:World):Calls Tryz.prog 142 #[.int .i64 a,.int .i64 b] w fun e w'=>e=.returned (.tuple #[.int .i64 (addN a b),.int .i64 (addE a b)])∧w=w':=by
 cases ha:amtB a
 ·have hn:addB a b=false:=by unfold addB;rw[ha];rfl
  obtain⟨e1,e2⟩:=gX hn
  rw[e1,e2]
  clear e1 e2 hn
  go_enter Tryz.func142,Tryz.ntmps142
  go_wp2_with (go_at_call 103;refine(iK _ _).mono ?_;rintro e w' ⟨rfl,rfl⟩)
  go_ret2
  exact⟨rfl,rfl⟩
 ·cases hb:amtB b
  ·have hn:addB a b=false:=by unfold addB;rw[ha,hb];rfl
   obtain⟨e1,e2⟩:=gX hn
   rw[e1,e2]
   clear e1 e2 hn
   go_enter Tryz.func142,Tryz.ntmps142
   go_wp2_with (go_at_call 103;refine(iK _ _).mono ?_;rintro e w' ⟨rfl,rfl⟩)
   go_ret2
   exact⟨rfl,rfl⟩
  ·obtain⟨a0,a1⟩:=lW.1 ha
   obtain⟨b0,b1⟩:=lW.1 hb
   by_cases hs:a+b≤4611686018427387904
   ·obtain⟨e1,e2⟩:=nU (lX.2 ⟨a0,b0,hs⟩)
    rw[e1,e2]
    clear e1 e2
    have ht:¬ (4611686018427387904 - a < b):=by omega
    go_enter Tryz.func142,Tryz.ntmps142
    go_wp2_with (go_at_call 103;refine(iK _ _).mono ?_;rintro e w' ⟨rfl,rfl⟩)
    go_ret2
    exact⟨rfl,rfl⟩
   ·obtain⟨e1,e2⟩:=gX (sH (lX (a:=a) (b:=b)) (by omega))
    rw[e1,e2]
    clear e1 e2
    have ht:4611686018427387904 - a < b:=by omega
    go_enter Tryz.func142,Tryz.ntmps142
    go_wp2_with (go_at_call 103;refine(iK _ _).mono ?_;rintro e w' ⟨rfl,rfl⟩)
    go_ret2
    exact⟨rfl,rfl⟩
theorem Rh (a b:Int) (w:World) (h:addB a b=true):Calls Tryz.prog 142 #[.int .i64 a,.int .i64 b] w fun e w'=>e=.returned (.tuple #[.int .i64 (a+b),.int .i64 0])∧w=w':=by
 have:=Fz a b w;rwa [(nU h).1,(nU h).2] at this
theorem Vs (a b:Int) (w:World) (h:addB a b=false):Calls Tryz.prog 142 #[.int .i64 a,.int .i64 b] w fun e w'=>e=.returned (.tuple #[.int .i64 0,.int .i64 1])∧w=w':=by
 have:=Fz a b w;rwa [(gX h).1,(gX h).2] at this
theorem FC (a:Option Addr) (len cap:Nat) (l:List Int) (w:World) (hl:Ints w a len l) :
  Calls Tryz.prog 102 #[.slice a len cap] w fun e w'=>e=.returned (.tuple #[.int .i64 (sumN l),.int .i64 (sumE l)])∧w=w':=by
 obtain⟨hlen,hmax,hc⟩:=hl
 have Hlen:=Lib.hid hlen
 clear hlen
 go_enter Tryz.func102,Tryz.ntmps102
 go_wp2
 go_loop [4,5] (fun t i=>∃ (k:Nat) (u:Int),k≤len∧i=.int .i64 k∧t=.int .i64 u∧Hid (aZ 0 (l.take k)=some u)) (fun _ i=>len - (intOf i).toNat)
 case atStart=>exact⟨0,0,Nat.zero_le _,rfl,rfl,rfl⟩
 case round =>
  obtain⟨k,u,hk,rfl,rfl,hs⟩:=hrel
  by_cases hlt:k < len
  ·rcases hc with h0|⟨b,off,rfl,hcell⟩
   ·omega
   ·have hck:=hcell k hlt
    clear hcell
    obtain⟨n,hn⟩:∃ n,l.getD k 0=n:=⟨_,rfl⟩
    rw[hn] at hck
    have Hn:=Lib.hid hn
    clear hn
    cases hb:addB u n
    ·have Hb:=Lib.hid hb
     clear hb
     go_wp2_with (go_at_call 142;refine(Vs _ _ _ Hb.out).mono ?_;rintro e w' ⟨rfl,rfl⟩)
     go_ret2
     exact⟨Fq (k+1) (by have:=Hlen.out;omega) (NS (by have:=Hlen.out;omega) hs.out Hn.out Hb.out),rfl⟩
    ·have Hb:=Lib.hid hb
     clear hb
     go_wp2_with (go_at_call 142;refine(Rh _ _ _ Hb.out).mono ?_;rintro e w' ⟨rfl,rfl⟩)
     go_round
     case rel=>exact⟨k+1,u+n,by omega,by go_num,rfl,Fv (by have:=Hlen.out;omega) hs.out Hn.out Hb.out⟩
     case measure=>simp[intOf];omega
  ·go_wp2
   go_ret2
   exact⟨NQ k (by have:=Hlen.out;omega) hs.out,rfl⟩
end Num
end Go.Proofs.YtlkeieoecfkkeaaGreat
