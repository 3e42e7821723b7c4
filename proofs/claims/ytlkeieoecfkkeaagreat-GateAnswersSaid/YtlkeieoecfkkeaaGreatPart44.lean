/-
  Parts laid together: MacRef MacEq GateC1 GateRcp.
-/
import Derived.Test.YtlkeieoecfkkeaaGreatPart30
import Derived.Test.YtlkeieoecfkkeaaGreatPart43
import Derived.Test.YtlkeieoecfkkeaaGreatPart4
import Derived.Maps.AppendAt
import Derived.Test.YtlkeieoecfkkeaaGreatPart41
import Derived.Lib.Bytes
set_option maxRecDepth 100000
set_option maxHeartbeats 2000000
namespace Go.Proofs.YtlkeieoecfkkeaaGreat
namespace Mac
open Go.RowKit Sha
theorem wR (key:List Int) (c:Int) (k:Nat) (h:k < 64):(kp key c).take (k+1)=(kp key c).take k++[bits .xor .u8 (at_ key k) c]:=by
 rw[List.take_succ_eq_append_getElem (by rw[aW];exact h)]
 congr 2
 have:=Xi key c k h
 simpa [at_,List.getD_eq_getElem?_getD,aW,h] using this
def pK (text:List Int) (w:World) (e:Ending) (w':World):Prop:=∃ M cap,e=.returned (.slice (some ⟨M,0,none⟩) 32 cap)∧w.heap.size≤M∧32≤cap∧cap≤maxLen∧Rd w' (some ⟨M,0,none⟩) 32 text∧Below w.heap.size w w'
theorem wU (A Bb:Option Addr) (na ca nb cb:Nat) (key text:List Int) (w:World) (hra:Rd w A na key) (hrb:Rd w Bb nb text) (hn:na < 1073741824) (hm:nb < 536870912) :
  Calls Tryz.prog 40 #[.slice A na ca,.slice Bb nb cb] w (pK (hmac key text) w):=by
 have RA:=ae.mk hra
 have RB:=ae.mk hrb
 have LA:=ae.mk hra.1
 have LB:=ae.mk hrb.1
 clear hra hrb
 by_cases hbig:64 < na
 ·have hbig':=ae.mk (ru (key:=key) (by rw[LA.out];exact hbig))
  go_enter Tryz.func40,Tryz.ntmps40
  go_wp2_with fail
  refine(jg A na ca key w RA.out hn).mono ?_
  rintro e w0 ⟨M0,cap0,rfl,hM0,hc0,hm0,r0,b0⟩
  have R0:=ae.mk r0
  have B0:=ae.mk b0
  have RB':=ae.mk (RB.out.below b0)
  clear r0 b0
  go_wp2
  go_loopw [5,6,7] (fun vi vo i wr=>∃ (k:Nat) (ui uo:Value),k≤64∧ui=vi∧uo=vo∧i=.int .i64 k∧ae (wr.ownsRow w0.heap.size 5 1 ui k (ints .u8 ((kp (sha key) 54).take k)))∧ae (wr.ownsRow w0.heap.size 5 1 uo k (ints .u8 ((kp (sha key) 92).take k)))∧ae (Apart ui uo)∧ae (Rd wr (some ⟨M0,0,none⟩) 32 (sha key))∧ae (Below w0.heap.size w0 wr)) (fun _ _ i _=>64 - (intOf i).toNat)
  case atStart=>exact⟨0,.slice none 0 0,.slice none 0 0,by omega,rfl,rfl,rfl,⟨World.ownsRow_nil _ _ _ _⟩,⟨World.ownsRow_nil _ _ _ _⟩,⟨fun g h=>by simp[Value.ownBlock] at h⟩,R0,⟨Below.refl _ _⟩⟩
  case round =>
   obtain⟨k,vi,vo,hk,rfl,rfl,rfl,OI,OO,AP,R,B⟩:=hrel
   by_cases h64:k < 64
   ·have k64:(k:Int) < 64:=by omega
    have T54:=ae.mk (wR (sha key) 54 k h64)
    have T92:=ae.mk (wR (sha key) 92 k h64)
    by_cases hin:k < 32
    ·obtain⟨bb,oo,hA,hc⟩:=R.out.2.2.resolve_left (by omega)
     injection hA with hA
     injection hA with e1 e2
     subst e1 e2
     have hin':(k:Int) < (32:Nat):=by omega
     have x0:=hc k hin
     try rw[Nat.zero_add] at x0
     have hx:=R.out.2.1.at_ k
     generalize at_ (sha key) k=c at *
     obtain⟨hx0,hx1⟩:=hx
     clear hc
     go_wp2_with (first
      | ((with_reducible refine sel 30 ?_);refine ak rfl (.tmp 26) (.tmp 29) 22 rfl w0.heap.size 5 Tryz.underlying22 ax vi k _ rfl (OI.out.alloc _) _ 1 1 [bits .xor .u8 c 54] rfl (di _ _ (qZ _ _ _)) (by omega) (by have:=B.out.size;simp;omega) ?_;intro v7 w7 o7 g7 a7;have O7:=ae.mk o7.out;have P7:=ae.mk (dH AP.out (OO.out.alloc (.cells #[.int .u8 (bits .xor .u8 c 54)] 5)) g7 a7);have B7:=ae.mk ((B.out.alloc B.out.size (.cells #[.int .u8 (bits .xor .u8 c 54)] 5)).trans (own_below (OI.out.alloc (.cells #[.int .u8 (bits .xor .u8 c 54)] 5)) g7 (by have:=B.out.size;simp;omega)));clear o7 g7 a7)
      | ((with_reducible refine sel 35 ?_);refine ak rfl (.tmp 31) (.tmp 34) 22 rfl w0.heap.size 5 Tryz.underlying22 ax vo k _ rfl (P7.out.1.alloc _) _ 1 1 [bits .xor .u8 c 92] rfl (di _ _ (qZ _ _ _)) (by omega) (by have:=B7.out.size;simp;omega) ?_;intro v8 w8 o8 g8 a8;have O8:=ae.mk o8.out;have P8:=ae.mk (dH P7.out.2 (O7.out.alloc (.cells #[.int .u8 (bits .xor .u8 c 92)] 5)) g8 a8);have B8:=ae.mk ((B7.out.alloc B7.out.size (.cells #[.int .u8 (bits .xor .u8 c 92)] 5)).trans (own_below (P7.out.1.alloc (.cells #[.int .u8 (bits .xor .u8 c 92)] 5)) g8 (by have:=B7.out.size;simp;omega)));clear o8 g8 a8))
     go_roundw
     case rel =>
      refine⟨k+1,v7,v8,by omega,rfl,rfl,by go_num,⟨?_⟩,⟨?_⟩,⟨P8.out.2⟩,⟨R0.out.below B8.out⟩,B8⟩
      ·have:=P8.out.1
       rw[← af,← T54.out] at this
       exact this
      ·have:=O8.out
       rw[← af,← T92.out] at this
       exact this
     case measure=>simp[intOf];omega
    ·have hin':¬ (k:Int) < (32:Nat):=by omega
     rw[at_out (l:=(sha key)) (by rw[R.out.1];omega)] at T54 T92
     go_wp2_with (first
      | ((with_reducible refine sel 30 ?_);refine ak rfl (.tmp 26) (.tmp 29) 22 rfl w0.heap.size 5 Tryz.underlying22 ax vi k _ rfl (OI.out.alloc _) _ 1 1 [bits .xor .u8 0 54] rfl (di _ _ (qZ _ _ _)) (by omega) (by have:=B.out.size;simp;omega) ?_;intro v7 w7 o7 g7 a7;have O7:=ae.mk o7.out;have P7:=ae.mk (dH AP.out (OO.out.alloc (.cells #[.int .u8 (bits .xor .u8 0 54)] 5)) g7 a7);have B7:=ae.mk ((B.out.alloc B.out.size (.cells #[.int .u8 (bits .xor .u8 0 54)] 5)).trans (own_below (OI.out.alloc (.cells #[.int .u8 (bits .xor .u8 0 54)] 5)) g7 (by have:=B.out.size;simp;omega)));clear o7 g7 a7)
      | ((with_reducible refine sel 35 ?_);refine ak rfl (.tmp 31) (.tmp 34) 22 rfl w0.heap.size 5 Tryz.underlying22 ax vo k _ rfl (P7.out.1.alloc _) _ 1 1 [bits .xor .u8 0 92] rfl (di _ _ (qZ _ _ _)) (by omega) (by have:=B7.out.size;simp;omega) ?_;intro v8 w8 o8 g8 a8;have O8:=ae.mk o8.out;have P8:=ae.mk (dH P7.out.2 (O7.out.alloc (.cells #[.int .u8 (bits .xor .u8 0 92)] 5)) g8 a8);have B8:=ae.mk ((B7.out.alloc B7.out.size (.cells #[.int .u8 (bits .xor .u8 0 92)] 5)).trans (own_below (P7.out.1.alloc (.cells #[.int .u8 (bits .xor .u8 0 92)] 5)) g8 (by have:=B7.out.size;simp;omega)));clear o8 g8 a8))
     go_roundw
     case rel =>
      refine⟨k+1,v7,v8,by omega,rfl,rfl,by go_num,⟨?_⟩,⟨?_⟩,⟨P8.out.2⟩,⟨R0.out.below B8.out⟩,B8⟩
      ·have:=P8.out.1
       rw[← af,← T54.out] at this
       exact this
      ·have:=O8.out
       rw[← af,← T92.out] at this
       exact this
     case measure=>simp[intOf];omega
   ·have hk64:k=64:=by omega
    subst hk64
    have k64:¬ ((64:Nat):Int) < 64:=by omega
    rw[List.take_of_length_le (Nat.le_of_eq (aW _ _))] at OI OO
    go_wp2_with ((with_reducible refine sel 39 ?_);refine ak rfl (.tmp 37) (.tmp 38) 22 rfl w0.heap.size 5 Tryz.underlying22 ax vi 64 _ rfl OI.out Bb nb cb text rfl (RB'.out.below B.out) (by omega) B.out.size ?_;intro v7 w7 o7 g7 a7;rw[← af] at o7;have P7:=ae.mk (dH AP.out OO.out g7 a7).1;have B7:=ae.mk (B.out.trans (own_below OI.out g7 B.out.size));obtain⟨A7,c7,rfl,-,-,r7⟩:=aO o7.out ((iG _ _).append RB'.out.2.1);have R7:=ae.mk r7;clear o7 g7 a7 r7)
    refine(jg A7 (64+nb) c7 (kp (sha key) 54++text) w7 R7.out (by omega)).mono ?_
    rintro e w8 ⟨M8,c8,rfl,-,-,-,r8,b8⟩
    have O8:=ae.mk (mg P7.out (barOf b8 []) (by simp))
    have R8:=ae.mk r8
    have B8:=ae.mk (B7.out.trans (b8.mono B7.out.size))
    clear r8 b8 P7 R7 B7 OI OO AP B R
    go_wp2_with ((with_reducible refine sel 41 ?_);refine ak rfl (.tmp 36) (.tmp 40) 22 rfl w0.heap.size 5 Tryz.underlying22 ax vo 64 _ rfl O8.out (some ⟨M8,0,none⟩) 32 c8 (sha (kp (sha key) 54++text)) rfl R8.out (by omega) B8.out.size ?_;intro v9 w9 o9 g9 a9;rw[← af] at o9;have B9:=ae.mk (B8.out.trans (own_below O8.out g9 B8.out.size));obtain⟨A9,c9,rfl,-,-,r9⟩:=aO o9.out ((iG _ _).append (fU _));have R9:=ae.mk r9;clear o9 g9 a9 r9)
    refine(jg A9 (64+32) c9 (kp (sha key) 92++sha (kp (sha key) 54++text)) w9 R9.out (by omega)).mono ?_
    rintro e w10 ⟨M10,c10,rfl,hM10,hc10,hm10,r10,b10⟩
    have R10:=ae.mk r10
    have B10:=ae.mk (B0.out.trans ((B9.out.trans (b10.mono B9.out.size)).mono B0.out.size))
    have hw10:w.heap.size≤M10:=by have:=B0.out.size;have:=B9.out.size;omega
    clear r10 b10 R9 B9 O8 R8 B8
    go_wp2
    go_ret
    refine⟨M10,c10,rfl,hw10,hc10,hm10,?_,B10.out⟩
    show Rd w10 _ 32 (Ia (keyOf key) text)
    rw[hbig'.out]
    exact R10.out
 ·have hbig':=ae.mk (kC (key:=key) (by rw[LA.out];exact hbig))
  have B0:ae (Below w.heap.size w w):=⟨Below.refl _ _⟩
  have R0:=RA
  have RB':=RB
  go_enter Tryz.func40,Tryz.ntmps40
  go_wp2
  go_loopw [5,6,7] (fun vi vo i wr=>∃ (k:Nat) (ui uo:Value),k≤64∧ui=vi∧uo=vo∧i=.int .i64 k∧ae (wr.ownsRow w.heap.size 5 1 ui k (ints .u8 ((kp key 54).take k)))∧ae (wr.ownsRow w.heap.size 5 1 uo k (ints .u8 ((kp key 92).take k)))∧ae (Apart ui uo)∧ae (Rd wr A na key)∧ae (Below w.heap.size w wr)) (fun _ _ i _=>64 - (intOf i).toNat)
  case atStart=>exact⟨0,.slice none 0 0,.slice none 0 0,by omega,rfl,rfl,rfl,⟨World.ownsRow_nil _ _ _ _⟩,⟨World.ownsRow_nil _ _ _ _⟩,⟨fun g h=>by simp[Value.ownBlock] at h⟩,R0,⟨Below.refl _ _⟩⟩
  case round =>
   obtain⟨k,vi,vo,hk,rfl,rfl,rfl,OI,OO,AP,R,B⟩:=hrel
   by_cases h64:k < 64
   ·have k64:(k:Int) < 64:=by omega
    have T54:=ae.mk (wR key 54 k h64)
    have T92:=ae.mk (wR key 92 k h64)
    by_cases hin:k < na
    ·obtain⟨bb,oo,rfl,hc⟩:=R.out.2.2.resolve_left (by omega)
     have hin':(k:Int) < (na:Nat):=by omega
     have x0:=hc k hin
     try rw[Nat.zero_add] at x0
     have hx:=R.out.2.1.at_ k
     generalize at_ key k=c at *
     obtain⟨hx0,hx1⟩:=hx
     clear hc
     go_wp2_with (first
      | ((with_reducible refine sel 30 ?_);refine ak rfl (.tmp 26) (.tmp 29) 22 rfl w.heap.size 5 Tryz.underlying22 ax vi k _ rfl (OI.out.alloc _) _ 1 1 [bits .xor .u8 c 54] rfl (di _ _ (qZ _ _ _)) (by omega) (by have:=B.out.size;simp;omega) ?_;intro v7 w7 o7 g7 a7;have O7:=ae.mk o7.out;have P7:=ae.mk (dH AP.out (OO.out.alloc (.cells #[.int .u8 (bits .xor .u8 c 54)] 5)) g7 a7);have B7:=ae.mk ((B.out.alloc B.out.size (.cells #[.int .u8 (bits .xor .u8 c 54)] 5)).trans (own_below (OI.out.alloc (.cells #[.int .u8 (bits .xor .u8 c 54)] 5)) g7 (by have:=B.out.size;simp;omega)));clear o7 g7 a7)
      | ((with_reducible refine sel 35 ?_);refine ak rfl (.tmp 31) (.tmp 34) 22 rfl w.heap.size 5 Tryz.underlying22 ax vo k _ rfl (P7.out.1.alloc _) _ 1 1 [bits .xor .u8 c 92] rfl (di _ _ (qZ _ _ _)) (by omega) (by have:=B7.out.size;simp;omega) ?_;intro v8 w8 o8 g8 a8;have O8:=ae.mk o8.out;have P8:=ae.mk (dH P7.out.2 (O7.out.alloc (.cells #[.int .u8 (bits .xor .u8 c 92)] 5)) g8 a8);have B8:=ae.mk ((B7.out.alloc B7.out.size (.cells #[.int .u8 (bits .xor .u8 c 92)] 5)).trans (own_below (P7.out.1.alloc (.cells #[.int .u8 (bits .xor .u8 c 92)] 5)) g8 (by have:=B7.out.size;simp;omega)));clear o8 g8 a8))
     go_roundw
     case rel =>
      refine⟨k+1,v7,v8,by omega,rfl,rfl,by go_num,⟨?_⟩,⟨?_⟩,⟨P8.out.2⟩,⟨R0.out.below B8.out⟩,B8⟩
      ·have:=P8.out.1
       rw[← af,← T54.out] at this
       exact this
      ·have:=O8.out
       rw[← af,← T92.out] at this
       exact this
     case measure=>simp[intOf];omega
    ·have hin':¬ (k:Int) < (na:Nat):=by omega
     rw[at_out (l:=key) (by rw[R.out.1];omega)] at T54 T92
     go_wp2_with (first
      | ((with_reducible refine sel 30 ?_);refine ak rfl (.tmp 26) (.tmp 29) 22 rfl w.heap.size 5 Tryz.underlying22 ax vi k _ rfl (OI.out.alloc _) _ 1 1 [bits .xor .u8 0 54] rfl (di _ _ (qZ _ _ _)) (by omega) (by have:=B.out.size;simp;omega) ?_;intro v7 w7 o7 g7 a7;have O7:=ae.mk o7.out;have P7:=ae.mk (dH AP.out (OO.out.alloc (.cells #[.int .u8 (bits .xor .u8 0 54)] 5)) g7 a7);have B7:=ae.mk ((B.out.alloc B.out.size (.cells #[.int .u8 (bits .xor .u8 0 54)] 5)).trans (own_below (OI.out.alloc (.cells #[.int .u8 (bits .xor .u8 0 54)] 5)) g7 (by have:=B.out.size;simp;omega)));clear o7 g7 a7)
      | ((with_reducible refine sel 35 ?_);refine ak rfl (.tmp 31) (.tmp 34) 22 rfl w.heap.size 5 Tryz.underlying22 ax vo k _ rfl (P7.out.1.alloc _) _ 1 1 [bits .xor .u8 0 92] rfl (di _ _ (qZ _ _ _)) (by omega) (by have:=B7.out.size;simp;omega) ?_;intro v8 w8 o8 g8 a8;have O8:=ae.mk o8.out;have P8:=ae.mk (dH P7.out.2 (O7.out.alloc (.cells #[.int .u8 (bits .xor .u8 0 92)] 5)) g8 a8);have B8:=ae.mk ((B7.out.alloc B7.out.size (.cells #[.int .u8 (bits .xor .u8 0 92)] 5)).trans (own_below (P7.out.1.alloc (.cells #[.int .u8 (bits .xor .u8 0 92)] 5)) g8 (by have:=B7.out.size;simp;omega)));clear o8 g8 a8))
     go_roundw
     case rel =>
      refine⟨k+1,v7,v8,by omega,rfl,rfl,by go_num,⟨?_⟩,⟨?_⟩,⟨P8.out.2⟩,⟨R0.out.below B8.out⟩,B8⟩
      ·have:=P8.out.1
       rw[← af,← T54.out] at this
       exact this
      ·have:=O8.out
       rw[← af,← T92.out] at this
       exact this
     case measure=>simp[intOf];omega
   ·have hk64:k=64:=by omega
    subst hk64
    have k64:¬ ((64:Nat):Int) < 64:=by omega
    rw[List.take_of_length_le (Nat.le_of_eq (aW _ _))] at OI OO
    go_wp2_with ((with_reducible refine sel 39 ?_);refine ak rfl (.tmp 37) (.tmp 38) 22 rfl w.heap.size 5 Tryz.underlying22 ax vi 64 _ rfl OI.out Bb nb cb text rfl (RB'.out.below B.out) (by omega) B.out.size ?_;intro v7 w7 o7 g7 a7;rw[← af] at o7;have P7:=ae.mk (dH AP.out OO.out g7 a7).1;have B7:=ae.mk (B.out.trans (own_below OI.out g7 B.out.size));obtain⟨A7,c7,rfl,-,-,r7⟩:=aO o7.out ((iG _ _).append RB'.out.2.1);have R7:=ae.mk r7;clear o7 g7 a7 r7)
    refine(jg A7 (64+nb) c7 (kp key 54++text) w7 R7.out (by omega)).mono ?_
    rintro e w8 ⟨M8,c8,rfl,-,-,-,r8,b8⟩
    have O8:=ae.mk (mg P7.out (barOf b8 []) (by simp))
    have R8:=ae.mk r8
    have B8:=ae.mk (B7.out.trans (b8.mono B7.out.size))
    clear r8 b8 P7 R7 B7 OI OO AP B R
    go_wp2_with ((with_reducible refine sel 41 ?_);refine ak rfl (.tmp 36) (.tmp 40) 22 rfl w.heap.size 5 Tryz.underlying22 ax vo 64 _ rfl O8.out (some ⟨M8,0,none⟩) 32 c8 (sha (kp key 54++text)) rfl R8.out (by omega) B8.out.size ?_;intro v9 w9 o9 g9 a9;rw[← af] at o9;have B9:=ae.mk (B8.out.trans (own_below O8.out g9 B8.out.size));obtain⟨A9,c9,rfl,-,-,r9⟩:=aO o9.out ((iG _ _).append (fU _));have R9:=ae.mk r9;clear o9 g9 a9 r9)
    refine(jg A9 (64+32) c9 (kp key 92++sha (kp key 54++text)) w9 R9.out (by omega)).mono ?_
    rintro e w10 ⟨M10,c10,rfl,hM10,hc10,hm10,r10,b10⟩
    have R10:=ae.mk r10
    have B10:=ae.mk (B0.out.trans ((B9.out.trans (b10.mono B9.out.size)).mono B0.out.size))
    have hw10:w.heap.size≤M10:=by have:=B0.out.size;have:=B9.out.size;omega
    clear r10 b10 R9 B9 O8 R8 B8
    go_wp2
    go_ret
    refine⟨M10,c10,rfl,hw10,hc10,hm10,?_,B10.out⟩
    show Rd w10 _ 32 (Ia (keyOf key) text)
    rw[hbig'.out]
    exact R10.out
theorem Tf (w:World) (x0 x1:Int) (h0:0≤x0∧x0≤255) (h1:0≤x1∧x1≤255):Rd (w.alloc (.cells #[.int .u8 x0,.int .u8 x1] 5)) (some ⟨w.heap.size,0,none⟩) 2 [x0,x1] :=
 Rd.blk (Blk.new w 5 (arr .u8 [x0,x1])) (by intro y hy;simp only[List.mem_cons,List.not_mem_nil,or_false] at hy;rcases hy with rfl|rfl<;>assumption) rfl
theorem EY (t:Nat) (A:Option Addr) (n c:Nat) (key:List Int) (a b:Int) (w:World) (ht:Tab w t) (ha:Rd w A n key) (hc:n≤c) (hm:c≤9223372036854775807) (hn:n < 1073741824) :
  Calls Tryz.prog 34 #[.pointer (some ⟨t,0,none⟩),.slice A n c,.int .i64 a,.int .i64 b] w (bD t (hmac key [a % 256,b % 256]) w):=by
 have HT:=ae.mk ht
 have RA:=ae.mk ha
 clear ht ha
 obtain⟨x,hx⟩:∃ x,a % 256=x:=⟨_,rfl⟩
 obtain⟨y,hy⟩:∃ y,b % 256=y:=⟨_,rfl⟩
 have hxa:IntKind.u8.wrap a=x:=by rw[IntKind.wrap_u8];exact hx
 have hyb:IntKind.u8.wrap b=y:=by rw[IntKind.wrap_u8];exact hy
 have bx:0≤x∧x≤255:=by omega
 have byy:0≤y∧y≤255:=by omega
 have BX:=ae.mk bx
 have BY:=ae.mk byy
 rw[hx,hy]
 clear bx byy
 go_enter Tryz.func34,Tryz.ntmps34
 go_wp2_with fail
 refine(wQ t A (some ⟨w.heap.size,0,none⟩) n c 2 2 key [x,y] _ (HT.out.bar ((Bar.refl [] w).alloc _) (by simp)) (RA.out.keep (l:=[]) ((Bar.refl [] w).alloc _) (by simp)) (Tf w x y BX.out BY.out) hc hm (by omega) (by omega) hn (by omega)).mono ?_
 rintro e w1 ⟨M,rfl,hM,k1,m1,b1⟩
 have K1:=ae.mk k1
 have M1:=ae.mk m1
 have B1:=ae.mk (((Bar.refl [t] w).alloc (.cells #[.int .u8 x,.int .u8 y] 5)).trans b1 (by simp))
 have hMw:w.heap.size≤M:=by simp at hM;omega
 clear k1 m1 b1
 go_wp2
 go_ret
 exact⟨M,rfl,hMw,K1.out,M1.out,B1.out⟩
theorem QW (A:Option Addr) (n c:Nat) (key:List Int) (a b:Int) (w:World) (ha:Rd w A n key) (hn:n < 1073741824) :
  Calls Tryz.prog 35 #[.slice A n c,.int .i64 a,.int .i64 b] w (pK (hmac key [a % 256,b % 256]) w):=by
 have RA:=ae.mk ha
 clear ha
 obtain⟨x,hx⟩:∃ x,a % 256=x:=⟨_,rfl⟩
 obtain⟨y,hy⟩:∃ y,b % 256=y:=⟨_,rfl⟩
 have hxa:IntKind.u8.wrap a=x:=by rw[IntKind.wrap_u8];exact hx
 have hyb:IntKind.u8.wrap b=y:=by rw[IntKind.wrap_u8];exact hy
 have bx:0≤x∧x≤255:=by omega
 have byy:0≤y∧y≤255:=by omega
 have BX:=ae.mk bx
 have BY:=ae.mk byy
 rw[hx,hy]
 clear bx byy
 go_enter Tryz.func35,Tryz.ntmps35
 go_wp2_with fail
 refine(wU A (some ⟨w.heap.size,0,none⟩) n c 2 2 key [x,y] _ (RA.out.keep (l:=[]) ((Bar.refl [] w).alloc _) (by simp)) (Tf w x y BX.out BY.out) hn (by omega)).mono ?_
 rintro e w1 ⟨M,cap,rfl,hM,h1,h2,r1,b1⟩
 have R1:=ae.mk r1
 have B1:=ae.mk (((Below.refl w.heap.size w).alloc (Nat.le_refl _) (.cells #[.int .u8 x,.int .u8 y] 5)).trans (b1.mono (by simp)))
 have hMw:w.heap.size≤M:=by simp at hM;omega
 clear r1 b1
 go_wp2
 go_ret
 exact⟨M,cap,rfl,hMw,h1,h2,R1.out,B1.out⟩
end Mac
namespace Gate
open Go.RowKit Sha Wire Mac Seal
section
variable {A : Option Addr} {n c t : Nat} {seed : List Int} {w : World}
theorem Nw (party which:Int) (ht:Tab w t) (hr:Rd w A n seed) (hc:n≤c) (hcm:c≤9223372036854775807) (hn:n < 1073741824):Calls Tryz.prog 11 #[.pointer (some ⟨t,0,none⟩),.slice A n c,.int .i64 party,.int .i64 which] w (bD t (keyV seed party which) w):=by
 have KC:=ae.mk (EY t A n c seed party which w ht hr hc hcm hn)
 clear hr ht
 unfold bD at KC
 unfold keyV
 go_enter Tryz.func11,Tryz.ntmps11
 go_wp2_with fail
 refine KC.out.mono ?_
 rintro e w1 ⟨M,rfl,h1,r,tt,b⟩
 have R:=ae.mk r;have B1:=ae.mk b;have T1:=ae.mk tt
 clear r b tt KC
 go_wp2
 go_ret
 exact⟨M,rfl,h1,R.out,T1.out,B1.out⟩
theorem Il (which:Int) (ht:Tab w t) (hr:Rd w A n seed) (hc:n≤c) (hcm:c≤9223372036854775807) (hn:n < 1073741824):Calls Tryz.prog 13 #[.pointer (some ⟨t,0,none⟩),.slice A n c,.int .i64 which] w (bD t (stampV seed which) w):=by
 have KC:=ae.mk (EY t A n c seed 255 which w ht hr hc hcm hn)
 clear hr ht
 unfold bD at KC
 unfold stampV
 go_enter Tryz.func13,Tryz.ntmps13
 go_wp2_with fail
 refine KC.out.mono ?_
 rintro e w1 ⟨M,rfl,h1,r,tt,b⟩
 have R:=ae.mk r;have B1:=ae.mk b;have T1:=ae.mk tt
 clear r b tt KC
 go_wp2
 go_ret
 exact⟨M,rfl,h1,R.out,T1.out,B1.out⟩
end
theorem be4 (s:Nat):be s 4=[((s / 16777216 % 256:Nat):Int),((s / 65536 % 256:Nat):Int),((s / 256 % 256:Nat):Int),((s % 256:Nat):Int)]:=by
 simp[be]
section
variable {A B : Option Addr} {n c nb cb t : Nat} {stamp ans : List Int} {w : World}
theorem zN (party which:Int) (seq:Nat) (ht:Tab w t) (hr:Rd w A n stamp) (hc:n≤c) (hcm:c≤9223372036854775807) (hn:n < 1073741824) (ha:Rd w B nb ans) (hbc:nb≤cb) (hbm:cb≤9223372036854775807) (hm:nb≤1000000) :
  Calls Tryz.prog 15 #[.pointer (some ⟨t,0,none⟩),.slice A n c,.int .i64 party,.int .i64 which,.int .i64 seq,.slice B nb cb] w (bD t (rcpV stamp party which seq ans) w):=by
 have HT:=ae.mk ht
 have RB:=ae.mk ha
 have LB:=ae.mk ha.1
 obtain⟨p,hp⟩:∃ p,party % 256=p:=⟨_,rfl⟩
 obtain⟨h',hh⟩:∃ h',which % 256=h':=⟨_,rfl⟩
 obtain⟨z,hz⟩:∃ z:Int,(seq:Int)=z:=⟨_,rfl⟩
 obtain⟨q0,hq0⟩:∃ q,((seq / 16777216 % 256:Nat):Int)=q:=⟨_,rfl⟩
 obtain⟨q1,hq1⟩:∃ q,((seq / 65536 % 256:Nat):Int)=q:=⟨_,rfl⟩
 obtain⟨q2,hq2⟩:∃ q,((seq / 256 % 256:Nat):Int)=q:=⟨_,rfl⟩
 obtain⟨q3,hq3⟩:∃ q,((seq % 256:Nat):Int)=q:=⟨_,rfl⟩
 have e0:IntKind.u8.wrap party=p:=by rw[IntKind.wrap_u8];exact hp
 have e1:IntKind.u8.wrap which=h':=by rw[IntKind.wrap_u8];exact hh
 have f0:IntKind.u8.wrap (z / 16777216)=q0:=by rw[IntKind.wrap_u8];omega
 have f1:IntKind.u8.wrap (z / 65536)=q1:=by rw[IntKind.wrap_u8];omega
 have f2:IntKind.u8.wrap (z / 256)=q2:=by rw[IntKind.wrap_u8];omega
 have f3:IntKind.u8.wrap z=q3:=by rw[IntKind.wrap_u8];omega
 have HB:ae (Bytes [p,h',q0,q1,q2,q3]):=⟨by intro x hx;simp at hx;omega⟩
 have HV:ae (rcpV stamp party which seq ans=Ia (Mac.keyOf stamp) ([p,h',q0,q1,q2,q3]++ans)):=⟨by
  unfold rcpV rcpT hmac
  rw[hp,hh,be4,hq0,hq1,hq2,hq3,show [p,h']++[q0,q1,q2,q3]++ans=[p,h',q0,q1,q2,q3]++ans from rfl]⟩
 rw[HV.out,hz]
 have CN:=ae.mk (EU t A n c stamp w ht hr hc hcm hn)
 have HM:ae (nb≤cb∧cb≤9223372036854775807∧nb≤1000000):=⟨hbc,hbm,hm⟩
 clear ht ha hr hp hh hz hq0 hq1 hq2 hq3 HV hbc hbm hm
 unfold ET at CN
 go_enter Tryz.func15,Tryz.ntmps15
 go_wp2_with fail
 refine CN.out.mono ?_
 rintro e w1 ⟨m,h,rfl,hm,hh,mc,b1⟩
 have B1:=ae.mk b1
 have HHM:ae (w.heap.size≤h∧w.heap.size≤m∧h < w1.heap.size∧m < w1.heap.size∧t < w1.heap.size):=⟨hh,hm,Hs.lt mc.2.2.2,mc.lt,by have:=HT.out.lt;have:=b1.size;omega⟩
 obtain⟨g,hg⟩:∃ g,w1.heap.size=g:=⟨_,rfl⟩
 have X:=ae.mk (Blk.new_at w1 5 #[.int .u8 p,.int .u8 h',.int .u8 q0,.int .u8 q1,.int .u8 q2,.int .u8 q3] g hg.symm)
 have b2:Bar [] w1 (w1.alloc (.cells #[.int .u8 p,.int .u8 h',.int .u8 q0,.int .u8 q1,.int .u8 q2,.int .u8 q3] 5)):=(Bar.refl _ _).alloc _
 have MC:=ae.mk (mc.bar b2 (by simp) (by simp) (by simp))
 replace B1:=ae.mk (B1.out.trans b2 (by simp))
 have GH:ae (g≠h∧w.heap.size≤g):=⟨by have:=HHM.out;omega,by have:=b1.size;omega⟩
 clear mc b1 b2 CN hm hh
 go_wp2_with fail
 clear e0 e1 f0 f1 f2 f3 hg
 generalize (w1.alloc (.cells #[.int .u8 p,.int .u8 h',.int .u8 q0,.int .u8 q1,.int .u8 q2,.int .u8 q3] 5))=w2 at *
 have hx:Blk w2 g 5 (arr .u8 [p,h',q0,q1,q2,q3]):=X.out
 refine(nI m h t (Mac.keyOf stamp) [] [p,h',q0,q1,q2,q3] (some ⟨g,0,none⟩) 6 6 w2 MC.out ⟨rfl,HB.out,.inr ⟨g,0,rfl,GH.out.1,fun i hi=>by rw[Nat.zero_add];exact hx.at_ i hi⟩⟩ (by omega) (by omega) (by simp)).mono ?_
 rintro e w3 ⟨rfl,mc,b3⟩
 rw[List.nil_append] at mc
 replace MC:=ae.mk mc
 have B3:=ae.mk (B1.out.trans b3 (fun z hz=>.inr (by rw[List.mem_singleton] at hz;have:=HHM.out;omega)))
 have SB:=ae.mk (RB.out.sl HT.out B3.out HHM.out.1)
 clear mc b3 B1 X hx
 go_wp2_with fail
 refine(nI m h t (Mac.keyOf stamp) [p,h',q0,q1,q2,q3] ans B nb cb w3 MC.out SB.out HM.out.1 HM.out.2.1 (by have:=HM.out.2.2;show 6+nb < 576460752303423488;omega)).mono ?_
 rintro e w4 ⟨rfl,mc,b4⟩
 replace MC:=ae.mk mc
 have B4:=ae.mk (B3.out.trans b4 (fun z hz=>.inr (by rw[List.mem_singleton] at hz;have:=HHM.out;omega)))
 clear mc b4 B3 SB
 go_wp2_with fail
 refine(EW m h t (Mac.keyOf stamp) ([p,h',q0,q1,q2,q3]++ans) w4 MC.out (by rw[List.length_append,LB.out];have:=HM.out.2.2;show 6+nb < 288230376151711744;omega)).mono ?_
 rintro e w5 ⟨M,rfl,hM,k3,m3,b5⟩
 have K3:=ae.mk k3;have M3:=ae.mk m3
 have B5:=ae.mk (B4.out.trans b5 (fun z hz=>.inl hz))
 have WM:ae (w.heap.size≤M):=⟨by have:=B4.out.size;omega⟩
 clear k3 m3 b5 hM MC B4
 go_wp2
 go_ret
 exact⟨M,rfl,WM.out,K3.out,M3.out,B5.out⟩
end
end Gate
end Go.Proofs.YtlkeieoecfkkeaaGreat
