/-
  Parts laid together: MacRef MacEq GateC1 GateRcp.
-/
import Derived.Test.YtlkeieoecfkkeaaGreatPart31
import Derived.Test.YtlkeieoecfkkeaaGreatPart44
import Derived.Test.YtlkeieoecfkkeaaGreatPart4
import Derived.Maps.AppendAt
import Derived.Test.YtlkeieoecfkkeaaGreatPart42
import Derived.Lib.Bytes
namespace Go.Proofs.YtlkeieoecfkkeaaGreat.Mac
open Go.RowKit Go.Proofs.YtlkeieoecfkkeaaGreat.Sha
theorem kp_take (key:List Int) (c:Int) (k:Nat) (h:k < 64):(kp key c).take (k+1)=(kp key c).take k++[bits .xor .u8 (at_ key k) c]:=by
 rw[List.take_succ_eq_append_getElem (by rw[kp_len];exact h)]
 congr 2
 have:=kp_at key c k h
 simpa [at_,List.getD_eq_getElem?_getD,kp_len,h] using this
def RMacPost (text:List Int) (w:World) (e:Ending) (w':World):Prop:=∃ M cap,e=.returned (.slice (some ⟨M,0,none⟩) 32 cap)∧w.heap.size≤M∧32≤cap∧cap≤maxLen∧Rd w' (some ⟨M,0,none⟩) 32 text∧Below w.heap.size w w'
set_option maxRecDepth 100000 in
set_option maxHeartbeats 2000000 in
theorem rmac_any (A Bb:Option Addr) (na ca nb cb:Nat) (key text:List Int) (w:World) (hra:Rd w A na key) (hrb:Rd w Bb nb text) (hn:na < 1073741824) (hm:nb < 536870912) :
  Calls Tryz.prog 40 #[.slice A na ca,.slice Bb nb cb] w (RMacPost (hmac key text) w):=by
 have RA:=Kept.mk hra
 have RB:=Kept.mk hrb
 have LA:=Kept.mk hra.1
 have LB:=Kept.mk hrb.1
 clear hra hrb
 by_cases hbig:64 < na
 ·have hbig':=Kept.mk (keyOf_big (key:=key) (by rw[LA.out];exact hbig))
  go_enter Tryz.func40,Tryz.ntmps40
  go_wp2_with fail
  refine(rhash_any A na ca key w RA.out hn).mono ?_
  rintro e w0 ⟨M0,cap0,rfl,hM0,hc0,hm0,r0,b0⟩
  have R0:=Kept.mk r0
  have B0:=Kept.mk b0
  have RB':=Kept.mk (RB.out.below b0)
  clear r0 b0
  go_wp2
  go_loopw [5,6,7] (fun vi vo i wr=>∃ (k:Nat) (ui uo:Value),k≤64∧ui=vi∧uo=vo∧i=.int .i64 k∧Kept (wr.ownsRow w0.heap.size 5 1 ui k (ints .u8 ((kp (sha key) 54).take k)))∧Kept (wr.ownsRow w0.heap.size 5 1 uo k (ints .u8 ((kp (sha key) 92).take k)))∧Kept (Apart ui uo)∧Kept (Rd wr (some ⟨M0,0,none⟩) 32 (sha key))∧Kept (Below w0.heap.size w0 wr)) (fun _ _ i _=>64 - (intOf i).toNat)
  case atStart=>exact⟨0,.slice none 0 0,.slice none 0 0,by omega,rfl,rfl,rfl,⟨World.ownsRow_nil _ _ _ _⟩,⟨World.ownsRow_nil _ _ _ _⟩,⟨fun g h=>by simp[Value.ownBlock] at h⟩,R0,⟨Below.refl _ _⟩⟩
  case round =>
   obtain⟨k,vi,vo,hk,rfl,rfl,rfl,OI,OO,AP,R,B⟩:=hrel
   by_cases h64:k < 64
   ·have k64:(k:Int) < 64:=by omega
    have T54:=Kept.mk (kp_take (sha key) 54 k h64)
    have T92:=Kept.mk (kp_take (sha key) 92 k h64)
    by_cases hin:k < 32
    ·obtain⟨bb,oo,hA,hc⟩:=R.out.2.2.resolve_left (by omega)
     injection hA with hA
     injection hA with e1 e2
     subst e1 e2
     have hin':(k:Int) < (32:Nat):=by omega
     have x0:=hc k hin
     try rw[Nat.zero_add] at x0
     have hx:=R.out.2.1.at_ k
     generalize at_ (sha key) k=c at *
     obtain⟨hx0,hx1⟩:=hx
     clear hc
     go_wp2_with (first
      | ((with_reducible refine sel 30 ?_);refine wpList_append_rda rfl (.tmp 26) (.tmp 29) 22 rfl w0.heap.size 5 Tryz.underlying22 info_u8 vi k _ rfl (OI.out.alloc _) _ 1 1 [bits .xor .u8 c 54] rfl (rd_one _ _ (bits8 _ _ _)) (by omega) (by have:=B.out.size;simp;omega) ?_;intro v7 w7 o7 g7 a7;have O7:=Kept.mk o7.out;have P7:=Kept.mk (apart_in AP.out (OO.out.alloc (.cells #[.int .u8 (bits .xor .u8 c 54)] 5)) g7 a7);have B7:=Kept.mk ((B.out.alloc B.out.size (.cells #[.int .u8 (bits .xor .u8 c 54)] 5)).trans (own_below (OI.out.alloc (.cells #[.int .u8 (bits .xor .u8 c 54)] 5)) g7 (by have:=B.out.size;simp;omega)));clear o7 g7 a7)
      | ((with_reducible refine sel 35 ?_);refine wpList_append_rda rfl (.tmp 31) (.tmp 34) 22 rfl w0.heap.size 5 Tryz.underlying22 info_u8 vo k _ rfl (P7.out.1.alloc _) _ 1 1 [bits .xor .u8 c 92] rfl (rd_one _ _ (bits8 _ _ _)) (by omega) (by have:=B7.out.size;simp;omega) ?_;intro v8 w8 o8 g8 a8;have O8:=Kept.mk o8.out;have P8:=Kept.mk (apart_in P7.out.2 (O7.out.alloc (.cells #[.int .u8 (bits .xor .u8 c 92)] 5)) g8 a8);have B8:=Kept.mk ((B7.out.alloc B7.out.size (.cells #[.int .u8 (bits .xor .u8 c 92)] 5)).trans (own_below (P7.out.1.alloc (.cells #[.int .u8 (bits .xor .u8 c 92)] 5)) g8 (by have:=B7.out.size;simp;omega)));clear o8 g8 a8))
     go_roundw
     case rel =>
      refine⟨k+1,v7,v8,by omega,rfl,rfl,by go_num,⟨?_⟩,⟨?_⟩,⟨P8.out.2⟩,⟨R0.out.below B8.out⟩,B8⟩
      ·have:=P8.out.1
       rw[← ints_append,← T54.out] at this
       exact this
      ·have:=O8.out
       rw[← ints_append,← T92.out] at this
       exact this
     case measure=>simp[intOf];omega
    ·have hin':¬ (k:Int) < (32:Nat):=by omega
     rw[at_out (l:=(sha key)) (by rw[R.out.1];omega)] at T54 T92
     go_wp2_with (first
      | ((with_reducible refine sel 30 ?_);refine wpList_append_rda rfl (.tmp 26) (.tmp 29) 22 rfl w0.heap.size 5 Tryz.underlying22 info_u8 vi k _ rfl (OI.out.alloc _) _ 1 1 [bits .xor .u8 0 54] rfl (rd_one _ _ (bits8 _ _ _)) (by omega) (by have:=B.out.size;simp;omega) ?_;intro v7 w7 o7 g7 a7;have O7:=Kept.mk o7.out;have P7:=Kept.mk (apart_in AP.out (OO.out.alloc (.cells #[.int .u8 (bits .xor .u8 0 54)] 5)) g7 a7);have B7:=Kept.mk ((B.out.alloc B.out.size (.cells #[.int .u8 (bits .xor .u8 0 54)] 5)).trans (own_below (OI.out.alloc (.cells #[.int .u8 (bits .xor .u8 0 54)] 5)) g7 (by have:=B.out.size;simp;omega)));clear o7 g7 a7)
      | ((with_reducible refine sel 35 ?_);refine wpList_append_rda rfl (.tmp 31) (.tmp 34) 22 rfl w0.heap.size 5 Tryz.underlying22 info_u8 vo k _ rfl (P7.out.1.alloc _) _ 1 1 [bits .xor .u8 0 92] rfl (rd_one _ _ (bits8 _ _ _)) (by omega) (by have:=B7.out.size;simp;omega) ?_;intro v8 w8 o8 g8 a8;have O8:=Kept.mk o8.out;have P8:=Kept.mk (apart_in P7.out.2 (O7.out.alloc (.cells #[.int .u8 (bits .xor .u8 0 92)] 5)) g8 a8);have B8:=Kept.mk ((B7.out.alloc B7.out.size (.cells #[.int .u8 (bits .xor .u8 0 92)] 5)).trans (own_below (P7.out.1.alloc (.cells #[.int .u8 (bits .xor .u8 0 92)] 5)) g8 (by have:=B7.out.size;simp;omega)));clear o8 g8 a8))
     go_roundw
     case rel =>
      refine⟨k+1,v7,v8,by omega,rfl,rfl,by go_num,⟨?_⟩,⟨?_⟩,⟨P8.out.2⟩,⟨R0.out.below B8.out⟩,B8⟩
      ·have:=P8.out.1
       rw[← ints_append,← T54.out] at this
       exact this
      ·have:=O8.out
       rw[← ints_append,← T92.out] at this
       exact this
     case measure=>simp[intOf];omega
   ·have hk64:k=64:=by omega
    subst hk64
    have k64:¬ ((64:Nat):Int) < 64:=by omega
    rw[List.take_of_length_le (Nat.le_of_eq (kp_len _ _))] at OI OO
    go_wp2_with ((with_reducible refine sel 39 ?_);refine wpList_append_rda rfl (.tmp 37) (.tmp 38) 22 rfl w0.heap.size 5 Tryz.underlying22 info_u8 vi 64 _ rfl OI.out Bb nb cb text rfl (RB'.out.below B.out) (by omega) B.out.size ?_;intro v7 w7 o7 g7 a7;rw[← ints_append] at o7;have P7:=Kept.mk (apart_in AP.out OO.out g7 a7).1;have B7:=Kept.mk (B.out.trans (own_below OI.out g7 B.out.size));obtain⟨A7,c7,rfl,-,-,r7⟩:=own_rd o7.out ((kp_bytes _ _).append RB'.out.2.1);have R7:=Kept.mk r7;clear o7 g7 a7 r7)
    refine(rhash_any A7 (64+nb) c7 (kp (sha key) 54++text) w7 R7.out (by omega)).mono ?_
    rintro e w8 ⟨M8,c8,rfl,-,-,-,r8,b8⟩
    have O8:=Kept.mk (own_bar P7.out (barOf b8 []) (by simp))
    have R8:=Kept.mk r8
    have B8:=Kept.mk (B7.out.trans (b8.mono B7.out.size))
    clear r8 b8 P7 R7 B7 OI OO AP B R
    go_wp2_with ((with_reducible refine sel 41 ?_);refine wpList_append_rda rfl (.tmp 36) (.tmp 40) 22 rfl w0.heap.size 5 Tryz.underlying22 info_u8 vo 64 _ rfl O8.out (some ⟨M8,0,none⟩) 32 c8 (sha (kp (sha key) 54++text)) rfl R8.out (by omega) B8.out.size ?_;intro v9 w9 o9 g9 a9;rw[← ints_append] at o9;have B9:=Kept.mk (B8.out.trans (own_below O8.out g9 B8.out.size));obtain⟨A9,c9,rfl,-,-,r9⟩:=own_rd o9.out ((kp_bytes _ _).append (sha_bytes _));have R9:=Kept.mk r9;clear o9 g9 a9 r9)
    refine(rhash_any A9 (64+32) c9 (kp (sha key) 92++sha (kp (sha key) 54++text)) w9 R9.out (by omega)).mono ?_
    rintro e w10 ⟨M10,c10,rfl,hM10,hc10,hm10,r10,b10⟩
    have R10:=Kept.mk r10
    have B10:=Kept.mk (B0.out.trans ((B9.out.trans (b10.mono B9.out.size)).mono B0.out.size))
    have hw10:w.heap.size≤M10:=by have:=B0.out.size;have:=B9.out.size;omega
    clear r10 b10 R9 B9 O8 R8 B8
    go_wp2
    go_ret
    refine⟨M10,c10,rfl,hw10,hc10,hm10,?_,B10.out⟩
    show Rd w10 _ 32 (hmacK (keyOf key) text)
    rw[hbig'.out]
    exact R10.out
 ·have hbig':=Kept.mk (keyOf_small (key:=key) (by rw[LA.out];exact hbig))
  have B0:Kept (Below w.heap.size w w):=⟨Below.refl _ _⟩
  have R0:=RA
  have RB':=RB
  go_enter Tryz.func40,Tryz.ntmps40
  go_wp2
  go_loopw [5,6,7] (fun vi vo i wr=>∃ (k:Nat) (ui uo:Value),k≤64∧ui=vi∧uo=vo∧i=.int .i64 k∧Kept (wr.ownsRow w.heap.size 5 1 ui k (ints .u8 ((kp key 54).take k)))∧Kept (wr.ownsRow w.heap.size 5 1 uo k (ints .u8 ((kp key 92).take k)))∧Kept (Apart ui uo)∧Kept (Rd wr A na key)∧Kept (Below w.heap.size w wr)) (fun _ _ i _=>64 - (intOf i).toNat)
  case atStart=>exact⟨0,.slice none 0 0,.slice none 0 0,by omega,rfl,rfl,rfl,⟨World.ownsRow_nil _ _ _ _⟩,⟨World.ownsRow_nil _ _ _ _⟩,⟨fun g h=>by simp[Value.ownBlock] at h⟩,R0,⟨Below.refl _ _⟩⟩
  case round =>
   obtain⟨k,vi,vo,hk,rfl,rfl,rfl,OI,OO,AP,R,B⟩:=hrel
   by_cases h64:k < 64
   ·have k64:(k:Int) < 64:=by omega
    have T54:=Kept.mk (kp_take key 54 k h64)
    have T92:=Kept.mk (kp_take key 92 k h64)
    by_cases hin:k < na
    ·obtain⟨bb,oo,rfl,hc⟩:=R.out.2.2.resolve_left (by omega)
     have hin':(k:Int) < (na:Nat):=by omega
     have x0:=hc k hin
     try rw[Nat.zero_add] at x0
     have hx:=R.out.2.1.at_ k
     generalize at_ key k=c at *
     obtain⟨hx0,hx1⟩:=hx
     clear hc
     go_wp2_with (first
      | ((with_reducible refine sel 30 ?_);refine wpList_append_rda rfl (.tmp 26) (.tmp 29) 22 rfl w.heap.size 5 Tryz.underlying22 info_u8 vi k _ rfl (OI.out.alloc _) _ 1 1 [bits .xor .u8 c 54] rfl (rd_one _ _ (bits8 _ _ _)) (by omega) (by have:=B.out.size;simp;omega) ?_;intro v7 w7 o7 g7 a7;have O7:=Kept.mk o7.out;have P7:=Kept.mk (apart_in AP.out (OO.out.alloc (.cells #[.int .u8 (bits .xor .u8 c 54)] 5)) g7 a7);have B7:=Kept.mk ((B.out.alloc B.out.size (.cells #[.int .u8 (bits .xor .u8 c 54)] 5)).trans (own_below (OI.out.alloc (.cells #[.int .u8 (bits .xor .u8 c 54)] 5)) g7 (by have:=B.out.size;simp;omega)));clear o7 g7 a7)
      | ((with_reducible refine sel 35 ?_);refine wpList_append_rda rfl (.tmp 31) (.tmp 34) 22 rfl w.heap.size 5 Tryz.underlying22 info_u8 vo k _ rfl (P7.out.1.alloc _) _ 1 1 [bits .xor .u8 c 92] rfl (rd_one _ _ (bits8 _ _ _)) (by omega) (by have:=B7.out.size;simp;omega) ?_;intro v8 w8 o8 g8 a8;have O8:=Kept.mk o8.out;have P8:=Kept.mk (apart_in P7.out.2 (O7.out.alloc (.cells #[.int .u8 (bits .xor .u8 c 92)] 5)) g8 a8);have B8:=Kept.mk ((B7.out.alloc B7.out.size (.cells #[.int .u8 (bits .xor .u8 c 92)] 5)).trans (own_below (P7.out.1.alloc (.cells #[.int .u8 (bits .xor .u8 c 92)] 5)) g8 (by have:=B7.out.size;simp;omega)));clear o8 g8 a8))
     go_roundw
     case rel =>
      refine⟨k+1,v7,v8,by omega,rfl,rfl,by go_num,⟨?_⟩,⟨?_⟩,⟨P8.out.2⟩,⟨R0.out.below B8.out⟩,B8⟩
      ·have:=P8.out.1
       rw[← ints_append,← T54.out] at this
       exact this
      ·have:=O8.out
       rw[← ints_append,← T92.out] at this
       exact this
     case measure=>simp[intOf];omega
    ·have hin':¬ (k:Int) < (na:Nat):=by omega
     rw[at_out (l:=key) (by rw[R.out.1];omega)] at T54 T92
     go_wp2_with (first
      | ((with_reducible refine sel 30 ?_);refine wpList_append_rda rfl (.tmp 26) (.tmp 29) 22 rfl w.heap.size 5 Tryz.underlying22 info_u8 vi k _ rfl (OI.out.alloc _) _ 1 1 [bits .xor .u8 0 54] rfl (rd_one _ _ (bits8 _ _ _)) (by omega) (by have:=B.out.size;simp;omega) ?_;intro v7 w7 o7 g7 a7;have O7:=Kept.mk o7.out;have P7:=Kept.mk (apart_in AP.out (OO.out.alloc (.cells #[.int .u8 (bits .xor .u8 0 54)] 5)) g7 a7);have B7:=Kept.mk ((B.out.alloc B.out.size (.cells #[.int .u8 (bits .xor .u8 0 54)] 5)).trans (own_below (OI.out.alloc (.cells #[.int .u8 (bits .xor .u8 0 54)] 5)) g7 (by have:=B.out.size;simp;omega)));clear o7 g7 a7)
      | ((with_reducible refine sel 35 ?_);refine wpList_append_rda rfl (.tmp 31) (.tmp 34) 22 rfl w.heap.size 5 Tryz.underlying22 info_u8 vo k _ rfl (P7.out.1.alloc _) _ 1 1 [bits .xor .u8 0 92] rfl (rd_one _ _ (bits8 _ _ _)) (by omega) (by have:=B7.out.size;simp;omega) ?_;intro v8 w8 o8 g8 a8;have O8:=Kept.mk o8.out;have P8:=Kept.mk (apart_in P7.out.2 (O7.out.alloc (.cells #[.int .u8 (bits .xor .u8 0 92)] 5)) g8 a8);have B8:=Kept.mk ((B7.out.alloc B7.out.size (.cells #[.int .u8 (bits .xor .u8 0 92)] 5)).trans (own_below (P7.out.1.alloc (.cells #[.int .u8 (bits .xor .u8 0 92)] 5)) g8 (by have:=B7.out.size;simp;omega)));clear o8 g8 a8))
     go_roundw
     case rel =>
      refine⟨k+1,v7,v8,by omega,rfl,rfl,by go_num,⟨?_⟩,⟨?_⟩,⟨P8.out.2⟩,⟨R0.out.below B8.out⟩,B8⟩
      ·have:=P8.out.1
       rw[← ints_append,← T54.out] at this
       exact this
      ·have:=O8.out
       rw[← ints_append,← T92.out] at this
       exact this
     case measure=>simp[intOf];omega
   ·have hk64:k=64:=by omega
    subst hk64
    have k64:¬ ((64:Nat):Int) < 64:=by omega
    rw[List.take_of_length_le (Nat.le_of_eq (kp_len _ _))] at OI OO
    go_wp2_with ((with_reducible refine sel 39 ?_);refine wpList_append_rda rfl (.tmp 37) (.tmp 38) 22 rfl w.heap.size 5 Tryz.underlying22 info_u8 vi 64 _ rfl OI.out Bb nb cb text rfl (RB'.out.below B.out) (by omega) B.out.size ?_;intro v7 w7 o7 g7 a7;rw[← ints_append] at o7;have P7:=Kept.mk (apart_in AP.out OO.out g7 a7).1;have B7:=Kept.mk (B.out.trans (own_below OI.out g7 B.out.size));obtain⟨A7,c7,rfl,-,-,r7⟩:=own_rd o7.out ((kp_bytes _ _).append RB'.out.2.1);have R7:=Kept.mk r7;clear o7 g7 a7 r7)
    refine(rhash_any A7 (64+nb) c7 (kp key 54++text) w7 R7.out (by omega)).mono ?_
    rintro e w8 ⟨M8,c8,rfl,-,-,-,r8,b8⟩
    have O8:=Kept.mk (own_bar P7.out (barOf b8 []) (by simp))
    have R8:=Kept.mk r8
    have B8:=Kept.mk (B7.out.trans (b8.mono B7.out.size))
    clear r8 b8 P7 R7 B7 OI OO AP B R
    go_wp2_with ((with_reducible refine sel 41 ?_);refine wpList_append_rda rfl (.tmp 36) (.tmp 40) 22 rfl w.heap.size 5 Tryz.underlying22 info_u8 vo 64 _ rfl O8.out (some ⟨M8,0,none⟩) 32 c8 (sha (kp key 54++text)) rfl R8.out (by omega) B8.out.size ?_;intro v9 w9 o9 g9 a9;rw[← ints_append] at o9;have B9:=Kept.mk (B8.out.trans (own_below O8.out g9 B8.out.size));obtain⟨A9,c9,rfl,-,-,r9⟩:=own_rd o9.out ((kp_bytes _ _).append (sha_bytes _));have R9:=Kept.mk r9;clear o9 g9 a9 r9)
    refine(rhash_any A9 (64+32) c9 (kp key 92++sha (kp key 54++text)) w9 R9.out (by omega)).mono ?_
    rintro e w10 ⟨M10,c10,rfl,hM10,hc10,hm10,r10,b10⟩
    have R10:=Kept.mk r10
    have B10:=Kept.mk (B0.out.trans ((B9.out.trans (b10.mono B9.out.size)).mono B0.out.size))
    have hw10:w.heap.size≤M10:=by have:=B0.out.size;have:=B9.out.size;omega
    clear r10 b10 R9 B9 O8 R8 B8
    go_wp2
    go_ret
    refine⟨M10,c10,rfl,hw10,hc10,hm10,?_,B10.out⟩
    show Rd w10 _ 32 (hmacK (keyOf key) text)
    rw[hbig'.out]
    exact R10.out
theorem rd_two (w:World) (x0 x1:Int) (h0:0≤x0∧x0≤255) (h1:0≤x1∧x1≤255):Rd (w.alloc (.cells #[.int .u8 x0,.int .u8 x1] 5)) (some ⟨w.heap.size,0,none⟩) 2 [x0,x1] :=
 Rd.blk (Blk.new w 5 (arr .u8 [x0,x1])) (by intro y hy;simp only[List.mem_cons,List.not_mem_nil,or_false] at hy;rcases hy with rfl|rfl<;>assumption) rfl
set_option maxRecDepth 100000 in
set_option maxHeartbeats 1000000 in
theorem mkey_any (t:Nat) (A:Option Addr) (n c:Nat) (key:List Int) (a b:Int) (w:World) (ht:Tab w t) (ha:Rd w A n key) (hc:n≤c) (hm:c≤9223372036854775807) (hn:n < 1073741824) :
  Calls Tryz.prog 34 #[.pointer (some ⟨t,0,none⟩),.slice A n c,.int .i64 a,.int .i64 b] w (MSumPost t (hmac key [a % 256,b % 256]) w):=by
 have HT:=Kept.mk ht
 have RA:=Kept.mk ha
 clear ht ha
 obtain⟨x,hx⟩:∃ x,a % 256=x:=⟨_,rfl⟩
 obtain⟨y,hy⟩:∃ y,b % 256=y:=⟨_,rfl⟩
 have hxa:IntKind.u8.wrap a=x:=by rw[IntKind.wrap_u8];exact hx
 have hyb:IntKind.u8.wrap b=y:=by rw[IntKind.wrap_u8];exact hy
 have bx:0≤x∧x≤255:=by omega
 have byy:0≤y∧y≤255:=by omega
 have BX:=Kept.mk bx
 have BY:=Kept.mk byy
 rw[hx,hy]
 clear bx byy
 go_enter Tryz.func34,Tryz.ntmps34
 go_wp2_with fail
 refine(mone_any t A (some ⟨w.heap.size,0,none⟩) n c 2 2 key [x,y] _ (HT.out.bar ((Bar.refl [] w).alloc _) (by simp)) (RA.out.keep (l:=[]) ((Bar.refl [] w).alloc _) (by simp)) (rd_two w x y BX.out BY.out) hc hm (by omega) (by omega) hn (by omega)).mono ?_
 rintro e w1 ⟨M,rfl,hM,k1,m1,b1⟩
 have K1:=Kept.mk k1
 have M1:=Kept.mk m1
 have B1:=Kept.mk (((Bar.refl [t] w).alloc (.cells #[.int .u8 x,.int .u8 y] 5)).trans b1 (by simp))
 have hMw:w.heap.size≤M:=by simp at hM;omega
 clear k1 m1 b1
 go_wp2
 go_ret
 exact⟨M,rfl,hMw,K1.out,M1.out,B1.out⟩
set_option maxRecDepth 100000 in
set_option maxHeartbeats 1000000 in
theorem rkey_any (A:Option Addr) (n c:Nat) (key:List Int) (a b:Int) (w:World) (ha:Rd w A n key) (hn:n < 1073741824) :
  Calls Tryz.prog 35 #[.slice A n c,.int .i64 a,.int .i64 b] w (RMacPost (hmac key [a % 256,b % 256]) w):=by
 have RA:=Kept.mk ha
 clear ha
 obtain⟨x,hx⟩:∃ x,a % 256=x:=⟨_,rfl⟩
 obtain⟨y,hy⟩:∃ y,b % 256=y:=⟨_,rfl⟩
 have hxa:IntKind.u8.wrap a=x:=by rw[IntKind.wrap_u8];exact hx
 have hyb:IntKind.u8.wrap b=y:=by rw[IntKind.wrap_u8];exact hy
 have bx:0≤x∧x≤255:=by omega
 have byy:0≤y∧y≤255:=by omega
 have BX:=Kept.mk bx
 have BY:=Kept.mk byy
 rw[hx,hy]
 clear bx byy
 go_enter Tryz.func35,Tryz.ntmps35
 go_wp2_with fail
 refine(rmac_any A (some ⟨w.heap.size,0,none⟩) n c 2 2 key [x,y] _ (RA.out.keep (l:=[]) ((Bar.refl [] w).alloc _) (by simp)) (rd_two w x y BX.out BY.out) hn (by omega)).mono ?_
 rintro e w1 ⟨M,cap,rfl,hM,h1,h2,r1,b1⟩
 have R1:=Kept.mk r1
 have B1:=Kept.mk (((Below.refl w.heap.size w).alloc (Nat.le_refl _) (.cells #[.int .u8 x,.int .u8 y] 5)).trans (b1.mono (by simp)))
 have hMw:w.heap.size≤M:=by simp at hM;omega
 clear r1 b1
 go_wp2
 go_ret
 exact⟨M,cap,rfl,hMw,h1,h2,R1.out,B1.out⟩
end Go.Proofs.YtlkeieoecfkkeaaGreat.Mac
namespace Go.Proofs.YtlkeieoecfkkeaaGreat.Gate
open Go.RowKit Go.Proofs.YtlkeieoecfkkeaaGreat.Sha Go.Proofs.YtlkeieoecfkkeaaGreat.Wire Go.Proofs.YtlkeieoecfkkeaaGreat.Mac Go.Proofs.YtlkeieoecfkkeaaGreat.Seal
section
variable {A : Option Addr} {n c t : Nat} {seed : List Int} {w : World}
theorem ckeys_any (party which:Int) (ht:Tab w t) (hr:Rd w A n seed) (hc:n≤c) (hcm:c≤9223372036854775807) (hn:n < 1073741824):Calls Tryz.prog 11 #[.pointer (some ⟨t,0,none⟩),.slice A n c,.int .i64 party,.int .i64 which] w (MSumPost t (keyV seed party which) w):=by
 have KC:=Kept.mk (mkey_any t A n c seed party which w ht hr hc hcm hn)
 clear hr ht
 unfold MSumPost at KC
 unfold keyV
 go_enter Tryz.func11,Tryz.ntmps11
 go_wp2_with fail
 refine KC.out.mono ?_
 rintro e w1 ⟨M,rfl,h1,r,tt,b⟩
 have R:=Kept.mk r;have B1:=Kept.mk b;have T1:=Kept.mk tt
 clear r b tt KC
 go_wp2
 go_ret
 exact⟨M,rfl,h1,R.out,T1.out,B1.out⟩
theorem cstamp_any (which:Int) (ht:Tab w t) (hr:Rd w A n seed) (hc:n≤c) (hcm:c≤9223372036854775807) (hn:n < 1073741824):Calls Tryz.prog 13 #[.pointer (some ⟨t,0,none⟩),.slice A n c,.int .i64 which] w (MSumPost t (stampV seed which) w):=by
 have KC:=Kept.mk (mkey_any t A n c seed 255 which w ht hr hc hcm hn)
 clear hr ht
 unfold MSumPost at KC
 unfold stampV
 go_enter Tryz.func13,Tryz.ntmps13
 go_wp2_with fail
 refine KC.out.mono ?_
 rintro e w1 ⟨M,rfl,h1,r,tt,b⟩
 have R:=Kept.mk r;have B1:=Kept.mk b;have T1:=Kept.mk tt
 clear r b tt KC
 go_wp2
 go_ret
 exact⟨M,rfl,h1,R.out,T1.out,B1.out⟩
end
theorem be4 (s:Nat):be s 4=[((s / 16777216 % 256:Nat):Int),((s / 65536 % 256:Nat):Int),((s / 256 % 256:Nat):Int),((s % 256:Nat):Int)]:=by
 simp[be]
section
variable {A B : Option Addr} {n c nb cb t : Nat} {stamp ans : List Int} {w : World}
set_option maxRecDepth 100000 in
set_option maxHeartbeats 1000000 in
theorem creceipt_any (party which:Int) (seq:Nat) (ht:Tab w t) (hr:Rd w A n stamp) (hc:n≤c) (hcm:c≤9223372036854775807) (hn:n < 1073741824) (ha:Rd w B nb ans) (hbc:nb≤cb) (hbm:cb≤9223372036854775807) (hm:nb≤1000000) :
  Calls Tryz.prog 15 #[.pointer (some ⟨t,0,none⟩),.slice A n c,.int .i64 party,.int .i64 which,.int .i64 seq,.slice B nb cb] w (MSumPost t (rcpV stamp party which seq ans) w):=by
 have HT:=Kept.mk ht
 have RB:=Kept.mk ha
 have LB:=Kept.mk ha.1
 obtain⟨p,hp⟩:∃ p,party % 256=p:=⟨_,rfl⟩
 obtain⟨h',hh⟩:∃ h',which % 256=h':=⟨_,rfl⟩
 obtain⟨z,hz⟩:∃ z:Int,(seq:Int)=z:=⟨_,rfl⟩
 obtain⟨q0,hq0⟩:∃ q,((seq / 16777216 % 256:Nat):Int)=q:=⟨_,rfl⟩
 obtain⟨q1,hq1⟩:∃ q,((seq / 65536 % 256:Nat):Int)=q:=⟨_,rfl⟩
 obtain⟨q2,hq2⟩:∃ q,((seq / 256 % 256:Nat):Int)=q:=⟨_,rfl⟩
 obtain⟨q3,hq3⟩:∃ q,((seq % 256:Nat):Int)=q:=⟨_,rfl⟩
 have e0:IntKind.u8.wrap party=p:=by rw[IntKind.wrap_u8];exact hp
 have e1:IntKind.u8.wrap which=h':=by rw[IntKind.wrap_u8];exact hh
 have f0:IntKind.u8.wrap (z / 16777216)=q0:=by rw[IntKind.wrap_u8];omega
 have f1:IntKind.u8.wrap (z / 65536)=q1:=by rw[IntKind.wrap_u8];omega
 have f2:IntKind.u8.wrap (z / 256)=q2:=by rw[IntKind.wrap_u8];omega
 have f3:IntKind.u8.wrap z=q3:=by rw[IntKind.wrap_u8];omega
 have HB:Kept (Bytes [p,h',q0,q1,q2,q3]):=⟨by intro x hx;simp at hx;omega⟩
 have HV:Kept (rcpV stamp party which seq ans=hmacK (Mac.keyOf stamp) ([p,h',q0,q1,q2,q3]++ans)):=⟨by
  unfold rcpV rcpT hmac
  rw[hp,hh,be4,hq0,hq1,hq2,hq3,show [p,h']++[q0,q1,q2,q3]++ans=[p,h',q0,q1,q2,q3]++ans from rfl]⟩
 rw[HV.out,hz]
 have CN:=Kept.mk (mnew_any t A n c stamp w ht hr hc hcm hn)
 have HM:Kept (nb≤cb∧cb≤9223372036854775807∧nb≤1000000):=⟨hbc,hbm,hm⟩
 clear ht ha hr hp hh hz hq0 hq1 hq2 hq3 HV hbc hbm hm
 unfold MNewPost at CN
 go_enter Tryz.func15,Tryz.ntmps15
 go_wp2_with fail
 refine CN.out.mono ?_
 rintro e w1 ⟨m,h,rfl,hm,hh,mc,b1⟩
 have B1:=Kept.mk b1
 have HHM:Kept (w.heap.size≤h∧w.heap.size≤m∧h < w1.heap.size∧m < w1.heap.size∧t < w1.heap.size):=⟨hh,hm,Hs.lt mc.2.2.2,mc.lt,by have:=HT.out.lt;have:=b1.size;omega⟩
 obtain⟨g,hg⟩:∃ g,w1.heap.size=g:=⟨_,rfl⟩
 have X:=Kept.mk (Blk.new_at w1 5 #[.int .u8 p,.int .u8 h',.int .u8 q0,.int .u8 q1,.int .u8 q2,.int .u8 q3] g hg.symm)
 have b2:Bar [] w1 (w1.alloc (.cells #[.int .u8 p,.int .u8 h',.int .u8 q0,.int .u8 q1,.int .u8 q2,.int .u8 q3] 5)):=(Bar.refl _ _).alloc _
 have MC:=Kept.mk (mc.bar b2 (by simp) (by simp) (by simp))
 replace B1:=Kept.mk (B1.out.trans b2 (by simp))
 have GH:Kept (g≠h∧w.heap.size≤g):=⟨by have:=HHM.out;omega,by have:=b1.size;omega⟩
 clear mc b1 b2 CN hm hh
 go_wp2_with fail
 clear e0 e1 f0 f1 f2 f3 hg
 generalize (w1.alloc (.cells #[.int .u8 p,.int .u8 h',.int .u8 q0,.int .u8 q1,.int .u8 q2,.int .u8 q3] 5))=w2 at *
 have hx:Blk w2 g 5 (arr .u8 [p,h',q0,q1,q2,q3]):=X.out
 refine(mwrite_any m h t (Mac.keyOf stamp) [] [p,h',q0,q1,q2,q3] (some ⟨g,0,none⟩) 6 6 w2 MC.out ⟨rfl,HB.out,.inr ⟨g,0,rfl,GH.out.1,fun i hi=>by rw[Nat.zero_add];exact hx.at_ i hi⟩⟩ (by omega) (by omega) (by simp)).mono ?_
 rintro e w3 ⟨rfl,mc,b3⟩
 rw[List.nil_append] at mc
 replace MC:=Kept.mk mc
 have B3:=Kept.mk (B1.out.trans b3 (fun z hz=>.inr (by rw[List.mem_singleton] at hz;have:=HHM.out;omega)))
 have SB:=Kept.mk (RB.out.sl HT.out B3.out HHM.out.1)
 clear mc b3 B1 X hx
 go_wp2_with fail
 refine(mwrite_any m h t (Mac.keyOf stamp) [p,h',q0,q1,q2,q3] ans B nb cb w3 MC.out SB.out HM.out.1 HM.out.2.1 (by have:=HM.out.2.2;show 6+nb < 576460752303423488;omega)).mono ?_
 rintro e w4 ⟨rfl,mc,b4⟩
 replace MC:=Kept.mk mc
 have B4:=Kept.mk (B3.out.trans b4 (fun z hz=>.inr (by rw[List.mem_singleton] at hz;have:=HHM.out;omega)))
 clear mc b4 B3 SB
 go_wp2_with fail
 refine(msum_any m h t (Mac.keyOf stamp) ([p,h',q0,q1,q2,q3]++ans) w4 MC.out (by rw[List.length_append,LB.out];have:=HM.out.2.2;show 6+nb < 288230376151711744;omega)).mono ?_
 rintro e w5 ⟨M,rfl,hM,k3,m3,b5⟩
 have K3:=Kept.mk k3;have M3:=Kept.mk m3
 have B5:=Kept.mk (B4.out.trans b5 (fun z hz=>.inl hz))
 have WM:Kept (w.heap.size≤M):=⟨by have:=B4.out.size;omega⟩
 clear k3 m3 b5 hM MC B4
 go_wp2
 go_ret
 exact⟨M,rfl,WM.out,K3.out,M3.out,B5.out⟩
end
end Go.Proofs.YtlkeieoecfkkeaaGreat.Gate
