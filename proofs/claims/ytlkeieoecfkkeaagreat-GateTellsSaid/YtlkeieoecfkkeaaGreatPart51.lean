/-
  Parts laid together: GateRef GateC2.
-/
import Derived.Test.YtlkeieoecfkkeaaGreatPart1
import Derived.Test.YtlkeieoecfkkeaaGreatPart5
import Derived.Test.YtlkeieoecfkkeaaGreatPart47
import Derived.Test.YtlkeieoecfkkeaaGreatPart11
import Derived.Test.YtlkeieoecfkkeaaGreatPart8
import Derived.Deep.RegionHeld3
import Derived.Deep.DeepCutAuto
namespace Go.Proofs.YtlkeieoecfkkeaaGreat.Gate
open Go.RowKit Go.Proofs.YtlkeieoecfkkeaaGreat.Sha Go.Proofs.YtlkeieoecfkkeaaGreat.Wire Go.Proofs.YtlkeieoecfkkeaaGreat.Mac Go.Proofs.YtlkeieoecfkkeaaGreat.Seal
section
variable {A B : Option Addr} {n c m d : Nat} {seed ans : List Int} {w : World}
theorem rkeys_any (party which:Int) (hr:Rd w A n seed) (hn:n < 1073741824):Calls Tryz.prog 12 #[.slice A n c,.int .i64 party,.int .i64 which] w (RMacPost (keyV seed party which) w):=by
 have KC:=Kept.mk (rkey_any A n c seed party which w hr hn)
 clear hr
 unfold RMacPost at KC
 unfold keyV
 go_enter Tryz.func12,Tryz.ntmps12
 go_wp2_with fail
 refine KC.out.mono ?_
 rintro e w1 ⟨M,cap,rfl,h1,h2,h3,r,b⟩
 have R:=Kept.mk r;have B1:=Kept.mk b
 clear r b KC
 go_wp2
 go_ret
 exact⟨M,cap,rfl,h1,h2,h3,R.out,B1.out⟩
theorem rstamp_any (which:Int) (hr:Rd w A n seed) (hn:n < 1073741824):Calls Tryz.prog 14 #[.slice A n c,.int .i64 which] w (RMacPost (stampV seed which) w):=by
 have KC:=Kept.mk (rkey_any A n c seed 255 which w hr hn)
 clear hr
 unfold RMacPost at KC
 unfold stampV
 go_enter Tryz.func14,Tryz.ntmps14
 go_wp2_with fail
 refine KC.out.mono ?_
 rintro e w1 ⟨M,cap,rfl,h1,h2,h3,r,b⟩
 have R:=Kept.mk r;have B1:=Kept.mk b
 clear r b KC
 go_wp2
 go_ret
 exact⟨M,cap,rfl,h1,h2,h3,R.out,B1.out⟩
def SplitPost (b:List Int) (w:World) (e:Ending) (w':World):Prop :=
 ∃ A n c B m d,e=.returned (.tuple #[.slice A n c,.slice B m d,.int .i64 (splitV b).2])∧Rd w' A n (splitV b).1.1∧Rd w' B m (splitV b).1.2∧n≤c∧c≤9223372036854775807∧m≤d∧d≤9223372036854775807∧Below w.heap.size w w'
theorem results_tmp3 {P:Program}{fn:Func}{a b c:Tmp}(h:fn.results=#[.tmp a,.tmp b,.tmp c]) (tmps:Array Value) (w:World):(results fn tmps).run P w=.ok (.tuple #[tmps.getD a undef,tmps.getD b undef,tmps.getD c undef]) w:=by
 simp[results,h]
set_option maxRecDepth 100000 in
set_option maxHeartbeats 1000000 in
theorem rsplit_any {b:List Int}(hr:Rd w A n b) (hc:n≤c) (hn:n≤1000000):Calls Tryz.prog 9 #[.slice A n c] w (SplitPost b w):=by
 have HL:=Kept.mk hr.1;have HB:=Kept.mk hr.2.1
 by_cases h:n < 32
 ·have h':(n:Int) < 32:=by omega
  have P:Kept (splitV b=(([],[]),2)):=⟨by unfold splitV;rw[if_pos (by have:=HL.out;omega)]⟩
  clear hr
  go_enter Tryz.func9,Tryz.ntmps9
  go_wp2
  (try simp only[Exit.inBlock,Exit.then])
  refine bodyPost_ret (results_tmp3 rfl _ _) rfl ?_
  unfold SplitPost
  rw[P.out]
  exact⟨none,0,0,none,0,0,rfl,Rd.nil_,Rd.nil_,Nat.le_refl _,by omega,Nat.le_refl _,by omega,Below.refl _ _⟩
 ·have h':¬ (n:Int) < 32:=by omega
  have P:Kept (splitV b=((b.take (n - 32),b.drop (n - 32)),0)):=⟨by unfold splitV;rw[if_neg (by have:=HL.out;omega),HL.out]⟩
  obtain⟨A1,hs1,r1,-⟩:=slice_h hr hc (n - 32) (by omega) ((n:Int) - 32) (by omega)
  obtain⟨A2,hs2,r2,-⟩:=slice_l hr hc (n - 32) (by omega) ((n:Int) - 32) (by omega)
  have R1:Kept (∀ w',Below w.heap.size w w'→Rd w' A1 (n - 32) (b.take (n - 32))):=⟨fun w' bb=>r1.below bb⟩
  have R2:Kept (∀ w',Below w.heap.size w w'→Rd w' A2 (n - (n - 32)) (b.drop (n - 32))):=⟨fun w' bb=>r2.below bb⟩
  have BT:Kept (Bytes (b.take (n - 32))∧Bytes (b.drop (n - 32))):=⟨HB.out.take _,HB.out.drop _⟩
  have HN:Kept (n≤1000000):=⟨hn⟩
  have WR:IntKind.i64.wrap ((n:Int) - 32)=(n:Int) - 32:=by simp only[IntKind.wrap_i64];omega
  clear hr r1 r2
  go_enter Tryz.func9,Tryz.ntmps9
  go_upto_region 3 with(fail)
  refine wp_region_noPanic ?_
  refine wp_region_held_drew (S:=fun w':World=>True) (by kernel_rfl) trivial (fun _=>?_)
  have B:Kept (Below w.heap.size w w.drew):=⟨(Below.refl _ _).drew⟩
  generalize w.drew=w1 at *
  refine tk 0 (by assumption) ?_
  simp only[Act.put,zA,zB,zC]
  refine tk 1 (by assumption) ?_
  simp only[Act.put,zA,zB,zC]
  refine tk 2 (by assumption) ?_
  simp only[Act.put,zA,zB,zC]
  refine tk 3 (by assumption) ?_
  simp only[Act.put,zA,zB,zC]
  refine tk 4 (by assumption) ?_
  simp only[Act.put,zA,zB,zC]
  refine tk 6 (by assumption) ?_
  simp only[Act.put,zA,zB,zC]
  refine tk 7 (by assumption) ?_
  simp only[Act.put,zA,zB,zC]
  refine tk 8 (by assumption) ?_
  simp only[Act.put,zA,zB,zC]
  refine tk 9 (by assumption) ?_
  simp only[Act.put,zA,zB,zC]
  refine tk 10 (by assumption) ?_
  simp only[Act.put,zA,zB,zC]
  clear WR hs1 hs2
  refine ld 5 (fun K hK=>?_)
  go_simp
  go_at_call 33
  refine(copy_any A1 (n - 32) c (b.take (n - 32)) w1 (R1.out _ B.out) (by have:=HN.out;omega)).mono ?_
  rintro x w2 ⟨v2,rfl,o2,bb⟩
  obtain⟨A3,c3,rfl,hc3,hm3,r3⟩:=own_rd o2 BT.out.1
  have R3:=Kept.mk r3
  have H3:=Kept.mk (And.intro hc3 hm3)
  have B2:=Kept.mk (B.out.trans (bb.mono B.out.size))
  refine hK.out _ _ trivial (fun _=>?_)
  clear hK K bb o2 r3 hc3 hm3 B
  try simp only[Act.put,zA,zB,zC]
  refine ld 11 (fun K hK=>?_)
  go_simp
  go_at_call 33
  refine(copy_any A2 (n - (n - 32)) (c - (n - 32)) (b.drop (n - 32)) w2 (R2.out _ B2.out) (by omega)).mono ?_
  rintro x w4 ⟨v4,rfl,o4,bb⟩
  obtain⟨A5,c5,rfl,hc5,hm5,r5⟩:=own_rd o4 BT.out.2
  have R5:=Kept.mk r5
  have H5:=Kept.mk (And.intro hc5 hm5)
  have R4:=Kept.mk (R3.out.below bb)
  have B4:=Kept.mk (B2.out.trans (bb.mono B2.out.size))
  refine hK.out _ _ trivial (fun _=>?_)
  clear hK K bb o4 r5 hc5 hm5 B2 R3
  try simp only[Act.put,zA,zB,zC]
  refine tk 12 (by assumption) ?_
  simp only[Act.put,zA,zB,zC]
  refine tk 13 (by assumption) ?_
  simp only[Act.put,zA,zB,zC]
  refine tk 14 (by assumption) ?_
  simp only[Act.put,zA,zB,zC]
  refine wpAnyH_done (by kernel_rfl) ?_ _
  refine NoPanic.normal ?_
  go_wp2
  (try simp only[Exit.inBlock,Exit.then])
  refine bodyPost_ret (results_tmp3 rfl _ _) rfl ?_
  unfold SplitPost
  rw[P.out]
  exact⟨A3,_,c3,A5,_,c5,rfl,R4.out,R5.out,H3.out.1,H3.out.2,H5.out.1,H5.out.2,B4.out⟩
theorem lit_own {N:Nat}(w:World) (x y:Int) (hN:N≤w.heap.size):(w.alloc (.cells #[.int .u8 x,.int .u8 y] 5)).ownsRow N 5 1 (.slice (some ⟨w.heap.size,0,none⟩) 2 2) 2 (ints .u8 [x,y]) :=
 ⟨by simp[ints],.inr ⟨w.heap.size,2,_,rfl,hN,heap_alloc_new w _,Nat.le_refl _,by unfold maxLen;omega,rfl,by simp[ints]⟩⟩
set_option maxRecDepth 100000 in
set_option maxHeartbeats 2000000 in
theorem rreceipt_any {stamp:List Int}(party which:Int) (seq:Nat) (hr:Rd w A n stamp) (hn:n < 1073741824) (ha:Rd w B m ans) (hm:m≤1000000):Calls Tryz.prog 16 #[.slice A n c,.int .i64 party,.int .i64 which,.int .i64 seq,.slice B m d] w (RMacPost (rcpV stamp party which seq ans) w):=by
 have RA:Kept (∀ w',Below w.heap.size w w'→Rd w' A n stamp):=⟨fun w' bb=>hr.below bb⟩
 have RB:Kept (∀ w',Below w.heap.size w w'→Rd w' B m ans):=⟨fun w' bb=>ha.below bb⟩
 have CP:Kept (∀ w':World,Calls Tryz.prog 39 #[.int .i64 seq,.int .i64 4] w' (PutPost seq 4 w')):=⟨fun w'=>rput_any seq 4 w' (by omega) (by omega)⟩
 obtain⟨x,hx⟩:∃ x,party % 256=x:=⟨_,rfl⟩
 obtain⟨y,hy⟩:∃ y,which % 256=y:=⟨_,rfl⟩
 have hxa:IntKind.u8.wrap party=x:=by rw[IntKind.wrap_u8];exact hx
 have hyb:IntKind.u8.wrap which=y:=by rw[IntKind.wrap_u8];exact hy
 have BX:Kept (Bytes [x,y]):=⟨by intro z hz;simp at hz;omega⟩
 have HT:Kept (rcpV stamp party which seq ans=hmac stamp (([x,y]++be seq 4)++ans)):=⟨by unfold rcpV rcpT;rw[hx,hy]⟩
 rw[HT.out]
 have HM:Kept (n < 1073741824∧m≤1000000):=⟨hn,hm⟩
 obtain⟨sq,hsq⟩:∃ sq,be seq 4=sq:=⟨_,rfl⟩
 have HS:Kept (Bytes sq∧sq.length=4):=⟨by rw[← hsq];exact⟨be_bytes _ _,be_len _ _⟩⟩
 unfold PutPost at CP
 rw[hsq] at CP ⊢
 clear hr ha hx hy HT hn hm hsq
 go_enter Tryz.func16,Tryz.ntmps16
 go_wp2_with fail
 refine(CP.out _).mono ?_
 rintro e w3 ⟨g,cc,rfl,-,r,bb⟩
 have O3:=Kept.mk (own_keep (lit_own w x y (Nat.le_refl _)) (barOf bb []) (fun _ _=>by simp))
 have B3:Kept (Below w.heap.size w w3):=⟨((Below.refl w.heap.size w).alloc (Nat.le_refl _) (.cells #[.int .u8 x,.int .u8 y] 5)).trans (bb.mono (by simp))⟩
 have R3:=Kept.mk r
 clear r bb CP hxa hyb
 go_upto_region 2 with((with_reducible refine sel 19 ?_);refine wpList_append_rda rfl (.tmp 16) (.tmp 18) 22 rfl w.heap.size 5 Tryz.underlying22 info_u8 _ 2 _ rfl O3.out (some ⟨g,0,none⟩) 4 cc sq rfl R3.out (by omega) B3.out.size ?_;intro v4 w4 o4 g4 a4;rw[← ints_append] at o4;have O4:=Kept.mk o4.out;have B4:=Kept.mk (B3.out.trans (own_below O3.out g4 B3.out.size));clear o4 g4 a4 O3 R3)
 obtain⟨vs,hov⟩:=own_shape O4.out
 obtain⟨cs,rfl⟩:=hov
 go_wp2_with ((with_reducible refine sel 23 ?_);refine wpList_append_rda rfl (.tmp 21) (.tmp 22) 22 rfl w.heap.size 5 Tryz.underlying22 info_u8 _ 6 _ rfl O4.out B m d ans rfl (RB.out _ B4.out) (by have:=HM.out;omega) B4.out.size ?_;intro v7 w7 o7 g7 a7;rw[← ints_append] at o7;have O7:=Kept.mk o7.out;have B7:=Kept.mk (B4.out.trans (own_below O4.out g7 B4.out.size));clear o7 g7 a7)
 obtain⟨A8,c8,rfl,hc8,hm8,r8⟩:=own_rd O7.out ((BX.out.append HS.out.1).append (RB.out _ B4.out).2.1)
 have R8:=Kept.mk r8
 have HL:Kept (6+m < 536870912):=⟨by have:=HM.out;omega⟩
 have E:Kept (x :: y :: (sq++ans)=([x,y]++sq)++ans):=⟨by simp⟩
 clear O7 O4 B4 r8
 refine(rmac_any A A8 n c (6+m) c8 stamp (([x,y]++sq)++ans) w7 (RA.out _ B7.out) R8.out HM.out.1 HL.out).mono ?_
 rintro e w8 ⟨M,cap,rfl,h1,h2,h3,r,bb⟩
 have R:=Kept.mk r
 have B9:=Kept.mk (B7.out.trans (bb.mono B7.out.size))
 have HW:Kept (w.heap.size≤M):=⟨by have:=B7.out.size;omega⟩
 clear r bb B7 R8 h1
 go_wp2
 go_ret
 rw[E.out]
 exact⟨M,cap,rfl,HW.out,h2,h3,R.out,B9.out⟩
end
section
variable {A : Option Addr} {n c : Nat} {w : World}
set_option maxRecDepth 100000 in
set_option maxHeartbeats 1000000 in
theorem csplit_any {b:List Int}(hr:Rd w A n b) (hc:n≤c) (hn:n≤1000000):Calls Tryz.prog 8 #[.slice A n c] w (SplitPost b w):=by
 have HL:=Kept.mk hr.1;have HB:=Kept.mk hr.2.1
 by_cases h:n < 32
 ·have h':(n:Int) - 32 < 0:=by omega
  have P:Kept (splitV b=(([],[]),2)):=⟨by unfold splitV;rw[if_pos (by have:=HL.out;omega)]⟩
  clear hr
  go_enter Tryz.func8,Tryz.ntmps8
  go_wp2
  (try simp only[Exit.inBlock,Exit.then])
  refine bodyPost_ret (results_tmp3 rfl _ _) rfl ?_
  unfold SplitPost
  rw[P.out]
  exact⟨none,0,0,none,0,0,rfl,Rd.nil_,Rd.nil_,Nat.le_refl _,by omega,Nat.le_refl _,by omega,Below.refl _ _⟩
 ·have P:Kept (splitV b=((b.take (n - 32),b.drop (n - 32)),0)):=⟨by unfold splitV;rw[if_neg (by have:=HL.out;omega),HL.out]⟩
  obtain⟨q,hq⟩:∃ q:Int,(n:Int) - 32=q:=⟨_,rfl⟩
  obtain⟨A1,hs1,r1,-⟩:=slice_h hr hc (n - 32) (by omega) q (by omega)
  obtain⟨A2,hs2,r2,-⟩:=slice_l hr hc (n - 32) (by omega) q (by omega)
  have h':¬ q < 0:=by omega
  have R1:Kept (∀ w',Below w.heap.size w w'→Rd w' A1 (n - 32) (b.take (n - 32))):=⟨fun w' bb=>r1.below bb⟩
  have R2:Kept (∀ w',Below w.heap.size w w'→Rd w' A2 (n - (n - 32)) (b.drop (n - 32))):=⟨fun w' bb=>r2.below bb⟩
  have BT:Kept (Bytes (b.take (n - 32))∧Bytes (b.drop (n - 32))):=⟨HB.out.take _,HB.out.drop _⟩
  have HN:Kept (n≤1000000):=⟨hn⟩
  clear hr r1 r2
  go_enter Tryz.func8,Tryz.ntmps8
  go_upto_region 4 with(fail)
  clear h'
  refine wp_region_noPanic ?_
  refine wp_region_held_drew (S:=fun w':World=>True) (by kernel_rfl) trivial (fun _=>?_)
  have B:Kept (Below w.heap.size w w.drew):=⟨(Below.refl _ _).drew⟩
  generalize w.drew=w1 at *
  refine tk 0 (by assumption) ?_
  simp only[Act.put,zA,zB,zC]
  refine tk 1 (by assumption) ?_
  simp only[Act.put,zA,zB,zC]
  refine tk 2 (by assumption) ?_
  simp only[Act.put,zA,zB,zC]
  refine tk 4 (by assumption) ?_
  simp only[Act.put,zA,zB,zC]
  refine tk 5 (by assumption) ?_
  simp only[Act.put,zA,zB,zC]
  refine tk 6 (by assumption) ?_
  simp only[Act.put,zA,zB,zC]
  clear hs1 hs2
  refine ld 3 (fun K hK=>?_)
  go_simp
  go_at_call 32
  refine(clone_any A1 (n - 32) c (b.take (n - 32)) w1 (R1.out _ B.out) (by have:=HN.out;omega)).mono ?_
  rintro x w2 ⟨v2,rfl,o2,bb⟩
  obtain⟨A3,c3,rfl,hc3,hm3,r3⟩:=own_rd o2 BT.out.1
  have R3:=Kept.mk r3
  have H3:=Kept.mk (And.intro hc3 hm3)
  have B2:=Kept.mk (B.out.trans (bb.mono B.out.size))
  refine hK.out _ _ trivial (fun _=>?_)
  clear hK K bb o2 r3 hc3 hm3 B
  try simp only[Act.put,zA,zB,zC]
  refine ld 7 (fun K hK=>?_)
  go_simp
  go_at_call 32
  refine(clone_any A2 (n - (n - 32)) (c - (n - 32)) (b.drop (n - 32)) w2 (R2.out _ B2.out) (by omega)).mono ?_
  rintro x w4 ⟨v4,rfl,o4,bb⟩
  obtain⟨A5,c5,rfl,hc5,hm5,r5⟩:=own_rd o4 BT.out.2
  have R5:=Kept.mk r5
  have H5:=Kept.mk (And.intro hc5 hm5)
  have R4:=Kept.mk (R3.out.below bb)
  have B4:=Kept.mk (B2.out.trans (bb.mono B2.out.size))
  refine hK.out _ _ trivial (fun _=>?_)
  clear hK K bb o4 r5 hc5 hm5 B2 R3
  try simp only[Act.put,zA,zB,zC]
  refine tk 8 (by assumption) ?_
  simp only[Act.put,zA,zB,zC]
  refine tk 9 (by assumption) ?_
  simp only[Act.put,zA,zB,zC]
  refine tk 10 (by assumption) ?_
  simp only[Act.put,zA,zB,zC]
  refine wpAnyH_done (by kernel_rfl) ?_ _
  refine NoPanic.normal ?_
  go_wp2
  (try simp only[Exit.inBlock,Exit.then])
  refine bodyPost_ret (results_tmp3 rfl _ _) rfl ?_
  unfold SplitPost
  rw[P.out]
  exact⟨A3,_,c3,A5,_,c5,rfl,R4.out,R5.out,H3.out.1,H3.out.2,H5.out.1,H5.out.2,B4.out⟩
end
end Go.Proofs.YtlkeieoecfkkeaaGreat.Gate
