/-
  Parts laid together: ShaLits ShaRef.
-/
import Derived.Test.YtlkeieoecfkkeaaGreatPart3
import Derived.Test.YtlkeieoecfkkeaaGreatPart7
import Derived.Great.BuildSlice
set_option maxRecDepth 100000
set_option maxHeartbeats 2000000
namespace Go.Proofs.YtlkeieoecfkkeaaGreat
namespace Sha
open Go.RowKit
theorem Ns (x:Int) (k:Nat) (h1:1≤k) (h2:k≤31) (hx:W32 x) (w:World):Calls Tryz.prog 151 #[.int .u32 x,.int .u64 (k:Int)] w fun e w'=>e=.returned (.int .u32 (rotr x k))∧w=w':=by
 obtain⟨hx1,hx2⟩:=hx
 go_enter Tryz.func151,Tryz.ntmps151
 go_wp2
 go_ret
 exact⟨rfl,rfl⟩
def KI:List Int:=(List.range 64).map fun i=>((kW i:Nat):Int)
def HI:List Int:=(List.range 8).map fun i=>((hW i:Nat):Int)
theorem uz:KI.length=64:=by simp[KI]
theorem zM:HI.length=8:=by simp[HI]
theorem Ya (i:Nat) (h:i < 64):at_ KI i=(kW i:Nat):=at_range _ _ _ h
theorem Df (w:World):Calls Tryz.prog 116 #[] w fun e w'=>e=.returned (.agg (arr .u32 HI))∧Below w.heap.size w w':=by
 obtain⟨N,hN⟩:∃ N,w.heap.size=N:=⟨_,rfl⟩
 go_enter Tryz.func116,Tryz.ntmps116
 go_upto_region 1 with(fail)
 apply wp_region_lit
 refine wpList_buildFlatArr rfl 87 77 8 _ rfl .u32 HI Tryz.underlying87 (by kernel_rfl) (by kernel_rfl) (by kernel_rfl) ?_
 refine wpList_store_row rfl 87 (.tmp 0) (.tmp 1) rfl N (arr .u32 HI) (by rw[← hN];rfl) rfl 87 _ (Blk.new_at _ _ _ N hN.symm) (by rw[au,zM];kernel_rfl) (by rw[au,zM];rfl) (all_oneCell_toArray (ay _ _)) ?_
 have h3:=(Blk.new_at w 87 (List.replicate 8 (Value.int .u32 0)).toArray N hN.symm).row (arr .u32 HI)
 have b3:Below N w ((w.alloc (.cells (List.replicate 8 (Value.int .u32 0)).toArray 87)).setRow N (arr .u32 HI)):=below_setRow ((Below.refl _ _).alloc (by omega) _) (Nat.le_refl _) _
 change wpList _ _ _ _ _ ((w.alloc (.cells (List.replicate 8 (Value.int .u32 0)).toArray 87)).setRow N (arr .u32 HI))
 generalize (w.alloc (.cells (List.replicate 8 (Value.int .u32 0)).toArray 87)).setRow N (arr .u32 HI)=w2 at *
 have H3:=ae.mk h3
 have B3:=ae.mk b3
 clear h3 b3
 go_wp2
 refine bodyPost_ret (v:=.agg (arr .u32 HI)) (results_cell_row rfl _ _ N 87 _ (0,0) _ rfl H3.out Tryz.underlying87 rfl (by rw[au,zM];kernel_rfl)) rfl ⟨rfl,by rw[hN];exact B3.out⟩
theorem Ik (w:World):Calls Tryz.prog 115 #[] w fun e w'=>e=.returned (.agg (arr .u32 KI))∧Below w.heap.size w w':=by
 obtain⟨N,hN⟩:∃ N,w.heap.size=N:=⟨_,rfl⟩
 go_enter Tryz.func115,Tryz.ntmps115
 go_upto_region 1 with(fail)
 apply wp_region_lit
 refine wpList_buildFlatArr rfl 86 77 64 _ rfl .u32 KI Tryz.underlying86 (by kernel_rfl) (by kernel_rfl) (by kernel_rfl) ?_
 refine wpList_store_row rfl 86 (.tmp 0) (.tmp 1) rfl N (arr .u32 KI) (by rw[← hN];rfl) rfl 86 _ (Blk.new_at _ _ _ N hN.symm) (by rw[au,uz];kernel_rfl) (by rw[au,uz];rfl) (all_oneCell_toArray (ay _ _)) ?_
 have h3:=(Blk.new_at w 86 (List.replicate 64 (Value.int .u32 0)).toArray N hN.symm).row (arr .u32 KI)
 have b3:Below N w ((w.alloc (.cells (List.replicate 64 (Value.int .u32 0)).toArray 86)).setRow N (arr .u32 KI)):=below_setRow ((Below.refl _ _).alloc (by omega) _) (Nat.le_refl _) _
 change wpList _ _ _ _ _ ((w.alloc (.cells (List.replicate 64 (Value.int .u32 0)).toArray 86)).setRow N (arr .u32 KI))
 generalize (w.alloc (.cells (List.replicate 64 (Value.int .u32 0)).toArray 86)).setRow N (arr .u32 KI)=w2 at *
 have H3:=ae.mk h3
 have B3:=ae.mk b3
 clear h3 b3
 go_wp2
 refine bodyPost_ret (v:=.agg (arr .u32 KI)) (results_cell_row rfl _ _ N 86 _ (0,0) _ rfl H3.out Tryz.underlying86 rfl (by rw[au,uz];kernel_rfl)) rfl ⟨rfl,by rw[hN];exact B3.out⟩
theorem Vg (y b x d:Int):IntKind.u32.wrap (IntKind.u32.wrap (IntKind.u32.wrap (d+bits .xor .u32 (bits .xor .u32 (rotr x 7) (rotr x 18)) (x / 8))+b)+bits .xor .u32 (bits .xor .u32 (rotr y 17) (rotr y 19)) (y / 1024))=nxw y b x d:=by
 unfold nxw near far
 simp only[IntKind.wrap_u32]
 omega
theorem rt (k:Nat) (x:Int) (hx:W32 x) (w:World) (h1:1≤k) (h2:k≤31):Calls Tryz.prog 151 #[.int .u32 x,.int .u64 (k:Int)] w fun e w'=>e=.returned (.int .u32 (rotr x k))∧w'=w:=iL (Ns x k h1 h2 hx w)
theorem rt7 (x:Int) (hx:W32 x) (w:World):Calls Tryz.prog 151 #[.int .u32 x,.int .u64 7] w fun e w'=>e=.returned (.int .u32 (rotr x 7))∧w'=w:=rt 7 x hx w (by omega) (by omega)
theorem rt18 (x:Int) (hx:W32 x) (w:World):Calls Tryz.prog 151 #[.int .u32 x,.int .u64 18] w fun e w'=>e=.returned (.int .u32 (rotr x 18))∧w'=w:=rt 18 x hx w (by omega) (by omega)
theorem rt17 (x:Int) (hx:W32 x) (w:World):Calls Tryz.prog 151 #[.int .u32 x,.int .u64 17] w fun e w'=>e=.returned (.int .u32 (rotr x 17))∧w'=w:=rt 17 x hx w (by omega) (by omega)
theorem rt19 (x:Int) (hx:W32 x) (w:World):Calls Tryz.prog 151 #[.int .u32 x,.int .u64 19] w fun e w'=>e=.returned (.int .u32 (rotr x 19))∧w'=w:=rt 19 x hx w (by omega) (by omega)
theorem rt6 (x:Int) (hx:W32 x) (w:World):Calls Tryz.prog 151 #[.int .u32 x,.int .u64 6] w fun e w'=>e=.returned (.int .u32 (rotr x 6))∧w'=w:=rt 6 x hx w (by omega) (by omega)
theorem rt11 (x:Int) (hx:W32 x) (w:World):Calls Tryz.prog 151 #[.int .u32 x,.int .u64 11] w fun e w'=>e=.returned (.int .u32 (rotr x 11))∧w'=w:=rt 11 x hx w (by omega) (by omega)
theorem rt25 (x:Int) (hx:W32 x) (w:World):Calls Tryz.prog 151 #[.int .u32 x,.int .u64 25] w fun e w'=>e=.returned (.int .u32 (rotr x 25))∧w'=w:=rt 25 x hx w (by omega) (by omega)
theorem rt2 (x:Int) (hx:W32 x) (w:World):Calls Tryz.prog 151 #[.int .u32 x,.int .u64 2] w fun e w'=>e=.returned (.int .u32 (rotr x 2))∧w'=w:=rt 2 x hx w (by omega) (by omega)
theorem rt13 (x:Int) (hx:W32 x) (w:World):Calls Tryz.prog 151 #[.int .u32 x,.int .u64 13] w fun e w'=>e=.returned (.int .u32 (rotr x 13))∧w'=w:=rt 13 x hx w (by omega) (by omega)
theorem rt22 (x:Int) (hx:W32 x) (w:World):Calls Tryz.prog 151 #[.int .u32 x,.int .u64 22] w fun e w'=>e=.returned (.int .u32 (rotr x 22))∧w'=w:=rt 22 x hx w (by omega) (by omega)
theorem blk8 {w:World}{M:Nat}{T:TypeId}{l:List Int}{x0 x1 x2 x3 x4 x5 x6 x7 y0 y1 y2 y3 y4 y5 y6 y7:Int}(h:Blk w M T (arr .u32 l)) (hl:l.length=8)
  (e0:x0=y0) (e1:x1=y1) (e2:x2=y2) (e3:x3=y3) (e4:x4=y4) (e5:x5=y5) (e6:x6=y6) (e7:x7=y7) :
  Blk ((((((((w.setCell ⟨M,0,none⟩ (.int .u32 x0)).setCell ⟨M,1,none⟩ (.int .u32 x1)).setCell ⟨M,2,none⟩ (.int .u32 x2)).setCell ⟨M,3,none⟩ (.int .u32 x3)).setCell ⟨M,4,none⟩ (.int .u32 x4)).setCell ⟨M,5,none⟩ (.int .u32 x5)).setCell ⟨M,6,none⟩ (.int .u32 x6)).setCell ⟨M,7,none⟩ (.int .u32 x7)) M T (arr .u32 [y0,y1,y2,y3,y4,y5,y6,y7]):=by
 subst e0 e1 e2 e3 e4 e5 e6 e7
 have k:=((((((((h.set_ 0 (.int .u32 x0)).set_ 1 (.int .u32 x1)).set_ 2 (.int .u32 x2)).set_ 3 (.int .u32 x3)).set_ 4 (.int .u32 x4)).set_ 5 (.int .u32 x5)).set_ 6 (.int .u32 x6)).set_ 7 (.int .u32 x7))
 simp only[bi] at k
 match l,hl with
 | [_,_,_,_,_,_,_,_],_=>exact k
theorem Xo {w0 w:World}{M B:Nat}(hB:B≤M) (v0 v1 v2 v3 v4 v5 v6 v7:Value) (h:Below B w0 w) :
  Below B w0 ((((((((w.setCell ⟨M,0,none⟩ v0).setCell ⟨M,1,none⟩ v1).setCell ⟨M,2,none⟩ v2).setCell ⟨M,3,none⟩ v3).setCell ⟨M,4,none⟩ v4).setCell ⟨M,5,none⟩ v5).setCell ⟨M,6,none⟩ v6).setCell ⟨M,7,none⟩ v7):=by
 have q:∀ (w1:World) (i:Nat) (v:Value),Below B w0 w1→Below B w0 (w1.setCell ⟨M,i,none⟩ v):=fun w1 i v hq=>hq.setCell hB v
 exact q _ _ _ (q _ _ _ (q _ _ _ (q _ _ _ (q _ _ _ (q _ _ _ (q _ _ _ (q _ _ _ h)))))))
theorem Nu (hb kb bb bo cap:Nat) (s:S8) (hs:s.ok) (b:List Int) (w:World) (hby:Bytes b) (hne:hb≠kb)
  (hh:Blk w hb 87 (arr .u32 s.toL)) (hk:Blk w kb 86 (arr .u32 KI)) (hc:∀ i,i < 64→w.cell? ⟨bb,bo+i,none⟩=some (.int .u8 (at_ b i))) :
  Calls Tryz.prog 117 #[.slice (some ⟨hb,0,none⟩) 8 8,.slice (some ⟨kb,0,none⟩) 64 64,.slice (some ⟨bb,bo,none⟩) 64 cap] w
   fun e w'=>e=.returned (.tuple #[])∧Blk w' hb 87 (arr .u32 (mixed s b).toL)∧Bar [hb] w w':=by
 obtain⟨N,hN⟩:∃ N,w.heap.size=N:=⟨_,rfl⟩
 have hbb:bb < N:=by have h:=World.block_lt_of_cell? _ _ (hc 0 (by omega));rw[hN] at h;exact h
 have hhb:hb < N:=by rw[← hN];exact hh.lt
 have hkb:kb < N:=by rw[← hN];exact hk.lt
 have Hc:=ae.mk hc
 have Hb:=ae.mk hby
 have Hh:=ae.mk hh
 have Hk:=ae.mk hk
 have Hs:=ae.mk hs
 have hne':=ae.mk hne
 clear hc hby hh hk hs hne
 go_enter Tryz.func117,Tryz.ntmps117
 go_wp2
 go_loopw [7] (fun i wr=>∃ k:Nat,k≤16∧i=.int .i64 k∧ae (Blk wr N 86 (arr .u32 (upto (at_ (sched b)) 64 k)))∧Below N w wr) (fun i _=>16 - (Go.RowKit.intOf i).toNat)
 case atStart =>
  refine⟨0,by omega,rfl,⟨?_⟩,(Below.refl _ _).alloc (by omega) _⟩
  rw[zeros];exact Blk.new_at w _ _ N hN.symm
 case round =>
  obtain⟨k,hk,rfl,h2,hbl⟩:=hrel
  by_cases hlt:k < 16
  ·have g0:wr.cell? ⟨bb,bo+4 * k,none⟩=some (.int .u8 (at_ b (4 * k))):=(hbl.cell (p:=⟨bb,bo+4 * k,none⟩) hbb).trans (Hc.out (4 * k) (by omega))
   have g1:wr.cell? ⟨bb,bo+(4 * k+1),none⟩=some (.int .u8 (at_ b (4 * k+1))):=(hbl.cell (p:=⟨bb,bo+(4 * k+1),none⟩) hbb).trans (Hc.out (4 * k+1) (by omega))
   have g2:wr.cell? ⟨bb,bo+(4 * k+2),none⟩=some (.int .u8 (at_ b (4 * k+2))):=(hbl.cell (p:=⟨bb,bo+(4 * k+2),none⟩) hbb).trans (Hc.out (4 * k+2) (by omega))
   have g3:wr.cell? ⟨bb,bo+(4 * k+3),none⟩=some (.int .u8 (at_ b (4 * k+3))):=(hbl.cell (p:=⟨bb,bo+(4 * k+3),none⟩) hbb).trans (Hc.out (4 * k+3) (by omega))
   have l0:=Hb.out.at_ (4 * k)
   have l1:=Hb.out.at_ (4 * k+1)
   have l2:=Hb.out.at_ (4 * k+2)
   have l3:=Hb.out.at_ (4 * k+3)
   have Hw:=vX b k hlt
   have hc0:=h2.out.at_ k (by rw[upto_len];omega)
   have hz0:=h2.out.frozen k
   unfold yF at Hw
   generalize at_ b (4 * k)=x0 at *
   generalize at_ b (4 * k+1)=x1 at *
   generalize at_ b (4 * k+2)=x2 at *
   generalize at_ b (4 * k+3)=x3 at *
   replace Hw:=ae.mk Hw
   have k64:(k:Int) < 64:=by omega
   have i0:IntKind.i64.wrap (4 * (k:Int))=4 * (k:Int):=by rw[IntKind.wrap_i64];omega
   have j0:4 * (k:Int) < 64:=by omega
   have n0:(0:Int)≤4 * (k:Int):=by omega
   have t0:(4 * (k:Int)).toNat=4 * k:=by omega
   have i1:IntKind.i64.wrap (4 * (k:Int)+1)=4 * (k:Int)+1:=by rw[IntKind.wrap_i64];omega
   have j1:4 * (k:Int)+1 < 64:=by omega
   have n1:(0:Int)≤4 * (k:Int)+1:=by omega
   have t1:(4 * (k:Int)+1).toNat=4 * k+1:=by omega
   have i2:IntKind.i64.wrap (4 * (k:Int)+2)=4 * (k:Int)+2:=by rw[IntKind.wrap_i64];omega
   have j2:4 * (k:Int)+2 < 64:=by omega
   have n2:(0:Int)≤4 * (k:Int)+2:=by omega
   have t2:(4 * (k:Int)+2).toNat=4 * k+2:=by omega
   have i3:IntKind.i64.wrap (4 * (k:Int)+3)=4 * (k:Int)+3:=by rw[IntKind.wrap_i64];omega
   have j3:4 * (k:Int)+3 < 64:=by omega
   have n3:(0:Int)≤4 * (k:Int)+3:=by omega
   have t3:(4 * (k:Int)+3).toNat=4 * k+3:=by omega
   have w0:IntKind.u32.wrap x0=x0:=by rw[IntKind.wrap_u32];omega
   have w1:IntKind.u32.wrap x1=x1:=by rw[IntKind.wrap_u32];omega
   have w2:IntKind.u32.wrap x2=x2:=by rw[IntKind.wrap_u32];omega
   have w3:IntKind.u32.wrap x3=x3:=by rw[IntKind.wrap_u32];omega
   have v0:IntKind.u32.wrap (x0 * 16777216)=x0 * 16777216:=by rw[IntKind.wrap_u32];omega
   have v1:IntKind.u32.wrap (x1 * 65536)=x1 * 65536:=by rw[IntKind.wrap_u32];omega
   have v2:IntKind.u32.wrap (x2 * 256)=x2 * 256:=by rw[IntKind.wrap_u32];omega
   go_wp2
   refine wp_region_still_tail 35 (by kernel_rfl) (by kernel_rfl) ?_
   simp only[List.take_succ_cons,List.take_zero,List.drop_succ_cons,List.drop_zero]
   repeat still_step
   refine wpStill_nil ?_
   change wpList _ _ _ _ _ wr.drew
   clear w0 w1 w2 w3 v0 v1 v2 i0 i1 i2 i3 j0 j1 j2 j3 n0 n1 n2 n3 t0 t1 t2 t3 g0 g1 g2 g3
   go_wp2
   go_roundw
   case rel =>
    refine⟨k+1,by omega,by go_num,⟨?_⟩,(hbl.setCell (by simp) _).drew⟩
    have:=h2.out.set_ k (.int .u32 (at_ (sched b) k))
    rw[bi,upto_set,Hw.out] at this
    exact this.drew
   case measure=>simp[Go.RowKit.intOf];omega
  ·have ek:k=16:=by omega
   rw[ek] at h2
   clear ek
   go_wp2
   go_loopw [8] (fun i wr=>∃ k:Nat,16≤k∧k≤64∧i=.int .i64 k∧ae (Blk wr N 86 (arr .u32 (upto (at_ (sched b)) 64 k)))∧Below N w wr) (fun i _=>64 - (Go.RowKit.intOf i).toNat)
   case atStart=>exact⟨16,by omega,by omega,rfl,h2,hbl⟩
   case round =>
    clear h2 hbl hk hlt
    obtain⟨k,hk1,hk,rfl,h2,hbl⟩:=hrel
    by_cases hlt:k < 64
    ·have hc0:=h2.out.at_ k (by rw[upto_len];omega)
     have hz0:=h2.out.frozen k
     have c2:=h2.out.at_ (k - 2) (by rw[upto_len];omega)
     have c7:=h2.out.at_ (k - 7) (by rw[upto_len];omega)
     have c15:=h2.out.at_ (k - 15) (by rw[upto_len];omega)
     have c16:=h2.out.at_ (k - 16) (by rw[upto_len];omega)
     rw[upto_at _ _ _ _ (by omega),if_pos (by omega)] at c2 c7 c15 c16
     have Hw:=vY b k hk1 hlt
     have b2:=fH b (k - 2)
     have b7:=fH b (k - 7)
     have b15:=fH b (k - 15)
     have b16:=fH b (k - 16)
     generalize at_ (sched b) (k - 2)=y at *
     generalize at_ (sched b) (k - 7)=y7 at *
     generalize at_ (sched b) (k - 15)=x at *
     generalize at_ (sched b) (k - 16)=x16 at *
     replace Hw:=ae.mk Hw
     have i2:IntKind.i64.wrap ((k:Int) - 2)=((k - 2:Nat):Int):=by rw[IntKind.wrap_i64];omega
     have i7:IntKind.i64.wrap ((k:Int) - 7)=((k - 7:Nat):Int):=by rw[IntKind.wrap_i64];omega
     have i15:IntKind.i64.wrap ((k:Int) - 15)=((k - 15:Nat):Int):=by rw[IntKind.wrap_i64];omega
     have i16:IntKind.i64.wrap ((k:Int) - 16)=((k - 16:Nat):Int):=by rw[IntKind.wrap_i64];omega
     have j2:((k - 2:Nat):Int) < 64:=by omega
     have j7:((k - 7:Nat):Int) < 64:=by omega
     have j15:((k - 15:Nat):Int) < 64:=by omega
     have j16:((k - 16:Nat):Int) < 64:=by omega
     have k64:(k:Int) < 64:=by omega
     go_wp2
     go_quiet (fail)
     replace hc0:(wr.drewN nq).cell? ⟨N,k,none⟩=_:=hc0
     replace hz0:(wr.drewN nq).frozen? ⟨N,k,none⟩=_:=hz0
     replace c7:(wr.drewN nq).cell? ⟨N,k - 7,none⟩=_:=c7
     replace c16:(wr.drewN nq).cell? ⟨N,k - 16,none⟩=_:=c16
     replace h2:ae (Blk (wr.drewN nq) N 86 (arr .u32 (upto (at_ (sched b)) 64 k))):=⟨h2.out⟩
     replace hbl:Below N w (wr.drewN nq):=below_drewN hbl _
     clear c2 c15
     generalize wr.drewN nq=wq at *
     obtain⟨b2l,b2h⟩:=id b2
     obtain⟨b15l,b15h⟩:=id b15
     have B2:=ae.mk b2
     have B15:=ae.mk b15
     clear b2 b15
     go_wp2
     refine wp_region_still_tail 29 (by kernel_rfl) (by kernel_rfl) ?_
     simp only[List.take_succ_cons,List.take_zero,List.drop_succ_cons,List.drop_zero]
     repeat still_step
     still_call (rt7 _ B15.out _)
     repeat still_step
     still_call (rt18 _ B15.out _)
     repeat still_step
     still_call (rt17 _ B2.out _)
     repeat still_step
     still_call (rt19 _ B2.out _)
     repeat still_step
     rw[Vg]
     refine wpStill_nil ?_
     change wpList _ _ _ _ _ wq.drew
     clear i2 i7 i15 i16 c7 c16
     go_wp2
     go_roundw
     case rel =>
      refine⟨k+1,by omega,by omega,by go_num,⟨?_⟩,(hbl.setCell (by simp) _).drew⟩
      have:=h2.out.set_ k (.int .u32 (at_ (sched b) k))
      rw[bi,upto_set,Hw.out] at this
      exact this.drew
     case measure=>simp[Go.RowKit.intOf];omega
    ·have ek:k=64:=by omega
     rw[ek,upto_all _ _ (bG b)] at h2
     clear ek
     generalize wr=w1 at *
     obtain⟨M,hM⟩:∃ M,w1.heap.size=M:=⟨_,rfl⟩
     have hMN:N < M:=by rw[← hM];exact h2.out.lt
     have kz:Blk (w1.alloc (.cells #[.int .u32 0,.int .u32 0,.int .u32 0,.int .u32 0,.int .u32 0,.int .u32 0,.int .u32 0,.int .u32 0] 87)) M 87 (ints .u32 (List.replicate 8 0)).toArray:=Blk.new_at _ _ _ M hM.symm
     have kh:Blk (w1.alloc (.cells #[.int .u32 0,.int .u32 0,.int .u32 0,.int .u32 0,.int .u32 0,.int .u32 0,.int .u32 0,.int .u32 0] 87)) hb 87 (arr .u32 s.toL):=(Hh.out.below hbl hhb).alloc _
     have ba:Below M w1 (w1.alloc (.cells #[.int .u32 0,.int .u32 0,.int .u32 0,.int .u32 0,.int .u32 0,.int .u32 0,.int .u32 0,.int .u32 0] 87)):=(Below.refl _ _).alloc (by omega) _
     have KZ:=ae.mk kz
     have hsrc:0 < (ints .u32 s.toL).length→(some ⟨M,0,none⟩:Option Addr)=some ⟨M,0,none⟩∧∃ ad,(some ⟨hb,0,none⟩:Option Addr)=some ad∧∀ j v,(ints .u32 s.toL)[j]?=some v→(w1.alloc (.cells #[.int .u32 0,.int .u32 0,.int .u32 0,.int .u32 0,.int .u32 0,.int .u32 0,.int .u32 0,.int .u32 0] 87)).cell? (ad.add j)=some v:=by
      intro _
      refine⟨rfl,_,rfl,fun j v hj=>?_⟩
      have e:(⟨hb,0,none⟩:Addr).add j=⟨hb,j,none⟩:=by cases j<;>simp[Addr.add]
      rw[e,kh.cell j,arr,List.getElem?_toArray,hj]
     have HSRC:=ae.mk hsrc
     have BA:=ae.mk ba
     have H2:=ae.mk h2.out
     clear kz kh hsrc ba h2
     go_wp2_with ((with_reducible refine sel 100 ?_);refine aC rfl (.tmp 98) (.tmp 99) 225 225 rfl 77 Tryz.underlying225 (by kernel_rfl) _ _ _ _ _ _ rfl rfl M 0 (ints .u32 (List.replicate 8 0)) 87 KZ.out (ints .u32 s.toL) (by rw[ints_len];rfl) HSRC.out (by simp[ints_len,S8.toL]) (ay _ _) ?_;intro w2 HG HB;have HV:=ae.mk HG.out;have B4:=ae.mk (BA.out.trans (HB.below (B:=M) (by simp;omega) (by simp)));clear HG HB)
     have hv0:ae (Blk w2 M 87 (arr .u32 s.toL)):=⟨by
      have:=HV.out
      rw[show splice (ints .u32 (List.replicate 8 0)) 0 (ints .u32 s.toL)=ints .u32 s.toL by simp[splice,ints_len,S8.toL]] at this
      exact this⟩
     clear HV KZ HSRC BA
     go_loopw [12] (fun i w3=>∃ (k:Nat) (a b' c d e f g h:Int),k≤64∧i=.int .i64 k∧ae (rnds s (at_ (sched b)) k=⟨a,b',c,d,e,f,g,h⟩)∧ae (Blk w3 M 87 (arr .u32 (⟨a,b',c,d,e,f,g,h⟩:S8).toL))∧Below M w1 w3) (fun i _=>64 - (Go.RowKit.intOf i).toNat)
     case atStart=>exact⟨0,s.a,s.b,s.c,s.d,s.e,s.f,s.g,s.h,by omega,rfl,⟨rfl⟩,hv0,B4.out⟩
     case round =>
      clear hv0 B4
      obtain⟨k,a',b',c',d',e',f',g',h',hk,rfl,hr,hv,hb4⟩:=hrel
      by_cases hlt:k < 64
      ·obtain⟨r1,r2,r3,r4,r5,r6,r7,r8⟩:(⟨a',b',c',d',e',f',g',h'⟩:S8).ok:=by
        have:=Kt Hs.out (at_ (sched b)) k
        rwa [hr.out] at this
       have v0:wr.cell? ⟨M,0,none⟩=some (.int .u32 a'):=hv.out.at_ 0 (by show 0 < 8;omega)
       have v1:wr.cell? ⟨M,1,none⟩=some (.int .u32 b'):=hv.out.at_ 1 (by show 1 < 8;omega)
       have v2:wr.cell? ⟨M,2,none⟩=some (.int .u32 c'):=hv.out.at_ 2 (by show 2 < 8;omega)
       have v3:wr.cell? ⟨M,3,none⟩=some (.int .u32 d'):=hv.out.at_ 3 (by show 3 < 8;omega)
       have v4:wr.cell? ⟨M,4,none⟩=some (.int .u32 e'):=hv.out.at_ 4 (by show 4 < 8;omega)
       have v5:wr.cell? ⟨M,5,none⟩=some (.int .u32 f'):=hv.out.at_ 5 (by show 5 < 8;omega)
       have v6:wr.cell? ⟨M,6,none⟩=some (.int .u32 g'):=hv.out.at_ 6 (by show 6 < 8;omega)
       have v7:wr.cell? ⟨M,7,none⟩=some (.int .u32 h'):=hv.out.at_ 7 (by show 7 < 8;omega)
       have ck:wr.cell? ⟨kb,k,none⟩=some (.int .u32 (kW k:Nat)):=by
        rw[← Ya k hlt]
        exact((Hk.out.below hbl hkb).below hb4 (by omega)).at_ k (by rw[uz];exact hlt)
       have cw:wr.cell? ⟨N,k,none⟩=some (.int .u32 (at_ (sched b) k)):=(H2.out.below hb4 (by omega)).at_ k (by rw[bG];exact hlt)
       have k64:(k:Int) < 64:=by omega
       have bW:=fH b k
       have hrx:=hr.out
       obtain⟨xw,hxw⟩:∃ x,at_ (sched b) k=x:=⟨_,rfl⟩
       rw[hxw] at cw bW
       have Hxw:=ae.mk hxw
       clear hxw hrx
       have R1:=ae.mk r1
       have R5:=ae.mk r5
       obtain⟨p1,q1⟩:=r1;obtain⟨p2,q2⟩:=r2;obtain⟨p3,q3⟩:=r3;obtain⟨p4,q4⟩:=r4
       obtain⟨p5,q5⟩:=r5;obtain⟨p6,q6⟩:=r6;obtain⟨p7,q7⟩:=r7;obtain⟨p8,q8⟩:=r8
       go_wp2
       go_quiet (fail)
       replace v0:(wr.drewN nq).cell? ⟨M,0,none⟩=_:=v0
       replace v1:(wr.drewN nq).cell? ⟨M,1,none⟩=_:=v1
       replace v2:(wr.drewN nq).cell? ⟨M,2,none⟩=_:=v2
       replace v3:(wr.drewN nq).cell? ⟨M,3,none⟩=_:=v3
       replace v4:(wr.drewN nq).cell? ⟨M,4,none⟩=_:=v4
       replace v5:(wr.drewN nq).cell? ⟨M,5,none⟩=_:=v5
       replace v6:(wr.drewN nq).cell? ⟨M,6,none⟩=_:=v6
       replace v7:(wr.drewN nq).cell? ⟨M,7,none⟩=_:=v7
       replace ck:(wr.drewN nq).cell? ⟨kb,k,none⟩=_:=ck
       replace cw:(wr.drewN nq).cell? ⟨N,k,none⟩=_:=cw
       replace hv:ae (Blk (wr.drewN nq) M 87 (arr .u32 (⟨a',b',c',d',e',f',g',h'⟩:S8).toL)):=⟨hv.out⟩
       replace hb4:Below M w1 (wr.drewN nq):=below_drewN hb4 _
       generalize wr.drewN nq=wq at *
       go_wp2
       go_quiet ((first|(go_at_call 151;with_reducible exact Calls.quiet_of_same (rt6 _ R5.out _))|(go_at_call 151;with_reducible exact Calls.quiet_of_same (rt11 _ R5.out _))|(go_at_call 151;with_reducible exact Calls.quiet_of_same (rt25 _ R5.out _))))
       replace v0:(wq.drewN nq).cell? ⟨M,0,none⟩=_:=v0
       replace v1:(wq.drewN nq).cell? ⟨M,1,none⟩=_:=v1
       replace v2:(wq.drewN nq).cell? ⟨M,2,none⟩=_:=v2
       replace v3:(wq.drewN nq).cell? ⟨M,3,none⟩=_:=v3
       replace v4:(wq.drewN nq).cell? ⟨M,4,none⟩=_:=v4
       replace v5:(wq.drewN nq).cell? ⟨M,5,none⟩=_:=v5
       replace v6:(wq.drewN nq).cell? ⟨M,6,none⟩=_:=v6
       replace v7:(wq.drewN nq).cell? ⟨M,7,none⟩=_:=v7
       replace hv:ae (Blk (wq.drewN nq) M 87 (arr .u32 (⟨a',b',c',d',e',f',g',h'⟩:S8).toL)):=⟨hv.out⟩
       replace hb4:Below M w1 (wq.drewN nq):=below_drewN hb4 _
       generalize wq.drewN nq=wp at *
       clear ck cw
       go_wp2
       go_quiet ((first|(go_at_call 151;with_reducible exact Calls.quiet_of_same (rt2 _ R1.out _))|(go_at_call 151;with_reducible exact Calls.quiet_of_same (rt13 _ R1.out _))|(go_at_call 151;with_reducible exact Calls.quiet_of_same (rt22 _ R1.out _))))
       replace v0:(wp.drewN nq).cell? ⟨M,0,none⟩=_:=v0
       replace v1:(wp.drewN nq).cell? ⟨M,1,none⟩=_:=v1
       replace v2:(wp.drewN nq).cell? ⟨M,2,none⟩=_:=v2
       replace v3:(wp.drewN nq).cell? ⟨M,3,none⟩=_:=v3
       replace v4:(wp.drewN nq).cell? ⟨M,4,none⟩=_:=v4
       replace v5:(wp.drewN nq).cell? ⟨M,5,none⟩=_:=v5
       replace v6:(wp.drewN nq).cell? ⟨M,6,none⟩=_:=v6
       replace v7:(wp.drewN nq).cell? ⟨M,7,none⟩=_:=v7
       replace hv:ae (Blk (wp.drewN nq) M 87 (arr .u32 (⟨a',b',c',d',e',f',g',h'⟩:S8).toL)):=⟨hv.out⟩
       replace hb4:Below M w1 (wp.drewN nq):=below_drewN hb4 _
       generalize wp.drewN nq=wo at *
       have f0:=hv.out.frozen 0
       have f1:=hv.out.frozen 1
       have f2:=hv.out.frozen 2
       have f3:=hv.out.frozen 3
       have f4:=hv.out.frozen 4
       have f5:=hv.out.frozen 5
       have f6:=hv.out.frozen 6
       have f7:=hv.out.frozen 7
       go_wp2
       go_roundw
       case rel =>
        refine⟨k+1,_,_,_,_,_,_,_,_,by omega,by go_num,⟨yI hr.out rfl rfl⟩,⟨?_⟩,Xo (Nat.le_refl _) _ _ _ _ _ _ _ _ hb4⟩
        refine blk8 hv.out rfl ?_ rfl rfl rfl ?_ rfl rfl rfl
        ·rw[Hxw.out];unfold ch maj Kq lg;simp only[];omega
        ·rw[Hxw.out];unfold ch Kq lg;simp only[];omega
       case measure=>simp[Go.RowKit.intOf];omega
      ·have ek:k=64:=by omega
       rw[ek] at hr
       clear ek
       obtain⟨V,hV⟩:∃ V:S8,V=⟨a',b',c',d',e',f',g',h'⟩:=⟨_,rfl⟩
       rw[← hV] at hr hv
       have kh:Blk wr hb 87 (arr .u32 (rZ s.toL V.toL 0)):=by
        rw[Ku _ _ rfl]
        exact(Hh.out.below hbl hhb).below hb4 (by omega)
       have bh:Bar [hb] w wr:=barOf (hN▸hbl.trans (hb4.mono (by omega))) [hb]
       have KH:=ae.mk kh
       have BH:=ae.mk bh
       clear hV kh bh hb4 hbl
       go_wp2
       go_loopw [17] (fun i w3=>∃ k:Nat,k≤8∧i=.int .i64 k∧ae (Blk w3 hb 87 (arr .u32 (rZ s.toL V.toL k)))∧ae (Blk w3 M 87 (arr .u32 V.toL))∧Bar [hb] w w3) (fun i _=>8 - (Go.RowKit.intOf i).toNat)
       case atStart=>exact⟨0,by omega,rfl,KH,hv,BH.out⟩
       case round =>
        clear KH hv BH hk hlt
        obtain⟨k,hk,rfl,h1,hv,b1⟩:=hrel
        by_cases hlt:k < 8
        ·have k8:(k:Int) < 8:=by omega
         have hc0:=h1.out.at_ k (by rw[addTo_len];exact hlt)
         rw[jy _ _ _ _ hlt,if_neg (by omega)] at hc0
         have hz0:=h1.out.frozen k
         have cv:=hv.out.at_ k hlt
         have e:=yH s.toL V.toL k
         generalize at_ s.toL k=x at *
         generalize at_ V.toL k=y at *
         have E:=ae.mk e
         clear e
         go_wp2
         refine wp_region_still_tail 9 (by kernel_rfl) (by kernel_rfl) ?_
         simp only[List.take_succ_cons,List.take_zero,List.drop_succ_cons,List.drop_zero]
         repeat still_step
         rw[IntKind.wrap_u32]
         refine wpStill_nil ?_
         change wpList _ _ _ _ _ wr.drew
         go_wp2
         go_roundw
         case rel =>
          refine⟨k+1,by omega,by go_num,⟨?_⟩,⟨(hv.out.far (by simp;omega) _).drew⟩,(b1.setCell (by simp) _).drew⟩
          have:=h1.out.set_ k (.int .u32 ((x+y) % 4294967296))
          rw[bi,E.out] at this
          exact this.drew
         case measure=>simp[Go.RowKit.intOf];omega
        ·have ek:k=8:=by omega
         have h2:=h1.out
         rw[ek,Kv] at h2
         clear ek h1
         have H2':=ae.mk h2
         clear h2
         go_wp2
         go_end0
         exact⟨rfl,by unfold mixed;rw[hr.out];exact H2'.out,b1⟩
end Sha
end Go.Proofs.YtlkeieoecfkkeaaGreat
