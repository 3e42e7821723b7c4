/-
  Parts laid together: ShaTab ShaOnce FramePost ShaBlk ShaRnd FrameFace.
-/
import Derived.Test.YtlkeieoecfkkeaaGreatPart13
import Derived.Test.YtlkeieoecfkkeaaGreatPart6
import Derived.Deep.QuietTactic
import Derived.BigQuiet
import Derived.StillTailTactics
import Derived.Laws.Rows
import Derived.Deep.Draws
import Derived.Below
import Derived.Laws.OwnMore
import Derived.Defers
import Derived.Laws.LoneSync
import Derived.RegionTactic
import Derived.RegionCalls
import Derived.Tactics
import Derived.Tactics2
import Derived.Laws.Pointers
import Derived.ChangeAlike
import Derived.Laws.NewBlocks
import Derived.Test.YtlkeieoecfkkeaaGreatPart3
import Derived.Deep.MidRow
import Derived.Deep.Cut
import Derived.Laws.CopyOwn
set_option maxRecDepth 100000
set_option maxHeartbeats 1600000
namespace Go.Proofs.YtlkeieoecfkkeaaGreat
namespace Sha
open Go.RowKit
def xU (L:Nat→Nat) (n k:Nat):List Value:=(List.range n).map fun i=>.int .u32 ((if i < k then L i else 0:Nat):Int)
theorem partK_len (L:Nat→Nat) (n k:Nat):(xU L n k).length=n:=by simp[xU]
theorem kM (L:Nat→Nat) (n k i:Nat) (hi:i < n):(xU L n k)[i]?=some (.int .u32 ((if i < k then L i else 0:Nat):Int)):=by simp[xU,hi]
theorem xW (L:Nat→Nat) (n k:Nat):(xU L n k).set k (.int .u32 (L k:Nat))=xU L n (k+1):=by
 apply List.ext_getElem?
 intro i
 rw[List.getElem?_set]
 by_cases hi:i < n
 ·rw[kM _ _ _ _ hi]
  by_cases h:k=i
  ·subst h;rw[kM _ _ _ _ hi,if_pos (by omega),if_pos (by rw[partK_len];exact hi),if_pos (by omega)]
  ·rw[if_neg h,kM _ _ _ _ hi]
   by_cases h2:i < k
   ·rw[if_pos h2,if_pos (by omega)]
   ·rw[if_neg h2,if_neg (by omega)]
 ·rw[List.getElem?_eq_none (by rw[partK_len];omega),List.getElem?_eq_none (by rw[partK_len];omega)]
  simp[partK_len]
  omega
def tbl (x y z:Value) (a b:Nat):Array Value:=([x,y,z]++xU kW 64 a++xU hW 8 b).toArray
theorem IY (x y z:Value) (a b:Nat):(tbl x y z a b)[0]?=some x:=by simp[tbl]
theorem TN (x y z:Value) (a b:Nat):(tbl x y z a b)[1]?=some y:=by simp[tbl]
theorem XC (x y z:Value) (a b:Nat):(tbl x y z a b)[2]?=some z:=by simp[tbl]
theorem oL (x y z:Value) (a b i:Nat) (hi:i < 64):(tbl x y z a b)[3+i]?=some (.int .u32 ((if i < a then kW i else 0:Nat):Int)):=by
 unfold tbl
 rw[List.getElem?_toArray,List.append_assoc,List.getElem?_append_right (by simp),List.getElem?_append_left (by simp[partK_len];omega)]
 simpa using kM kW 64 a i hi
theorem bQ (x y z:Value) (a b i:Nat) (hi:i < 8):(tbl x y z a b)[67+i]?=some (.int .u32 ((if i < b then hW i else 0:Nat):Int)):=by
 unfold tbl
 rw[List.getElem?_toArray,List.getElem?_append_right (by simp[partK_len])]
 simpa [partK_len,show 67+i - (3+64)=i by omega] using kM hW 8 b i hi
theorem OQ (x y z u:Value) (a b:Nat):(tbl x y z a b).setIfInBounds 0 u=tbl u y z a b:=by simp[tbl]
theorem DD (x y z u:Value) (a b:Nat):(tbl x y z a b).setIfInBounds 1 u=tbl x u z a b:=by simp[tbl]
theorem DF (x y z:Value) (a b:Nat) (ha:a < 64):(tbl x y z a b).setIfInBounds (3+a) (.int .u32 (kW a:Nat))=tbl x y z (a+1) b:=by
 unfold tbl
 rw[List.setIfInBounds_toArray,List.append_assoc,List.set_append_right _ _ (by simp),List.set_append_left _ _ (by simp[partK_len];omega)]
 simp[xW,Nat.add_sub_cancel_left]
theorem OU (x y z:Value) (a b:Nat):(tbl x y z a b).setIfInBounds (67+b) (.int .u32 (hW b:Nat))=tbl x y z a (b+1):=by
 unfold tbl
 rw[List.setIfInBounds_toArray,List.set_append_right _ _ (by simp[partK_len])]
 simp[xW,partK_len,show 67+b - (3+64)=b by omega]
theorem xX (w:World):Calls Tryz.prog 7 #[] w fun e w'=>e=.returned (.pointer (some ⟨w.heap.size,0,none⟩))∧w'=w.alloc (.cells (tbl (.int .u32 0) (.int .i32 0) (.int .u32 0) 0 0) 89):=by
 go_enter Tryz.func7,Tryz.ntmps7
 go_wp2
 go_ret
 exact⟨rfl,rfl⟩
theorem IZ (p:Nat) (v:Nat) (hp:p < 1000) (hv:frac cuTop (p * 4294967296)=v) (w:World):Calls Tryz.prog 187 #[.int .u64 (IntKind.u64.wrap ((p:Int) * 4294967296)),.func (.func 189) #[] #[]] w fun e w'=>e=.returned (.int .u32 (v:Nat))∧w=w':=by
 have:=TM (p * 4294967296) w
 rw[hv,Int.natCast_mul] at this
 rw[show IntKind.u64.wrap ((p:Int) * 4294967296)=(p:Int) * 4294967296 by rw[IntKind.wrap_u64];omega]
 exact this
theorem I4 (p:Nat) (v:Nat) (hv:frac sqTop p=v) (w:World):Calls Tryz.prog 187 #[.int .u64 (p:Int),.func (.func 188) #[] #[]] w fun e w'=>e=.returned (.int .u32 (v:Nat))∧w=w':=by
 have:=TK p w
 rw[hv] at this
 exact this
theorem FX (t:Nat) (x y z:Value) (w:World) (ht:Blk w t 89 (tbl x y z 0 0)):Calls Tryz.prog 148 #[.pointer (some ⟨t,0,none⟩)] w fun e w'=>e=.returned (.tuple #[])∧Blk w' t 89 (tbl x y z 64 8)∧Bar [t] w w':=by
 go_enter Tryz.func148,Tryz.ntmps148
 go_wp2
 go_loopw [2,4] (fun p i wr=>∃ k:Nat,k≤64∧p=.int .u64 (pW k:Nat)∧i=.int .i64 k∧Hid (Blk wr t 89 (tbl x y z k (min k 8)))∧Bar [t] w wr) (fun _ i _=>64 - (Go.RowKit.intOf i).toNat)
 case atStart=>exact⟨0,by omega,rfl,rfl,ht,Bar.refl _ _⟩
 case round =>
  obtain⟨k,hk,rfl,rfl,hblk,hbar⟩:=hrel
  obtain⟨p,hp⟩:∃ p,pW k=p:=⟨_,rfl⟩
  by_cases hlt:k < 64
  ·obtain⟨q,hq⟩:∃ q,pW (k+1)=q:=⟨_,rfl⟩
   obtain⟨n1,n2,n3,n4,n5⟩:=UK k hlt
   have hK:=K_is k hlt
   rw[hq] at n1 n2 n4 n5
   rw[hp] at n1 n3 n5 hK ⊢
   have cn:=Lib.hid fun w=>next_any p q n3 n1 n2 n4 n5 w
   have cw:=Lib.hid fun w=>IZ p (kW k) (by omega) hK w
   have Hq:=Lib.hid hq
   clear hq hK n4 n5
   by_cases h8:k < 8
   ·have hH:=H_is k h8
    rw[hp] at hH
    have cs:=Lib.hid fun w=>I4 p (hW k) hH w
    clear hH
    have Hp:=Lib.hid hp
    clear hp
    have hz0:=hblk.out.frozen (67+k)
    have hc0:=hblk.out.cell (67+k)
    rw[bQ _ _ _ _ _ _ h8] at hc0
    have hb2:Hid (Blk (wr.setCell ⟨t,67+k,none⟩ (.int .u32 (hW k:Nat))).drew t 89 (tbl x y z k (min (k+1) 8))):=by
     have:=hblk.out.set_ (67+k) (.int .u32 (hW k:Nat))
     rw[show min k 8=k by omega,OU] at this
     rw[show min (k+1) 8=k+1 by omega]
     exact this.drew
    have hbar2:Bar [t] w (wr.setCell ⟨t,67+k,none⟩ (.int .u32 (hW k:Nat))).drew:=(hbar.setCell (by simp) _).drew
    go_wp2
    refine wp_region_still_tail 7 (by kernel_rfl) (by kernel_rfl) ?_
    simp only[List.take_succ_cons,List.take_zero,List.drop_succ_cons,List.drop_zero]
    repeat still_step
    still_call (iL (cs.out _))
    repeat still_step
    refine wpStill_nil ?_
    change wpList _ _ _ _ _ wr.drew
    go_wp2
    clear hz0 hc0
    generalize (wr.setCell ⟨t,67+k,none⟩ (.int .u32 (hW k:Nat))).drew=w2 at *
    have hz0:=hb2.out.frozen (3+k)
    have hc0:=hb2.out.cell (3+k)
    rw[oL _ _ _ _ _ _ hlt] at hc0
    refine wp_region_still_tail 8 (by kernel_rfl) (by kernel_rfl) ?_
    simp only[List.take_succ_cons,List.take_zero,List.drop_succ_cons,List.drop_zero]
    repeat still_step
    still_call (iL (cw.out _))
    repeat still_step
    refine wpStill_nil ?_
    change wpList _ _ _ _ _ w2.drew
    go_wp2_with (go_at_call 190;refine(cn.out _).mono ?_;rintro e w' ⟨rfl,rfl⟩)
    have hb3:Blk (w2.setCell ⟨t,3+k,none⟩ (.int .u32 (kW k:Nat))).drew t 89 (tbl x y z (k+1) (min (k+1) 8)):=by
     have:=hb2.out.set_ (3+k) (.int .u32 (kW k:Nat))
     rw[DF _ _ _ _ _ hlt] at this
     exact this.drew
    have hbar3:Bar [t] w (w2.setCell ⟨t,3+k,none⟩ (.int .u32 (kW k:Nat))).drew:=(hbar2.setCell (by simp) _).drew
    go_roundw
    case rel=>exact⟨k+1,by omega,by rw[Hq.out],by go_num,hb3,hbar3⟩
    case measure=>simp[Go.RowKit.intOf];omega
   ·have hb2:=hblk
    have hbar2:=hbar
    rw[show min k 8=min (k+1) 8 by omega] at hb2
    clear hblk hbar hp
    have hz0:=hb2.out.frozen (3+k)
    have hc0:=hb2.out.cell (3+k)
    rw[oL _ _ _ _ _ _ hlt] at hc0
    go_wp2
    refine wp_region_still_tail 8 (by kernel_rfl) (by kernel_rfl) ?_
    simp only[List.take_succ_cons,List.take_zero,List.drop_succ_cons,List.drop_zero]
    repeat still_step
    still_call (iL (cw.out _))
    repeat still_step
    refine wpStill_nil ?_
    change wpList _ _ _ _ _ wr.drew
    go_wp2_with (go_at_call 190;refine(cn.out _).mono ?_;rintro e w' ⟨rfl,rfl⟩)
    have hb3:Blk (wr.setCell ⟨t,3+k,none⟩ (.int .u32 (kW k:Nat))).drew t 89 (tbl x y z (k+1) (min (k+1) 8)):=by
     have:=hb2.out.set_ (3+k) (.int .u32 (kW k:Nat))
     rw[DF _ _ _ _ _ hlt] at this
     exact this.drew
    have hbar3:Bar [t] w (wr.setCell ⟨t,3+k,none⟩ (.int .u32 (kW k:Nat))).drew:=(hbar2.setCell (by simp) _).drew
    go_roundw
    case rel=>exact⟨k+1,by omega,by rw[Hq.out],by go_num,hb3,hbar3⟩
    case measure=>simp[Go.RowKit.intOf];omega
  ·obtain rfl:k=64:=by omega
   have hb:=hblk.out
   go_wp2
   go_end0
   exact⟨rfl,hb,hbar⟩
theorem disable (w:World):(callFunc 255 #[]).run Tryz.prog w=.ok (.value (.tuple #[])) w:=run_call_mark0 Tryz.func255 (by kernel_rfl) (by kernel_rfl) (by kernel_rfl) .disable (by kernel_rfl) w
theorem enable (w:World):(callFunc 257 #[]).run Tryz.prog w=.ok (.value (.tuple #[])) w:=run_call_mark0 Tryz.func257 (by kernel_rfl) (by kernel_rfl) (by kernel_rfl) .enable (by kernel_rfl) w
theorem acquire (a:Addr) (w:World):(callFunc 258 #[.pointer (some a)]).run Tryz.prog w=.ok (.value (.tuple #[])) w:=run_call_marked Tryz.func258 (by kernel_rfl) (by kernel_rfl) (by kernel_rfl) .acquire (by kernel_rfl) a w
theorem releaseMerge (a:Addr) (w:World):(callFunc 260 #[.pointer (some a)]).run Tryz.prog w=.ok (.value (.tuple #[])) w:=run_call_marked Tryz.func260 (by kernel_rfl) (by kernel_rfl) (by kernel_rfl) .releaseMerge (by kernel_rfl) a w
theorem kN (a:Addr) (d:Int) (w:World) (hc:w.cell? a=some (.int .u32 d)) :
  Calls Tryz.prog 185 #[.pointer (some a)] w fun e w'=>e=.returned (.bool (d != 0))∧w=w':=by
 have hl:=run_call_load (P:=Tryz.prog) Tryz.func215 (by kernel_rfl) (by kernel_rfl) (by kernel_rfl) .u32 (by kernel_rfl) hc
 go_enter Tryz.func185,Tryz.ntmps185
 go_wp2
 go_ret
 exact⟨rfl,rfl⟩
theorem I5 (a:Addr) (w:World) (hc:w.cell? a=some (.int .u32 0)) :
  Calls Tryz.prog 185 #[.pointer (some a)] w fun e w'=>e=.returned (.bool false)∧w=w':=kN a 0 w hc
theorem OV (a:Addr) (w:World) (hc:w.cell? a=some (.int .u32 1)) :
  Calls Tryz.prog 185 #[.pointer (some a)] w fun e w'=>e=.returned (.bool true)∧w=w':=kN a 1 w hc
theorem store_deferred (a:Addr) (x:Value) (u:FrameMode) (w:World) (hc:w.cell? a=some x) (hz:w.frozen? a=false) :
  CallsD Tryz.prog 218 #[.pointer (some a),.bool true] u w fun e u' w'=>u'=u∧(e=.returned (.tuple #[])∧w'=w.drew.setCell a (.int .u32 1)):=by
 have hc':w.drew.cell? a=some x:=by go_simp
 have hz':w.drew.frozen? a=false:=by go_simp
 have hst:=run_call_store (P:=Tryz.prog) Tryz.func240 (by kernel_rfl) (by kernel_rfl) (by kernel_rfl) (by kernel_rfl) (k:=.u32) (y:=1) hc' hz'
 go_enter_d Tryz.func218,Tryz.ntmps218
 go_wp2
 go_region_calls
 all_goals (go_end0;exact⟨rfl,rfl⟩)
theorem iunlock (a:Addr) (w:World) (hc:w.cell? a=some (.int .i32 1)) (hz:w.frozen? a=false) :
  Calls Tryz.prog 239 #[.pointer (some a)] w fun e w'=>e=.returned (.tuple #[])∧w'=w.setCell a (.int .i32 0):=by
 have hd:=disable
 have he:=enable
 have hr:=releaseMerge
 have hadd:=run_call_add (P:=Tryz.prog) Tryz.func261 (by kernel_rfl) (by kernel_rfl) (by kernel_rfl) .i32 (by kernel_rfl) (y:=-1) (s:=0) hc hz (by simp[go_sem];rfl)
 have hcv:=run_convert_to_unsafe (P:=Tryz.prog) (src:=337) (dst:=105) Tryz.underlying337 Tryz.underlying105 (by kernel_rfl) hc
 go_enter Tryz.func239,Tryz.ntmps239
 go_wp2
 go_end0
 exact⟨rfl,rfl⟩
theorem ilock (a:Addr) (w:World) (hc:w.cell? a=some (.int .i32 0)) (hz:w.frozen? a=false) :
  Calls Tryz.prog 238 #[.pointer (some a)] w fun e w'=>e=.returned (.tuple #[])∧w'=w.setCell a (.int .i32 1):=by
 have hd:=disable
 have he:=enable
 have ha:=acquire
 have hcas:=run_call_cas_hit (P:=Tryz.prog) Tryz.func256 (by kernel_rfl) (by kernel_rfl) (by kernel_rfl) .i32 (by kernel_rfl) (y:=1) hc hz
 have hc':(w.setCell a (.int .i32 1)).cell? a=some (.int .i32 1):=World.cell?_setCell_same w a _ hc
 have hcv:=run_convert_to_unsafe (P:=Tryz.prog) (src:=337) (dst:=105) Tryz.underlying337 Tryz.underlying105 (by kernel_rfl) hc'
 go_enter Tryz.func238,Tryz.ntmps238
 go_wp2
 first|go_end0|(simp only[Exit.inBlock,Exit.then];refine bodyPost_ret (results_none rfl _ _ _) rfl ?_)|refine bodyPost_ret (results_none rfl _ _ _) rfl ?_
 exact⟨rfl,rfl⟩
theorem lock (t:Nat) (w:World) (hc:w.cell? ⟨t,1,none⟩=some (.int .i32 0)) (hz:w.frozen? ⟨t,1,none⟩=false) :
  Calls Tryz.prog 216 #[.pointer (some ⟨t,1,none⟩)] w fun e w'=>e=.returned (.tuple #[])∧w'=w.setCell ⟨t,1,none⟩ (.int .i32 1):=by
 have c:=Lib.hid (ilock _ _ hc hz)
 go_enter Tryz.func216,Tryz.ntmps216
 go_wp2_with fail
 refine c.out.mono ?_
 rintro e w' ⟨rfl,rfl⟩
 go_wp2
 go_end0
 exact⟨rfl,rfl⟩
theorem unlock_deferred (t:Nat) (u:FrameMode) (w:World) (hc:w.cell? ⟨t,1,none⟩=some (.int .i32 1)) (hz:w.frozen? ⟨t,1,none⟩=false) :
  CallsD Tryz.prog 217 #[.pointer (some ⟨t,1,none⟩)] u w fun e u' w'=>u'=u∧(e=.returned (.tuple #[])∧w'=w.setCell ⟨t,1,none⟩ (.int .i32 0)):=by
 have c:=Lib.hid (iunlock _ _ hc hz)
 go_enter_d Tryz.func217,Tryz.ntmps217
 go_wp2_with fail
 refine c.out.mono ?_
 rintro e w' ⟨rfl,rfl⟩
 go_wp2
 go_end0
 exact⟨rfl,rfl⟩
def TP (w:World) (t:Nat):Prop:=Blk w t 89 (tbl (.int .u32 0) (.int .i32 0) (.int .u32 0) 0 0)
def Made (w:World) (t:Nat):Prop:=Blk w t 89 (tbl (.int .u32 1) (.int .i32 0) (.int .u32 0) 64 8)
def Tab (w:World) (t:Nat):Prop:=TP w t∨Made w t
theorem slow_any (t:Nat) (w:World) (ht:TP w t) :
  Calls Tryz.prog 186 #[.pointer (some ⟨t,0,none⟩),.func (.func 148) #[.pointer (some ⟨t,0,none⟩)] #[]] w fun e w'=>e=.returned (.tuple #[])∧Made w' t∧Bar [t] w w':=by
 have k1:=ht.set_ 1 (.int .i32 1)
 rw[DD] at k1
 have b1:Bar [t] w (w.setCell ⟨t,1,none⟩ (.int .i32 1)):=(Bar.refl _ _).setCell (by simp) _
 have c1:=Lib.hid (lock t w ((ht.cell 1).trans (TN _ _ _ _ _)) (ht.frozen 1))
 have H:=Lib.hid ht
 clear ht
 go_enter_defers Tryz.func186,Tryz.ntmps186
 go_wp2_with fail
 refine c1.out.mono ?_
 rintro e w' ⟨rfl,rfl⟩
 have c2:=Lib.hid (I5 ⟨t,0,none⟩ (w.setCell ⟨t,1,none⟩ (.int .i32 1)) ((k1.cell 0).trans (IY _ _ _ _ _)))
 have c3:=Lib.hid (FX t _ _ _ _ k1)
 clear c1
 generalize w.setCell ⟨t,1,none⟩ (.int .i32 1)=w1 at *
 have K1:=Lib.hid k1
 clear k1
 go_wp2_with fail
 refine c2.out.mono ?_
 rintro e w' ⟨rfl,rfl⟩
 go_wp2_with fail
 refine c3.out.mono ?_
 rintro e w2 ⟨rfl,k2,b2⟩
 have K2:=Lib.hid k2
 clear k2
 go_wp2
 change Leaves _ _ _ _ _ _ _
 refine leaves_cons (f:=218) (args:=#[.pointer (some ⟨t,0,none⟩),.bool true]) (by simp) (by simp[go_sem]) ?_
 refine(store_deferred ⟨t,0,none⟩ (.int .u32 0) .returning _ ((K2.out.cell 0).trans (IY _ _ _ _ _)) (K2.out.frozen 0)).mono ?_
 rintro e u' w'' ⟨rfl,rfl,rfl⟩
 have k3:=K2.out.drew.set_ 0 (.int .u32 1)
 rw[OQ] at k3
 have b3:=(b2.drew.setCell (p:=⟨t,0,none⟩) (by simp) (.int .u32 1))
 refine leaves_cons (f:=217) (args:=#[.pointer (some ⟨t,1,none⟩)]) (by simp[settle]) (by simp[go_sem]) ?_
 refine(unlock_deferred t _ _ ((k3.cell 1).trans (TN _ _ _ _ _)) (k3.frozen 1)).mono ?_
 rintro e u' w'' ⟨rfl,rfl,rfl⟩
 have k4:=k3.set_ 1 (.int .i32 0)
 rw[DD] at k4
 have b4:=b3.setCell (p:=⟨t,1,none⟩) (by simp) (.int .i32 0)
 have b5:=b1.trans b4 (by simp)
 simp[Leaves,settle,results,Tryz.results186]
 exact⟨k4,b5⟩
theorem do_first (t:Nat) (w:World) (ht:TP w t) :
  Calls Tryz.prog 147 #[.pointer (some ⟨t,0,none⟩),.func (.func 148) #[.pointer (some ⟨t,0,none⟩)] #[]] w fun e w'=>e=.returned (.tuple #[])∧Made w' t∧Bar [t] w w':=by
 have c2:=Lib.hid (I5 ⟨t,0,none⟩ w ((ht.cell 0).trans (IY _ _ _ _ _)))
 have c3:=Lib.hid (slow_any t w ht)
 clear ht
 go_enter Tryz.func147,Tryz.ntmps147
 go_wp2_with fail
 refine c2.out.mono ?_
 rintro e w' ⟨rfl,rfl⟩
 go_wp2_with fail
 refine c3.out.mono ?_
 rintro e w' ⟨rfl,k,b⟩
 go_wp2
 go_end0
 exact⟨rfl,k,b⟩
theorem do_done (t:Nat) (fv:Value) (w:World) (ht:Made w t) :
  Calls Tryz.prog 147 #[.pointer (some ⟨t,0,none⟩),fv] w fun e w'=>e=.returned (.tuple #[])∧w=w':=by
 have c2:=Lib.hid (OV ⟨t,0,none⟩ w ((ht.cell 0).trans (IY _ _ _ _ _)))
 clear ht
 go_enter Tryz.func147,Tryz.ntmps147
 go_wp2_with fail
 refine c2.out.mono ?_
 rintro e w' ⟨rfl,rfl⟩
 go_wp2
 go_end0
 exact⟨rfl,rfl⟩
theorem sQ (t:Nat) (w:World) (ht:Made w t) :
  Calls Tryz.prog 112 #[.pointer (some ⟨t,0,none⟩)] w fun e w'=>e=.returned (.pointer (some ⟨t,0,none⟩))∧w=w':=by
 have hmf:∀ (fn:Fn) (first cap:Array Value) (w:World),(Instr.makeFunc fn first cap).run Tryz.prog w=.ok (.func fn first cap) w:=fun _ _ _ _=>rfl
 have c2:=Lib.hid fun fv=>(do_done t fv w ht)
 clear ht
 go_enter Tryz.func112,Tryz.ntmps112
 go_wp2_with fail
 refine(c2.out _).mono ?_
 rintro e w' ⟨rfl,rfl⟩
 go_wp2
 go_ret
 exact⟨rfl,rfl⟩
theorem OY (t:Nat) (w:World) (ht:Tab w t) :
  Calls Tryz.prog 112 #[.pointer (some ⟨t,0,none⟩)] w fun e w'=>e=.returned (.pointer (some ⟨t,0,none⟩))∧Made w' t∧Bar [t] w w':=by
 rcases ht with ht|ht
 ·have hmf:∀ (fn:Fn) (first cap:Array Value) (w:World),(Instr.makeFunc fn first cap).run Tryz.prog w=.ok (.func fn first cap) w:=fun _ _ _ _=>rfl
  have c2:=Lib.hid (do_first t w ht)
  clear ht
  go_enter Tryz.func112,Tryz.ntmps112
  go_wp2_with fail
  refine c2.out.mono ?_
  rintro e w' ⟨rfl,k,b⟩
  go_wp2
  go_ret
  exact⟨rfl,k,b⟩
 ·exact(sQ t w ht).mono fun _ _ ⟨he,hw⟩=>⟨he,hw▸ht,hw▸Bar.refl _ _⟩
end Sha
namespace Frame
open Go.RowKit Sha Wire
def frv (f:FV) (A:Option Addr) (n c:Nat):Value:=.agg #[.int .i64 f.kind,.int .i64 f.gen,.int .i64 f.seq,.slice A n c]
def jP (t:Nat) (f:FV) (w:World) (x:Ending) (w':World):Prop:=∃ A n c,x=.returned (.tuple #[.slice A n c,.int .i64 (putF f).1])∧n≤c∧c≤maxLen∧Rd w' A n (putF f).2∧(∀ F:List Nat,(∀ k∈F,k < w.heap.size)→Off A n F)∧Tab w' t∧Bar [t] w w'
def GetPost (t:Nat) (g:FV × Int × Int) (w:World) (x:Ending) (w':World):Prop:=∃ A n c,x=.returned (.tuple #[frv g.1 A n c,.int .i64 g.2.1,.int .i64 g.2.2])∧n≤c∧c≤maxLen∧Rd w' A n g.1.body∧(∀ F:List Nat,(∀ k∈F,k < w.heap.size)→Off A n F)∧Tab w' t∧Bar [t] w w'
theorem dQ {w:World}{t:Nat}(h:Tab w t):t < w.heap.size:=by
 rcases h with h|h<;>exact Blk.lt h
theorem sS {w w':World}{t B:Nat}(h:Tab w t) (b:Below B w w') (hB:t < B):Tab w' t:=by
 rcases h with h|h
 ·exact .inl (Blk.below h b hB)
 ·exact .inr (Blk.below h b hB)
theorem ftab_bar {w w':World}{t:Nat}{l:List Nat}(h:Tab w t) (b:Bar l w w') (hl:t∉l):Tab w' t:=by
 rcases h with h|h
 ·exact .inl (Blk.bar h b hl)
 ·exact .inr (Blk.bar h b hl)
end Frame
namespace Sha
open Go.RowKit
theorem VK (x:Int) (hx:W32 x) (w:World):Calls Tryz.prog 191 #[.int .u32 x,.int .i64 (-7)] w fun e w'=>e=.returned (.int .u32 (rotr x 7))∧w=w':=qh x 7 (by omega) (by omega) hx w
theorem TQ (x:Int) (hx:W32 x) (w:World):Calls Tryz.prog 191 #[.int .u32 x,.int .i64 (-17)] w fun e w'=>e=.returned (.int .u32 (rotr x 17))∧w=w':=qh x 17 (by omega) (by omega) hx w
theorem TR (x:Int) (hx:W32 x) (w:World):Calls Tryz.prog 191 #[.int .u32 x,.int .i64 (-18)] w fun e w'=>e=.returned (.int .u32 (rotr x 18))∧w=w':=qh x 18 (by omega) (by omega) hx w
theorem TS (x:Int) (hx:W32 x) (w:World):Calls Tryz.prog 191 #[.int .u32 x,.int .i64 (-19)] w fun e w'=>e=.returned (.int .u32 (rotr x 19))∧w=w':=qh x 19 (by omega) (by omega) hx w
theorem OZ (y b x d:Int):IntKind.u32.wrap (IntKind.u32.wrap (IntKind.u32.wrap (bits .xor .u32 (bits .xor .u32 (rotr y 17) (rotr y 19)) (y / 1024)+b)+bits .xor .u32 (bits .xor .u32 (rotr x 7) (rotr x 18)) (x / 8))+d)=nxw y b x d:=by
 unfold nxw near far
 simp only[IntKind.wrap_u32]
 omega
theorem FY (bb bo cap:Nat) (b:List Int) (w:World) (hbl:b.length=64) (hby:Bytes b) (hcap:64≤cap) (hc:∀ i,i < 64→w.cell? ⟨bb,bo+i,none⟩=some (.int .u8 (at_ b i))) :
  Calls Tryz.prog 149 #[.slice (some ⟨bb,bo,none⟩) 64 cap] w fun e w'=>e=.returned (.agg (arr .u32 (sched b)))∧Below w.heap.size w w':=by
 obtain⟨N,hN⟩:∃ N,w.heap.size=N:=⟨_,rfl⟩
 have hbb:bb < N:=by have h:=World.block_lt_of_cell? _ _ (hc 0 (by omega));rw[hN] at h;exact h
 have Hc:=Lib.hid hc
 have Hl:=Lib.hid hbl
 have Hb:=Lib.hid hby
 clear hc hbl hby
 go_enter Tryz.func149,Tryz.ntmps149
 go_wp2
 go_loopw [11] (fun i wr=>∃ k:Nat,k≤16∧i=.int .i64 k∧Hid (Blk wr N 86 (arr .u32 (upto (at_ (sched b)) 64 0)))∧Hid (Blk wr (N+1) 86 (arr .u32 (upto (at_ (sched b)) 64 k)))∧Below N w wr) (fun i _=>16 - (Go.RowKit.intOf i).toNat)
 case atStart =>
  refine⟨0,by omega,rfl,?_,?_,?_⟩
  ·rw[zeros];exact(Blk.new_at w _ _ N hN.symm).alloc _
  ·rw[zeros];exact Blk.new_at _ _ _ (N+1) (by simp[hN])
  ·exact((Below.refl _ _).alloc (by omega) _).alloc (by simp;omega) _
 case round =>
  obtain⟨k,hk,rfl,h1,h2,hb⟩:=hrel
  by_cases hlt:k < 16
  ·have g0:wr.cell? ⟨bb,bo+4 * k,none⟩=some (.int .u8 (at_ b (4 * k))):=(hb.cell (p:=⟨bb,bo+4 * k,none⟩) hbb).trans (Hc.out (4 * k) (by omega))
   have g1:wr.cell? ⟨bb,bo+4 * k+1,none⟩=some (.int .u8 (at_ b (4 * k+1))):=(hb.cell (p:=⟨bb,bo+(4 * k+1),none⟩) hbb).trans (Hc.out (4 * k+1) (by omega))
   have g2:wr.cell? ⟨bb,bo+4 * k+2,none⟩=some (.int .u8 (at_ b (4 * k+2))):=(hb.cell (p:=⟨bb,bo+(4 * k+2),none⟩) hbb).trans (Hc.out (4 * k+2) (by omega))
   have g3:wr.cell? ⟨bb,bo+4 * k+3,none⟩=some (.int .u8 (at_ b (4 * k+3))):=(hb.cell (p:=⟨bb,bo+(4 * k+3),none⟩) hbb).trans (Hc.out (4 * k+3) (by omega))
   have l0:=Hb.out.at_ (4 * k)
   have l1:=Hb.out.at_ (4 * k+1)
   have l2:=Hb.out.at_ (4 * k+2)
   have l3:=Hb.out.at_ (4 * k+3)
   have Hw:=vX b k hlt
   have hc0:=h2.out.at_ k (by rw[upto_len];omega)
   have hz0:=h2.out.frozen k
   unfold yF at Hw
   generalize at_ b (4 * k)=x0 at *
   generalize at_ b (4 * k+1)=x1 at *
   generalize at_ b (4 * k+2)=x2 at *
   generalize at_ b (4 * k+3)=x3 at *
   replace Hw:=ae.mk Hw
   have hne:¬ cap=4 * k:=by omega
   have k64:(k:Int) < 64:=by omega
   have w0:IntKind.u32.wrap x0=x0:=by rw[IntKind.wrap_u32];omega
   have w1:IntKind.u32.wrap x1=x1:=by rw[IntKind.wrap_u32];omega
   have w2:IntKind.u32.wrap x2=x2:=by rw[IntKind.wrap_u32];omega
   have w3:IntKind.u32.wrap x3=x3:=by rw[IntKind.wrap_u32];omega
   have v0:IntKind.u32.wrap (x0 * 16777216)=x0 * 16777216:=by rw[IntKind.wrap_u32];omega
   have v1:IntKind.u32.wrap (x1 * 65536)=x1 * 65536:=by rw[IntKind.wrap_u32];omega
   have v2:IntKind.u32.wrap (x2 * 256)=x2 * 256:=by rw[IntKind.wrap_u32];omega
   go_wp2
   refine wp_region_still_tail 24 (by kernel_rfl) (by kernel_rfl) ?_
   simp only[List.take_succ_cons,List.take_zero,List.drop_succ_cons,List.drop_zero]
   repeat still_step
   refine wpStill_nil ?_
   change wpList _ _ _ _ _ wr.drew
   clear w0 w1 w2 w3 v0 v1 v2
   go_wp2
   go_roundw
   case rel =>
    refine⟨k+1,by omega,by go_num,(h1.out.far (by simp) _).drew,?_,(hb.setCell (by simp) _).drew⟩
    have:=h2.out.set_ k (.int .u32 (at_ (sched b) k))
    rw[bi,upto_set,Hw.out] at this
    exact this.drew
   case measure=>simp[Go.RowKit.intOf];omega
  ·go_wp2
   have ek:k=16:=by omega
   rw[ek] at h2
   clear ek hk hlt
   go_loopw [6] (fun i wr=>∃ k:Nat,16≤k∧k≤64∧i=.int .i64 k∧Hid (Blk wr N 86 (arr .u32 (upto (at_ (sched b)) 64 0)))∧Hid (Blk wr (N+1) 86 (arr .u32 (upto (at_ (sched b)) 64 k)))∧Below N w wr) (fun i _=>64 - (Go.RowKit.intOf i).toNat)
   case atStart=>exact⟨16,by omega,by omega,rfl,h1,h2,hb⟩
   case round =>
    clear h1 h2 hb
    obtain⟨k,hk1,hk,rfl,h1,h2,hb⟩:=hrel
    by_cases hlt:k < 64
    ·have hc0:=h2.out.at_ k (by rw[upto_len];omega)
     have hz0:=h2.out.frozen k
     have c2:=h2.out.at_ (k - 2) (by rw[upto_len];omega)
     have c7:=h2.out.at_ (k - 7) (by rw[upto_len];omega)
     have c15:=h2.out.at_ (k - 15) (by rw[upto_len];omega)
     have c16:=h2.out.at_ (k - 16) (by rw[upto_len];omega)
     rw[upto_at _ _ _ _ (by omega),if_pos (by omega)] at c2 c7 c15 c16
     have Hw:=vY b k hk1 hlt
     have b2:=fH b (k - 2)
     have b7:=fH b (k - 7)
     have b15:=fH b (k - 15)
     have b16:=fH b (k - 16)
     generalize at_ (sched b) (k - 2)=y at *
     generalize at_ (sched b) (k - 7)=y7 at *
     generalize at_ (sched b) (k - 15)=x at *
     generalize at_ (sched b) (k - 16)=x16 at *
     replace Hw:=ae.mk Hw
     have e15:(k:Int) - 15=((k - 15:Nat):Int):=by omega
     have e2:(k:Int) - 2=((k - 2:Nat):Int):=by omega
     have i2:IntKind.i64.wrap ((k:Int) - 2)=((k - 2:Nat):Int):=by rw[IntKind.wrap_i64];omega
     have i7:IntKind.i64.wrap ((k:Int) - 7)=((k - 7:Nat):Int):=by rw[IntKind.wrap_i64];omega
     have i15:IntKind.i64.wrap ((k:Int) - 15)=((k - 15:Nat):Int):=by rw[IntKind.wrap_i64];omega
     have i16:IntKind.i64.wrap ((k:Int) - 16)=((k - 16:Nat):Int):=by rw[IntKind.wrap_i64];omega
     have j2:((k - 2:Nat):Int) < 64:=by omega
     have j7:((k - 7:Nat):Int) < 64:=by omega
     have j15:((k - 15:Nat):Int) < 64:=by omega
     have j16:((k - 16:Nat):Int) < 64:=by omega
     clear e2 e15
     go_wp2
     go_quiet (fail)
     replace hc0:(wr.drewN nq).cell? ⟨N+1,k,none⟩=_:=hc0
     replace hz0:(wr.drewN nq).frozen? ⟨N+1,k,none⟩=_:=hz0
     replace c7:(wr.drewN nq).cell? ⟨N+1,k - 7,none⟩=_:=c7
     replace c16:(wr.drewN nq).cell? ⟨N+1,k - 16,none⟩=_:=c16
     replace h1:Hid (Blk (wr.drewN nq) N 86 (arr .u32 (upto (at_ (sched b)) 64 0))):=h1
     replace h2:Hid (Blk (wr.drewN nq) (N+1) 86 (arr .u32 (upto (at_ (sched b)) 64 k))):=h2
     replace hb:Below N w (wr.drewN nq):=⟨hb.os,hb.tape,hb.output,hb.size,hb.block⟩
     clear c2 c15
     generalize wr.drewN nq=wq at *
     obtain⟨b2l,b2h⟩:=id b2
     obtain⟨b15l,b15h⟩:=id b15
     have B2:=Lib.hid b2
     have B15:=Lib.hid b15
     clear b2 b15
     go_wp2_with fail
     refine(TQ _ B2.out _).mono ?_
     rintro e w' ⟨rfl,rfl⟩
     go_wp2_with fail
     refine(TS _ B2.out _).mono ?_
     rintro e w' ⟨rfl,rfl⟩
     go_wp2_with fail
     refine(VK _ B15.out _).mono ?_
     rintro e w' ⟨rfl,rfl⟩
     go_wp2_with fail
     refine(TR _ B15.out _).mono ?_
     rintro e w' ⟨rfl,rfl⟩
     go_wp2
     refine wp_region_still_tail 15 (by kernel_rfl) (by kernel_rfl) ?_
     simp only[List.take_succ_cons,List.take_zero,List.drop_succ_cons,List.drop_zero]
     repeat still_step
     rw[OZ]
     refine wpStill_nil ?_
     change wpList _ _ _ _ _ wq.drew
     clear i2 i7 i15 i16
     go_wp2
     go_roundw
     case rel =>
      refine⟨k+1,by omega,by omega,by go_num,?_,?_,?_⟩
      ·exact(h1.out.far (by simp) _).drew
      ·have:=h2.out.set_ k (.int .u32 (at_ (sched b) k))
       rw[bi,upto_set,Hw.out] at this
       exact this.drew
      ·exact(hb.setCell (by simp) _).drew
     case measure=>simp[Go.RowKit.intOf];omega
    ·have ek:k=64:=by omega
     rw[ek,upto_all _ _ (bG b)] at h2
     clear ek
     go_upto_region 15 with(fail)
     apply wp_region_lit
     refine wpList_load_row rfl 86 (.tmp 3) rfl (N+1) rfl 86 _ (0,0) _ h2.out Tryz.underlying86 rfl (by rw[au,bG];kernel_rfl) ?_
     refine wpList_store_row (o:=⟨none,.store _ _ _,_,_,_,_⟩) rfl 86 (.tmp 2) (.tmp 89) rfl N (arr .u32 (sched b)) rfl rfl 86 _ h1.out (by rw[au,bG];kernel_rfl) (by rw[au,au,bG,upto_len]) (all_oneCell_toArray (ay _ _)) ?_
     have h3:=h1.out.row (arr .u32 (sched b))
     go_wp2
     refine bodyPost_ret (v:=.agg (arr .u32 (sched b))) (results_cell_row rfl _ _ N 86 _ (0,0) _ rfl h3 Tryz.underlying86 rfl (by rw[au,bG];kernel_rfl)) rfl ⟨rfl,?_⟩
     rw[hN]
     exact below_setRow hb (Nat.le_refl _) _
theorem TU (x:Int) (hx:W32 x) (w:World):Calls Tryz.prog 192 #[.int .u32 x,.int .i64 6,.int .i64 11,.int .i64 25] w fun e w'=>e=.returned (.int .u32 (lg x 6 11 25))∧w=w':=xP x 6 11 25 (by omega) (by omega) (by omega) hx w
theorem TY (x:Int) (hx:W32 x) (w:World):Calls Tryz.prog 192 #[.int .u32 x,.int .i64 2,.int .i64 13,.int .i64 22] w fun e w'=>e=.returned (.int .u32 (lg x 2 13 22))∧w=w':=xP x 2 13 22 (by omega) (by omega) (by omega) hx w
theorem FZ (s:S8) (hs:s.ok) (W:Nat→Int) (hW:∀ i,W32 (W i)) (t pb po:Nat) (w:World)
  (hk:∀ i,i < 64→w.cell? ⟨t,3+i,none⟩=some (.int .u32 (kW i:Nat))) (hp:∀ i,i < 64→w.cell? ⟨pb,po+i,none⟩=some (.int .u32 (W i))) :
  Calls Tryz.prog 150 #[.agg #[.int .u32 s.a,.int .u32 s.b,.int .u32 s.c,.int .u32 s.d,.int .u32 s.e,.int .u32 s.f,.int .u32 s.g,.int .u32 s.h],.pointer (some ⟨t,3,none⟩),.pointer (some ⟨pb,po,none⟩)] w
   fun e w'=>e=.returned (.agg (arr .u32 (rnds s W 64).toL))∧Below w.heap.size w w':=by
 obtain⟨N,hN⟩:∃ N,w.heap.size=N:=⟨_,rfl⟩
 have htN:t < N:=by have h:=World.block_lt_of_cell? _ _ (hk 0 (by omega));rw[hN] at h;exact h
 have hpN:pb < N:=by have h:=World.block_lt_of_cell? _ _ (hp 0 (by omega));rw[hN] at h;exact h
 have Hk:=Lib.hid hk
 have Hp:=Lib.hid hp
 have HW:=Lib.hid hW
 have Hs:=Lib.hid hs
 clear hk hp hW hs
 obtain⟨s0,hs0⟩:∃ s0,s0=s:=⟨_,rfl⟩
 obtain⟨a,b,c,d,e,f,g,h⟩:=s
 have S0:=ae.mk hs0
 clear hs0
 go_enter Tryz.func150,Tryz.ntmps150
 go_wp2
 go_quiet (fail)
 go_wp2
 go_loopw [7,8,9,10,11,12,13,14,38] (fun va vb vc vd ve vf vg vh i wr=>∃ (k:Nat) (a b c d e f g h:Int),k≤64∧ae (rnds s0 W k=⟨a,b,c,d,e,f,g,h⟩)∧va=.int .u32 a∧vb=.int .u32 b∧vc=.int .u32 c∧vd=.int .u32 d∧ve=.int .u32 e∧vf=.int .u32 f∧vg=.int .u32 g∧vh=.int .u32 h∧i=.int .i64 k∧Hid (Blk wr (N+1) 87 (arr .u32 (List.replicate 8 0)))∧Below N w wr) (fun _ _ _ _ _ _ _ _ i _=>64 - (Go.RowKit.intOf i).toNat)
 case atStart =>
  refine⟨0,a,b,c,d,e,f,g,h,by omega,⟨S0.out⟩,rfl,rfl,rfl,rfl,rfl,rfl,rfl,rfl,rfl,?_,?_⟩
  ·exact Blk.new_at _ _ _ (N+1) (by simp[hN])
  ·exact below_drewN (((Below.refl _ _).alloc (by omega) _).alloc (by simp;omega) _) _
 case round =>
  obtain⟨k,a',b',c',d',e',f',g',h',hk,hr,rfl,rfl,rfl,rfl,rfl,rfl,rfl,rfl,rfl,hz,hb⟩:=hrel
  obtain⟨r1,r2,r3,r4,r5,r6,r7,r8⟩:(⟨a',b',c',d',e',f',g',h'⟩:S8).ok:=by
   have:=Kt (S0.out▸Hs.out) W k
   rwa [hr.out] at this
  by_cases hlt:k < 64
  ·have ck:=(hb.cell (p:=⟨t,3+k,none⟩) htN).trans (Hk.out k hlt)
   have cp:=(hb.cell (p:=⟨pb,po+k,none⟩) hpN).trans (Hp.out k hlt)
   have k64:(k:Int) < 64:=by omega
   have R1:=Lib.hid r1
   have R5:=Lib.hid r5
   obtain⟨p1,q1⟩:=r1;obtain⟨p2,q2⟩:=r2;obtain⟨p3,q3⟩:=r3;obtain⟨p4,q4⟩:=r4
   obtain⟨p5,q5⟩:=r5;obtain⟨p6,q6⟩:=r6;obtain⟨p7,q7⟩:=r7;obtain⟨p8,q8⟩:=r8
   go_wp2
   go_quiet (fail)
   go_wp2
   replace cp:(wr.drewN nq).cell? ⟨pb,po+k,none⟩=_:=cp
   replace hz:Hid (Blk (wr.drewN nq) (N+1) 87 (arr .u32 (List.replicate 8 0))):=hz
   replace hb:Below N w (wr.drewN nq):=below_drewN hb _
   clear ck
   generalize wr.drewN nq=wq at *
   go_quiet ((go_at_call 192;exact Calls.quiet_of_same (iL (TU _ R5.out _))))
   go_wp2_with (go_at_call 192;refine(TY _ R1.out _).mono ?_;rintro e w' ⟨rfl,rfl⟩)
   go_roundw
   case rel =>
    refine⟨k+1,_,_,_,_,_,_,_,_,by omega,⟨yI hr.out rfl rfl⟩,?_,rfl,rfl,rfl,?_,rfl,rfl,rfl,by go_num,hz,below_drewN hb _⟩
    ·exact congrArg (Value.int .u32) (by unfold ch maj Kq;simp only)
    ·exact congrArg (Value.int .u32) (by unfold ch Kq;simp only)
   case measure=>simp[Go.RowKit.intOf];omega
  ·have ek:k=64:=by omega
   rw[ek] at hr
   clear ek
   have z0:=hz.out.at_ 0 (by simp)
   have f0:=hz.out.frozen 0
   have z1:=hz.out.at_ 1 (by simp)
   have f1:=hz.out.frozen 1
   have z2:=hz.out.at_ 2 (by simp)
   have f2:=hz.out.frozen 2
   have z3:=hz.out.at_ 3 (by simp)
   have f3:=hz.out.frozen 3
   have z4:=hz.out.at_ 4 (by simp)
   have f4:=hz.out.frozen 4
   have z5:=hz.out.at_ 5 (by simp)
   have f5:=hz.out.frozen 5
   have z6:=hz.out.at_ 6 (by simp)
   have f6:=hz.out.frozen 6
   have z7:=hz.out.at_ 7 (by simp)
   have f7:=hz.out.frozen 7
   go_wp2
   have k0:=hz.out.set_ 0 (.int .u32 a')
   rw[bi] at k0
   have k1:=k0.set_ 1 (.int .u32 b')
   rw[bi] at k1
   have k2:=k1.set_ 2 (.int .u32 c')
   rw[bi] at k2
   have k3:=k2.set_ 3 (.int .u32 d')
   rw[bi] at k3
   have k4:=k3.set_ 4 (.int .u32 e')
   rw[bi] at k4
   have k5:=k4.set_ 5 (.int .u32 f')
   rw[bi] at k5
   have k6:=k5.set_ 6 (.int .u32 g')
   rw[bi] at k6
   have k7:=k6.set_ 7 (.int .u32 h')
   rw[bi] at k7
   have ee:arr .u32 ((((((((List.replicate 8 0).set 0 a').set 1 b').set 2 c').set 3 d').set 4 e').set 5 f').set 6 g' |>.set 7 h')=arr .u32 (rnds s0 W 64).toL:=by rw[hr.out];rfl
   rw[ee,S0.out] at k7
   refine bodyPost_ret (results_cell_row rfl _ _ (N+1) 87 _ (0,0) _ rfl k7 Tryz.underlying87 rfl (by rw[au];kernel_rfl)) rfl ⟨rfl,?_⟩
   have q:∀ (w1:World) (i:Nat) (v:Value),Below N w w1→Below N w (w1.setCell ⟨N+1,i,none⟩ v):=fun w1 i v hq=>hq.setCell (by simp) v
   exact q _ _ _ (q _ _ _ (q _ _ _ (q _ _ _ (q _ _ _ (q _ _ _ (q _ _ _ (q _ _ _ hb)))))))
end Sha
namespace Frame
open Go.RowKit Sha Wire
structure dS:Prop where
 sectors:∀ (n:Int) (w:World),Calls Tryz.prog 42 #[.int .i64 n] w fun e w'=>e=.returned (.int .i64 (sectorsF n))∧w=w'
 put:∀ {w:World} {t:Nat} {f:FV} {A:Option Addr} {n c:Nat},Tab w t→Rd w A n f.body→n≤c→c≤maxLen→n≤100000→Off A n [t]→Calls Tryz.prog 235 #[.pointer (some ⟨t,0,none⟩),frv f A n c] w (jP t f w)
 get:∀ {w:World} {t:Nat} {b:List Int} {A:Option Addr} {n c:Nat},Tab w t→Rd w A n b→n≤c→c≤maxLen→n≤1000000→Off A n [t]→Calls Tryz.prog 120 #[.pointer (some ⟨t,0,none⟩),.slice A n c] w (GetPost t (getF b) w)
end Frame
end Go.Proofs.YtlkeieoecfkkeaaGreat
