/-
  Parts laid together: ShaCmp ShaUse MacAgainst.
-/
import Derived.Test.YtlkeieoecfkkeaaGreatPart21
import Derived.Test.YtlkeieoecfkkeaaGreatPart7
import Derived.Laws.BytesArg
import Derived.Lib.SlBytesConst
import Derived.DataShut
import Derived.Laws.OwnMore
import Derived.Test.YtlkeieoecfkkeaaGreatPart4
set_option maxRecDepth 100000
set_option maxHeartbeats 400000
namespace Go.Proofs.YtlkeieoecfkkeaaGreat
namespace Sha
open Go.RowKit
theorem Tab.lt {w:World}{t:Nat}(h:Tab w t):t < w.heap.size:=by
 rcases h with h|h<;>exact Blk.lt h
theorem Tab.below {w w':World}{t B:Nat}(h:Tab w t) (b:Below B w w') (hB:t < B):Tab w' t:=by
 rcases h with h|h
 ·exact .inl (Blk.below h b hB)
 ·exact .inr (Blk.below h b hB)
theorem Tab.bar {w w':World}{t:Nat}{l:List Nat}(h:Tab w t) (b:Bar l w w') (hl:t∉l):Tab w' t:=by
 rcases h with h|h
 ·exact .inl (Blk.bar h b hl)
 ·exact .inr (Blk.bar h b hl)
theorem Hs.lt {w:World}{h t:Nat}{text:List Int}(x:Hs w h t text):h < w.heap.size:=by
 obtain⟨_,_,_,r,_,_,_,k⟩:=x
 exact k.lt
theorem Hs.bar {w w':World}{h t:Nat}{text:List Int}{l:List Nat}(x:Hs w h t text) (b:Bar l w w') (hh:h∉l) (ht:t∉l):Hs w' h t text:=by
 obtain⟨h1,h2,h3,r,h4,h5,h6,k⟩:=x
 exact⟨h1,Blk.bar h2 b ht,h3,r,h4,h5,h6,k.bar b hh⟩
theorem Hs.other {w w':World}{h t:Nat}{text:List Int}(x:Hs w h t text) (b:Bar [t] w w') (m:Made w' t):Hs w' h t text:=by
 obtain⟨h1,h2,h3,r,h4,h5,h6,k⟩:=x
 exact⟨h1,m,h3,r,h4,h5,h6,k.bar b (by simpa using h1)⟩
end Sha
namespace Mac
open Go.RowKit Sha
theorem WU {w:World}{A:Option Addr}{n:Nat}{xs:List Int}(r:Rd w A n xs):0 < (ints .u8 xs).length→∃ ad,A=some ad∧∀ j v,(ints .u8 xs)[j]?=some v→w.cell? (ad.add j)=some v:=by
 intro hp
 obtain⟨h1,h2,h3⟩:=r
 rw[ints_len] at hp
 rcases h3 with h3|⟨b,o,rfl,hc⟩
 ·omega
 ·refine⟨_,rfl,fun j v hj=>?_⟩
  have hjl:j < xs.length:=by
   have:=(List.getElem?_eq_some_iff.1 hj).1
   rwa [ints_len] at this
  rw[Sha.ints_at _ _ _ hjl] at hj
  rw[← hj,show (⟨b,o,none⟩:Addr).add j=⟨b,o+j,none⟩ by cases j<;>simp[Addr.add]]
  exact hc j (by omega)
theorem Hg (key:List Int) (c:Int) (h:key.length≤64):(splice (List.replicate 64 (Value.int .u8 0)) 0 (ints .u8 key)).toArray=arr .u8 (kpK key c 0):=by
 rw[← XW key c h]
 unfold splice arr
 simp[ints]
theorem iE (A:Option Addr) (n cap:Nat) (key:List Int) (c:Int) (w:World) (hr:Rd w A n key) (hn:n≤64) (hc:0≤c∧c≤255) :
  Calls Tryz.prog 72 #[.slice A n cap,.int .u8 c] w fun e w'=>e=.returned (.agg (arr .u8 (kp key c)))∧Below w.heap.size w w':=by
 obtain⟨N,hN⟩:∃ N,w.heap.size=N:=⟨_,rfl⟩
 have HR:=ae.mk hr
 have hlen:key.length=n:=hr.1
 have HL:=ae.mk hlen
 have hby:=ae.mk hr.2.1
 obtain⟨c0,c1⟩:=hc
 clear hr hlen
 go_enter Tryz.func72,Tryz.ntmps72
 go_wp2_with ((with_reducible refine sel 9 ?_);refine aC rfl (.tmp 7) (.tmp 8) 22 22 rfl 5 Tryz.underlying22 (by kernel_rfl) _ _ _ _ _ _ rfl rfl (N+1) 0 (List.replicate 64 (Value.int .u8 0)) 169 (Blk.new_at _ _ _ (N+1) (by simp[hN])) (ints .u8 key) (by rw[ints_len,HL.out];exact(Nat.min_eq_left hn).symm) (fun h0=>⟨rfl,WU (HR.out.keep (l:=[]) (((Bar.refl [] w).alloc _).alloc _) (by simp)) h0⟩) (by rw[ints_len,HL.out];simp;try omega) (ay _ _) ?_;intro w2 HG HB;have HB:=ae.mk HB)
 rw[Hg key c (by rw[HL.out];exact hn)] at HG
 have hb0:=((Bar.refl [N+1] (w.alloc (.cells (List.replicate 64 (Value.int .u8 0)).toArray 169))).alloc (.cells (List.replicate 64 (Value.int .u8 0)).toArray 169)).trans HB.out (by simp)
 have k0:=(Blk.new_at w 169 _ N hN.symm).bar hb0 (by simp)
 have K0:=ae.mk k0
 have B0:=ae.mk (((((Below.refl N w).alloc (by omega) (.cells (List.replicate 64 (Value.int .u8 0)).toArray 169)).alloc (by simp;omega) (.cells (List.replicate 64 (Value.int .u8 0)).toArray 169))).trans (HB.out.below (B:=N) (by simp;omega) (by simp)))
 clear HB hb0 k0
 go_loopw [10] (fun i wr=>∃ k:Nat,k≤64∧i=.int .i64 k∧ae (Blk wr (N+1) 169 (arr .u8 (kpK key c k)))∧ae (Blk wr N 169 (List.replicate 64 (Value.int .u8 0)).toArray)∧ae (Below N w wr)) (fun i _=>64 - (intOf i).toNat)
 case atStart=>exact⟨0,by omega,rfl,⟨HG.out⟩,K0,B0⟩
 case round =>
  clear HG K0 B0
  obtain⟨k,hk,rfl,h1,h0,b⟩:=hrel
  by_cases hlt:k < 64
  ·have k64:(k:Int) < 64:=by omega
   have hc0:=h1.out.at_ k (by rw[kpK_len];exact hlt)
   rw[zx _ _ _ _ hlt,if_neg (by omega)] at hc0
   have hz0:=h1.out.frozen k
   have hx:=hby.out.at_ k
   have hset:=U9 key c k
   generalize at_ key k=x at *
   obtain⟨x0,x1⟩:=hx
   have HS:=ae.mk hset
   clear hset
   go_wp2
   go_roundw
   case rel =>
    refine⟨k+1,by omega,by go_num,⟨?_⟩,⟨h0.out.far (by simp) _⟩,⟨b.out.setCell (by simp) _⟩⟩
    have:=h1.out.set_ k (.int .u8 (bits .xor .u8 x c))
    rw[bi,HS.out] at this
    exact this
   case measure=>simp[intOf];omega
  ·have ek:k=64:=by omega
   rw[ek,Xj] at h1
   clear ek
   go_upto_region 8 with(fail)
   apply wp_region_lit
   refine wpList_load_row rfl 169 (.tmp 5) rfl (N+1) rfl 169 _ (0,0) _ h1.out Tryz.underlying169 rfl (by rw[au,aW];kernel_rfl) ?_
   refine wpList_store_row (o:=⟨none,.store _ _ _,_,_,_,_⟩) rfl 169 (.tmp 4) (.tmp 20) rfl N (arr .u8 (kp key c)) rfl rfl 169 _ h0.out (by rw[au,aW];kernel_rfl) (by rw[au,aW];rfl) (all_oneCell_toArray (ay _ _)) ?_
   have h3:=h0.out.row (arr .u8 (kp key c))
   go_wp2
   refine bodyPost_ret (v:=.agg (arr .u8 (kp key c))) (results_cell_row rfl _ _ N 169 _ (0,0) _ rfl h3 Tryz.underlying169 rfl (by rw[au,aW];kernel_rfl)) rfl ⟨rfl,?_⟩
   rw[hN]
   exact below_setRow b.out (Nat.le_refl _) _
end Mac
end Go.Proofs.YtlkeieoecfkkeaaGreat
