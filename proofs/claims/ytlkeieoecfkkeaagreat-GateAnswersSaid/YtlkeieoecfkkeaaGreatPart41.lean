/-
  Parts laid together: MacNew MacSame.
-/
import Derived.Test.YtlkeieoecfkkeaaGreatPart30
import Derived.Test.YtlkeieoecfkkeaaGreatPart21
import Derived.Laws.Tables
import Derived.Great.BuildSlice
import Derived.Lib.Bytes
set_option maxRecDepth 100000
set_option maxHeartbeats 1000000
namespace Go.Proofs.YtlkeieoecfkkeaaGreat
namespace Mac
open Go.RowKit Sha
def mcells (t h:Nat) (K:List Int):Array Value:=([Value.pointer (some ⟨t,0,none⟩),.pointer (some ⟨h,0,none⟩)]++ints .u8 K).toArray
theorem mc_0 (t h:Nat) (K:List Int):(mcells t h K)[0]?=some (.pointer (some ⟨t,0,none⟩)):=by simp[mcells]
theorem mc_1 (t h:Nat) (K:List Int):(mcells t h K)[1]?=some (.pointer (some ⟨h,0,none⟩)):=by simp[mcells]
theorem X8 (t h:Nat) (K:List Int) (i:Nat) (hi:i < K.length):(mcells t h K)[2+i]?=some (.int .u8 (at_ K i)):=by
 rw[mcells,List.getElem?_toArray,List.getElem?_append_right (by simp)]
 have:=Sha.ints_at .u8 K i hi
 simpa [Nat.add_sub_cancel_left] using this
theorem foldl_set (off:Nat):∀ (l:List Value) (k:Nat) (cs:Array Value),off+k+l.length≤cs.size →
    (((l.zipIdx k).foldl (fun cs (x:Value × Nat)=>cs.setIfInBounds (off+x.2) x.1) cs)).toList=cs.toList.take (off+k)++l++cs.toList.drop (off+k+l.length)
  | [],k,cs,h=>by simp
  | x :: l,k,cs,h=>by
    have hl:off+k < cs.toList.length:=by simp at h ⊢;omega
    have ih:=foldl_set off l (k+1) (cs.setIfInBounds (off+k) x) (by simp at h ⊢;omega)
    simp only[List.zipIdx_cons,List.foldl_cons] at ih ⊢
    rw[ih]
    simp only[Array.toList_setIfInBounds,List.length_cons]
    rw[show off+(k+1)=off+k+1 by omega,show off+k+1+l.length=off+k+(l.length+1) by omega]
    rw[List.drop_set_of_lt (by omega)]
    have:(cs.toList.set (off+k) x).take (off+k+1)=cs.toList.take (off+k)++[x]:=by
      rw[List.take_succ_eq_append_getElem (by simpa using hl)]
      simp[List.take_set_of_le]
    rw[this]
    simp
theorem ES (t h:Nat) (K:List Int) (hK:K.length=64) :
  Array.foldl (fun cs (x:Value × Nat)=>cs.setIfInBounds (2+x.snd) x.fst) ((Tryz.zeroCells172.setIfInBounds 0 (Value.pointer (some ⟨t,0,none⟩))).setIfInBounds 1 (Value.pointer (some ⟨h,0,none⟩))) (arr .u8 K).zipIdx 0 64=mcells t h K:=by
 have z66:Tryz.zeroCells172.size=66:=by kernel_rfl
 generalize Tryz.zeroCells172=z0 at *
 have hf:=foldl_set 2 (ints .u8 K) 0 ((z0.setIfInBounds 0 (Value.pointer (some ⟨t,0,none⟩))).setIfInBounds 1 (Value.pointer (some ⟨h,0,none⟩))) (by rw[ints_len,hK];simp;omega)
 have hs:(arr .u8 K).zipIdx.size=64:=by simp[au,hK]
 rw[← hs,← Array.foldl_toList,Array.toList_zipIdx]
 apply Array.toList_inj.1
 refine Eq.trans hf ?_
 obtain⟨l⟩:=z0
 match l,z66 with
 | a :: b :: r,hl =>
  have hr:r.length=64:=by simpa using hl
  simp[mcells,ints_len,hK,List.drop_eq_nil_of_le,hr]
def Mc (w:World) (m h t:Nat) (key text:List Int):Prop:=m≠t∧m≠h∧Blk w m 172 (mcells t h (kp key 92))∧Hs w h t (kp key 54++text)
theorem _root_.Go.Proofs.YtlkeieoecfkkeaaGreat.Sha.Hs.drew {w:World}{h t:Nat}{text:List Int}(x:Hs w h t text):Hs w.drew h t text:=x
theorem Mc.bar {w w':World}{m h t:Nat}{key text:List Int}{l:List Nat}(x:Mc w m h t key text) (b:Bar l w w') (hm:m∉l) (hh:h∉l) (ht:t∉l):Mc w' m h t key text :=
 ⟨x.1,x.2.1,Blk.bar x.2.2.1 b hm,Hs.bar x.2.2.2 b hh ht⟩
theorem Mc.other {w w':World}{m h t:Nat}{key text:List Int}(x:Mc w m h t key text) (b:Bar [t] w w') (md:Made w' t):Mc w' m h t key text :=
 ⟨x.1,x.2.1,Blk.bar x.2.2.1 b (by simpa using x.1),Hs.other x.2.2.2 b md⟩
theorem Mc.lt {w:World}{m h t:Nat}{key text:List Int}(x:Mc w m h t key text):m < w.heap.size:=Blk.lt x.2.2.1
theorem nI (m h t:Nat) (key text xs:List Int) (A:Option Addr) (n cap:Nat) (w:World) (hm:Mc w m h t key text) (hs:Sl w A n xs h) (hcap:n≤cap) (hmax:cap≤9223372036854775807) (htot:text.length+n < 576460752303423488) :
  Calls Tryz.prog 37 #[.pointer (some ⟨m,0,none⟩),.slice A n cap] w fun e w'=>e=.returned (.tuple #[])∧Mc w' m h t key (text++xs)∧Bar [h] w w':=by
 obtain⟨h1,h2,h3,h4⟩:=hm
 have c1:w.cell? ⟨m,1,none⟩=some (.pointer (some ⟨h,0,none⟩)):=(h3.cell 1).trans (mc_1 _ _ _)
 have cw:=ae.mk (write_any h t _ xs A n cap w h4 hs hcap hmax (by rw[List.length_append,aW];omega))
 have K3:=ae.mk h3
 have H12:=ae.mk (And.intro h1 h2)
 clear h1 h2 h3 h4 hs
 go_enter Tryz.func37,Tryz.ntmps37
 go_wp2_with fail
 refine cw.out.mono ?_
 rintro e w1 ⟨rfl,hs,b⟩
 rw[List.append_assoc] at hs
 have R:=ae.mk (And.intro hs b)
 clear hs b
 go_wp2
 go_end0
 exact⟨rfl,⟨H12.out.1,H12.out.2,K3.out.bar R.out.2 (by simpa using H12.out.2),R.out.1⟩,R.out.2⟩
def ET (t:Nat) (key:List Int) (w:World) (e:Ending) (w':World):Prop:=∃ m h,e=.returned (.pointer (some ⟨m,0,none⟩))∧w.heap.size≤m∧w.heap.size≤h∧Mc w' m h t (keyOf key) []∧Bar [t] w w'
theorem EU (t:Nat) (A:Option Addr) (n cap:Nat) (key:List Int) (w:World) (ht:Tab w t) (hr:Rd w A n key) (hcap:n≤cap) (hmax:cap≤9223372036854775807) (hn:n < 1073741824) :
  Calls Tryz.prog 36 #[.pointer (some ⟨t,0,none⟩),.slice A n cap] w (ET t key w):=by
 have HT:=ae.mk ht
 have HR:=ae.mk hr
 have hlen:=hr.1
 have HL:=ae.mk hlen
 clear ht hr hlen
 by_cases hbig:64 < n
 ·have hbig':64 < key.length:=by rw[HL.out];exact hbig
  go_enter Tryz.func36,Tryz.ntmps36
  go_wp2_with fail
  refine(one_any t A n cap key w HT.out HR.out hcap hmax (by omega)).mono ?_
  rintro e w0 ⟨M0,rfl,hM0,k0,m0,b0⟩
  have R0:=ae.mk (Rd.blk k0 (fU _) (eF _))
  have HT0:ae (Tab w0 t):=⟨.inr m0⟩
  have B0:ae (Bar [t] w w0):=⟨b0⟩
  clear k0 m0 b0
  go_wp2_with fail
  refine(new_any t w0 HT0.out).mono ?_
  rintro e w1 ⟨h,rfl,hh,hs1,b1⟩
  have R1:=ae.mk (R0.out.tab HT0.out b1)
  have B1:=ae.mk (B0.out.trans b1 (by simp))
  have H1:=ae.mk hs1
  have hwh:w.heap.size≤h:=by have:=B0.out.size;omega
  clear hs1 b1 R0 B0 HT0
  go_wp2_with fail
  refine(iE (some ⟨M0,0,none⟩) 32 32 (sha key) 92 w1 R1.out (by omega) ⟨by omega,by omega⟩).mono ?_
  rintro e w2 ⟨rfl,b2⟩
  have R2:=ae.mk (R1.out.below b2)
  have H2:=ae.mk (H1.out.bar (barOf b2 []) (by simp) (by simp))
  have B2:=ae.mk (B1.out.trans (barOf b2 [t]) (by simp))
  have hht:=H1.out.1
  have hhlt:h < w2.heap.size:=H2.out.lt
  have htlt:t < w2.heap.size:=H2.out.2.1.lt
  clear b2 R1 H1 B1
  obtain⟨m,hm⟩:∃ m,w2.heap.size=m:=⟨_,rfl⟩
  have e1:(arr .u8 (kp (sha key) 92)).size=64:=by rw[au,aW]
  have e2:=ES t h (kp (sha key) 92) (aW _ _)
  go_wp2_with fail
  have km:=Blk.new_at w2 172 (mcells t h (kp (sha key) 92)) m hm.symm
  have R3:=ae.mk (R2.out.keep (l:=[]) ((Bar.refl [] w2).alloc (.cells (mcells t h (kp (sha key) 92)) 172)) (by simp))
  have H3:=ae.mk (H2.out.bar (l:=[]) ((Bar.refl [] w2).alloc (.cells (mcells t h (kp (sha key) 92)) 172)) (by simp) (by simp))
  have B3:=ae.mk (B2.out.alloc (.cells (mcells t h (kp (sha key) 92)) 172))
  have hhm:h < m:=by omega
  have htm:t < m:=by omega
  have hwm:w.heap.size≤m:=by have:=B2.out.size;omega
  have hs3:(w2.alloc (.cells (mcells t h (kp (sha key) 92)) 172)).heap.size=m+1:=by simp[hm]
  clear e1 e2 R2 H2 B2 hm
  generalize w2.alloc (.cells (mcells t h (kp (sha key) 92)) 172)=w3 at *
  have KM:=ae.mk km
  clear km
  refine(iE (some ⟨M0,0,none⟩) 32 32 (sha key) 54 w3 R3.out (by omega) ⟨by omega,by omega⟩).mono ?_
  rintro e w4 ⟨rfl,b4⟩
  have KM4:=ae.mk (KM.out.below b4 (by omega))
  have H4:=ae.mk (H3.out.bar (barOf b4 []) (by simp) (by simp))
  have B4:=ae.mk (B3.out.trans (barOf b4 [t]) (by simp))
  have hs4:m+1≤w4.heap.size:=hs3▸b4.size
  clear b4 KM H3 B3 R3 hs3
  obtain⟨p,hp⟩:∃ p,w4.heap.size=p:=⟨_,rfl⟩
  have hpm:m+1≤p:=by omega
  go_wp2_with ((with_reducible refine selS 169 (.tmp 6) (.tmp 21) ?_);refine wpList_store_row rfl 169 (.tmp 6) (.tmp 21) rfl p _ rfl rfl 169 _ (Blk.new_at _ _ _ p hp.symm) (by rw[au,aW];kernel_rfl) (by rw[au,aW];rfl) (all_oneCell_toArray (ay _ _)) ?_;refine uC (fun w'=>Blk w' p 169 (arr .u8 (kp (sha key) 54))∧Bar [] w4 w') (And.intro ((Blk.new_at _ _ _ p hp.symm).row _) (((Bar.refl [] w4).alloc _).trans (bar_setRow _ p _) (by simp;omega))) ?_;rintro w5 ⟨c5,b5⟩;have C5:=ae.mk c5;have B5:=ae.mk (B4.out.trans b5 (by simp));have H5:=ae.mk (H4.out.bar b5 (by simp) (by simp));have KM5:=ae.mk (KM4.out.bar b5 (by simp));have q1:w5.cell? ⟨m,1,none⟩=some (.pointer (some ⟨h,0,none⟩)):=(KM5.out.cell 1).trans (mc_1 _ _ _);clear c5 b5 hp KM4 H4 B4)
  refine wp_region_still_tail 5 (by kernel_rfl) (by kernel_rfl) ?_
  simp only[List.take_succ_cons,List.take_zero,List.drop_succ_cons,List.drop_zero]
  repeat still_step
  refine wpStill_nil ?_
  change wpList _ _ _ _ _ w5.drew
  go_wp2_with fail
  refine(write_any h t [] (kp (sha key) 54) (some ⟨p,0,none⟩) 64 64 w5.drew H5.out.drew ⟨aW _ _,iG _ _,.inr ⟨p,0,rfl,by omega,fun i hi=>by rw[Nat.zero_add];exact C5.out.at_ i (by rw[aW];exact hi)⟩⟩ (by omega) (by omega) (by simp)).mono ?_
  rintro e w6 ⟨rfl,h6,b6⟩
  rw[List.nil_append] at h6
  have KM6:=ae.mk (KM5.out.drew.bar b6 (by simp;omega))
  have H6:=ae.mk h6
  have B6:=ae.mk (B5.out.drew.trans b6 (by simp;omega))
  clear h6 b6 KM5 H5 B5 C5 q1
  go_wp2
  go_ret
  refine⟨m,h,rfl,hwm,hwh,⟨by omega,by omega,by rw[ru hbig'];exact KM6.out,?_⟩,B6.out⟩
  rw[ru hbig',List.append_nil]
  exact H6.out
 ·have hbig':¬ 64 < key.length:=by rw[HL.out];exact hbig
  go_enter Tryz.func36,Tryz.ntmps36
  have R0:=HR
  have HT0:=HT
  have B0:ae (Bar [t] w w):=⟨Bar.refl _ _⟩
  go_wp2_with fail
  refine(new_any t w HT0.out).mono ?_
  rintro e w1 ⟨h,rfl,hh,hs1,b1⟩
  have R1:=ae.mk (R0.out.tab HT0.out b1)
  have B1:=ae.mk (B0.out.trans b1 (by simp))
  have H1:=ae.mk hs1
  have hwh:w.heap.size≤h:=by have:=B0.out.size;omega
  clear hs1 b1 R0 B0 HT0
  go_wp2_with fail
  refine(iE A n cap key 92 w1 R1.out (by omega) ⟨by omega,by omega⟩).mono ?_
  rintro e w2 ⟨rfl,b2⟩
  have R2:=ae.mk (R1.out.below b2)
  have H2:=ae.mk (H1.out.bar (barOf b2 []) (by simp) (by simp))
  have B2:=ae.mk (B1.out.trans (barOf b2 [t]) (by simp))
  have hht:=H1.out.1
  have hhlt:h < w2.heap.size:=H2.out.lt
  have htlt:t < w2.heap.size:=H2.out.2.1.lt
  clear b2 R1 H1 B1
  obtain⟨m,hm⟩:∃ m,w2.heap.size=m:=⟨_,rfl⟩
  have e1:(arr .u8 (kp key 92)).size=64:=by rw[au,aW]
  have e2:=ES t h (kp key 92) (aW _ _)
  go_wp2_with fail
  have km:=Blk.new_at w2 172 (mcells t h (kp key 92)) m hm.symm
  have R3:=ae.mk (R2.out.keep (l:=[]) ((Bar.refl [] w2).alloc (.cells (mcells t h (kp key 92)) 172)) (by simp))
  have H3:=ae.mk (H2.out.bar (l:=[]) ((Bar.refl [] w2).alloc (.cells (mcells t h (kp key 92)) 172)) (by simp) (by simp))
  have B3:=ae.mk (B2.out.alloc (.cells (mcells t h (kp key 92)) 172))
  have hhm:h < m:=by omega
  have htm:t < m:=by omega
  have hwm:w.heap.size≤m:=by have:=B2.out.size;omega
  have hs3:(w2.alloc (.cells (mcells t h (kp key 92)) 172)).heap.size=m+1:=by simp[hm]
  clear e1 e2 R2 H2 B2 hm
  generalize w2.alloc (.cells (mcells t h (kp key 92)) 172)=w3 at *
  have KM:=ae.mk km
  clear km
  refine(iE A n cap key 54 w3 R3.out (by omega) ⟨by omega,by omega⟩).mono ?_
  rintro e w4 ⟨rfl,b4⟩
  have KM4:=ae.mk (KM.out.below b4 (by omega))
  have H4:=ae.mk (H3.out.bar (barOf b4 []) (by simp) (by simp))
  have B4:=ae.mk (B3.out.trans (barOf b4 [t]) (by simp))
  have hs4:m+1≤w4.heap.size:=hs3▸b4.size
  clear b4 KM H3 B3 R3 hs3
  obtain⟨p,hp⟩:∃ p,w4.heap.size=p:=⟨_,rfl⟩
  have hpm:m+1≤p:=by omega
  go_wp2_with ((with_reducible refine selS 169 (.tmp 6) (.tmp 21) ?_);refine wpList_store_row rfl 169 (.tmp 6) (.tmp 21) rfl p _ rfl rfl 169 _ (Blk.new_at _ _ _ p hp.symm) (by rw[au,aW];kernel_rfl) (by rw[au,aW];rfl) (all_oneCell_toArray (ay _ _)) ?_;refine uC (fun w'=>Blk w' p 169 (arr .u8 (kp key 54))∧Bar [] w4 w') (And.intro ((Blk.new_at _ _ _ p hp.symm).row _) (((Bar.refl [] w4).alloc _).trans (bar_setRow _ p _) (by simp;omega))) ?_;rintro w5 ⟨c5,b5⟩;have C5:=ae.mk c5;have B5:=ae.mk (B4.out.trans b5 (by simp));have H5:=ae.mk (H4.out.bar b5 (by simp) (by simp));have KM5:=ae.mk (KM4.out.bar b5 (by simp));have q1:w5.cell? ⟨m,1,none⟩=some (.pointer (some ⟨h,0,none⟩)):=(KM5.out.cell 1).trans (mc_1 _ _ _);clear c5 b5 hp KM4 H4 B4)
  refine wp_region_still_tail 5 (by kernel_rfl) (by kernel_rfl) ?_
  simp only[List.take_succ_cons,List.take_zero,List.drop_succ_cons,List.drop_zero]
  repeat still_step
  refine wpStill_nil ?_
  change wpList _ _ _ _ _ w5.drew
  go_wp2_with fail
  refine(write_any h t [] (kp key 54) (some ⟨p,0,none⟩) 64 64 w5.drew H5.out.drew ⟨aW _ _,iG _ _,.inr ⟨p,0,rfl,by omega,fun i hi=>by rw[Nat.zero_add];exact C5.out.at_ i (by rw[aW];exact hi)⟩⟩ (by omega) (by omega) (by simp)).mono ?_
  rintro e w6 ⟨rfl,h6,b6⟩
  rw[List.nil_append] at h6
  have KM6:=ae.mk (KM5.out.drew.bar b6 (by simp;omega))
  have H6:=ae.mk h6
  have B6:=ae.mk (B5.out.drew.trans b6 (by simp;omega))
  clear h6 b6 KM5 H5 B5 C5 q1
  go_wp2
  go_ret
  refine⟨m,h,rfl,hwm,hwh,⟨by omega,by omega,by rw[kC hbig'];exact KM6.out,?_⟩,B6.out⟩
  rw[kC hbig',List.append_nil]
  exact H6.out
def bD (t:Nat) (text:List Int) (w:World) (e:Ending) (w':World):Prop:=∃ M,e=.returned (.slice (some ⟨M,0,none⟩) 32 32)∧w.heap.size≤M∧Blk w' M 5 (arr .u8 text)∧Made w' t∧Bar [t] w w'
theorem EW (m h t:Nat) (key text:List Int) (w:World) (hm:Mc w m h t key text) (htot:text.length < 288230376151711744) :
  Calls Tryz.prog 38 #[.pointer (some ⟨m,0,none⟩)] w (bD t (Ia key text) w):=by
 obtain⟨hmt,hmh,km,hs⟩:=hm
 have c0:w.cell? ⟨m,0,none⟩=some (.pointer (some ⟨t,0,none⟩)):=(km.cell 0).trans (mc_0 _ _ _)
 have hht:=hs.1
 have hmlt:=km.lt
 have htlt:t < w.heap.size:=Blk.lt hs.2.1
 have hhlt:=Hs.lt hs
 have KM:=ae.mk km
 have HH:=ae.mk hs
 clear km hs
 go_enter Tryz.func38,Tryz.ntmps38
 go_wp2_with fail
 refine(new_any t w (.inr HH.out.2.1)).mono ?_
 rintro e w1 ⟨g,rfl,hg,hs1,b1⟩
 have G1:=ae.mk hs1
 have K1:=ae.mk (KM.out.bar b1 (by simpa using hmt))
 have H1:=ae.mk (HH.out.other b1 hs1.2.1)
 have B1:=ae.mk b1
 have c1:w1.cell? ⟨m,1,none⟩=some (.pointer (some ⟨h,0,none⟩)):=(K1.out.cell 1).trans (mc_1 _ _ _)
 clear hs1 b1 KM HH c0
 go_wp2_with fail
 refine(write_any g t [] (kp key 92) (some ⟨m,2,none⟩) 64 64 w1 G1.out ⟨aW _ _,iG _ _,.inr ⟨m,2,rfl,by omega,fun i hi=>(K1.out.cell (2+i)).trans (X8 _ _ _ i (by rw[aW];exact hi))⟩⟩ (by omega) (by omega) (by simp)).mono ?_
 rintro e w2 ⟨rfl,hs2,b2⟩
 rw[List.nil_append] at hs2
 have G2:=ae.mk hs2
 have K2:=ae.mk (K1.out.bar b2 (by simp;omega))
 have H2:=ae.mk (H1.out.bar b2 (by simp;omega) (by simp;omega))
 have B2:=ae.mk (B1.out.trans b2 (by simp;omega))
 have c2:w2.cell? ⟨m,1,none⟩=some (.pointer (some ⟨h,0,none⟩)):=(K2.out.cell 1).trans (mc_1 _ _ _)
 clear hs2 b2 G1 K1 H1 B1 c1
 go_wp2_with fail
 refine(sum_any h t (kp key 54++text) w2 H2.out (by rw[List.length_append,aW];omega)).mono ?_
 rintro e w3 ⟨M1,rfl,hM1,k3,b3⟩
 have G3:=ae.mk (G2.out.bar (barOf b3 []) (by simp) (by simp))
 have B3:=ae.mk (B2.out.trans (barOf b3 [t]) (by simp))
 have R3:=ae.mk (Rd.blk k3 (fU _) (eF _))
 have K3:=ae.mk k3
 have hgM:g≠M1:=by have:=Hs.lt G2.out;omega
 clear b3 k3 G2 B2 H2 K2 c2
 go_wp2_with fail
 refine(write_any g t (kp key 92) (sha (kp key 54++text)) (some ⟨M1,0,none⟩) 32 32 w3 G3.out ⟨eF _,fU _,.inr ⟨M1,0,rfl,by omega,fun i hi=>by rw[Nat.zero_add];exact K3.out.at_ i (by rw[eF];exact hi)⟩⟩ (by omega) (by omega) (by rw[aW];omega)).mono ?_
 rintro e w4 ⟨rfl,hs4,b4⟩
 have G4:=ae.mk hs4
 have B4:=ae.mk (B3.out.trans b4 (by simp;omega))
 clear hs4 b4 G3 B3 R3 K3
 go_wp2_with fail
 refine(sum_any g t (kp key 92++sha (kp key 54++text)) w4 G4.out (by rw[List.length_append,aW,eF];omega)).mono ?_
 rintro e w5 ⟨M2,rfl,hM2,k5,b5⟩
 have B5:=ae.mk (B4.out.trans (barOf b5 [t]) (by simp))
 have M5:=ae.mk (Hs.bar G4.out (barOf b5 []) (by simp) (by simp)).2.1
 have K5:=ae.mk k5
 have hMw:w.heap.size≤M2:=by have:=B4.out.size;omega
 clear b5 k5 G4 B4
 go_wp2
 go_ret
 exact⟨M2,rfl,hMw,K5.out,M5.out,B5.out⟩
theorem wQ (t:Nat) (A Bb:Option Addr) (na ca nb cb:Nat) (key text:List Int) (w:World) (ht:Tab w t) (hra:Rd w A na key) (hrb:Rd w Bb nb text) (hca:na≤ca) (hma:ca≤9223372036854775807) (hcb:nb≤cb) (hmb:cb≤9223372036854775807) (hn:na < 1073741824) (hm:nb < 1073741824) :
  Calls Tryz.prog 69 #[.pointer (some ⟨t,0,none⟩),.slice A na ca,.slice Bb nb cb] w (bD t (hmac key text) w):=by
 have HT:=ae.mk ht
 have RA:=ae.mk hra
 have RB:=ae.mk hrb
 have LB:=ae.mk hrb.1
 clear ht hra hrb
 go_enter Tryz.func69,Tryz.ntmps69
 go_wp2_with fail
 refine(EU t A na ca key w HT.out RA.out hca hma hn).mono ?_
 rintro e w1 ⟨m,h,rfl,hm,hh,mc,b1⟩
 have MC:=ae.mk mc
 have SB:=ae.mk (RB.out.sl HT.out b1 hh)
 have B1:=ae.mk b1
 clear mc b1
 go_wp2_with fail
 refine(nI m h t (keyOf key) [] text Bb nb cb w1 MC.out SB.out hcb hmb (by simp;omega)).mono ?_
 rintro e w2 ⟨rfl,mc,b2⟩
 rw[List.nil_append] at mc
 have B2:=ae.mk (B1.out.trans b2 (by simp;omega))
 replace MC:=ae.mk mc
 clear mc b2 SB B1
 go_wp2_with fail
 refine(EW m h t (keyOf key) text w2 MC.out (by rw[LB.out];omega)).mono ?_
 rintro e w3 ⟨M,rfl,hM,k3,m3,b3⟩
 have K3:=ae.mk k3
 have M3:=ae.mk m3
 have B3:=ae.mk (B2.out.trans b3 (by simp))
 have hwM:w.heap.size≤M:=by have:=B2.out.size;omega
 clear k3 m3 b3 MC B2
 go_wp2
 go_ret
 exact⟨M,rfl,hwM,K3.out,M3.out,B3.out⟩
theorem Nr (A B:Option Addr) (n m c d:Nat) (xs ys:List Int) (w:World) (ha:Rd w A n xs) (hb:Rd w B m ys) (hc:n≤c) (hd:m≤d) (hmc:c≤9223372036854775807) :
  Calls Tryz.prog 172 #[.slice A n c,.slice B m d] w fun e w'=>e=.returned (.bool (sameB xs ys))∧Below w.heap.size w w':=by
 have RA:=ae.mk ha
 have RB:=ae.mk hb
 have LA:=ae.mk ha.1
 have LB:=ae.mk hb.1
 clear ha hb
 by_cases hnm:n=m
 ·subst hnm
  have hsame:=ae.mk (MQ RA.out.2.1 RB.out.2.1 (by rw[LA.out,LB.out]))
  go_enter Tryz.func172,Tryz.ntmps172
  go_wp2
  go_loopw [5,14] (fun u i wr=>∃ k:Nat,k≤n∧u=.int .u8 (dif (at_ xs) (at_ ys) k)∧i=.int .i64 k∧ae (Below w.heap.size w wr)) (fun _ i _=>n - (intOf i).toNat)
  case atStart=>exact⟨0,by omega,rfl,rfl,⟨Below.refl _ _⟩⟩
  case round =>
   obtain⟨k,hk,rfl,rfl,BW⟩:=hrel
   by_cases hkn:k < n
   ·obtain⟨b1,o1,rfl,hc1⟩:=(RA.out.below BW.out).2.2.resolve_left (by omega)
    obtain⟨b2,o2,rfl,hc2⟩:=(RB.out.below BW.out).2.2.resolve_left (by omega)
    have x0:=hc1 k hkn
    have y0:=hc2 k hkn
    have hkn':(k:Int) < n:=by omega
    have hdif:=ae.mk (show dif (at_ xs) (at_ ys) (k+1)=bits .or .u8 (dif (at_ xs) (at_ ys) k) (bits .xor .u8 (at_ xs k) (at_ ys k)) from rfl)
    have hx:=RA.out.2.1.at_ k
    have hy:=RB.out.2.1.at_ k
    have hdk:=dif8 (at_ xs) (at_ ys) k
    generalize dif (at_ xs) (at_ ys) k=z at *
    generalize at_ xs k=x at *
    generalize at_ ys k=y at *
    obtain⟨hx1,hx2⟩:=hx
    obtain⟨hy1,hy2⟩:=hy
    obtain⟨hz1,hz2⟩:=hdk
    clear hc1 hc2
    go_wp2
    go_quiet (fail)
    replace BW:ae (Below w.heap.size w (wr.drewN nq)):=⟨below_drewN BW.out _⟩
    generalize wr.drewN nq=wq at *
    go_wp2
    go_roundw
    case rel=>exact⟨k+1,by omega,by rw[hdif.out],by go_num,BW⟩
    case measure=>simp[intOf];omega
   ·have hkn':¬ (k:Int) < n:=by omega
    obtain rfl:k=n:=by omega
    have hs2:=hsame.out
    rw[LA.out] at hs2
    have hdk:=dif8 (at_ xs) (at_ ys) k
    generalize dif (at_ xs) (at_ ys) k=z at *
    obtain⟨hz1,hz2⟩:=hdk
    have HS:=ae.mk hs2
    clear hs2 hsame
    by_cases hz:z=0
    ·subst hz
     go_wp2
     go_ret
     exact⟨by rw[← HS.out];rfl,BW.out⟩
    ·have hzb:(z == 0)=false:=by simpa using hz
     have hzd:decide (z=0)=false:=by simpa using hz
     rw[hzd] at HS
     go_wp2
     go_ret
     exact⟨by rw[← HS.out];first|rfl|simp[hz],BW.out⟩
 ·have hf:sameB xs ys=false:=Jn (by rw[LA.out,LB.out];exact hnm)
  rw[hf]
  have hnm':¬ (n:Int)=m:=by omega
  go_enter Tryz.func172,Tryz.ntmps172
  go_wp2
  go_ret
  exact⟨rfl,Below.refl _ _⟩
end Mac
end Go.Proofs.YtlkeieoecfkkeaaGreat
