/-
  Parts laid together: ShaMix ShaHash ShaWr ShaWrite ShaSum ShaSum2 ShaOne.
-/
import Derived.Test.YtlkeieoecfkkeaaGreatPart14
import Derived.Lib.QuietBelow
set_option maxRecDepth 100000
set_option maxHeartbeats 1000000
namespace Go.Proofs.YtlkeieoecfkkeaaGreat
namespace Sha
open Go.RowKit
def hcl (tp:Nat) (s r:List Int) (n:Int):List Value:=[.pointer (some ⟨tp,0,none⟩)]++(ints .u32 s++(ints .u8 r++[.int .u64 n]))
def hcells (tp:Nat) (s r:List Int) (n:Int):Array Value:=(hcl tp s r n).toArray
section
variable (tp : Nat) (s r : List Int) (n : Int)
theorem qA (hs:s.length=8) (hr:r.length=64):(hcl tp s r n).length=74:=by simp[hcl,ints_len,hs,hr]
theorem hc_0:(hcells tp s r n)[0]?=some (.pointer (some ⟨tp,0,none⟩)):=by simp[hcells,hcl]
theorem aK (hs:s.length=8) (i:Nat) (hi:i < 8):(hcells tp s r n)[1+i]?=some (.int .u32 (at_ s i)):=by
 rw[hcells,List.getElem?_toArray,hcl,List.getElem?_append_right (by simp),List.getElem?_append_left (by simp[ints_len,hs];omega)]
 simpa using ints_at .u32 s i (by omega)
theorem Un (hs:s.length=8) (hr:r.length=64) (i:Nat) (hi:i < 64):(hcells tp s r n)[9+i]?=some (.int .u8 (at_ r i)):=by
 rw[hcells,List.getElem?_toArray,hcl,List.getElem?_append_right (show 1≤9+i by omega),List.getElem?_append_right (by simp[ints_len,hs];try omega),List.getElem?_append_left (by simp[ints_len,hs,hr];try omega)]
 have:=ints_at .u8 r i (by omega)
 simpa [ints_len,hs,show 9+i - 1 - 8=i by omega] using this
theorem BC (hs:s.length=8) (hr:r.length=64):(hcells tp s r n)[73]?=some (.int .u64 n):=by
 rw[hcells,List.getElem?_toArray,hcl,List.getElem?_append_right (by simp),List.getElem?_append_right (by simp[ints_len,hs]),List.getElem?_append_right (by simp[ints_len,hs,hr])]
 simp[ints_len,hs,hr]
theorem V8 (hs:s.length=8) (i:Nat) (hi:i < 8) (x:Int):(hcells tp s r n).setIfInBounds (1+i) (.int .u32 x)=hcells tp (s.set i x) r n:=by
 rw[hcells,List.setIfInBounds_toArray,hcl,List.set_append_right _ _ (by simp),List.set_append_left _ _ (by simp[ints_len,hs];omega)]
 simp[hcells,hcl,ints_set,Nat.add_sub_cancel_left]
theorem JK (hs:s.length=8) (hr:r.length=64) (x:Int):(hcells tp s r n).setIfInBounds 73 (.int .u64 x)=hcells tp s r x:=by
 rw[hcells,List.setIfInBounds_toArray,hcl,List.set_append_right _ _ (by simp),List.set_append_right _ _ (by simp[ints_len,hs]),List.set_append_right _ _ (by simp[ints_len,hs,hr])]
 simp[hcells,hcl,ints_len,hs,hr]
end
theorem vO (hb tb bb bo cap:Nat) (s:S8) (hs:s.ok) (r:List Int) (n:Int) (b:List Int) (w:World) (hbl:b.length=64) (hby:Bytes b) (hcap:64≤cap)
  (hm:Made w tb) (hh:Blk w hb 221 (hcells tb s.toL r n)) (hc:∀ i,i < 64→w.cell? ⟨bb,bo+i,none⟩=some (.int .u8 (at_ b i))) :
  Calls Tryz.prog 113 #[.pointer (some ⟨hb,0,none⟩),.slice (some ⟨bb,bo,none⟩) 64 cap] w
   fun e w'=>e=.returned (.tuple #[])∧Blk w' hb 221 (hcells tb (mixed s b).toL r n)∧Bar [hb] w w':=by
 have c0:=Lib.hid fun w' h=>FY bb bo cap b w' hbl hby hcap h
 have Hc:=Lib.hid hc
 have Hm:=Lib.hid hm
 have Hh:=Lib.hid hh
 have Hs:=Lib.hid hs
 clear hc hm hh hs hbl hby hcap
 go_enter Tryz.func113,Tryz.ntmps113
 go_wp2_with fail
 refine(c0.out _ Hc.out).mono ?_
 rintro e w1 ⟨rfl,hb1⟩
 simp only[]
 go_step
 go_step
 go_step
 go_step
 refine wpList_store_row rfl 86 (.tmp 4) (.tmp 8) rfl w1.heap.size (arr .u32 (sched b)) rfl rfl 86 _ (heap_alloc_new _ _) (by rw[au,bG];kernel_rfl) (by rw[au,bG];rfl) (all_oneCell_toArray (ay _ _)) ?_
 obtain⟨M,hM⟩:∃ M,w1.heap.size=M:=⟨_,rfl⟩
 have hMw:w.heap.size≤M:=by rw[← hM];exact hb1.size
 have k1:Blk ((w1.alloc (.cells (List.replicate 64 (Value.int .u32 0)).toArray 86)).setRow w1.heap.size (arr .u32 (sched b))) w1.heap.size 86 (arr .u32 (sched b)):=(Blk.new _ _ _).row _
 have b2:Below w.heap.size w ((w1.alloc (.cells (List.replicate 64 (Value.int .u32 0)).toArray 86)).setRow w1.heap.size (arr .u32 (sched b))):=below_setRow (hb1.alloc hb1.size _) hb1.size _
 change wpList _ _ _ _ _ ((w1.alloc (.cells (List.replicate 64 (Value.int .u32 0)).toArray 86)).setRow w1.heap.size (arr .u32 (sched b)))
 generalize (w1.alloc (.cells (List.replicate 64 (Value.int .u32 0)).toArray 86)).setRow w1.heap.size (arr .u32 (sched b))=w2 at *
 rw[hM] at k1 ⊢
 have k2:Blk w2 hb 221 (hcells tb s.toL r n):=Hh.out.below b2 Hh.out.lt
 have m2:Made w2 tb:=Hm.out.below b2 Hm.out.lt
 have e0':=(k2.cell 0).trans (hc_0 _ _ _ _)
 have e0:w2.cell? ⟨hb,1,none⟩=some (.int .u32 s.a):=(k2.cell 1).trans (aK _ _ _ _ rfl 0 (by omega))
 have e1:w2.cell? ⟨hb,2,none⟩=some (.int .u32 s.b):=(k2.cell 2).trans (aK _ _ _ _ rfl 1 (by omega))
 have e2:w2.cell? ⟨hb,3,none⟩=some (.int .u32 s.c):=(k2.cell 3).trans (aK _ _ _ _ rfl 2 (by omega))
 have e3:w2.cell? ⟨hb,4,none⟩=some (.int .u32 s.d):=(k2.cell 4).trans (aK _ _ _ _ rfl 3 (by omega))
 have e4:w2.cell? ⟨hb,5,none⟩=some (.int .u32 s.e):=(k2.cell 5).trans (aK _ _ _ _ rfl 4 (by omega))
 have e5:w2.cell? ⟨hb,6,none⟩=some (.int .u32 s.f):=(k2.cell 6).trans (aK _ _ _ _ rfl 5 (by omega))
 have e6:w2.cell? ⟨hb,7,none⟩=some (.int .u32 s.g):=(k2.cell 7).trans (aK _ _ _ _ rfl 6 (by omega))
 have e7:w2.cell? ⟨hb,8,none⟩=some (.int .u32 s.h):=(k2.cell 8).trans (aK _ _ _ _ rfl 7 (by omega))
 have q0:=cell_regrown e0'
 have q1:=cell_regrown e0
 have q2:=cell_regrown e1
 have q3:=cell_regrown e2
 have q4:=cell_regrown e3
 have q5:=cell_regrown e4
 have q6:=cell_regrown e5
 have q7:=cell_regrown e6
 have q8:=cell_regrown e7
 have cM:∀ d os,Calls Tryz.prog 112 #[.pointer (some ⟨tb,0,none⟩)] (Go.Sort.grow (redrawn w2 d) os) fun e w''=>e=.returned (.pointer (some ⟨tb,0,none⟩))∧∃ p:Regrown,w''=Go.Sort.grow (redrawn w2 p.d) p.os:=fun d os =>
  Calls.regrown_of ((sQ tb _ (m2.below (below_regrown w2 d os) m2.lt)).mono fun _ _ ⟨a,b⟩=>⟨a,b▸Below.refl _ _⟩)
 have cR:∀ d os,Calls Tryz.prog 150 #[.agg #[.int .u32 s.a,.int .u32 s.b,.int .u32 s.c,.int .u32 s.d,.int .u32 s.e,.int .u32 s.f,.int .u32 s.g,.int .u32 s.h],.pointer (some ⟨tb,3,none⟩),.pointer (some ⟨M,0,none⟩)] (Go.Sort.grow (redrawn w2 d) os)
   fun e w''=>e=.returned (.agg (arr .u32 (rnds s (at_ (sched b)) 64).toL))∧∃ p:Regrown,w''=Go.Sort.grow (redrawn w2 p.d) p.os:=fun d os =>
  Calls.regrown_of (FZ s Hs.out (at_ (sched b)) (fH b) tb M 0 _
   (fun i hi=>((below_regrown w2 d os).cell (p:=⟨tb,3+i,none⟩) m2.lt).trans ((m2.cell (3+i)).trans (by rw[oL _ _ _ _ _ _ hi,if_pos hi])))
   (fun i hi=>((below_regrown w2 d os).cell (p:=⟨M,0+i,none⟩) k1.lt).trans (by rw[Nat.zero_add];exact k1.at_ i (by rw[bG];exact hi))))
 have K2:=Lib.hid k2
 clear k1 k2 m2 hM e0' e0 e1 e2 e3 e4 e5 e6 e7
 replace cM:=Lib.hid cM
 replace cR:=Lib.hid cR
 go_wp2
 refine wp_region_quiet_below (by kernel_rfl) (by kernel_rfl) ?_
 repeat (quiet_step (first|exact cM.out _ _|exact cR.out _ _))
 refine wpQuiet_nil ?_
 intro _ hw'
 obtain⟨⟨dq,osq⟩,hw''⟩:=hw'
 subst hw''
 have b3:=below_regrown w2 dq osq
 have k3:=K2.out.below b3 K2.out.lt
 replace b3:=barOf (b2.trans (b3.mono b2.size)) [hb]
 clear q0 q1 q2 q3 q4 q5 q6 q7 q8 cM cR b2 K2
 simp only[]
 generalize Go.Sort.grow (redrawn w2 dq) osq=w3 at *
 obtain⟨V,hV⟩:∃ V,rnds s (at_ (sched b)) 64=V:=⟨_,rfl⟩
 have HV:=ae.mk hV
 rw[hV]
 clear hV
 go_wp2
 go_loopw [21] (fun i wr=>∃ k:Nat,k≤8∧i=.int .i64 k∧Hid (Blk wr hb 221 (hcells tb (rZ s.toL V.toL k) r n))∧Bar [hb] w wr) (fun i _=>8 - (Go.RowKit.intOf i).toNat)
 case atStart=>exact⟨0,by omega,rfl,by rw[Ku _ _ rfl];exact k3,b3⟩
 case round =>
  clear k3 b3
  obtain⟨k,hk,rfl,h1,b1⟩:=hrel
  by_cases hlt:k < 8
  ·have k8:(k:Int) < 8:=by omega
   have hc0:=(h1.out.cell (1+k)).trans (aK _ _ _ _ (addTo_len _ _ _) k hlt)
   rw[jy _ _ _ _ hlt,if_neg (by omega)] at hc0
   have hz0:=h1.out.frozen (1+k)
   have hix:=Ac (P:=Tryz.prog) (k:=.u32) Tryz.underlying87 Tryz.underlying77 (by kernel_rfl) (show V.toL.length=8 from rfl) k hlt wr
   have e:=yH s.toL V.toL k
   generalize at_ s.toL k=x at *
   generalize at_ V.toL k=y at *
   have E:=ae.mk e
   clear e
   go_wp2
   refine wp_region_still_tail 11 (by kernel_rfl) (by kernel_rfl) ?_
   simp only[List.take_succ_cons,List.take_zero,List.drop_succ_cons,List.drop_zero]
   repeat still_step
   rw[IntKind.wrap_u32]
   refine wpStill_nil ?_
   change wpList _ _ _ _ _ wr.drew
   go_wp2
   go_roundw
   case rel =>
    refine⟨k+1,by omega,by go_num,?_,(b1.setCell (by simp) _).drew⟩
    have:=h1.out.set_ (1+k) (.int .u32 ((x+y) % 4294967296))
    rw[V8 _ _ _ _ (addTo_len _ _ _) _ hlt,E.out] at this
    exact this.drew
   case measure=>simp[Go.RowKit.intOf];omega
  ·have ek:k=8:=by omega
   have h2:=h1.out
   rw[ek,Kv] at h2
   clear ek
   go_wp2
   go_end0
   exact⟨rfl,by unfold mixed;rw[HV.out];exact h2,b1⟩
def Hs (w:World) (h t:Nat) (text:List Int):Prop:=h≠t∧Made w t∧Bytes text∧∃ r:List Int,r.length=64∧Bytes r∧r.take (text.length % 64)=text.drop (text.length / 64 * 64)∧Blk w h 221 (hcells t (st text).toL r (text.length:Nat))
theorem zc:Tryz.zeroCells221=([Value.pointer none,.int .u32 0,.int .u32 0,.int .u32 0,.int .u32 0,.int .u32 0,.int .u32 0,.int .u32 0,.int .u32 0]++(List.replicate 64 (Value.int .u8 0)++[Value.int .u64 0])).toArray:=by kernel_rfl
theorem We (t:Nat):(((((((((Tryz.zeroCells221.setIfInBounds 0 (.pointer (some ⟨t,0,none⟩))).setIfInBounds 1 (.int .u32 (hW 0:Nat))).setIfInBounds 2 (.int .u32 (hW 1:Nat))).setIfInBounds 3 (.int .u32 (hW 2:Nat))).setIfInBounds 4 (.int .u32 (hW 3:Nat))).setIfInBounds 5 (.int .u32 (hW 4:Nat))).setIfInBounds 6 (.int .u32 (hW 5:Nat))).setIfInBounds 7 (.int .u32 (hW 6:Nat))).setIfInBounds 8 (.int .u32 (hW 7:Nat)))=hcells t (st []).toL (List.replicate 64 0) (([]:List Int).length:Nat):=by
 have:st []=S0:=rfl
 rw[zc,this]
 simp[hcells,hcl,ints,S8.toL,S0]
def ig (t:Nat) (w:World) (e:Ending) (w':World):Prop:=∃ h,e=.returned (.pointer (some ⟨h,0,none⟩))∧w.heap.size≤h∧Hs w' h t []∧Bar [t] w w'
theorem new_any (t:Nat) (w:World) (ht:Tab w t):Calls Tryz.prog 71 #[.pointer (some ⟨t,0,none⟩)] w (ig t w):=by
 have c:=Lib.hid (OY t w ht)
 have tl:t < w.heap.size:=by
  rcases ht with h|h
  ·exact Blk.lt h
  ·exact Blk.lt h
 clear ht
 go_enter Tryz.func71,Tryz.ntmps71
 go_wp2_with fail
 refine c.out.mono ?_
 rintro e w1 ⟨rfl,k,b⟩
 have e0:w1.cell? ⟨t,67,none⟩=some (.int .u32 (hW 0:Nat)):=(k.cell 67).trans (bQ _ _ _ _ _ 0 (by omega))
 have e1:w1.cell? ⟨t,68,none⟩=some (.int .u32 (hW 1:Nat)):=(k.cell 68).trans (bQ _ _ _ _ _ 1 (by omega))
 have e2:w1.cell? ⟨t,69,none⟩=some (.int .u32 (hW 2:Nat)):=(k.cell 69).trans (bQ _ _ _ _ _ 2 (by omega))
 have e3:w1.cell? ⟨t,70,none⟩=some (.int .u32 (hW 3:Nat)):=(k.cell 70).trans (bQ _ _ _ _ _ 3 (by omega))
 have e4:w1.cell? ⟨t,71,none⟩=some (.int .u32 (hW 4:Nat)):=(k.cell 71).trans (bQ _ _ _ _ _ 4 (by omega))
 have e5:w1.cell? ⟨t,72,none⟩=some (.int .u32 (hW 5:Nat)):=(k.cell 72).trans (bQ _ _ _ _ _ 5 (by omega))
 have e6:w1.cell? ⟨t,73,none⟩=some (.int .u32 (hW 6:Nat)):=(k.cell 73).trans (bQ _ _ _ _ _ 6 (by omega))
 have e7:w1.cell? ⟨t,74,none⟩=some (.int .u32 (hW 7:Nat)):=(k.cell 74).trans (bQ _ _ _ _ _ 7 (by omega))
 have K:=Lib.hid k
 clear k
 go_wp2
 go_ret
 refine⟨w1.heap.size,rfl,b.size,⟨?_,K.out.alloc _,by intro x hx;simp at hx,List.replicate 64 0,by simp,?_,rfl,?_⟩,b.alloc _⟩
 ·have:=b.size;omega
 ·intro x hx
  obtain⟨_,rfl⟩:=List.mem_replicate.1 hx
  omega
 ·rw[← We]
  exact Blk.new_at _ _ _ _ rfl
theorem fP (t:Nat) (s r:List Int) (n:Int) (hs:s.length=8) (hr:r.length=64) (k:Nat) (cs:List Int) (hk:k+cs.length≤64) :
  splice (hcl t s r n) (9+k) (ints .u8 cs)=hcl t s (splice r k cs) n:=by
 have l1:([Value.pointer (some ⟨t,0,none⟩)]++ints .u32 s).length=9:=by simp[ints_len,hs]
 have e:hcl t s r n=([Value.pointer (some ⟨t,0,none⟩)]++ints .u32 s)++(ints .u8 r++[.int .u64 n]):=by simp[hcl]
 have e2:hcl t s (splice r k cs) n=([Value.pointer (some ⟨t,0,none⟩)]++ints .u32 s)++(ints .u8 (splice r k cs)++[.int .u64 n]):=by simp[hcl]
 rw[e,e2]
 unfold splice
 rw[List.take_append,List.drop_append,l1,List.take_of_length_le (by rw[l1];omega),show 9+k - 9=k by omega,show 9+k+(ints .u8 cs).length - 9=k+cs.length by rw[ints_len];omega,
  List.drop_eq_nil_of_le (by rw[l1,ints_len];omega),List.take_append_of_le_length (by rw[ints_len];omega),List.drop_append_of_le_length (by rw[ints_len];omega)]
 simp[ints]
theorem fQ {r cs:List Int}{k:Nat}(hk:k+cs.length≤r.length):(splice r k cs).length=r.length:=by simp[splice];omega
theorem dM {r cs:List Int}{k:Nat}(h1:Bytes r) (h2:Bytes cs):Bytes (splice r k cs):=(h1.take _).append (h2.append (h1.drop _))
def Sl (w:World) (A:Option Addr) (n:Nat) (xs:List Int) (hb:Nat):Prop :=
 xs.length=n∧Bytes xs∧(n=0∨∃ b o,A=some ⟨b,o,none⟩∧b≠hb∧∀ i,i < n→w.cell? ⟨b,o+i,none⟩=some (.int .u8 (at_ xs i)))
theorem Sl.bar {w w':World}{A:Option Addr}{n:Nat}{xs:List Int}{hb:Nat}{l:List Nat}(h:Sl w A n xs hb) (b:Bar l w w') (hl:∀ x∈l,x=hb∨w.heap.size≤x):Sl w' A n xs hb:=by
 obtain⟨h1,h2,h3⟩:=h
 refine⟨h1,h2,h3.imp id ?_⟩
 rintro ⟨bb,o,rfl,hne,hc⟩
 refine⟨bb,o,rfl,hne,fun i hi=>?_⟩
 have h:=hc i hi
 have hlt:bb < w.heap.size:=World.block_lt_of_cell? _ _ h
 rw[← h]
 exact World.cell?_of_block (w:=w) (b.block bb hlt (fun hm=>by
  rcases hl bb hm with h|h
  ·exact hne h
  ·omega))
theorem Sl.drop {w:World}{A:Option Addr}{n:Nat}{xs:List Int}{hb:Nat}(h:Sl w A n xs hb) (k:Nat) (hk:k≤n):Sl w (Option.map (fun x=>x.add k) A) (n - k) (xs.drop k) hb:=by
 obtain⟨h1,h2,h3⟩:=h
 refine⟨by simp;omega,h2.drop _,?_⟩
 rcases h3 with h3|⟨b,o,rfl,hne,hc⟩
 ·exact .inl (by omega)
 ·have e:(⟨b,o,none⟩:Addr).add k=⟨b,o+k,none⟩:=by cases k<;>simp[Addr.add]
  refine .inr ⟨b,o+k,by rw[Option.map_some,e],hne,fun i hi=>?_⟩
  rw[Nat.add_assoc,hc (k+i) (by omega),jQ]
theorem Sl.nil_ {w:World}{A:Option Addr}{hb:Nat}:Sl w A 0 [] hb:=⟨rfl,by intro x hx;simp at hx,.inl rfl⟩
theorem Sl.src {w:World}{A:Option Addr}{n:Nat}{xs:List Int}{hb:Nat}(h:Sl w A n xs hb) (m:Nat) (hm:m≤n):0 < (ints .u8 (xs.take m)).length→∃ ad,A=some ad∧∀ j v,(ints .u8 (xs.take m))[j]?=some v→w.cell? (ad.add j)=some v:=by
 obtain⟨h1,h2,h3⟩:=h
 intro hp
 rw[ints_len,List.length_take] at hp
 rcases h3 with h3|⟨b,o,rfl,hne,hc⟩
 ·omega
 ·refine⟨_,rfl,fun j v hj=>?_⟩
  have hjl:j < (xs.take m).length:=by
   have:=(List.getElem?_eq_some_iff.1 hj).1
   rwa [ints_len] at this
  rw[ints_at _ _ _ hjl,bY (by rw[List.length_take] at hjl;omega)] at hj
  rw[← hj]
  have e:(⟨b,o,none⟩:Addr).add j=⟨b,o+j,none⟩:=by cases j<;>simp[Addr.add]
  rw[e]
  exact hc j (by rw[List.length_take] at hjl;omega)
section
variable {text xs r : List Int}
theorem few (hr:r.length=64) (he:r.take (text.length % 64)=text.drop (text.length / 64 * 64)) (hn:text.length % 64+xs.length < 64) :
  (splice r (text.length % 64) xs).take ((text++xs).length % 64)=(text++xs).drop ((text++xs).length / 64 * 64)∧st (text++xs)=st text:=by
 refine⟨?_,BL _ _ hn⟩
 rw[List.length_append,show (text.length+xs.length) % 64=text.length % 64+xs.length by omega,show (text.length+xs.length) / 64=text.length / 64 by omega]
 rw[List.drop_append_of_le_length (by omega),← he]
 unfold splice
 rw[← List.append_assoc,List.take_append_of_le_length (by simp;omega),List.take_of_length_le (by simp;omega)]
theorem full (hr:r.length=64) (he:r.take (text.length % 64)=text.drop (text.length / 64 * 64)) (h0:0 < text.length % 64) (hn:64≤text.length % 64+xs.length) :
  st (text++xs.take (64 - text.length % 64))=mixed (st text) (splice r (text.length % 64) (xs.take (64 - text.length % 64))):=by
 obtain⟨h,hh⟩:∃ h,text.length % 64=h:=⟨_,rfl⟩
 have e1:text=text.take (text.length / 64 * 64)++r.take h:=by rw[← hh,he,List.take_append_drop]
 have l0:(text.take (text.length / 64 * 64)).length % 64=0:=by rw[List.length_take,Nat.min_eq_left (by omega)];omega
 have e2:splice r h (xs.take (64 - h))=r.take h++xs.take (64 - h):=by
  unfold splice
  rw[List.drop_eq_nil_of_le (by rw[List.length_take];omega),List.append_nil]
 rw[hh,e2]
 have e3:st text=st (text.take (text.length / 64 * 64)):=by
  conv=>lhs;rw[e1]
  rw[BL _ _ (by rw[l0,List.length_take];omega)]
 rw[e3,← Em _ _ l0 (by rw[List.length_append,List.length_take,List.length_take];omega),← List.append_assoc,← e1]
theorem more (p:Nat) (h:(text++xs.take p).length % 64=0) (hp:p+64≤xs.length):st (text++xs.take (p+64))=mixed (st (text++xs.take p)) ((xs.drop p).take 64):=by
 rw[← Em _ _ h (by simp;omega),List.append_assoc,List.take_add]
theorem left (p:Nat) (h:(text++xs.take p).length % 64=0) (hp:p≤xs.length) (hn:xs.length < p+64) :
  (splice r 0 (xs.drop p)).take ((text++xs).length % 64)=(text++xs).drop ((text++xs).length / 64 * 64)∧st (text++xs)=st (text++xs.take p):=by
 have l:(text++xs.take p).length=text.length+p:=by rw[List.length_append,List.length_take];omega
 rw[l] at h
 have e:text++xs=(text++xs.take p)++xs.drop p:=by rw[List.append_assoc,List.take_append_drop]
 constructor
 ·conv=>rhs;rw[e]
  rw[List.length_append,show (text.length+xs.length) % 64=xs.length - p by omega,List.length_append,l,List.length_drop,show (text.length+p+(xs.length - p)) / 64 * 64=text.length+p by omega,← l,List.drop_left]
  unfold splice
  simp
 ·rw[e,BL _ _ (by rw[l,List.length_drop];omega)]
end
def Wrel (hb t:Nat) (text xs:List Int) (w:World) (p c:Nat) (A:Option Addr) (r:List Int) (wr:World):Prop :=
 p≤xs.length∧xs.length - p≤c∧(text++xs.take p).length % 64=0∧Sl wr A (xs.length - p) (xs.drop p) hb∧r.length=64∧Bytes r∧Made wr t ∧
 Blk wr hb 221 (hcells t (st (text++xs.take p)).toL r (text.length+xs.length:Nat))∧Bar [hb] w wr
theorem Sl.some_ {w:World}{A:Option Addr}{n:Nat}{xs:List Int}{hb:Nat}(h:Sl w A n xs hb) (hn:0 < n):∃ b o,A=some ⟨b,o,none⟩∧b≠hb∧∀ i,i < n→w.cell? ⟨b,o+i,none⟩=some (.int .u8 (at_ xs i)):=by
 rcases h.2.2 with h|h
 ·omega
 ·exact h
theorem Uo (hb t:Nat) (text xs:List Int) (A:Option Addr) (n cap:Nat) (w:World) (hh:Hs w hb t text) (hs:Sl w A n xs hb) (hcap:n≤cap) (hmax:cap≤9223372036854775807) (htot:text.length+n < 1152921504606846976) (hheld:text.length % 64=0) :
  Calls Tryz.prog 73 #[.pointer (some ⟨hb,0,none⟩),.slice A n cap] w fun e w'=>e=.returned (.tuple #[])∧Hs w' hb t (text++xs)∧Bar [hb] w w':=by
 obtain⟨hne,hm,hby,r,hr,hrb,he,hblk⟩:=hh
 obtain⟨rfl,hbx,-⟩:=id hs
 have HBX:=ae.mk hbx
 clear hbx
 obtain⟨L,hL⟩:∃ L,text.length=L:=⟨_,rfl⟩
 rw[hL] at htot
 have HL:=ae.mk hL
 have c1:w.cell? ⟨hb,73,none⟩=some (.int .u64 (L:Nat)):=by rw[← hL];exact(hblk.cell 73).trans (BC _ _ _ _ rfl hr)
 have z1:=hblk.frozen 73
 obtain⟨X,hX⟩:∃ X,X=xs.length:=⟨_,rfl⟩
 have HX:=ae.mk hX
 have hheld':((L:Nat):Int) % 64=0:=by rw[← hL];omega
 have k0:ae (Wrel hb t text xs w 0 cap A r (w.setCell ⟨hb,73,none⟩ (.int .u64 ((L:Int)+(X:Int))))):=by
  refine⟨⟨Nat.zero_le _,by omega,by simpa using hheld,by simpa using hs.bar ((Bar.refl [hb] w).setCell (by simp) _) (by simp),hr,hrb,hm.far (by simpa using hne.symm) _,?_,(Bar.refl [hb] w).setCell (by simp) _⟩⟩
  have:=hblk.set_ 73 (.int .u64 ((L:Int)+(X:Int)))
  rw[JK _ _ _ _ rfl hr] at this
  rw[hX,← hL] at this ⊢
  simpa using this
 rw[← hX] at htot hcap ⊢
 clear hs hcap hblk he hr hrb hm hL hX hheld
 go_enter Tryz.func73,Tryz.ntmps73
 go_wp2
 rw[hheld']
 clear hheld'
 go_loopw [1] (fun v wr=>∃ (p c:Nat) (A:Option Addr) (r:List Int),v=.slice A (X - p) c∧ae (c≤9223372036854775807∧Wrel hb t text xs w p c A r wr)) (fun v _=>lenOf v)
 case atStart=>exact⟨0,cap,A,r,rfl,⟨hmax,k0.out⟩⟩
 case round =>
  clear k0
  obtain⟨p,c,A',r',rfl,hk⟩:=hrel
  obtain⟨hc,h⟩:=hk.out
  obtain⟨hp,hpc,hmod,hsl,hr,hrb,hm,hblk,hbar⟩:=h
  rw[← HX.out] at hp hpc hsl
  obtain⟨q,hq⟩:∃ q,X - p=q:=⟨_,rfl⟩
  rw[hq] at hpc hsl
  rw[hq]
  by_cases h64:64≤q
  ·obtain⟨b,o,rfl,hbn,hcell⟩:=hsl.some_ (by omega)
   have hql:(xs.drop p).length=q:=hsl.1
   have cm:=vO hb t b o c (st (text++xs.take p)) (GK _) r' _ ((xs.drop p).take 64) wr (by rw[List.length_take];omega) (hsl.2.1.take _) (by omega) hm hblk (fun i hi=>by rw[bY hi];exact hcell i (by omega))
   rw[← more p hmod (by have:=HX.out;omega)] at cm
   have hs2:=ae.mk (hsl.drop 64 h64)
   rw[Option.map_some,show (⟨b,o,none⟩:Addr).add 64=⟨b,o+64,none⟩ by simp[Addr.add],List.drop_drop] at hs2
   have hnext:∀ (w2:World) (A2:Option Addr),Sl w2 A2 (q - 64) (xs.drop (p+64)) hb→Blk w2 hb 221 (hcells t (st (text++xs.take (p+64))).toL r' (text.length+xs.length:Nat))→Bar [hb] wr w2→ae (c - 64≤9223372036854775807∧Wrel hb t text xs w (p+64) (c - 64) A2 r' w2):=by
    intro w2 A2 s2 k2 b2
    have hX:=HX.out
    refine⟨by omega,by omega,by omega,?_,by rw[show xs.length - (p+64)=q - 64 by omega];exact s2,hr,hrb,hm.bar b2 (by simpa using hne.symm),k2,hbar.trans b2 (by simp)⟩
    rw[List.length_append,List.length_take] at hmod ⊢
    omega
   have Cm:=ae.mk cm
   have Hnext:=ae.mk hnext
   have hq':X - (p+64)=q - 64:=by omega
   have Hq:=ae.mk hq'
   have Hsl:=ae.mk hsl
   clear hk hmod hsl hr hrb hm hblk hbar cm hnext hq hq' hql hcell hp
   by_cases hc64:c=64
   ·subst hc64
    have hq0:q - 64=0:=by omega
    go_wp2_with fail
    refine Cm.out.mono ?_
    rintro e w2 ⟨rfl,k2,b2⟩
    have rel:=Hnext.out w2 (some ⟨b,o,none⟩) (by
     have:=hs2.out.1
     rw[hq0] at this ⊢
     rw[List.eq_nil_of_length_eq_zero this]
     exact Sl.nil_) k2 b2
    replace rel:=ae.mk rel
    clear k2 b2
    go_wp2
    go_roundw
    case rel=>exact⟨p+64,64 - 64,_,r',by rw[Hq.out,hq0],rel.out⟩
    case measure=>simp[lenOf];omega
   ·go_wp2_with fail
    refine Cm.out.mono ?_
    rintro e w2 ⟨rfl,k2,b2⟩
    have rel:=Hnext.out w2 (some ⟨b,o+64,none⟩) (hs2.out.bar b2 (by simp)) k2 b2
    replace rel:=ae.mk rel
    clear k2 b2
    go_wp2
    go_roundw
    case rel=>exact⟨p+64,c - 64,_,r',by rw[Hq.out],rel.out⟩
    case measure=>simp[lenOf];omega
  ·have hlf:=left (r:=r') p hmod (by rw[← HX.out];omega) (by rw[← HX.out];omega)
   have hql:(xs.drop p).length=q:=hsl.1
   have hsrc:=hsl.src q (by omega)
   rw[List.take_of_length_le (by omega)] at hsrc
   have hby2:Bytes (xs.drop p):=hsl.2.1
   have fin:∀ w2,Blk w2 hb 221 (splice (hcl t (st (text++xs.take p)).toL r' (text.length+xs.length:Nat)) (9+0) (ints .u8 (xs.drop p))).toArray→Bar [hb] wr w2→Hs w2 hb t (text++xs)∧Bar [hb] w w2:=by
    intro w2 k2 b2
    rw[fP _ _ _ _ rfl hr 0 _ (by omega),← hlf.2] at k2
    refine⟨⟨hne,hm.bar b2 (by simpa using hne.symm),hby.append HBX.out,splice r' 0 (xs.drop p),by rw[fQ (by omega),hr],dM hrb hby2,hlf.1,?_⟩,hbar.trans b2 (by simp)⟩
    rw[List.length_append];exact k2
   have Fin:=ae.mk fin
   have Hsrc:=ae.mk hsrc
   have Hblk:=ae.mk hblk
   have Hql:=ae.mk hql
   have Hr:=ae.mk hr
   clear hk hmod hsl hr hrb hm hblk hbar hlf hq hql hp hby2 hsrc fin
   go_upto_region 10 with(fail)
   apply wp_region_lit
   go_wp2_with ((with_reducible refine sel 58 ?_);refine aC rfl (.tmp 56) (.tmp 57) 22 22 rfl 5 Tryz.underlying22 (by kernel_rfl) _ _ _ _ _ _ rfl rfl hb (9+0) _ 221 Hblk.out (ints .u8 (xs.drop p)) (by rw[ints_len,Hql.out];exact(Nat.min_eq_left (by omega)).symm) (fun h0=>⟨rfl,Hsrc.out h0⟩) (by rw[ints_len,Hql.out,qA _ _ _ _ rfl Hr.out];omega) (ay _ _) ?_;intro w2 HG HB)
   have F:=ae.mk (Fin.out w2 HG.out HB)
   clear HG HB
   go_wp2
   go_end0
   exact⟨rfl,F.out⟩
theorem Ur (hb t:Nat) (text xs:List Int) (A:Option Addr) (n cap:Nat) (w:World) (hh:Hs w hb t text) (hs:Sl w A n xs hb) (hcap:n≤cap) (hmax:cap≤9223372036854775807) (htot:text.length+n < 1152921504606846976) (hheld:0 < text.length % 64) :
  Calls Tryz.prog 73 #[.pointer (some ⟨hb,0,none⟩),.slice A n cap] w fun e w'=>e=.returned (.tuple #[])∧Hs w' hb t (text++xs)∧Bar [hb] w w':=by
 obtain⟨hne,hm,hby,r,hr,hrb,he,hblk⟩:=hh
 obtain⟨rfl,hbx,-⟩:=id hs
 have HBX:=ae.mk hbx
 clear hbx
 obtain⟨L,hL⟩:∃ L,text.length=L:=⟨_,rfl⟩
 obtain⟨h,hh⟩:∃ h,text.length % 64=h:=⟨_,rfl⟩
 rw[hL] at htot
 rw[hh] at hheld
 have hh64:h < 64:=by omega
 have hh64':(h:Int)≤64:=by omega
 have HL:=ae.mk hL
 have c1:w.cell? ⟨hb,73,none⟩=some (.int .u64 (L:Nat)):=by rw[← hL];exact(hblk.cell 73).trans (BC _ _ _ _ rfl hr)
 have z1:=hblk.frozen 73
 obtain⟨X,hX⟩:∃ X,X=xs.length:=⟨_,rfl⟩
 have HX:=ae.mk hX
 have hheld':((L:Nat):Int) % 64=(h:Nat):=by rw[← hL];omega
 have k0:=hblk.set_ 73 (.int .u64 ((L:Int)+(X:Int)))
 rw[JK _ _ _ _ rfl hr] at k0
 have s0:=hs.bar ((Bar.refl [hb] w).setCell (p:=⟨hb,73,none⟩) (by simp) (.int .u64 ((L:Int)+(X:Int)))) (by simp)
 have m0:Made (w.setCell ⟨hb,73,none⟩ (.int .u64 ((L:Int)+(X:Int)))) t:=hm.far (by simpa using hne.symm) _
 have b0:=(Bar.refl [hb] w).setCell (p:=⟨hb,73,none⟩) (by simp) (.int .u64 ((L:Int)+(X:Int)))
 obtain⟨m,hm'⟩:∃ m,min X (64 - h)=m:=⟨_,rfl⟩
 have hsrc:=s0.src m (by omega)
 have hlm:(xs.take m).length=m:=by rw[List.length_take];omega
 have fin1:X < 64 - h→∀ w2,Blk w2 hb 221 (splice (hcl t (st text).toL r ((L:Int)+(X:Int))) (9+h) (ints .u8 (xs.take m))).toArray→Bar [hb] (w.setCell ⟨hb,73,none⟩ (.int .u64 ((L:Int)+(X:Int)))) w2→Hs w2 hb t (text++xs)∧Bar [hb] w w2:=by
  intro hlt w2 k2 b2
  have e1:xs.take m=xs:=List.take_of_length_le (by omega)
  rw[e1] at k2
  have hf:=few (xs:=xs) hr he (by omega)
  rw[fP _ _ _ _ rfl hr h _ (by omega),← hf.2] at k2
  refine⟨⟨hne,m0.bar b2 (by simpa using hne.symm),hby.append HBX.out,splice r h xs,by rw[fQ (by omega),hr],dM hrb HBX.out,by rw[← hh];exact hf.1,?_⟩,b0.trans b2 (by simp)⟩
  rw[List.length_append,Int.natCast_add,← hX,hL];exact k2
 have fin2:64 - h≤X→∀ w2,Blk w2 hb 221 (splice (hcl t (st text).toL r ((L:Int)+(X:Int))) (9+h) (ints .u8 (xs.take m))).toArray→Bar [hb] (w.setCell ⟨hb,73,none⟩ (.int .u64 ((L:Int)+(X:Int)))) w2 →
   Calls Tryz.prog 113 #[.pointer (some ⟨hb,0,none⟩),.slice (some ⟨hb,9,none⟩) 64 64] w2 fun e w3=>e=.returned (.tuple #[])∧ae (Sl w3 A X xs hb∧∀ A2,Sl w3 A2 (X - m) (xs.drop m) hb→ae (cap - m≤9223372036854775807∧Wrel hb t text xs w m (cap - m) A2 (splice r h (xs.take m)) w3)):=by
  intro hge w2 k2 b2
  have hm2:m=64 - h:=by omega
  have hl2:(splice r h (xs.take m)).length=64:=by rw[fQ (by omega),hr]
  have hb2:Bytes (splice r h (xs.take m)):=dM hrb (HBX.out.take _)
  rw[fP _ _ _ _ rfl hr h _ (by omega)] at k2
  have mw:=m0.bar b2 (by simpa using hne.symm)
  refine(vO hb t hb 9 64 (st text) (GK _) _ _ _ w2 hl2 hb2 (Nat.le_refl _) mw k2 (fun i hi=>(k2.cell (9+i)).trans (Un _ _ _ _ rfl hl2 i hi))).mono ?_
  rintro e w3 ⟨rfl,k3,b3⟩
  have hf:=full (xs:=xs) hr he (by omega) (by omega)
  rw[hh,← hm2] at hf
  rw[← hf,← hL,← Int.natCast_add,hX] at k3
  refine⟨rfl,⟨?_,fun A2 s2=>⟨by omega,by omega,by omega,?_,by rw[← hX];exact s2,hl2,hb2,mw.bar b3 (by simpa using hne.symm),k3,(b0.trans b2 (by simp)).trans b3 (by simp)⟩⟩⟩
  ·have:=(s0.bar b2 (by simp)).bar b3 (by simp)
   rw[hX];exact this
  ·rw[List.length_append,hlm];omega
 have Fin1:=ae.mk fin1
 have Fin2:=ae.mk fin2
 have Hsrc:=ae.mk hsrc
 have K0:=ae.mk k0
 have Hlm:=ae.mk hlm
 have Hr:=ae.mk hr
 have S0:=ae.mk s0
 clear hsrc fin1 fin2 k0 s0 m0 b0 hblk he hr hrb hm hL hlm hh
 by_cases hlt:X < 64 - h
 ·rw[Nat.min_eq_left (by omega)] at hm'
  subst hm'
  rw[← hX] at hcap ⊢
  clear hX hs
  have hlt':(h:Int)+(X:Int) < 64:=by omega
  go_enter Tryz.func73,Tryz.ntmps73
  go_wp2_with ((with_reducible refine sel 30 ?_);refine aC rfl (.tmp 28) (.tmp 29) 22 22 rfl 5 Tryz.underlying22 (by kernel_rfl) _ _ _ _ _ _ rfl rfl hb (9+h) _ 221 K0.out (ints .u8 (xs.take X)) (by rw[ints_len,Hlm.out];exact(Nat.min_eq_left (by omega)).symm) (fun h0=>⟨rfl,Hsrc.out h0⟩) (by rw[ints_len,Hlm.out,qA _ _ _ _ rfl Hr.out];omega) (ay _ _) ?_;intro w2 HG HB;have F:=ae.mk (Fin1.out hlt w2 HG.out HB);clear HG HB;rw[ints_len,Hlm.out])
  go_wp2
  refine bodyPost_ret (results_none rfl _ _ _) rfl ?_
  exact⟨rfl,F.out⟩
 ·have hge:64 - h≤X:=by omega
  have em:min X (64 - h)=64 - h:=by omega
  rw[em] at hm'
  have hmX:m≤X:=by omega
  have eM:(64:Nat) - h=m:=hm'
  have EM:=ae.mk eM
  rw[← hX] at hcap ⊢
  clear hX hs em hm'
  obtain⟨g,hg⟩:∃ g,(h:Int)+(m:Int)=g:=⟨_,rfl⟩
  have hg64:(h:Int)+(m:Int)=64:=by omega
  by_cases hcm:cap=m
  ·obtain rfl:cap=X:=by omega
   obtain rfl:cap=m:=hcm
   clear hg eM
   go_enter Tryz.func73,Tryz.ntmps73
   go_wp2_with ((with_reducible refine sel 30 ?_);refine aC rfl (.tmp 28) (.tmp 29) 22 22 rfl 5 Tryz.underlying22 (by kernel_rfl) _ _ _ _ _ _ rfl rfl hb (9+h) _ 221 K0.out (ints .u8 (xs.take cap)) (by rw[ints_len,Hlm.out];exact by rw[EM.out];exact(Nat.min_self _).symm) (fun h0=>⟨rfl,Hsrc.out h0⟩) (by rw[ints_len,Hlm.out,qA _ _ _ _ rfl Hr.out];omega) (ay _ _) ?_;intro w2 HG HB;have F:=ae.mk (Fin2.out (by rw[EM.out];exact Nat.le_refl _) w2 HG.out HB);clear HG HB;rw[ints_len,Hlm.out])
   refine F.out.mono ?_
   rintro e w3 ⟨rfl,R⟩
   clear F
   have R0:=R.out.2 A (by rw[Nat.sub_self,List.drop_eq_nil_of_le (by have:=HX.out;omega)];exact Sl.nil_)
   rw[Nat.sub_self] at R0
   clear R K0 Fin1 Fin2 Hsrc Hlm S0 hge hlt
   go_wp2
   go_loopw [1] (fun v wr=>∃ (p c:Nat) (A:Option Addr) (r:List Int),v=.slice A (cap - p) c∧ae (c≤9223372036854775807∧Wrel hb t text xs w p c A r wr)) (fun v _=>lenOf v)
   case atStart=>exact⟨cap,0,A,splice r h (xs.take cap),by rw[Nat.sub_self],R0⟩
   case round =>
    clear R0
    obtain⟨p,c,A',r',rfl,hk⟩:=hrel
    obtain⟨hc,h⟩:=hk.out
    obtain⟨hp,hpc,hmod,hsl,hr,hrb,hm,hblk,hbar⟩:=h
    rw[← HX.out] at hp hpc hsl
    obtain⟨q,hq⟩:∃ q,cap - p=q:=⟨_,rfl⟩
    rw[hq] at hpc hsl
    rw[hq]
    by_cases h64:64≤q
    ·obtain⟨b,o,rfl,hbn,hcell⟩:=hsl.some_ (by omega)
     have hql:(xs.drop p).length=q:=hsl.1
     have cm:=vO hb t b o c (st (text++xs.take p)) (GK _) r' _ ((xs.drop p).take 64) wr (by rw[List.length_take];omega) (hsl.2.1.take _) (by omega) hm hblk (fun i hi=>by rw[bY hi];exact hcell i (by omega))
     rw[← more p hmod (by have:=HX.out;omega)] at cm
     have hs2:=ae.mk (hsl.drop 64 h64)
     rw[Option.map_some,show (⟨b,o,none⟩:Addr).add 64=⟨b,o+64,none⟩ by simp[Addr.add],List.drop_drop] at hs2
     have hnext:∀ (w2:World) (A2:Option Addr),Sl w2 A2 (q - 64) (xs.drop (p+64)) hb→Blk w2 hb 221 (hcells t (st (text++xs.take (p+64))).toL r' (text.length+xs.length:Nat))→Bar [hb] wr w2→ae (c - 64≤9223372036854775807∧Wrel hb t text xs w (p+64) (c - 64) A2 r' w2):=by
      intro w2 A2 s2 k2 b2
      have hX:=HX.out
      refine⟨by omega,by omega,by omega,?_,by rw[show xs.length - (p+64)=q - 64 by omega];exact s2,hr,hrb,hm.bar b2 (by simpa using hne.symm),k2,hbar.trans b2 (by simp)⟩
      rw[List.length_append,List.length_take] at hmod ⊢
      omega
     have Cm:=ae.mk cm
     have Hnext:=ae.mk hnext
     have hq':cap - (p+64)=q - 64:=by omega
     have Hq:=ae.mk hq'
     have Hsl:=ae.mk hsl
     clear hk hmod hsl hr hrb hm hblk hbar cm hnext hq hq' hql hcell hp
     by_cases hc64:c=64
     ·subst hc64
      have hq0:q - 64=0:=by omega
      go_wp2_with fail
      refine Cm.out.mono ?_
      rintro e w2 ⟨rfl,k2,b2⟩
      have rel:=Hnext.out w2 (some ⟨b,o,none⟩) (by
       have:=hs2.out.1
       rw[hq0] at this ⊢
       rw[List.eq_nil_of_length_eq_zero this]
       exact Sl.nil_) k2 b2
      replace rel:=ae.mk rel
      clear k2 b2
      go_wp2
      go_roundw
      case rel=>exact⟨p+64,64 - 64,_,r',by rw[Hq.out,hq0],rel.out⟩
      case measure=>simp[lenOf];omega
     ·go_wp2_with fail
      refine Cm.out.mono ?_
      rintro e w2 ⟨rfl,k2,b2⟩
      have rel:=Hnext.out w2 (some ⟨b,o+64,none⟩) (hs2.out.bar b2 (by simp)) k2 b2
      replace rel:=ae.mk rel
      clear k2 b2
      go_wp2
      go_roundw
      case rel=>exact⟨p+64,c - 64,_,r',by rw[Hq.out],rel.out⟩
      case measure=>simp[lenOf];omega
    ·have hlf:=left (r:=r') p hmod (by rw[← HX.out];omega) (by rw[← HX.out];omega)
     have hql:(xs.drop p).length=q:=hsl.1
     have hsrc:=hsl.src q (by omega)
     rw[List.take_of_length_le (by omega)] at hsrc
     have hby2:Bytes (xs.drop p):=hsl.2.1
     have fin:∀ w2,Blk w2 hb 221 (splice (hcl t (st (text++xs.take p)).toL r' (text.length+xs.length:Nat)) (9+0) (ints .u8 (xs.drop p))).toArray→Bar [hb] wr w2→Hs w2 hb t (text++xs)∧Bar [hb] w w2:=by
      intro w2 k2 b2
      rw[fP _ _ _ _ rfl hr 0 _ (by omega),← hlf.2] at k2
      refine⟨⟨hne,hm.bar b2 (by simpa using hne.symm),hby.append HBX.out,splice r' 0 (xs.drop p),by rw[fQ (by omega),hr],dM hrb hby2,hlf.1,?_⟩,hbar.trans b2 (by simp)⟩
      rw[List.length_append];exact k2
     have Fin:=ae.mk fin
     have Hsrc:=ae.mk hsrc
     have Hblk:=ae.mk hblk
     have Hql:=ae.mk hql
     have Hr:=ae.mk hr
     clear hk hmod hsl hr hrb hm hblk hbar hlf hq hql hp hby2 hsrc fin
     go_upto_region 10 with(fail)
     apply wp_region_lit
     go_wp2_with ((with_reducible refine sel 58 ?_);refine aC rfl (.tmp 56) (.tmp 57) 22 22 rfl 5 Tryz.underlying22 (by kernel_rfl) _ _ _ _ _ _ rfl rfl hb (9+0) _ 221 Hblk.out (ints .u8 (xs.drop p)) (by rw[ints_len,Hql.out];exact(Nat.min_eq_left (by omega)).symm) (fun h0=>⟨rfl,Hsrc.out h0⟩) (by rw[ints_len,Hql.out,qA _ _ _ _ rfl Hr.out];omega) (ay _ _) ?_;intro w2 HG HB)
     have F:=ae.mk (Fin.out w2 HG.out HB)
     clear HG HB
     go_wp2
     go_end0
     exact⟨rfl,F.out⟩
  ·obtain⟨b0,o0,rfl,hbn0,hcell0⟩:=S0.out.some_ (by have:=HX.out;omega)
   clear hcell0
   have hge2:(m:Int)≤(X:Int):=by omega
   clear hg eM
   go_enter Tryz.func73,Tryz.ntmps73
   go_wp2_with ((with_reducible refine sel 30 ?_);refine aC rfl (.tmp 28) (.tmp 29) 22 22 rfl 5 Tryz.underlying22 (by kernel_rfl) _ _ _ _ _ _ rfl rfl hb (9+h) _ 221 K0.out (ints .u8 (xs.take m)) (by rw[ints_len,Hlm.out];exact by rw[EM.out];exact(Nat.min_eq_right hmX).symm) (fun h0=>⟨rfl,Hsrc.out h0⟩) (by rw[ints_len,Hlm.out,qA _ _ _ _ rfl Hr.out];omega) (ay _ _) ?_;intro w2 HG HB;have F:=ae.mk (Fin2.out hge w2 HG.out HB);clear HG HB;rw[ints_len,Hlm.out])
   refine F.out.mono ?_
   rintro e w3 ⟨rfl,R⟩
   clear F
   have R0:=R.out.2 (some ⟨b0,o0+m,none⟩) (by
    have:=R.out.1.drop m hmX
    rwa [Option.map_some,show (⟨b0,o0,none⟩:Addr).add m=⟨b0,o0+m,none⟩ by cases m<;>simp[Addr.add]] at this)
   clear R K0 Fin1 Fin2 Hsrc Hlm S0 hge hlt
   go_wp2
   go_loopw [1] (fun v wr=>∃ (p c:Nat) (A:Option Addr) (r:List Int),v=.slice A (X - p) c∧ae (c≤9223372036854775807∧Wrel hb t text xs w p c A r wr)) (fun v _=>lenOf v)
   case atStart=>exact⟨m,cap - m,some ⟨b0,o0+m,none⟩,splice r h (xs.take m),rfl,R0⟩
   case round =>
    clear R0
    obtain⟨p,c,A',r',rfl,hk⟩:=hrel
    obtain⟨hc,h⟩:=hk.out
    obtain⟨hp,hpc,hmod,hsl,hr,hrb,hm,hblk,hbar⟩:=h
    rw[← HX.out] at hp hpc hsl
    obtain⟨q,hq⟩:∃ q,X - p=q:=⟨_,rfl⟩
    rw[hq] at hpc hsl
    rw[hq]
    by_cases h64:64≤q
    ·obtain⟨b,o,rfl,hbn,hcell⟩:=hsl.some_ (by omega)
     have hql:(xs.drop p).length=q:=hsl.1
     have cm:=vO hb t b o c (st (text++xs.take p)) (GK _) r' _ ((xs.drop p).take 64) wr (by rw[List.length_take];omega) (hsl.2.1.take _) (by omega) hm hblk (fun i hi=>by rw[bY hi];exact hcell i (by omega))
     rw[← more p hmod (by have:=HX.out;omega)] at cm
     have hs2:=ae.mk (hsl.drop 64 h64)
     rw[Option.map_some,show (⟨b,o,none⟩:Addr).add 64=⟨b,o+64,none⟩ by simp[Addr.add],List.drop_drop] at hs2
     have hnext:∀ (w2:World) (A2:Option Addr),Sl w2 A2 (q - 64) (xs.drop (p+64)) hb→Blk w2 hb 221 (hcells t (st (text++xs.take (p+64))).toL r' (text.length+xs.length:Nat))→Bar [hb] wr w2→ae (c - 64≤9223372036854775807∧Wrel hb t text xs w (p+64) (c - 64) A2 r' w2):=by
      intro w2 A2 s2 k2 b2
      have hX:=HX.out
      refine⟨by omega,by omega,by omega,?_,by rw[show xs.length - (p+64)=q - 64 by omega];exact s2,hr,hrb,hm.bar b2 (by simpa using hne.symm),k2,hbar.trans b2 (by simp)⟩
      rw[List.length_append,List.length_take] at hmod ⊢
      omega
     have Cm:=ae.mk cm
     have Hnext:=ae.mk hnext
     have hq':X - (p+64)=q - 64:=by omega
     have Hq:=ae.mk hq'
     have Hsl:=ae.mk hsl
     clear hk hmod hsl hr hrb hm hblk hbar cm hnext hq hq' hql hcell hp
     by_cases hc64:c=64
     ·subst hc64
      have hq0:q - 64=0:=by omega
      go_wp2_with fail
      refine Cm.out.mono ?_
      rintro e w2 ⟨rfl,k2,b2⟩
      have rel:=Hnext.out w2 (some ⟨b,o,none⟩) (by
       have:=hs2.out.1
       rw[hq0] at this ⊢
       rw[List.eq_nil_of_length_eq_zero this]
       exact Sl.nil_) k2 b2
      replace rel:=ae.mk rel
      clear k2 b2
      go_wp2
      go_roundw
      case rel=>exact⟨p+64,64 - 64,_,r',by rw[Hq.out,hq0],rel.out⟩
      case measure=>simp[lenOf];omega
     ·go_wp2_with fail
      refine Cm.out.mono ?_
      rintro e w2 ⟨rfl,k2,b2⟩
      have rel:=Hnext.out w2 (some ⟨b,o+64,none⟩) (hs2.out.bar b2 (by simp)) k2 b2
      replace rel:=ae.mk rel
      clear k2 b2
      go_wp2
      go_roundw
      case rel=>exact⟨p+64,c - 64,_,r',by rw[Hq.out],rel.out⟩
      case measure=>simp[lenOf];omega
    ·have hlf:=left (r:=r') p hmod (by rw[← HX.out];omega) (by rw[← HX.out];omega)
     have hql:(xs.drop p).length=q:=hsl.1
     have hsrc:=hsl.src q (by omega)
     rw[List.take_of_length_le (by omega)] at hsrc
     have hby2:Bytes (xs.drop p):=hsl.2.1
     have fin:∀ w2,Blk w2 hb 221 (splice (hcl t (st (text++xs.take p)).toL r' (text.length+xs.length:Nat)) (9+0) (ints .u8 (xs.drop p))).toArray→Bar [hb] wr w2→Hs w2 hb t (text++xs)∧Bar [hb] w w2:=by
      intro w2 k2 b2
      rw[fP _ _ _ _ rfl hr 0 _ (by omega),← hlf.2] at k2
      refine⟨⟨hne,hm.bar b2 (by simpa using hne.symm),hby.append HBX.out,splice r' 0 (xs.drop p),by rw[fQ (by omega),hr],dM hrb hby2,hlf.1,?_⟩,hbar.trans b2 (by simp)⟩
      rw[List.length_append];exact k2
     have Fin:=ae.mk fin
     have Hsrc:=ae.mk hsrc
     have Hblk:=ae.mk hblk
     have Hql:=ae.mk hql
     have Hr:=ae.mk hr
     clear hk hmod hsl hr hrb hm hblk hbar hlf hq hql hp hby2 hsrc fin
     go_upto_region 10 with(fail)
     apply wp_region_lit
     go_wp2_with ((with_reducible refine sel 58 ?_);refine aC rfl (.tmp 56) (.tmp 57) 22 22 rfl 5 Tryz.underlying22 (by kernel_rfl) _ _ _ _ _ _ rfl rfl hb (9+0) _ 221 Hblk.out (ints .u8 (xs.drop p)) (by rw[ints_len,Hql.out];exact(Nat.min_eq_left (by omega)).symm) (fun h0=>⟨rfl,Hsrc.out h0⟩) (by rw[ints_len,Hql.out,qA _ _ _ _ rfl Hr.out];omega) (ay _ _) ?_;intro w2 HG HB)
     have F:=ae.mk (Fin.out w2 HG.out HB)
     clear HG HB
     go_wp2
     go_end0
     exact⟨rfl,F.out⟩
theorem write_any (hb t:Nat) (text xs:List Int) (A:Option Addr) (n cap:Nat) (w:World) (hh:Hs w hb t text) (hs:Sl w A n xs hb) (hcap:n≤cap) (hmax:cap≤9223372036854775807) (htot:text.length+n < 1152921504606846976) :
  Calls Tryz.prog 73 #[.pointer (some ⟨hb,0,none⟩),.slice A n cap] w fun e w'=>e=.returned (.tuple #[])∧Hs w' hb t (text++xs)∧Bar [hb] w w':=by
 by_cases h:text.length % 64=0
 ·exact Uo hb t text xs A n cap w hh hs hcap hmax htot h
 ·exact Ur hb t text xs A n cap w hh hs hcap hmax htot (by omega)
def tc (L k x:Nat):Int:=if x=0 then 128 else if 1+padn L+k≤x∧x < 9+padn L then ((L * 8 / 256 ^ (7 - (x - (1+padn L))) % 256:Nat):Int) else 0
def TL (L k:Nat):List Int:=(List.range 72).map (tc L k)
theorem TL_len (L k:Nat):(TL L k).length=72:=by simp[TL]
theorem PY (L k x:Nat) (h:x < 72):at_ (TL L k) x=tc L k x:=at_range _ _ _ h
theorem Wh (L k:Nat) (hk:k < 8):(TL L (k+1)).set (1+padn L+k) ((L * 8 / 256 ^ (7 - k) % 256:Nat):Int)=TL L k:=by
 have hp:=vZ L
 apply iO
 ·rw[List.length_set,TL_len,TL_len]
 ·intro i hi
  rw[List.length_set,TL_len] at hi
  rw[at_set _ _ _ _ (by rw[TL_len];exact hi),PY _ _ _ hi,PY _ _ _ hi]
  by_cases h:1+padn L+k=i
  ·subst h
   rw[if_pos rfl,tc,if_neg (by omega),if_pos (by omega),show 1+padn L+k - (1+padn L)=k by omega]
  ·rw[if_neg h,tc,tc]
   by_cases h0:i=0
   ·rw[if_pos h0,if_pos h0]
   ·rw[if_neg h0,if_neg h0]
    by_cases h1:1+padn L+(k+1)≤i∧i < 9+padn L
    ·rw[if_pos h1,if_pos (by omega)]
    ·rw[if_neg h1,if_neg (by omega)]
theorem TL_8 (L:Nat):TL L 8=(List.replicate 72 (0:Int)).set 0 128:=by
 apply iO
 ·rw[TL_len,List.length_set,List.length_replicate]
 ·intro i hi
  rw[TL_len] at hi
  rw[PY _ _ _ hi,at_set _ _ _ _ (by rw[List.length_replicate];exact hi),tc]
  by_cases h0:i=0
  ·subst h0;simp
  ·rw[if_neg h0,if_neg (by omega),if_neg (by omega)]
   unfold at_
   rw[List.getD_eq_getElem?_getD,List.getElem?_replicate,if_pos hi]
   rfl
theorem TL_0 (L:Nat):(TL L 0).take (9+padn L)=tail L:=by
 have hp:=vZ L
 apply iO
 ·rw[List.length_take,TL_len,pq];omega
 ·intro i hi
  rw[List.length_take,TL_len] at hi
  rw[bY (by omega),PY _ _ _ (by omega),tc,tail]
  match i with
  | 0=>rfl
  | i+1 =>
   rw[if_neg (by omega)]
   show _=at_ (List.replicate (padn L) 0++be8 (L * 8)) i
   by_cases h:i < padn L
   ·rw[if_neg (by omega),bT (by simpa using h)]
    simp[at_,h]
   ·rw[if_pos (by omega),cO (by simp;omega),List.length_replicate,be8,at_range _ _ _ (by omega),show i+1 - (1+padn L)=i - padn L by omega]
theorem Us (hb t:Nat) (text:List Int) (w:World) (hh:Hs w hb t text) (hL0:text.length < 576460752303423488) :
  Calls Tryz.prog 114 #[.pointer (some ⟨hb,0,none⟩)] w fun e w'=>e=.returned (.tuple #[])∧Hs w' hb t (text++tail text.length)∧Bar [hb] w w':=by
 obtain⟨L,hL⟩:∃ L,text.length=L:=⟨_,rfl⟩
 obtain⟨N,hN⟩:∃ N,w.heap.size=N:=⟨_,rfl⟩
 have hbN:hb < N:=by obtain⟨_,_,_,_,_,_,_,k⟩:=hh;rw[← hN];exact k.lt
 have c1:w.cell? ⟨hb,73,none⟩=some (.int .u64 (L:Nat)):=by
  obtain⟨_,_,_,r,hr,_,_,k⟩:=hh
  rw[← hL];exact(k.cell 73).trans (BC _ _ _ _ rfl hr)
 have tN:t < N:=by obtain⟨_,m,_⟩:=hh;rw[← hN];exact Blk.lt m
 rw[hL] at hL0
 obtain⟨P,hP⟩:∃ P,padn L=P:=⟨_,rfl⟩
 have hP63:P≤63:=by rw[← hP];exact vZ L
 have eP:(119 - (L:Int) % 64) % 64=(P:Nat):=by rw[← hP];unfold padn;omega
 have HL:=ae.mk hL
 have HP:=ae.mk hP
 have Hh:=ae.mk hh
 clear hL hP hh
 go_enter Tryz.func114,Tryz.ntmps114
 go_wp2
 rw[eP]
 clear eP c1
 go_loopw [4,5] (fun v i wr=>∃ k:Nat,k≤8∧v=.int .u64 ((L * 8 / 256 ^ (8 - k):Nat):Int)∧i=.int .i64 ((k:Int) - 1)∧Hid (Blk wr N 258 (arr .u8 (TL L k)))∧Below N w wr) (fun _ i _=>(Go.RowKit.intOf i+1).toNat)
 case atStart =>
  refine⟨8,by omega,by simp,rfl,?_,(Below.refl _ _).alloc (by omega) _⟩
  rw[TL_8,← bi]
  exact Blk.new_at _ _ _ N hN.symm
 case round =>
  obtain⟨k,hk,rfl,rfl,h1,b1⟩:=hrel
  cases k with
  | zero =>
   rw[show ((0:Nat):Int) - 1=-1 by rfl]
   have hk1:=Hh.out
   have hs:Sl wr (some ⟨N,0,none⟩) (1+P+8) (tail text.length) hb:=by
    refine⟨by rw[pq,HL.out,HP.out];omega,uh _,.inr ⟨N,0,rfl,by omega,fun i hi=>?_⟩⟩
    have hlt:i < 9+padn L:=by rw[HP.out];omega
    rw[Nat.zero_add,HL.out,← TL_0,bY hlt]
    exact h1.out.at_ i (by rw[TL_len];omega)
   have hh2:Hs wr hb t text:=by
    obtain⟨hne,hm,hby,r,hr,hrb,he,hblk⟩:=hk1
    exact⟨hne,hm.below b1 tN,hby,r,hr,hrb,he,hblk.below b1 hbN⟩
   have cw:=write_any hb t text (tail text.length) (some ⟨N,0,none⟩) (1+P+8) 72 wr hh2 hs (by omega) (by omega) (by rw[HL.out];omega)
   have Cw:=ae.mk cw
   have B1:=ae.mk b1
   clear hk1 hs hh2 cw h1 b1
   have s1:(0:Int)≤1+(P:Int)+8:=by omega
   have s2:1+(P:Int)+8≤72:=by omega
   have s3:(1+(P:Int)+8).toNat=1+P+8:=by omega
   go_wp2_with fail
   refine Cw.out.mono ?_
   rintro e w2 ⟨rfl,k2,b2⟩
   have K2:=ae.mk k2
   clear k2
   go_wp2
   go_end0
   refine⟨rfl,K2.out,(barOf (hN▸B1.out) [hb]).trans b2 (by simp)⟩
  | succ k =>
   rw[show ((k+1:Nat):Int) - 1=(k:Int) by omega]
   have e1:=Wh L k (by omega)
   rw[HP.out] at e1
   have hq2:L * 8 / 256 ^ (7 - k) / 256=L * 8 / 256 ^ (8 - k):=by
    have e:256 ^ (7 - k) * 256=256 ^ (8 - k):=by rw[show 8 - k=7 - k+1 by omega,Nat.pow_succ]
    rw[Nat.div_div_eq_div_mul,e]
   have hqle:L * 8 / 256 ^ (7 - k)≤L * 8:=Nat.div_le_self _ _
   rw[show 8 - (k+1)=7 - k by omega]
   generalize L * 8 / 256 ^ (7 - k)=q at *
   have hc0:=h1.out.at_ (1+P+k) (by rw[TL_len];omega)
   have hz0:=h1.out.frozen (1+P+k)
   have E1:=ae.mk e1
   have HQ:=ae.mk hq2
   clear e1 hq2
   go_wp2
   go_roundw
   case rel =>
    refine⟨k,by omega,by rw[← HQ.out];rfl,rfl,?_,b1.setCell (by simp) _⟩
    have:=h1.out.set_ (1+P+k) (.int .u8 ((q % 256:Nat):Int))
    rw[bi,E1.out] at this
    exact this
   case measure=>simp[Go.RowKit.intOf]
def Ut (text:List Int) (w:World) (e:Ending) (w':World):Prop:=∃ M,e=.returned (.slice (some ⟨M,0,none⟩) 32 32)∧w.heap.size≤M∧Blk w' M 5 (arr .u8 (sha text))∧Below w.heap.size w w'
theorem sum_any (hb t:Nat) (text:List Int) (w:World) (hh:Hs w hb t text) (hL0:text.length < 576460752303423488) :
  Calls Tryz.prog 74 #[.pointer (some ⟨hb,0,none⟩)] w (Ut text w):=by
 obtain⟨N,hN⟩:∃ N,w.heap.size=N:=⟨_,rfl⟩
 obtain⟨s,hs⟩:∃ s,st (text++tail text.length)=s:=⟨_,rfl⟩
 obtain⟨hne,hm,hby,r,hr,hrb,he,hblk⟩:=hh
 have hbN:hb < N:=by rw[← hN];exact hblk.lt
 have tN:t < N:=by rw[← hN];exact Blk.lt hm
 have hcl74:(hcells t (st text).toL r (text.length:Nat)).size=74:=by
  rw[hcells,List.size_toArray];exact qA _ _ _ _ rfl hr
 have hone:(hcells t (st text).toL r (text.length:Nat)).all (·.oneCell')=true:=by
  refine all_oneCell_toArray fun v hv=>?_
  unfold hcl at hv
  simp only[List.mem_append,List.mem_singleton] at hv
  rcases hv with rfl|hv|hv|rfl
  ·rfl
  ·exact ay _ _ v hv
  ·exact ay _ _ v hv
  ·rfl
 have Hblk:=ae.mk hblk
 have Hcopy:ae (∀ z:Array Value,Hs ((w.alloc (.cells z 221)).setRow N (hcells t (st text).toL r (text.length:Nat))) N t text∧Below N w ((w.alloc (.cells z 221)).setRow N (hcells t (st text).toL r (text.length:Nat)))):=by
  refine⟨fun z=>?_⟩
  have b:Below N w ((w.alloc (.cells z 221)).setRow N (hcells t (st text).toL r (text.length:Nat))):=below_setRow ((Below.refl _ _).alloc (by omega) _) (Nat.le_refl _) _
  exact⟨⟨by omega,hm.below b tN,hby,r,hr,hrb,he,(Blk.new_at w _ _ N hN.symm).row _⟩,b⟩
 clear hblk hm hby he hr hrb hne
 have Hone:=ae.mk hone
 have Hcl:=ae.mk hcl74
 clear hone hcl74
 go_enter Tryz.func74,Tryz.ntmps74
 go_wp2_with (first
  | ((with_reducible refine sel 9 ?_);refine wpList_load_row rfl 221 (.tmp 8) rfl hb rfl 221 _ (0,0) _ Hblk.out Tryz.underlying221 rfl (by rw[Hcl.out];kernel_rfl) ?_)
  | ((with_reducible refine selS 221 (.tmp 3) (.tmp 9) ?_);refine wpList_store_row rfl 221 (.tmp 3) (.tmp 9) rfl N _ rfl rfl 221 _ (Blk.new_at _ _ _ N hN.symm) (by rw[Hcl.out];kernel_rfl) (by rw[Hcl.out];kernel_rfl) Hone.out ?_))
 refine(Us N t text _ (Hcopy.out _).1 hL0).mono ?_
 rintro e w2 ⟨rfl,k2,b2⟩
 have bb:=(Hcopy.out _).2.trans (b2.below (B:=N) (by simp[World.setRow];omega) (by simp))
 clear b2 Hcopy Hone Hcl Hblk
 obtain⟨hne2,hm2,hby2,r2,hr2,hrb2,he2,kb⟩:=k2
 rw[hs] at kb
 have e0:w2.cell? ⟨N,1,none⟩=some (.int .u32 s.a):=(kb.cell 1).trans (aK _ _ _ _ rfl 0 (by omega))
 have e1:w2.cell? ⟨N,2,none⟩=some (.int .u32 s.b):=(kb.cell 2).trans (aK _ _ _ _ rfl 1 (by omega))
 have e2:w2.cell? ⟨N,3,none⟩=some (.int .u32 s.c):=(kb.cell 3).trans (aK _ _ _ _ rfl 2 (by omega))
 have e3:w2.cell? ⟨N,4,none⟩=some (.int .u32 s.d):=(kb.cell 4).trans (aK _ _ _ _ rfl 3 (by omega))
 have e4:w2.cell? ⟨N,5,none⟩=some (.int .u32 s.e):=(kb.cell 5).trans (aK _ _ _ _ rfl 4 (by omega))
 have e5:w2.cell? ⟨N,6,none⟩=some (.int .u32 s.f):=(kb.cell 6).trans (aK _ _ _ _ rfl 5 (by omega))
 have e6:w2.cell? ⟨N,7,none⟩=some (.int .u32 s.g):=(kb.cell 7).trans (aK _ _ _ _ rfl 6 (by omega))
 have e7:w2.cell? ⟨N,8,none⟩=some (.int .u32 s.h):=(kb.cell 8).trans (aK _ _ _ _ rfl 7 (by omega))
 have hN2:=kb.lt
 clear hne2 hm2 hby2 hr2 hrb2 he2 kb
 obtain⟨M,hM⟩:∃ M,w2.heap.size=M:=⟨_,rfl⟩
 obtain⟨iu,hi,hz0,hz1,hz2⟩:=info_parts ax
 have HI:=ae.mk hi;have Z0:=ae.mk hz0;have Z1:=ae.mk hz1;have Z2:=ae.mk hz2
 clear hi hz0 hz1 hz2
 go_wp2_with ((with_reducible refine sel 11 ?_);refine wpList_make_own w2 rfl _ _ 22 rfl N 5 iu (.int .u8 0) 1 Tryz.underlying22 HI.out Z0.out Z1.out .i64 .i64 32 32 rfl rfl rfl (by rw[Z2.out];omega) (by unfold maxLen;omega) (by have:=bb.size;omega) ?_;intro w3 ho hg;have f0:=hg.cell e0 (by simp);have f1:=hg.cell e1 (by simp);have f2:=hg.cell e2 (by simp);have f3:=hg.cell e3 (by simp);have f4:=hg.cell e4 (by simp);have f5:=hg.cell e5 (by simp);have f6:=hg.cell e6 (by simp);have f7:=hg.cell e7 (by simp);have HO:=ae.mk ho;have HG:=ae.mk hg;clear ho hg;rw[hM])
 have b3:Below N w w3:=bb.grown HG.out (by omega) (by simp)
 go_loopw [4,14] (fun v i wr=>∃ k:Nat,k≤8∧v=.slice (some ⟨M,0,none⟩) (4 * k) 32∧i=.int .i64 k∧ae (wr.ownsRow N 5 1 (.slice (some ⟨M,0,none⟩) (4 * k) 32) (4 * k) (ints .u8 (outK s k)))∧Below N w wr) (fun _ i _=>8 - (Go.RowKit.intOf i).toNat)
 case atStart=>exact⟨0,by omega,rfl,rfl,⟨by have:=HO.out;rw[hM] at this;exact this⟩,b3⟩
 case round =>
  clear HO HG f0 f1 f2 f3 f4 f5 f6 f7 b3 e0 e1 e2 e3 e4 e5 e6 e7
  obtain⟨k,hk,rfl,rfl,ho,b1⟩:=hrel
  by_cases hlt:k < 8
  ·have hix:(Instr.index 87 (.agg #[.int .u32 s.a,.int .u32 s.b,.int .u32 s.c,.int .u32 s.d,.int .u32 s.e,.int .u32 s.f,.int .u32 s.g,.int .u32 s.h]) (.int .i64 (k:Int))).run Tryz.prog wr=.ok (.int .u32 (at_ s.toL k)) wr :=
    Ac (P:=Tryz.prog) (k:=.u32) (l:=s.toL) Tryz.underlying87 Tryz.underlying77 (by kernel_rfl) rfl k hlt wr
   have k8:(k:Int) < 8:=by omega
   have hx:=S8.at32 (s:=s) (by rw[← hs];exact GK _) k
   have hsucc:=yJ s k
   generalize at_ s.toL k=x at *
   obtain⟨hx0,hx1⟩:=hx
   have Hsucc:=ae.mk hsucc
   clear hsucc
   have hx24:x / 16777216 % 256=x / 16777216:=by omega
   have Hx24:=ae.mk hx24
   clear hx24
   have hMN:N≤M:=by have:=bb.size;omega
   go_wp2_with ((with_reducible refine sel 30 ?_);refine wpList_append_fits _ rfl (.tmp 17) (.tmp 29) 22 rfl N 5 iu 1 Tryz.underlying22 HI.out Z1.out M (4 * k) 32 (ints .u8 (outK s k)) rfl (ho.out.alloc _) ⟨wr.heap.size,0,none⟩ 4 4 [.int .u8 (x / 16777216),.int .u8 (x / 65536 % 256),.int .u8 (x / 256 % 256),.int .u8 (x % 256)] rfl rfl (rM _ _ _) (by intro u hu;simp only[List.mem_cons,List.not_mem_nil,or_false] at hu;rcases hu with rfl|rfl|rfl|rfl<;>rfl) (by omega) ?_;intro w4 ho4 hg4;have b4:=ae.mk ((b1.alloc (by have:=b1.size;omega) _).grown hg4 (by have:=b1.size;simp;omega) (by intro g hg;injection hg with hg;omega));have O4:=ae.mk ho4;clear ho4 hg4)
   go_roundw
   case rel =>
    refine⟨k+1,by omega,rfl,by go_num,⟨?_⟩,b4.out⟩
    have:=O4.out
    rw[Hsucc.out,af]
    simpa [ints,Hx24.out,Nat.mul_add] using this
   case measure=>simp[Go.RowKit.intOf];omega
  ·have ek:k=8:=by omega
   have h8:=ho.out
   rw[ek] at h8
   clear ho hk hlt
   have hM2:w.heap.size≤M:=by have:=bb.size;omega
   have hk2:Blk wr M 5 (arr .u8 (sha text)):=by
    rcases h8.2 with⟨h,_⟩|⟨g,cap,cur,hv,hg,hh,hnc,_,hsz,htk⟩
    ·cases h
    ·injection hv with h1 h2 h3
     injection h1 with h1
     injection h1 with h1
     subst h1 h3
     have e:cur=arr .u8 (sha text):=by
      have hs2:sha text=outK s 8:=by rw[SC,← hs];rfl
      rw[hs2,arr,← htk,List.take_of_length_le (by rw[Array.length_toList,hsz];omega)]
     rw[← e];exact hh
   have K2:=ae.mk hk2
   clear hk2 h8
   subst ek
   go_wp2
   go_ret
   exact⟨M,rfl,hM2,K2.out,hN▸b1⟩
theorem Sv {w:World}{t i:Nat}{x:Int}(h:Tab w t):w.cell? ⟨t,i,none⟩≠some (.int .u8 x):=by
 have key:∀ (a b:Int) (n m:Nat),(tbl (.int .u32 a) (.int .i32 b) (.int .u32 0) n m)[i]?≠some (.int .u8 x):=by
  intro a b n m
  by_cases h0:i=0
  ·subst h0;rw[IY];simp
  ·by_cases h1:i=1
   ·subst h1;rw[TN];simp
   ·by_cases h2:i=2
    ·subst h2;rw[XC];simp
    ·by_cases h3:i < 67
     ·obtain⟨j,rfl⟩:∃ j,i=3+j:=⟨i - 3,by omega⟩
      rw[oL _ _ _ _ _ _ (by omega)];simp
     ·by_cases h4:i < 75
      ·obtain⟨j,rfl⟩:∃ j,i=67+j:=⟨i - 67,by omega⟩
       rw[bQ _ _ _ _ _ _ (by omega)];simp
      ·have:(tbl (.int .u32 a) (.int .i32 b) (.int .u32 0) n m)[i]?=none:=by
        rw[tbl,List.getElem?_toArray,List.getElem?_eq_none]
        simp[partK_len];omega
       rw[this];simp
 rcases h with h|h
 ·rw[Blk.cell h];exact key _ _ _ _
 ·rw[Blk.cell h];exact key _ _ _ _
theorem Rd.sl {w w':World}{A:Option Addr}{n:Nat}{xs:List Int}{t h:Nat}(r:Rd w A n xs) (ht:Tab w t) (b:Bar [t] w w') (hh:w.heap.size≤h):Sl w' A n xs h:=by
 obtain⟨h1,h2,h3⟩:=r
 refine⟨h1,h2,?_⟩
 by_cases h0:n=0
 ·exact .inl h0
 ·rcases h3 with h3|⟨bb,o,rfl,hc⟩
  ·exact absurd h3 h0
  ·have hlt:bb < w.heap.size:=World.block_lt_of_cell? _ _ (hc 0 (by omega))
   have hne:bb≠t:=by
    rintro rfl
    exact Sv ht (hc 0 (by omega))
   exact .inr ⟨bb,o,rfl,by omega,fun i hi=>by rw[← hc i hi];exact World.cell?_of_block (w:=w) (b.block bb hlt (by simpa using hne))⟩
theorem Rd.tab {w w':World}{A:Option Addr}{n:Nat}{xs:List Int}{t:Nat}(r:Rd w A n xs) (ht:Tab w t) (b:Bar [t] w w'):Rd w' A n xs:=by
 obtain⟨h1,h2,h3⟩:=r
 refine⟨h1,h2,?_⟩
 by_cases h0:n=0
 ·exact .inl h0
 ·rcases h3 with h3|⟨bb,o,rfl,hc⟩
  ·exact absurd h3 h0
  ·have hlt:bb < w.heap.size:=World.block_lt_of_cell? _ _ (hc 0 (by omega))
   have hne:bb≠t:=by
    rintro rfl
    exact Sv ht (hc 0 (by omega))
   exact .inr ⟨bb,o,rfl,fun i hi=>by rw[← hc i hi];exact World.cell?_of_block (w:=w) (b.block bb hlt (by simpa using hne))⟩
def Uu (t:Nat) (xs:List Int) (w:World) (e:Ending) (w':World):Prop:=∃ M,e=.returned (.slice (some ⟨M,0,none⟩) 32 32)∧w.heap.size≤M∧Blk w' M 5 (arr .u8 (sha xs))∧Made w' t∧Bar [t] w w'
theorem one_any (t:Nat) (A:Option Addr) (n cap:Nat) (xs:List Int) (w:World) (ht:Tab w t) (hr:Rd w A n xs) (hcap:n≤cap) (hmax:cap≤9223372036854775807) (hn:n < 576460752303423488) :
  Calls Tryz.prog 70 #[.pointer (some ⟨t,0,none⟩),.slice A n cap] w (Uu t xs w):=by
 have HT:=ae.mk ht
 have HR:=ae.mk hr
 clear ht hr
 go_enter Tryz.func70,Tryz.ntmps70
 go_wp2_with fail
 refine(new_any t w HT.out).mono ?_
 rintro e w1 ⟨h,rfl,hh,hs1,b1⟩
 have cw:=write_any h t [] xs A n cap w1 hs1 (HR.out.sl HT.out b1 hh) hcap hmax (by simp;omega)
 have Cw:=ae.mk cw
 have B1:=ae.mk b1
 clear hs1 cw b1
 go_wp2_with fail
 refine Cw.out.mono ?_
 rintro e w2 ⟨rfl,hs2,b2⟩
 have cs:=sum_any h t _ w2 hs2 (by rw[List.nil_append,HR.out.1];omega)
 have Cs:=ae.mk cs
 have B2:=ae.mk b2
 have Hs2:=ae.mk hs2
 clear hs2 cs b2
 go_wp2_with fail
 refine Cs.out.mono ?_
 rintro e w3 ⟨M,rfl,hM,k3,b3⟩
 have K3:=ae.mk k3
 have B3:=ae.mk b3
 clear k3 b3
 go_wp2
 go_ret
 refine⟨M,rfl,by have:=B1.out.size;have:=B2.out.size;omega,K3.out,Blk.below Hs2.out.2.1 B3.out (Blk.lt Hs2.out.2.1),?_⟩
 exact(B1.out.trans B2.out (by simp;omega)).trans (barOf B3.out []) (by simp)
end Sha
end Go.Proofs.YtlkeieoecfkkeaaGreat
