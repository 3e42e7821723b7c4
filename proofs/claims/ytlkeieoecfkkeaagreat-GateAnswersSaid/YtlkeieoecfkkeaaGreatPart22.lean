/-
  Parts laid together: StrClone EscrowCLock EscrowCClaim LedgerC3 LedgerC4 LedgerC5 LedgerC8 LedgerC7 LedgerNone.
-/
import Derived.Test.YtlkeieoecfkkeaaGreatPart6
import Derived.Lib.BufferWrite
import Derived.Lib.UnsafeStr
import Derived.Test.YtlkeieoecfkkeaaGreatPart10
import Derived.Test.YtlkeieoecfkkeaaGreatPart15
import Derived.Test.YtlkeieoecfkkeaaGreatPart5
import Derived.Deep.AppendLies
import Derived.Test.YtlkeieoecfkkeaaGreatPart1
import Derived.Test.YtlkeieoecfkkeaaGreatPart8
import Derived.Test.YtlkeieoecfkkeaaGreatPart21
import Derived.Deep.RegionHeld3
import Derived.Test.YtlkeieoecfkkeaaGreatPart16
import Derived.Deep.DeepCutAuto
import Derived.Test.YtlkeieoecfkkeaaGreatPart2
import Derived.Test.YtlkeieoecfkkeaaGreatPart12
import Derived.Test.YtlkeieoecfkkeaaGreatPart9
import Derived.LoopN
set_option maxRecDepth 100000
set_option maxHeartbeats 4000000
namespace Go.Proofs.YtlkeieoecfkkeaaGreat
namespace Sha
open Go.RowKit
end Sha
namespace Escrow
open Go.RowKit Sha Purse Num
section
variable {w : World} {F G : List Nat} {t x q : Nat} {v : Value} {p : PS} {l : List EV} {b : BS}
end
section
variable {w : World} {F : List Nat} {t x q : Nat} {b : BS}
end
end Escrow
namespace Ledger
open Go.RowKit Num Sha Purse Escrow Wire Req
section
variable {w : World} {t x b q : Nat} {F G : List Nat} {v d : Value} {s : LS}
end
section
variable {w w1 w2 : World} {t x b q N R : Nat} {F F' G : List Nat} {v d : Value} {s : LS}
theorem oZ (h:N∉F) (lt:N < w.heap.size) (fp:Fp F F' w w1):N∉F':=fun hm=>by
 rcases fp.2 N hm with k|k
 ·exact h k
 ·omega
theorem JL (f:Fp F F' w w1) (b:Bar [R] w1 w2) (h:w.heap.size≤R):Fp F F' w w2:=⟨f.1.trans b (fun k hk=>.inr (by rw[List.mem_singleton] at hk;rw[hk];exact h)),f.2⟩
theorem Lk.put (h:Lk w1 t F x s) (b:Bar [R] w1 w2) (hR:R∉t :: F):Lk w2 t F x s:=h.keep b (fun k hk hm=>hR (by rw[List.mem_singleton] at hm;rw[← hm];exact List.mem_cons_of_mem _ hk)) (eX h.lts.2.2 b (fun hm=>hR (by rw[List.mem_singleton] at hm;rw[hm];exact List.mem_cons_self ..)))
theorem tV:(Tryz.prog.info? 153).map (·.size)=some 2:=by kernel_rfl
end
section
variable {w : World} {t x b q : Nat} {F G : List Nat} {v d : Value} {s : LS}
theorem Qa (l:List Int) (z:Int) (h:B8 z):encNum (0,l) z 1=(0,l++[z]):=by
 rw[wr1]
 unfold wr
 rw[if_pos rfl,if_pos h,Xy h]
theorem enc1 (l:List Int) {z:Int}(h:B8 z):encNum (0,l) z 1=(0,l++be z.toNat 1):=by
 rw[wr1];unfold wr;rw[if_pos rfl,if_pos h]
theorem enc8 (l:List Int) {z:Int}(h:Amt z):encNum (0,l) z 8=(0,l++be z.toNat 8):=by
 rw[wr8];unfold wr;rw[if_pos rfl,if_pos h]
end
theorem yz:Tryz.prog.elem 70=164:=by kernel_rfl
theorem Qb:Tryz.prog.underlying 70=some (.slice (Tryz.prog.elem 70)):=by rw[yz];exact Tryz.underlying70
theorem JM:(Tryz.prog.info? 164).map (fun i=>(i.zero,i.size,i.bytes))=some (some (.agg #[.int .i64 0,.int .i64 0,.int .i64 0,.int .i64 0,.int .i64 0,.int .i64 0,.string ⟨#[]⟩,.string ⟨#[]⟩]),8,80):=by kernel_rfl
theorem JO:(Tryz.prog.info? 153).map (fun i=>(i.zero,i.size,i.bytes))=some (some (.agg #[.int .i64 0,.int .i64 0]),2,16):=by kernel_rfl
theorem Uw (x:PV):(pvC x).length=2:=rfl
theorem BD:(Tryz.prog.info? 68).map (·.size)=some 4:=by kernel_rfl
theorem JP (w:World):(sizeOf (Tryz.prog.elem 70)).run Tryz.prog w=.ok 8 w:=by
 obtain⟨iu,hi,_,hz1,_⟩:=info_parts JM
 rw[yz]
 simp[sizeOf,typeInfo,hi,hz1]
theorem Wi (A:Option Addr) (n c h:Nat) (h1:h≤n) (hc:n≤c) (hi:Int) (e1:hi=h) :
  (∀ w',(Instr.slice 70 (.slice A n c) none (some (.int .i64 hi)) none).run Tryz.prog w'=.ok (.slice A h c) w')∧∀ w xs,Rr w A n xs→Rr w A h (xs.take h):=by
 subst e1
 refine⟨fun w'=>?_,fun w xs r=>?_⟩
 ·rw[run_slice_h w' 70 A n c Qb .i64 h (by omega) (by omega),JP]
  have ea:∀ a:Addr,a.add 0=a:=fun a=>by simp[Addr.add]
  cases A<;>simp[Result.andThen,sliced,ea]
 ·refine⟨by rw[List.length_take,r.1];omega,?_⟩
  rcases r.2 with h0|⟨b,o,rfl,hx⟩
  ·exact .inl (by omega)
  ·refine .inr ⟨b,o,rfl,fun k x hk j v hv=>?_⟩
   rw[List.getElem?_take] at hk
   split at hk
   ·exact hx k x hk j v hv
   ·cases hk
theorem Wj {α:Type}{C:α→List Value}{z n:Nat}{w w':World}{A:Option Addr}{l:List α}{F:List Nat}(h:Rc C z w A n l) (o:Off A n F) (b:Bar F w w'):Rc C z w' A n l:=by
 rcases o with h0|⟨g,go,rfl,hg⟩
 ·exact⟨h.1,.inl h0⟩
 ·refine h.bar b (fun x hx=>.inr (fun o' ho=>?_))
  injection ho with ho;injection ho with ho
  exact hg (ho▸hx)
structure Ap (w wr:World) (t x N R:Nat) (F0 F:List Nat) (xc yc:Array Value) (s:LS):Prop where
 lk:Lk wr t F x s
 fp:Fp (t :: F0) (t :: F) w wr
 X:Blk wr N 72 xc
 Y:Blk wr R 68 yc
 nf:N∉t :: F
 rf:R∉t :: F
section
variable {w wr wr' : World} {t x N R : Nat} {F0 F F' : List Nat} {xc yc : Array Value} {s s' : LS}
theorem Ap.below (h:Ap w wr t x N R F0 F xc yc s) (b:Below wr.heap.size wr wr'):Ap w wr' t x N R F0 F xc yc s :=
 ⟨h.lk.below b,h.fp.trans ⟨barOf b _,fun _ hk=>.inl hk⟩,h.X.below b h.X.lt,h.Y.below b h.Y.lt,h.nf,h.rf⟩
theorem Ap.step (h:Ap w wr t x N R F0 F xc yc s) (k:Lk wr' t F' x s') (fp:Fp (t :: F) (t :: F') wr wr'):Ap w wr' t x N R F0 F' xc yc s' :=
 ⟨k,h.fp.trans fp,h.X.bar fp.1 h.nf,h.Y.bar fp.1 h.rf,oZ h.nf h.X.lt fp,oZ h.rf h.Y.lt fp⟩
theorem Ap.grown {ov:Value}{k:Nat}{T:TypeId}{z:Nat}{cs:List Value}(h:Ap w wr t x N R F0 F xc yc s) (ho:wr.ownsRow w.heap.size T z ov k cs) (hd:∀ g∈ov.ownBlock.toList,g∉t :: F) (hN:ov.ownBlock≠some N) (hR:ov.ownBlock≠some R) (hg:wr.grownBy wr' ov.ownBlock):Ap w wr' t x N R F0 F xc yc s:=by
 have b:=Bar.grownRow hg
 have nN:N∉ov.ownBlock.toList:=fun hm=>hN (by simpa using hm)
 have nR:R∉ov.ownBlock.toList:=fun hm=>hR (by simpa using hm)
 refine⟨h.lk.keep b (fun k hk hm=>hd k hm (List.mem_cons_of_mem _ hk)) (eX h.lk.lts.2.2 b (fun hm=>hd t hm (List.mem_cons_self ..))),⟨h.fp.1.trans b (fun g hg=>.inr ?_),h.fp.2⟩,h.X.bar b nN,h.Y.bar b nR,h.nf,h.rf⟩
 exact(ho.lt g (by simpa using hg)).1
theorem Ap.lt (h:Ap w wr t x N R F0 F xc yc s):∀ k∈t :: F,k < wr.heap.size:=by
 intro k hk
 rcases List.mem_cons.1 hk with rfl|hk
 ·exact lZ h.lk.lts.2.2
 ·exact h.lk.lts.1 k hk
theorem row_step {ov:Value}{k:Nat}{T:TypeId}{z:Nat}{cs:List Value}(ho:wr.ownsRow w.heap.size T z ov k cs∧∀ g∈ov.ownBlock.toList,g∉t :: F) (fp:Fp (t :: F) (t :: F') wr wr'):wr'.ownsRow w.heap.size T z ov k cs∧∀ g∈ov.ownBlock.toList,g∉t :: F' :=
 ⟨own_keep ho.1 fp.1 ho.2,fun g hg=>oZ (ho.2 g hg) (ho.1.lt g (by simpa using hg)).2 fp⟩
end
section
variable {w : World} {t x : Nat} {F : List Nat} {s : LS}
def AskC (party:Int) (l:List RV):Prop:=∀ r∈l,∀ (w':World) (t x:Nat) (F':List Nat) (s':LS),WL s'→r.ok→Lk w' t F' x s'→Calls Tryz.prog 161 #[.pointer (some ⟨x,0,none⟩),.int .i64 party,rqv r] w' (StepPost w' t F' x (pqv (oneL s' party r).1) (oneL s' party r).2)
theorem yA {A:Option Addr}{n c:Nat}{l:List RV}(party clock seen:Int) (hask:AskC party l) (h:Lk w t F x s) (W:WL s) (WI_:WI s) (hr:Rr w A n l) (off:Off A n (t :: F)) (hok:∀ r∈l,r.ok) (hn:n≤100000) (hc:n≤c) (hcm:c≤9223372036854775807) :
  Calls Tryz.prog 132 #[.pointer (some ⟨x,0,none⟩),.int .i64 party,.int .i64 clock,.agg #[.int .i64 seen,.slice A n c]] w (qi Lk w t F x (applyL s party clock ⟨seen,l⟩)):=by
 obtain⟨N,hN⟩:∃ N,w.heap.size=N:=⟨_,rfl⟩
 obtain⟨R,hR⟩:∃ R,(w.alloc (.cells #[.int .i64 seen,.slice A n c] 72)).heap.size=R:=⟨_,rfl⟩
 have b0:Below w.heap.size w (w.alloc (.cells #[.int .i64 seen,.slice A n c] 72)):=(Below.refl _ _).alloc (Nat.le_refl _) _
 have x0:Blk (w.alloc (.cells #[.int .i64 seen,.slice A n c] 72)) N 72 #[.int .i64 seen,.slice A n c]:=Blk.new_at w _ _ N hN.symm
 have b1:Below (w.alloc (.cells #[.int .i64 seen,.slice A n c] 72)).heap.size (w.alloc (.cells #[.int .i64 seen,.slice A n c] 72)) ((w.alloc (.cells #[.int .i64 seen,.slice A n c] 72)).alloc (.cells #[.int .i64 0,.int .i64 0,.slice none 0 0,.slice none 0 0] 68)):=(Below.refl _ _).alloc (Nat.le_refl _) _
 have NR:ae (w.heap.size≤N∧w.heap.size≤R∧N < R):=⟨by omega,by have:=x0.lt;omega,by have:=x0.lt;omega⟩
 have lts:=h.lts
 have P0:ae (Ap w ((w.alloc (.cells #[.int .i64 seen,.slice A n c] 72)).alloc (.cells #[.int .i64 0,.int .i64 0,.slice none 0 0,.slice none 0 0] 68)) t x N R F F #[.int .i64 seen,.slice A n c] #[.int .i64 0,.int .i64 0,.slice none 0 0,.slice none 0 0] s):=⟨h.below (b0.trans (b1.mono b0.size)),⟨barOf (b0.trans (b1.mono b0.size)) _,fun _ hk=>.inl hk⟩,x0.below b1 x0.lt,Blk.new_at _ _ _ R hR.symm,
  fun hm=>by
   rcases List.mem_cons.1 hm with e|hm
   ·have:=lZ lts.2.2;omega
   ·have:=lts.1 N hm;omega,fun hm=>by
   rcases List.mem_cons.1 hm with e|hm
   ·have:=lZ lts.2.2;have:=NR.out;omega
   ·have:=lts.1 R hm;have:=NR.out;omega⟩
 have HR:=ae.mk hr;have HOFF:=ae.mk off;have HOK:=ae.mk hok;have HASK:=ae.mk hask
 obtain⟨m,hm⟩:∃ m:Nat,min n 64=m:=⟨_,rfl⟩
 have hmin:min (n:Int) 64=(m:Int):=by omega
 have hmn:m≤n:=by omega
 have hm64:m≤64:=by omega
 have HTK:ae (l.take m=l.take 64):=⟨by
  have hl:l.length=n:=hr.1
  by_cases h64:n≤64
  ·rw[List.take_of_length_le (by omega),List.take_of_length_le (by omega)]
  ·rw[show m=64 by omega]⟩
 obtain⟨hsl,hdr⟩:=Wi A n c m hmn hc (m:Int) rfl
 have HSL:=ae.mk hsl
 have HRT:=ae.mk (hdr w l HR.out)
 have HOT:ae (Off A m (t :: F)):=⟨by
  rcases off with h0|h1
  ·exact .inl (by omega)
  ·exact .inr h1⟩
 have KK:=ae.mk (fA W WI_ clock)
 have HAP:ae (applyL s party clock ⟨seen,l⟩=(⟨(manyL (clockL s clock) party (l.take m)).2.clock,((manyL (clockL s clock) party (l.take m)).2.e.length:Nat),(manyL (clockL s clock) party (l.take m)).1,oJ (manyL (clockL s clock) party (l.take m)).2 seen⟩,(manyL (clockL s clock) party (l.take m)).2)):=⟨by rw[HTK.out];rfl⟩
 rw[HAP.out]
 clear b0 b1 x0 h W WI_ hr off hok hsl hdr hm lts HAP HTK hask
 go_enter Tryz.func132,Tryz.ntmps132
 go_upto_region 1 with(fail)
 generalize ((w.alloc (.cells #[.int .i64 seen,.slice A n c] 72)).alloc (.cells #[.int .i64 0,.int .i64 0,.slice none 0 0,.slice none 0 0] 68))=w1 at *
 have KA:=ae.mk (Be clock P0.out.lk)
 unfold StepPost at KA
 go_wp2_with fail
 refine KA.out.mono ?_
 rintro e w2 ⟨rfl,F2,hk,fp⟩
 have P1:=ae.mk (P0.out.step hk fp)
 clear KA hk fp P0
 obtain⟨s1,hs1⟩:∃ s1,clockL s clock=s1:=⟨_,rfl⟩
 rw[hs1] at P1 KK
 have HS1:=ae.mk hs1
 clear hs1
 have xs1:=P1.out.X.cell 1
 have hsl:=HSL.out
 have O:ae (w2.ownsRow w.heap.size 153 2 (.slice none 0 0) 0 ((manyL s1 party ((l.take m).take 0)).1.flatMap pvC)∧∀ g∈(Value.slice none 0 0).ownBlock.toList,g∉t :: F2):=⟨World.ownsRow_nil _ _ _ _,fun g hg=>by simp[Value.ownBlock] at hg⟩
 have P2:ae (Ap w w2 t x N R F F2 #[.int .i64 seen,.slice A n c] #[.int .i64 0,.int .i64 0,.slice none 0 0,.slice none 0 0] (manyL s1 party ((l.take m).take 0)).2):=⟨P1.out⟩
 clear P1
 go_upto_region 3 with(fail)
 go_cut [21,22,23] (fun a b i wx=>a=.slice A m c∧b=.int .i64 m∧i=.int .i64 0∧ae (Ap w wx t x N R F F2 #[.int .i64 seen,.slice A n c] #[.int .i64 0,.int .i64 0,.slice none 0 0,.slice none 0 0] (manyL s1 party ((l.take m).take 0)).2)∧ae (wx.ownsRow w.heap.size 153 2 (.slice none 0 0) 0 ((manyL s1 party ((l.take m).take 0)).1.flatMap pvC)∧∀ g∈(Value.slice none 0 0).ownBlock.toList,g∉t :: F2))
 case first =>
  by_cases h64:(n:Int)≤64
  ·obtain rfl:m=n:=by omega
   clear hmin
   go_wp2
   go_meet
   case rel=>exact⟨rfl,rfl,rfl,P2,O⟩
  ·obtain rfl:m=64:=by omega
   clear hmin
   go_wp2
   go_meet
   case rel=>exact⟨rfl,rfl,rfl,P2,O⟩
 case rest =>
 clear xs1 hsl P2 O
 obtain⟨rfl,rfl,rfl,P2,O⟩:=hcut
 generalize wc=w2 at *
 go_wp2
 go_loopw [9,23] (fun ov i wr=>∃ (k:Nat) (F3:List Nat) (oz:Value),k≤m∧i=.int .i64 k∧oz=ov∧ae (Ap w wr t x N R F F3 #[.int .i64 seen,.slice A n c] #[.int .i64 0,.int .i64 0,.slice none 0 0,.slice none 0 0] (manyL s1 party ((l.take m).take k)).2)∧ae (wr.ownsRow w.heap.size 153 2 oz k ((manyL s1 party ((l.take m).take k)).1.flatMap pvC)∧∀ g∈oz.ownBlock.toList,g∉t :: F3)) (fun _ i _=>m - (Go.RowKit.intOf i).toNat)
 case atStart=>exact⟨0,F2,_,by omega,rfl,rfl,P2,O⟩
 case round =>
  clear P2 O
  obtain⟨k,F3,oz,hk,rfl,rfl,Q,O⟩:=hrel
  by_cases hkm:k < m
  ·have hkm':(k:Int) < m:=by omega
   obtain⟨g,go,y,hA,hy,hyc⟩:=(Wj HRT.out HOT.out Q.out.fp.1).at_ hkm
   subst hA
   have HY:=ae.mk (mf hy)
   have HYO:ae (y.ok∧y∈l):=⟨HOK.out y (List.mem_of_mem_take (List.mem_of_getElem? hy)),List.mem_of_mem_take (List.mem_of_getElem? hy)⟩
   obtain⟨kind,dst,asset,amount,id,due,hash,sec⟩:=y
   have y0:wr.cell? ⟨g,go+k * 8,none⟩=some (.int .i64 kind):=hyc 0 _ rfl;have y1:wr.cell? ⟨g,go+k * 8+1,none⟩=some (.int .i64 dst):=hyc 1 _ rfl;have y2:wr.cell? ⟨g,go+k * 8+2,none⟩=some (.int .i64 asset):=hyc 2 _ rfl;have y3:wr.cell? ⟨g,go+k * 8+3,none⟩=some (.int .i64 amount):=hyc 3 _ rfl;have y4:wr.cell? ⟨g,go+k * 8+4,none⟩=some (.int .i64 id):=hyc 4 _ rfl;have y5:wr.cell? ⟨g,go+k * 8+5,none⟩=some (.int .i64 due):=hyc 5 _ rfl;have y6:wr.cell? ⟨g,go+k * 8+6,none⟩=some (.string (strOfNums hash)):=hyc 6 _ rfl;have y7:wr.cell? ⟨g,go+k * 8+7,none⟩=some (.string (strOfNums sec)):=hyc 7 _ rfl
   clear hyc hy
   have b1:Below wr.heap.size wr (wr.alloc (.cells #[.int .i64 kind,.int .i64 dst,.int .i64 asset,.int .i64 amount,.int .i64 id,.int .i64 due,.string (strOfNums hash),.string (strOfNums sec)] 164)):=(Below.refl _ _).alloc (Nat.le_refl _) _
   obtain⟨M,hM⟩:∃ M,wr.heap.size=M:=⟨_,rfl⟩
   have Z:ae (Blk (wr.alloc (.cells #[.int .i64 kind,.int .i64 dst,.int .i64 asset,.int .i64 amount,.int .i64 id,.int .i64 due,.string (strOfNums hash),.string (strOfNums sec)] 164)) M 164 #[.int .i64 kind,.int .i64 dst,.int .i64 asset,.int .i64 amount,.int .i64 id,.int .i64 due,.string (strOfNums hash),.string (strOfNums sec)]):=⟨Blk.new_at _ _ _ M hM.symm⟩
   go_upto_region 6 with(fail)
   replace Q:=ae.mk (Q.out.below b1)
   replace O:=ae.mk (And.intro (own_keep O.out.1 (barOf b1 []) (fun _ _=>by simp)) O.out.2)
   clear y0 y1 y2 y3 y4 y5 y6 y7 b1
   generalize wr.alloc (.cells #[.int .i64 kind,.int .i64 dst,.int .i64 asset,.int .i64 amount,.int .i64 id,.int .i64 due,.string (strOfNums hash),.string (strOfNums sec)] 164)=w3 at *
   obtain⟨s3,hs3⟩:∃ s3,(manyL s1 party ((l.take m).take k)).2=s3:=⟨_,rfl⟩
   have HK3:ae (aA s1 s3):=⟨by rw[← hs3];exact(iw KK.out.wl KK.out.wi party _ (fun r hr=>HOK.out r (List.mem_of_mem_take (List.mem_of_mem_take hr)))).1⟩
   rw[hs3] at Q
   have KQ:Calls Tryz.prog 161 #[.pointer (some ⟨x,0,none⟩),.int .i64 party,rqv ⟨kind,dst,asset,amount,id,due,hash,sec⟩] w3 (StepPost w3 t F3 x (pqv (oneL s3 party ⟨kind,dst,asset,amount,id,due,hash,sec⟩).1) (oneL s3 party ⟨kind,dst,asset,amount,id,due,hash,sec⟩).2):=by
    exact HASK.out _ HYO.out.2 _ _ _ _ _ HK3.out.wl HYO.out.1 Q.out.lk
   have HSN:ae ((manyL s1 party ((l.take m).take (k+1))).2=(oneL s3 party ⟨kind,dst,asset,amount,id,due,hash,sec⟩).2∧(manyL s1 party ((l.take m).take (k+1))).1=(manyL s1 party ((l.take m).take k)).1++[(oneL s3 party ⟨kind,dst,asset,amount,id,due,hash,sec⟩).1]):=⟨by rw[HY.out,GR,hs3];exact⟨rfl,rfl⟩⟩
   clear hs3
   obtain⟨⟨⟨pc,pi⟩,s4⟩,hO⟩:∃ O,oneL s3 party ⟨kind,dst,asset,amount,id,due,hash,sec⟩=O:=⟨_,rfl⟩
   rw[hO] at KQ HSN
   unfold StepPost rqv pqv at KQ
   dsimp only at KQ HSN
   have KQ2:=ae.mk KQ
   clear KQ hO
   have y0:w3.cell? ⟨M,0,none⟩=some (.int .i64 kind):=Z.out.cell 0;have y1:w3.cell? ⟨M,1,none⟩=some (.int .i64 dst):=Z.out.cell 1;have y2:w3.cell? ⟨M,2,none⟩=some (.int .i64 asset):=Z.out.cell 2;have y3:w3.cell? ⟨M,3,none⟩=some (.int .i64 amount):=Z.out.cell 3;have y4:w3.cell? ⟨M,4,none⟩=some (.int .i64 id):=Z.out.cell 4;have y5:w3.cell? ⟨M,5,none⟩=some (.int .i64 due):=Z.out.cell 5;have y6:w3.cell? ⟨M,6,none⟩=some (.string (strOfNums hash)):=Z.out.cell 6;have y7:w3.cell? ⟨M,7,none⟩=some (.string (strOfNums sec)):=Z.out.cell 7
   go_wp2_with fail
   refine KQ2.out.mono ?_
   rintro e w4 ⟨rfl,F4,hk4,fp⟩
   replace Q:=ae.mk (Q.out.step hk4 fp)
   replace O:=ae.mk (row_step O.out fp)
   clear KQ2 hk4 fp Z y0 y1 y2 y3 y4 y5 y6 y7
   have ON:ae (oz.ownBlock≠some N∧oz.ownBlock≠some R):=⟨bK O.out.1 Q.out.X (by decide),bK O.out.1 Q.out.Y (by decide)⟩
   obtain⟨vs,hov⟩:=aY O.out.1
   obtain⟨cs,rfl⟩:=hov
   have b2:Below w4.heap.size w4 (w4.alloc (.cells #[.int .i64 pc,.int .i64 pi] 153)):=(Below.refl _ _).alloc (Nat.le_refl _) _
   replace Q:=ae.mk (Q.out.below b2)
   replace O:=ae.mk (And.intro (own_keep O.out.1 (barOf b2 []) (fun _ _=>by simp)) O.out.2)
   have NC:=rM w4 153 [.int .i64 pc,.int .i64 pi]
   have HSZ:ae (w.heap.size≤(w4.alloc (.cells #[.int .i64 pc,.int .i64 pi] 153)).heap.size):=⟨Q.out.fp.1.size⟩
   obtain⟨iu,hi,hz0,hz1,hz2⟩:=info_parts JO
   go_wp2_with ((with_reducible refine sel 33 ?_);refine wpList_append_own_at _ rfl (.tmp 27) (.tmp 32) 65 rfl w.heap.size 153 iu (.agg #[.int .i64 0,.int .i64 0]) 2 16 Tryz.underlying65 hi hz0 hz1 hz2 rfl (by omega) _ k _ rfl O.out.1 ⟨w4.heap.size,0,none⟩ 1 1 [.int .i64 pc,.int .i64 pi] rfl rfl NC (VC ⟨pc,pi⟩) (by unfold maxLen;omega) (by omega) HSZ.out ?_;intro v' w' ho hg _ hat)
   have OD:∀ z∈v'.ownBlock.toList,z∉t :: F4:=fun z hz hm=>by
    rcases hat with e|e
    ·rw[e] at hz;exact O.out.2 z hz hm
    ·rw[e] at hz
     simp at hz
     have:=Q.out.lt z hm
     simp at this
     omega
   have O3:ae (w'.ownsRow w.heap.size 153 2 v' (k+1) ((manyL s1 party ((l.take m).take (k+1))).1.flatMap pvC)∧∀ g∈v'.ownBlock.toList,g∉t :: F4):=⟨by
    rw[HSN.out.2,List.flatMap_append]
    refine⟨?_,OD⟩
    simpa [pvC] using ho⟩
   replace Q:=ae.mk (Q.out.grown O.out.1 O.out.2 ON.out.1 ON.out.2 hg)
   rw[← HSN.out.1] at Q
   clear ho hg NC b2 hi hz0 hz1 hz2 hat OD
   go_roundw
   case rel=>exact⟨k+1,F4,_,by omega,by go_num,rfl,Q,O3⟩
   case measure=>simp[Go.RowKit.intOf];omega
  ·have hkm':¬ (k:Int) < m:=by omega
   obtain rfl:k=m:=by omega
   have HTT:(l.take k).take k=l.take k:=by rw[List.take_take,Nat.min_self]
   rw[HTT] at Q O
   obtain⟨r3,hr3⟩:∃ r3,manyL s1 party (l.take k)=r3:=⟨_,rfl⟩
   have HK3:ae (aA s1 r3.2):=⟨by rw[← hr3];exact(iw KK.out.wl KK.out.wi party _ (fun r hr=>HOK.out r (List.mem_of_mem_take hr))).1⟩
   have HR3:=ae.mk hr3
   have HRL:ae (r3.1.length=k):=⟨by rw[← hr3,yN];exact HRT.out.1⟩
   rw[hr3] at Q O
   obtain⟨ps,s3⟩:=r3
   dsimp only at Q O HK3 HRL
   clear hr3 HTT
   obtain⟨Az,cz,hz,z1,z2,z3⟩:=Rc.own Uw O.out.1 HRL.out
   subst hz
   have HZ:=ae.mk z3
   clear z3
   go_upto_region 8 with(fail)
   obtain⟨b,q,G,v,d,hL,hF3⟩:=Q.out.lk
   subst hF3
   obtain⟨Ad,cd,hd,-,hcd,hcdm,-⟩:=hL.list
   subst hd
   have HL:=ae.mk hL
   have HLN:=ae.mk HK3.out.wl.len
   clear hL
   have CS:∀ {u:World},Lp u t x b q G v (.slice Ad s3.e.length cd) s3→Blk u N 72 #[.int .i64 seen,.slice A n c]→u.cell? ⟨x,2,none⟩=some (.int .i64 s3.clock)∧u.cell? ⟨x,3,none⟩=some (.slice Ad s3.e.length cd)∧u.cell? ⟨N,0,none⟩=some (.int .i64 seen):=fun h k=>⟨h.c2,h.blk.cell 3,k.cell 0⟩
   refine wp_region_noPanic ?_
   have bb:Below wr.heap.size wr wr.drew:=(Below.refl _ _).drew
   replace HL:=ae.mk (HL.out.below bb);replace Q:=ae.mk (Q.out.below bb)
   replace HZ:ae (Rp wr.drew Az k ps):=⟨HZ.out.below bb⟩
   replace O:=ae.mk (And.intro (own_keep O.out.1 (barOf bb []) (fun _ _=>by simp)) O.out.2)
   refine wp_region_held_drew (S:=fun u:World=>u.cell? ⟨x,2,none⟩=some (.int .i64 s3.clock)∧u.cell? ⟨x,3,none⟩=some (.slice Ad s3.e.length cd)∧u.cell? ⟨N,0,none⟩=some (.int .i64 seen)) (by kernel_rfl) (CS HL.out Q.out.X) (fun _=>?_)
   clear bb
   generalize wr.drew=w3 at *
   have KF:=ae.mk (Pg seen HK3.out.wl HL.out)
   unfold sU at KF
   refine tk 0 ?_
   simp only[Act.put,zA,zB,zC]
   refine tk 1 ?_
   simp only[Act.put,zA,zB,zC]
   refine tk 2 ?_
   simp only[Act.put,zA,zB,zC]
   refine tk 3 ?_
   simp only[Act.put,zA,zB,zC]
   refine tk 4 ?_
   simp only[Act.put,zA,zB,zC]
   refine tk 5 ?_
   simp only[Act.put,zA,zB,zC]
   refine tk 6 ?_
   simp only[Act.put,zA,zB,zC]
   refine tk 7 ?_
   simp only[Act.put,zA,zB,zC]
   refine tk 8 ?_
   simp only[Act.put,zA,zB,zC]
   refine tk 9 ?_
   simp only[Act.put,zA,zB,zC]
   refine tk 10 ?_
   simp only[Act.put,zA,zB,zC]
   refine tk 11 ?_
   simp only[Act.put,zA,zB,zC]
   refine tk 12 ?_
   simp only[Act.put,zA,zB,zC]
   refine ld 13 (fun K hK=>?_)
   go_simp
   go_at_call 167
   refine KF.out.mono ?_
   rintro e w4 ⟨D,m2,d2,rfl,e1,e2,hv,hnew,bb⟩
   have HD:ae (∀ b' o',D=some ⟨b',o',none⟩→w.heap.size≤b'∧b'∉t :: lf x b G v (.slice Ad s3.e.length cd)):=⟨fun b' o' hh=>⟨Nat.le_trans Q.out.fp.1.size (hnew b' o' hh).1,fun hm=>by have:=Q.out.lt b' hm;have:=(hnew b' o' hh).1;omega⟩⟩
   have HV:=ae.mk hv
   have HDR:ae (∀ o',D≠some ⟨R,o',none⟩):=⟨fun o' hh=>by have:=(hnew R o' hh).1;have:=Q.out.Y.lt;omega⟩
   replace HL:=ae.mk (HL.out.below bb);replace Q:=ae.mk (Q.out.below bb)
   replace HZ:=ae.mk (HZ.out.below bb)
   replace O:=ae.mk (And.intro (own_keep O.out.1 (barOf bb []) (fun _ _=>by simp)) O.out.2)
   refine hK.out _ _ (CS HL.out Q.out.X) (fun _=>?_)
   clear hK K KF hv hnew bb
   refine tk 14 ?_
   simp only[Act.put,zA,zB,zC]
   have y0:w4.cell? ⟨R,0,none⟩=some (.int .i64 0):=Q.out.Y.cell 0;have z0:=Q.out.Y.frozen 0;have y1:w4.cell? ⟨R,1,none⟩=some (.int .i64 0):=Q.out.Y.cell 1;have z1:=Q.out.Y.frozen 1;have y2:w4.cell? ⟨R,2,none⟩=some (.slice none 0 0):=Q.out.Y.cell 2;have z2:=Q.out.Y.frozen 2;have y3:w4.cell? ⟨R,3,none⟩=some (.slice none 0 0):=Q.out.Y.cell 3;have z3:=Q.out.Y.frozen 3
   have PP:=ae.mk (put4 Q.out.Y (.int .i64 s3.clock) (.int .i64 (s3.e.length:Nat)) (.slice Az k cz) (.slice D m2 d2))
   have XR:ae (x≠R):=⟨fun e=>Q.out.rf (lf_mem.2 (.inl e.symm))⟩
   have L5:=ae.mk (Lk.put Q.out.lk PP.out.2 Q.out.rf)
   have F5:=ae.mk (JL Q.out.fp PP.out.2 NR.out.2.1)
   have AR:ae (∀ o',Az≠some ⟨R,o',none⟩):=⟨fun o' hh=>by
    subst hh
    have:=bK O.out.1 Q.out.Y (by decide)
    simp[Value.ownBlock] at this⟩
   have RZ:=ae.mk (HZ.out.bar PP.out.2 (fun z hz=>.inr (by rw[List.mem_singleton] at hz;rw[hz];exact AR.out)))
   have RV:=ae.mk (HV.out.bar PP.out.2 (fun z hz=>.inr (by rw[List.mem_singleton] at hz;rw[hz];exact HDR.out)))
   have BX:=HL.out.blk.bar PP.out.2 (by simpa using XR.out)
   have BN:=Q.out.X.bar PP.out.2 (by have:=NR.out;simp;omega)
   have hS5:((((w4.setCell ⟨R,0,none⟩ (.int .i64 s3.clock)).setCell ⟨R,1,none⟩ (.int .i64 (s3.e.length:Nat))).setCell ⟨R,2,none⟩ (.slice Az k cz)).setCell ⟨R,3,none⟩ (.slice D m2 d2)).cell? ⟨x,2,none⟩=some (.int .i64 s3.clock)∧((((w4.setCell ⟨R,0,none⟩ (.int .i64 s3.clock)).setCell ⟨R,1,none⟩ (.int .i64 (s3.e.length:Nat))).setCell ⟨R,2,none⟩ (.slice Az k cz)).setCell ⟨R,3,none⟩ (.slice D m2 d2)).cell? ⟨x,3,none⟩=some (.slice Ad s3.e.length cd)∧((((w4.setCell ⟨R,0,none⟩ (.int .i64 s3.clock)).setCell ⟨R,1,none⟩ (.int .i64 (s3.e.length:Nat))).setCell ⟨R,2,none⟩ (.slice Az k cz)).setCell ⟨R,3,none⟩ (.slice D m2 d2)).cell? ⟨N,0,none⟩=some (.int .i64 seen):=⟨BX.cell 2,BX.cell 3,BN.cell 0⟩
   refine ld 15 (fun K hK=>?_)
   go_simp
   clear y0 z0 y1 z1 y2 z2 y3 z3 BX BN
   have P1:=ae.mk PP.out.1
   clear PP
   generalize ((((w4.setCell ⟨R,0,none⟩ (.int .i64 s3.clock)).setCell ⟨R,1,none⟩ (.int .i64 (s3.e.length:Nat))).setCell ⟨R,2,none⟩ (.slice Az k cz)).setCell ⟨R,3,none⟩ (.slice D m2 d2))=w5 at *
   refine hK.out _ _ hS5 (fun _=>?_)
   clear hK K hS5 CS
   refine wpAnyH_done (by kernel_rfl) ?_ _
   refine NoPanic.normal ?_
   go_wp2
   (try simp only[Exit.inBlock,Exit.then])
   refine bodyPost_ret (results_cell_row rfl _ _ R 68 #[.int .i64 s3.clock,.int .i64 (s3.e.length:Nat),.slice Az k cz,.slice D m2 d2] (0,0) _ rfl P1.out Tryz.underlying68 rfl BD) rfl ?_
   rw[HS1.out,HR3.out]
   refine⟨lf x b G v (.slice Ad s3.e.length cd),Az,k,cz,D,m2,d2,rfl,z1,z2,e1,e2,RZ.out,RV.out,fun b' o' hh=>?_,HD.out,L5.out,F5.out.1,fun z hz=>?_⟩
   ·subst hh
    exact⟨(O.out.1.lt b' rfl).1,O.out.2 b' (by simp[Value.ownBlock])⟩
   ·rcases F5.out.2 z (List.mem_cons_of_mem _ hz) with h|h
    ·rcases List.mem_cons.1 h with h|h
     ·exact absurd (h▸hz) L5.out.lts.2.1
     ·exact .inl h
    ·exact .inr h
end
def ik:RV:=⟨4,0,0,0,400,0,[],[]⟩
theorem JQ:ik.ok:=by
 unfold RV.ok ik
 exact⟨fun x hx=>(by simp at hx),fun x hx=>(by simp at hx)⟩
theorem Ee:MayR ik:=by
 refine .inr (.inr (.inr ⟨rfl,rfl,rfl,rfl,?_,rfl,rfl,rfl⟩))
 unfold I16 ik
 decide
theorem Ef {s:LS}(W:WL s):hasE s.b.l 400=false:=by
 unfold hasE
 rw[decide_eq_false_iff_not]
 rintro ⟨-,h⟩
 have:=W.locks;have:=W.len;omega
theorem Eg {s:LS}(W:WL s) (party:Int):oneL s party ik=(⟨if isP s.b.p party=true then 8 else 1,0⟩,s):=by
 by_cases h:isP s.b.p party=true
 ·have hd:(doL s party ik).1.2=8:=by
   show (fJ s.b party 400 s.clock).1=8
   unfold fJ
   rw[if_pos (Ef W)]
  rw[UV ⟨Ee,h⟩ rfl (by rw[hd];decide),hd,if_pos h]
 ·rw[Hf (fun k=>h k.2),if_neg h]
section
variable {w : World} {t x b q : Nat} {F G : List Nat} {v d : Value} {s : LS}
theorem Gw {bs:BS}(h:Ct t w F x q bs) (who id clock:Int) (hE:hasE bs.l id=false):Calls Tryz.prog 233 #[.pointer (some ⟨x,0,none⟩),.int .i64 who,.int .i64 id,.int .i64 clock] w (nP (.int .i64 8) w):=by
 obtain⟨G,v,P,rfl⟩:=h
 have GT:=ae.mk (uM P id)
 have TI:=ae.mk (fun w=>lM clock w)
 clear P
 rw[show getB bs id=(noE,false) from by unfold getB;rw[hE];rfl] at GT
 clear hE
 go_enter Tryz.func233,Tryz.ntmps233
 go_wp2_with fail
 refine GT.out.mono ?_
 rintro e w1 ⟨hx,b1⟩
 replace hx:e=.returned (.tuple #[.agg #[.int .i64 0,.int .i64 0,.int .i64 0,.int .i64 0,.int .i64 0,.int .i64 0,.string ⟨#[]⟩,.string ⟨#[]⟩],.bool false]):=hx
 subst hx
 have B1:=ae.mk b1
 clear b1 GT
 go_wp2_with (go_at_call 129;(with_reducible refine(TI.out _).mono ?_);rintro e w' ⟨rfl,rfl⟩)
 go_ret
 exact⟨rfl,B1.out.alloc B1.out.size (.cells #[.int .i64 0,.int .i64 0,.int .i64 0,.int .i64 0,.int .i64 0,.int .i64 0,.string ⟨#[]⟩,.string ⟨#[]⟩] 253)⟩
theorem Ux (party:Int) (W:WL s) (h:Lp w t x b q G v d s):Calls Tryz.prog 201 #[.pointer (some ⟨x,0,none⟩),.int .i64 party,rqv ik] w (nP (.tuple #[.int .i64 0,.int .i64 8]) w):=by
 unfold rqv ik
 dsimp only
 obtain⟨N,hN⟩:∃ N,w.heap.size=N:=⟨_,rfl⟩
 have b0:Below w.heap.size w (w.alloc (.cells #[.int .i64 4,.int .i64 0,.int .i64 0,.int .i64 0,.int .i64 400,.int .i64 0,.string (strOfNums []),.string (strOfNums [])] 164)):=(Below.refl _ _).alloc (Nat.le_refl _) _
 have X:ae (Blk (w.alloc (.cells #[.int .i64 4,.int .i64 0,.int .i64 0,.int .i64 0,.int .i64 400,.int .i64 0,.string (strOfNums []),.string (strOfNums [])] 164)) N 164 #[.int .i64 4,.int .i64 0,.int .i64 0,.int .i64 0,.int .i64 400,.int .i64 0,.string (strOfNums []),.string (strOfNums [])]):=⟨Blk.new_at w _ _ N hN.symm⟩
 have B:=ae.mk b0
 have L:=ae.mk (h.below b0)
 have HW:=ae.mk W
 clear h b0 W
 go_enter Tryz.func201,Tryz.ntmps201
 go_upto_region 1 with(fail)
 generalize (w.alloc (.cells #[.int .i64 4,.int .i64 0,.int .i64 0,.int .i64 0,.int .i64 400,.int .i64 0,.string (strOfNums []),.string (strOfNums [])] 164))=w1 at *
 have x0:=X.out.cell 0;have x4:=X.out.cell 4
 go_upto_region 8 with(fail)
 clear x0 x4
 have CS:∀ {u:World},Lp u t x b q G v d s→Blk u N 164 #[.int .i64 4,.int .i64 0,.int .i64 0,.int .i64 0,.int .i64 400,.int .i64 0,.string (strOfNums []),.string (strOfNums [])]→u.cell? ⟨x,0,none⟩=some (.pointer (some ⟨b,0,none⟩))∧u.cell? ⟨x,2,none⟩=some (.int .i64 s.clock)∧u.cell? ⟨N,4,none⟩=some (.int .i64 400):=fun h k=>⟨h.c0,h.c2,k.cell 4⟩
 refine wp_region_noPanic ?_
 refine wp_region_held_drew (S:=fun u:World=>u.cell? ⟨x,0,none⟩=some (.pointer (some ⟨b,0,none⟩))∧u.cell? ⟨x,2,none⟩=some (.int .i64 s.clock)∧u.cell? ⟨N,4,none⟩=some (.int .i64 400)) (by kernel_rfl) (CS (L.out.below (Below.refl _ _).drew) X.out.drew) (fun _=>?_)
 replace L:=ae.mk (L.out.below (Below.refl _ w1).drew);replace X:=ae.mk X.out.drew;replace B:=ae.mk B.out.drew
 generalize w1.drew=w2 at *
 have KM:=ae.mk (Gw ⟨G,v,L.out.pk,rfl⟩ party 400 s.clock (Ef HW.out))
 refine tk 0 ?_
 simp only[Act.put,zA,zB,zC]
 refine tk 1 ?_
 simp only[Act.put,zA,zB,zC]
 refine tk 2 ?_
 simp only[Act.put,zA,zB,zC]
 refine tk 3 ?_
 simp only[Act.put,zA,zB,zC]
 refine tk 4 ?_
 simp only[Act.put,zA,zB,zC]
 refine tk 5 ?_
 simp only[Act.put,zA,zB,zC]
 refine tk 6 ?_
 simp only[Act.put,zA,zB,zC]
 refine tk 7 ?_
 simp only[Act.put,zA,zB,zC]
 refine tk 8 ?_
 simp only[Act.put,zA,zB,zC]
 refine tk 9 ?_
 simp only[Act.put,zA,zB,zC]
 refine tk 10 ?_
 simp only[Act.put,zA,zB,zC]
 refine ld 11 (fun K hK=>?_)
 go_simp
 go_at_call 233
 refine KM.out.mono ?_
 rintro e w4 ⟨rfl,bb⟩
 have L4:=L.out.below bb
 have X4:=X.out.below bb X.out.lt
 have B4:=ae.mk (B.out.trans (bb.mono B.out.size))
 refine hK.out _ _ ⟨L4.c0,L4.c2,X4.cell 4⟩ (fun _=>?_)
 clear hK K KM bb L4 X4 CS
 refine tk 12 ?_
 simp only[Act.put,zA,zB,zC]
 refine tk 13 ?_
 simp only[Act.put,zA,zB,zC]
 refine wpAnyH_done (by kernel_rfl) ?_ _
 refine NoPanic.normal ?_
 go_wp2
 go_ret2
 exact⟨rfl,B4.out⟩
theorem Qc (party:Int) (W:WL s) (h:Lp w t x b q G v d s):Calls Tryz.prog 161 #[.pointer (some ⟨x,0,none⟩),.int .i64 party,rqv ik] w (StepPost w t (lf x b G v d) x (pqv (oneL s party ik).1) (oneL s party ik).2):=by
 have HW:=ae.mk W
 rw[Eg W]
 obtain⟨qp,hqp⟩:∃ qp,isP s.b.p party=qp:=⟨_,rfl⟩
 rw[hqp]
 obtain⟨u,hu⟩:∃ u:Int,(if qp=true then 8 else 1)=u:=⟨_,rfl⟩
 rw[hu]
 have HQP:=ae.mk hqp;have HU:=ae.mk hu
 clear hqp hu
 have KW0:=fun w1=>Gl (w:=w1) ik JQ
 have KD0:=ae.mk (fun w1 (L1:Lp w1 t x b q G v d s)=>Ux party W L1)
 unfold nP at KW0
 rw[show decide (MayR ik)=true from decide_eq_true Ee] at KW0
 clear W
 unfold rqv ik at KW0 KD0
 unfold rqv pqv ik nP at *
 dsimp only at KW0 KD0 ⊢
 have KW:=ae.mk KW0
 clear KW0
 obtain⟨N,hN⟩:∃ N,w.heap.size=N:=⟨_,rfl⟩
 obtain⟨R,hR⟩:∃ R,(w.alloc (.cells #[.int .i64 4,.int .i64 0,.int .i64 0,.int .i64 0,.int .i64 400,.int .i64 0,.string (strOfNums []),.string (strOfNums [])] 164)).heap.size=R:=⟨_,rfl⟩
 have b0:Below w.heap.size w (w.alloc (.cells #[.int .i64 4,.int .i64 0,.int .i64 0,.int .i64 0,.int .i64 400,.int .i64 0,.string (strOfNums []),.string (strOfNums [])] 164)):=(Below.refl _ _).alloc (Nat.le_refl _) _
 have x0:Blk (w.alloc (.cells #[.int .i64 4,.int .i64 0,.int .i64 0,.int .i64 0,.int .i64 400,.int .i64 0,.string (strOfNums []),.string (strOfNums [])] 164)) N 164 #[.int .i64 4,.int .i64 0,.int .i64 0,.int .i64 0,.int .i64 400,.int .i64 0,.string (strOfNums []),.string (strOfNums [])]:=Blk.new_at w _ _ N hN.symm
 have b1:Below (w.alloc (.cells #[.int .i64 4,.int .i64 0,.int .i64 0,.int .i64 0,.int .i64 400,.int .i64 0,.string (strOfNums []),.string (strOfNums [])] 164)).heap.size (w.alloc (.cells #[.int .i64 4,.int .i64 0,.int .i64 0,.int .i64 0,.int .i64 400,.int .i64 0,.string (strOfNums []),.string (strOfNums [])] 164)) ((w.alloc (.cells #[.int .i64 4,.int .i64 0,.int .i64 0,.int .i64 0,.int .i64 400,.int .i64 0,.string (strOfNums []),.string (strOfNums [])] 164)).alloc (.cells #[.int .i64 0,.int .i64 0] 153)):=(Below.refl _ _).alloc (Nat.le_refl _) _
 have Y:ae (Blk ((w.alloc (.cells #[.int .i64 4,.int .i64 0,.int .i64 0,.int .i64 0,.int .i64 400,.int .i64 0,.string (strOfNums []),.string (strOfNums [])] 164)).alloc (.cells #[.int .i64 0,.int .i64 0] 153)) R 153 #[.int .i64 0,.int .i64 0]):=⟨Blk.new_at _ _ _ R hR.symm⟩
 have X:ae (Blk ((w.alloc (.cells #[.int .i64 4,.int .i64 0,.int .i64 0,.int .i64 0,.int .i64 400,.int .i64 0,.string (strOfNums []),.string (strOfNums [])] 164)).alloc (.cells #[.int .i64 0,.int .i64 0] 153)) N 164 #[.int .i64 4,.int .i64 0,.int .i64 0,.int .i64 0,.int .i64 400,.int .i64 0,.string (strOfNums []),.string (strOfNums [])]):=⟨x0.below b1 x0.lt⟩
 have B:ae (Below w.heap.size w ((w.alloc (.cells #[.int .i64 4,.int .i64 0,.int .i64 0,.int .i64 0,.int .i64 400,.int .i64 0,.string (strOfNums []),.string (strOfNums [])] 164)).alloc (.cells #[.int .i64 0,.int .i64 0] 153))):=⟨b0.trans (b1.mono b0.size)⟩
 have WR:ae (w.heap.size≤R):=⟨by rw[← hR];exact b0.size⟩
 have RO:ae (R∉t :: lf x b G v d):=⟨fun hm=>by have:=h.lts R hm;have:=x0.lt;omega⟩
 have L:=ae.mk (h.below B.out)
 clear b0 b1 x0 h
 go_enter Tryz.func161,Tryz.ntmps161
 go_upto_region 1 with(fail)
 generalize ((w.alloc (.cells #[.int .i64 4,.int .i64 0,.int .i64 0,.int .i64 0,.int .i64 400,.int .i64 0,.string (strOfNums []),.string (strOfNums [])] 164)).alloc (.cells #[.int .i64 0,.int .i64 0] 153))=w1 at *
 have h0:=X.out.cell 0;have h1:=X.out.cell 1;have h2:=X.out.cell 2;have h3:=X.out.cell 3;have h4:=X.out.cell 4;have h5:=X.out.cell 5;have h6:=X.out.cell 6;have h7:=X.out.cell 7
 go_wp2_with fail
 refine(KW.out _).mono ?_
 rintro e w2 ⟨rfl,bb⟩
 replace X:=ae.mk (X.out.below bb X.out.lt);replace Y:=ae.mk (Y.out.below bb Y.out.lt);replace B:=ae.mk (B.out.trans (bb.mono B.out.size));replace L:=ae.mk (L.out.below bb)
 clear KW bb h0 h1 h2 h3 h4 h5 h6 h7
 have KP:=Gh party L.out
 rw[HQP.out] at KP
 have KP2:=ae.mk KP
 clear KP HQP
 go_wp2_with fail
 refine KP2.out.mono ?_
 rintro e w3 ⟨rfl,rfl⟩
 clear KP2
 cases qp with
 | false =>
  obtain rfl:1=u:=HU.out
  have LK:ae (Lk w2 t _ x s):=⟨⟨b,q,G,v,d,L.out,rfl⟩⟩
  have FP:ae (Fp (t :: lf x b G v d) (t :: lf x b G v d) w w2):=⟨⟨barOf B.out _,fun _ hk=>.inl hk⟩⟩
  have y0:w2.cell? ⟨R,0,none⟩=some (.int .i64 0):=Y.out.cell 0;have y1:w2.cell? ⟨R,1,none⟩=some (.int .i64 0):=Y.out.cell 1
  have z0:=Y.out.frozen 0;have z1:=Y.out.frozen 1
  have PP:=ae.mk (put2 Y.out (.int .i64 1) (.int .i64 0))
  go_wp2
  (try simp only[Exit.inBlock,Exit.then])
  refine bodyPost_ret (results_cell_row rfl _ _ R 153 #[.int .i64 1,.int .i64 0] (0,0) _ rfl PP.out.1 Tryz.underlying153 rfl tV) rfl ?_
  exact⟨rfl,_,LK.out.put PP.out.2 RO.out,JL FP.out PP.out.2 WR.out⟩
 | true =>
  obtain rfl:8=u:=HU.out
  have KR:=I9 4 HW.out L.out
  unfold nP at KR
  rw[show CW s 4=true from rfl] at KR
  have KR2:=ae.mk KR
  clear KR
  have h0:=X.out.cell 0
  go_wp2_with fail
  refine KR2.out.mono ?_
  rintro e w3 ⟨rfl,bb⟩
  replace X:=ae.mk (X.out.below bb X.out.lt);replace Y:=ae.mk (Y.out.below bb Y.out.lt);replace B:=ae.mk (B.out.trans (bb.mono B.out.size));replace L:=ae.mk (L.out.below bb)
  clear KR2 bb h0
  have h0:=X.out.cell 0;have h1:=X.out.cell 1;have h2:=X.out.cell 2;have h3:=X.out.cell 3;have h4:=X.out.cell 4;have h5:=X.out.cell 5;have h6:=X.out.cell 6;have h7:=X.out.cell 7
  go_wp2_with fail
  refine(KD0.out _ L.out).mono ?_
  rintro e w4 ⟨rfl,bb⟩
  replace Y:=ae.mk (Y.out.below bb Y.out.lt);replace B:=ae.mk (B.out.trans (bb.mono B.out.size));replace L:=ae.mk (L.out.below bb)
  clear KD0 bb h0 h1 h2 h3 h4 h5 h6 h7 X
  have LK:ae (Lk w4 t _ x s):=⟨⟨b,q,G,v,d,L.out,rfl⟩⟩
  have FP:ae (Fp (t :: lf x b G v d) (t :: lf x b G v d) w w4):=⟨⟨barOf B.out _,fun _ hk=>.inl hk⟩⟩
  have y0:w4.cell? ⟨R,0,none⟩=some (.int .i64 0):=Y.out.cell 0;have y1:w4.cell? ⟨R,1,none⟩=some (.int .i64 0):=Y.out.cell 1
  have z0:=Y.out.frozen 0;have z1:=Y.out.frozen 1
  have PP:=ae.mk (put2 Y.out (.int .i64 8) (.int .i64 0))
  go_wp2
  (try simp only[Exit.inBlock,Exit.then])
  refine bodyPost_ret (results_cell_row rfl _ _ R 153 #[.int .i64 8,.int .i64 0] (0,0) _ rfl PP.out.1 Tryz.underlying153 rfl tV) rfl ?_
  exact⟨rfl,_,LK.out.put PP.out.2 RO.out,JL FP.out PP.out.2 WR.out⟩
theorem JR (party:Int):AskC party [ik]:=fun r hr w' t x F' s' hw _ hk=>by
 rw[List.mem_singleton] at hr
 subst hr
 obtain⟨b,q,G,v,d,hL,rfl⟩:=hk
 exact Qc party hw hL
end
end Ledger
end Go.Proofs.YtlkeieoecfkkeaaGreat
