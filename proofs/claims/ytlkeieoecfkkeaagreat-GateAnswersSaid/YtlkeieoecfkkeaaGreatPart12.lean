/-
  Parts laid together: ReqPost ReqPostA ReqCText ReqCPut ReqCPutV ReqCAll ReqCEnc ReqCodeDec LedgerRead ReqCEncA ReqCGetText LedgerR1 LedgerR2 ReqRPut0 ReqRNone.
-/
import Derived.Test.YtlkeieoecfkkeaaGreatPart8
import Derived.Test.YtlkeieoecfkkeaaGreatPart2
import Derived.Test.YtlkeieoecfkkeaaGreatPart9
import Derived.Test.YtlkeieoecfkkeaaGreatPart6
import Derived.Test.YtlkeieoecfkkeaaGreatPart3
import Derived.Test.YtlkeieoecfkkeaaGreatPart7
import Derived.Test.YtlkeieoecfkkeaaGreatPart1
import Derived.Deep.RegionHeld3
import Derived.Test.YtlkeieoecfkkeaaGreatPart11
import Derived.LoopN
import Derived.Test.YtlkeieoecfkkeaaGreatPart5
set_option maxRecDepth 100000
set_option maxHeartbeats 4000000
namespace Go.Proofs.YtlkeieoecfkkeaaGreat
namespace Req
open Go.RowKit Sha Wire
theorem dY {P:Program}{fn:Func}{p u:Tmp}{ty:TypeId}(h:fn.results=#[.cell p ty,.tmp u]) (tmps:Array Value) (w:World) (g:Nat) (t:TypeId) (cs:Array Value) (fr:Nat × Nat) (d:TypeDesc)
  (hp:tmps.getD p undef=.pointer (some ⟨g,0,none⟩)) (hg:w.heap[g]?=some (.cells cs t fr))
  (hu:P.underlying ty=some d) (hd:(match d with|.struct _|.array _ _=>true|_=>false)=true) (hi:(P.info? ty).map (·.size)=some cs.size) :
  (results fn tmps).run P w=.ok (.tuple #[.agg cs,tmps.getD u undef]) w:=by
 have hp':tmps[p]?.getD undef=.pointer (some ⟨g,0,none⟩):=by simpa using hp
 simp[results,h,hp',asAddr,run_loadVar_row w g t ty cs fr d hg hu hd hi,Result.andThen]
theorem lY:(Tryz.prog.info? 72).map (·.size)=some 2:=by kernel_rfl
def uJ (r:Int × List Int) (w:World) (x:Ending) (w':World):Prop:=∃ A n c,x=.returned (.tuple #[.slice A n c,.int .i64 r.1])∧n≤c∧c≤9223372036854775807∧Rd w' A n r.2∧Below w.heap.size w w'
def ji (p:Prop) (w:World) (e:Ending) (w':World):Prop:=∃ q:Bool,e=.returned (.bool q)∧(q=true ↔ p)∧Below w.heap.size w w'
theorem qf {w:World}{F:List Nat}{e:Nat}(a b c:Int) {st:St}(h:En 301 w F e st) (hl:st.2.length≤1000000000):Calls Tryz.prog 208 #[.pointer (some ⟨e,0,none⟩),.int .i64 a,.int .i64 b,.int .i64 c] w fun x w'=>x=.returned (.tuple #[])∧∃ F',En 301 w' F' e (mJ st a b c)∧Fp F F' w w':=by
 have l1:=aj st a 1
 have l2:=aj (encNum st a 1) b 1
 have KC:=aP w F e a 1 st h (by omega)
 clear h
 go_enter Tryz.func208,Tryz.ntmps208
 go_wp2_with fail
 refine KC.mono ?_
 rintro x w1 ⟨rfl,F1,he,fp⟩
 have FP:=ae.mk fp
 have KC2:=aP w1 F1 e b 1 _ he (by omega)
 clear he fp KC
 go_wp2_with fail
 refine KC2.mono ?_
 rintro x w2 ⟨rfl,F2,he,fp⟩
 replace FP:=ae.mk (FP.out.trans fp)
 have KC:=aP w2 F2 e c 8 _ he (by omega)
 clear he fp KC2
 go_wp2_with fail
 refine KC.mono ?_
 rintro x w3 ⟨rfl,F3,he,fp⟩
 replace FP:=ae.mk (FP.out.trans fp)
 have HE:=ae.mk he
 clear he fp KC
 go_wp2
 go_end0
 exact⟨rfl,F3,HE.out,FP.out⟩
theorem qg {w:World}{F:List Nat}{e:Nat}(b:List Int) (hb:Bytes b) (hbl:b.length≤100000) {st:St}(h:En 301 w F e st) (hl:st.2.length≤1000000000):Calls Tryz.prog 209 #[.pointer (some ⟨e,0,none⟩),.string (strOfNums b)] w fun x w'=>x=.returned (.tuple #[])∧∃ F',En 301 w' F' e (wText st b)∧Fp F F' w w':=by
 obtain⟨w1,c,hcv,r1,b1⟩:=Ry w b hb
 have HE:ae (En 301 w1 F e (wText st (b.take 0))):=⟨by rw[List.take_zero,wText,Su];exact h.below b1⟩
 have FP:ae (Fp F F w w1):=⟨⟨barOf b1 F,fun _ hk=>.inl hk⟩⟩
 obtain⟨M,hM⟩:∃ M,w.heap.size=M:=⟨_,rfl⟩
 rw[hM] at hcv r1
 have OF:ae (Off (some ⟨M,0,none⟩) b.length F):=⟨.inr ⟨M,0,rfl,fun hm=>by have:=h.lt M hm;omega⟩⟩
 have R:=ae.mk r1
 have LB:=ae.mk (show ∀ k,k≤b.length→(wText st (b.take k)).2.length≤1000100000 from fun k hk=>by
  have:=Ed st True (b.take k)
  rw[List.length_take] at this
  unfold wText;omega)
 have HB:=ae.mk hb
 clear r1 b1 h hb hM
 obtain⟨n,hn⟩:∃ n,b.length=n:=⟨_,rfl⟩
 have HN:=ae.mk hn
 rw[hn] at hcv R OF LB hbl
 clear hn
 go_enter Tryz.func209,Tryz.ntmps209
 go_wp2
 clear hcv
 go_loopw [9] (fun i wr=>∃ (k:Nat) (F':List Nat),k≤n∧i=.int .i64 k∧ae (En 301 wr F' e (wText st (b.take k)))∧ae (Fp F F' w wr)∧ae (Off (some ⟨M,0,none⟩) n F')∧ae (Rd wr (some ⟨M,0,none⟩) n b)) (fun i _=>n - (Go.RowKit.intOf i).toNat)
 case atStart=>exact⟨0,F,by omega,rfl,HE,FP,OF,R⟩
 case round =>
  clear HE FP OF R
  obtain⟨k,F',hk,rfl,HE,FP,OF,R⟩:=hrel
  by_cases hkn:k < n
  ·have hkn':(k:Int) < n:=by omega
   have hkb:k < b.length:=by have:=HN.out;omega
   have hc:wr.cell? ⟨M,k,none⟩=some (.int .u8 (at_ b k)):=by
    obtain⟨-,-,h3⟩:=R.out
    rcases h3 with h3|⟨g,o,hg,hc⟩
    ·omega
    ·have:=hc k hkn
     simp only[Option.some.injEq,Addr.mk.injEq] at hg
     obtain⟨rfl,rfl,-⟩:=hg
     simpa using this
   have hx:=HB.out.at_ k
   have KC:=aP wr F' e (at_ b k) 1 _ HE.out (by have:=LB.out k hk;omega)
   rw[Gt _ _ _ hx,show b.take k++[at_ b k]=b.take (k+1) by rw[List.take_succ_eq_append_getElem hkb];simp[at_,hkb]] at KC
   obtain⟨z,hz⟩:∃ z,at_ b k=z:=⟨_,rfl⟩
   rw[hz] at KC hc hx
   have KK:=ae.mk KC
   clear KC hz hkb
   go_wp2_with fail
   refine KK.out.mono ?_
   rintro x w2 ⟨rfl,F2,he,fp⟩
   have OF2:=ae.mk (OF.out.step R.out fp)
   replace R:=ae.mk (R.out.far fp.1 OF.out)
   replace OF:=OF2
   replace FP:=ae.mk (FP.out.trans fp)
   replace HE:=ae.mk he
   clear he fp KK OF2 hc hx
   go_wp2
   go_roundw
   case rel=>exact⟨k+1,F2,by omega,by go_num,HE,FP,OF,R⟩
   case measure=>simp[Go.RowKit.intOf];omega
  ·have hkn':¬ (k:Int) < n:=by omega
   obtain rfl:k=n:=by omega
   have hh:b.take k=b:=by rw[← HN.out];exact List.take_length
   rw[hh] at HE
   go_wp2
   go_end0
   exact⟨rfl,F',HE.out,FP.out⟩
theorem aI {F F':List Nat}{w w':World}{N:Nat}(fp:Fp F F' w w') (h:N∉F) (hlt:N < w.heap.size):N∉F':=fun hm=>by
 rcases fp.2 N hm with h1|h1
 ·exact h h1
 ·omega
theorem xK (st:St) (a b c:Int):(mJ st a b c).2.length≤st.2.length+24:=by
 have l1:=aj st a 1
 have l2:=aj (encNum st a 1) b 1
 have l3:=aj (encNum (encNum st a 1) b 1) c 8
 unfold mJ;omega
theorem xM (st:St) (b:List Int):(wText st b).2.length≤st.2.length+b.length:=Ed st True b
theorem IM {w:World}{F:List Nat}{e:Nat}{st:St}{r:RV}(h:En 301 w F e st) (hr:r.ok) (hl:st.2.length≤900000000):Calls Tryz.prog 244 #[.pointer (some ⟨e,0,none⟩),rqv r] w fun x w'=>x=.returned (.bool (decide (HoldR r)))∧∃ F',En 301 w' F' e (if HoldR r then wReq st r else st)∧Fp F F' w w':=by
 have KH0:=fun w=>Om r hr w
 have LE:=aj
 obtain⟨kind,dst,asset,amount,id,due,hash,sec⟩:=r
 obtain⟨hb1,hb2⟩:=hr
 unfold rqv at *
 dsimp only at KH0 hb1 hb2 ⊢
 have hN:w.heap.size∉F:=fun hm=>by have:=h.lt _ hm;omega
 have bz:∀ o,Below w.heap.size w (w.alloc o):=fun o=>(Below.refl _ _).alloc (Nat.le_refl _) o
 have NF:=ae.mk hN
 have HE0:=ae.mk (fun o=>h.below (bz o))
 have FP0:ae (∀ o,Fp F F w (w.alloc o)):=⟨fun o=>⟨barOf (bz o) F,fun _ hk=>.inl hk⟩⟩
 have X0:=ae.mk (fun cs=>Blk.new w 164 cs)
 obtain⟨N,hN2⟩:∃ N,w.heap.size=N:=⟨_,rfl⟩
 rw[hN2] at NF X0
 clear hN bz h
 by_cases hh:HoldR ⟨kind,dst,asset,amount,id,due,hash,sec⟩
 ·rw[if_pos hh,decide_eq_true hh]
  rw[decide_eq_true hh] at KH0
  rcases hh with⟨h_kind,h_id,h_due,h_hash,h_sec⟩|⟨h_kind,h_id,h_due,h_hash,h_sec⟩|⟨h_kind,h_dst,h_asset,h_amount,h_due,h_hash,h_sec⟩|⟨h_kind,h_dst,h_asset,h_amount,h_due,h_hash,h_sec⟩
  ·dsimp only at h_kind h_id h_due h_hash h_sec
   subst h_kind h_id h_due h_hash h_sec
   have HE:=ae.mk (HE0.out (.cells #[.int .i64 1,.int .i64 dst,.int .i64 asset,.int .i64 amount,.int .i64 0,.int .i64 0,.string (strOfNums []),.string (strOfNums [])] 164));have FP:=ae.mk (FP0.out (.cells #[.int .i64 1,.int .i64 dst,.int .i64 asset,.int .i64 amount,.int .i64 0,.int .i64 0,.string (strOfNums []),.string (strOfNums [])] 164));have X:=ae.mk (X0.out #[.int .i64 1,.int .i64 dst,.int .i64 asset,.int .i64 amount,.int .i64 0,.int .i64 0,.string (strOfNums []),.string (strOfNums [])])
   have KH:=ae.mk KH0
   clear KH0
   go_enter Tryz.func244,Tryz.ntmps244
   go_upto_region 1 with(fail)
   generalize w.alloc (.cells #[.int .i64 1,.int .i64 dst,.int .i64 asset,.int .i64 amount,.int .i64 0,.int .i64 0,.string (strOfNums []),.string (strOfNums [])] 164)=w0 at *
   clear HE0 FP0 X0
   have x0:=X.out.cell 0;have x1:=X.out.cell 1;have x2:=X.out.cell 2;have x3:=X.out.cell 3;have x4:=X.out.cell 4;have x5:=X.out.cell 5;have x6:=X.out.cell 6;have x7:=X.out.cell 7
   go_wp2_with fail
   refine(KH.out _).mono ?_
   rintro x w1 ⟨rfl,b1⟩
   replace X:=ae.mk (X.out.below b1 X.out.lt);replace HE:=ae.mk (HE.out.below b1);replace FP:=ae.mk (FP.out.trans (F'':=F) ⟨barOf b1 _,fun _ hk=>.inl hk⟩)
   clear b1 KH x0 x1 x2 x3 x4 x5 x6 x7
   have x0:=X.out.cell 0
   have KC:=aP w1 F e 1 1 _ HE.out (by have:=hl;omega)
   go_wp2_with fail
   refine KC.mono ?_
   rintro x w2 ⟨rfl,F2,he,fp⟩
   have hlt:=X.out.lt
   have LB2:ae ((encNum st 1 1).2.length≤900000000+8):=⟨by
    have a1:=aj st 1 1
    omega⟩
   replace X:=ae.mk (X.out.bar fp.1 NF.out);replace NF:=ae.mk (aI fp NF.out hlt);replace FP:=ae.mk (FP.out.trans fp);replace HE:=ae.mk he
   clear he fp KC hlt x0
   have x0:=X.out.cell 0;have x1:=X.out.cell 1;have x2:=X.out.cell 2;have x3:=X.out.cell 3
   have KC:=qf dst asset amount HE.out (by have:=hl;have:=LB2.out;omega)
   go_wp2_with fail
   refine KC.mono ?_
   rintro x w3 ⟨rfl,F3,he,fp⟩
   have hlt:=X.out.lt
   have LB3:ae ((mJ (encNum st 1 1) dst asset amount).2.length≤900000000+32):=⟨by
    have a1:=xK (encNum st 1 1) dst asset amount
    have:=LB2.out;omega⟩
   replace X:=ae.mk (X.out.bar fp.1 NF.out);replace NF:=ae.mk (aI fp NF.out hlt);replace FP:=ae.mk (FP.out.trans fp);replace HE:=ae.mk he
   clear he fp KC hlt x0 x1 x2 x3
   go_wp2
   go_ret
   refine⟨rfl,_,?_,FP.out⟩
   rw[← XG st dst asset amount];exact HE.out
  ·dsimp only at h_kind h_id h_due h_hash h_sec
   subst h_kind h_id h_sec
   have HE:=ae.mk (HE0.out (.cells #[.int .i64 2,.int .i64 dst,.int .i64 asset,.int .i64 amount,.int .i64 0,.int .i64 due,.string (strOfNums hash),.string (strOfNums [])] 164));have FP:=ae.mk (FP0.out (.cells #[.int .i64 2,.int .i64 dst,.int .i64 asset,.int .i64 amount,.int .i64 0,.int .i64 due,.string (strOfNums hash),.string (strOfNums [])] 164));have X:=ae.mk (X0.out #[.int .i64 2,.int .i64 dst,.int .i64 asset,.int .i64 amount,.int .i64 0,.int .i64 due,.string (strOfNums hash),.string (strOfNums [])])
   have KH:=ae.mk KH0
   clear KH0
   go_enter Tryz.func244,Tryz.ntmps244
   go_upto_region 1 with(fail)
   generalize w.alloc (.cells #[.int .i64 2,.int .i64 dst,.int .i64 asset,.int .i64 amount,.int .i64 0,.int .i64 due,.string (strOfNums hash),.string (strOfNums [])] 164)=w0 at *
   clear HE0 FP0 X0
   have x0:=X.out.cell 0;have x1:=X.out.cell 1;have x2:=X.out.cell 2;have x3:=X.out.cell 3;have x4:=X.out.cell 4;have x5:=X.out.cell 5;have x6:=X.out.cell 6;have x7:=X.out.cell 7
   go_wp2_with fail
   refine(KH.out _).mono ?_
   rintro x w1 ⟨rfl,b1⟩
   replace X:=ae.mk (X.out.below b1 X.out.lt);replace HE:=ae.mk (HE.out.below b1);replace FP:=ae.mk (FP.out.trans (F'':=F) ⟨barOf b1 _,fun _ hk=>.inl hk⟩)
   clear b1 KH x0 x1 x2 x3 x4 x5 x6 x7
   have x0:=X.out.cell 0
   have KC:=aP w1 F e 2 1 _ HE.out (by have:=hl;omega)
   go_wp2_with fail
   refine KC.mono ?_
   rintro x w2 ⟨rfl,F2,he,fp⟩
   have hlt:=X.out.lt
   have LB2:ae ((encNum st 2 1).2.length≤900000000+8):=⟨by
    have a1:=aj st 2 1
    omega⟩
   replace X:=ae.mk (X.out.bar fp.1 NF.out);replace NF:=ae.mk (aI fp NF.out hlt);replace FP:=ae.mk (FP.out.trans fp);replace HE:=ae.mk he
   clear he fp KC hlt x0
   have x0:=X.out.cell 0;have x1:=X.out.cell 1;have x2:=X.out.cell 2;have x3:=X.out.cell 3
   have KC:=qf dst asset amount HE.out (by have:=hl;have:=LB2.out;omega)
   go_wp2_with fail
   refine KC.mono ?_
   rintro x w3 ⟨rfl,F3,he,fp⟩
   have hlt:=X.out.lt
   have LB3:ae ((mJ (encNum st 2 1) dst asset amount).2.length≤900000000+32):=⟨by
    have a1:=xK (encNum st 2 1) dst asset amount
    have:=LB2.out;omega⟩
   replace X:=ae.mk (X.out.bar fp.1 NF.out);replace NF:=ae.mk (aI fp NF.out hlt);replace FP:=ae.mk (FP.out.trans fp);replace HE:=ae.mk he
   clear he fp KC hlt x0 x1 x2 x3
   have x0:=X.out.cell 0;have x6:=X.out.cell 6
   have KC:=qg hash hb1 (by omega) HE.out (by have:=hl;have:=LB2.out;have:=LB3.out;omega)
   go_wp2_with fail
   refine KC.mono ?_
   rintro x w4 ⟨rfl,F4,he,fp⟩
   have hlt:=X.out.lt
   have LB4:ae ((wText (mJ (encNum st 2 1) dst asset amount) hash).2.length≤900000000+64):=⟨by
    have a1:=xM (mJ (encNum st 2 1) dst asset amount) hash
    have:=LB3.out;omega⟩
   replace X:=ae.mk (X.out.bar fp.1 NF.out);replace NF:=ae.mk (aI fp NF.out hlt);replace FP:=ae.mk (FP.out.trans fp);replace HE:=ae.mk he
   clear he fp KC hlt x0 x6
   have x0:=X.out.cell 0;have x5:=X.out.cell 5
   have KC:=aP w4 F4 e due 8 _ HE.out (by have:=hl;have:=LB2.out;have:=LB3.out;have:=LB4.out;omega)
   go_wp2_with fail
   refine KC.mono ?_
   rintro x w5 ⟨rfl,F5,he,fp⟩
   have hlt:=X.out.lt
   have LB5:ae ((encNum (wText (mJ (encNum st 2 1) dst asset amount) hash) due 8).2.length≤900000000+72):=⟨by
    have a1:=aj (wText (mJ (encNum st 2 1) dst asset amount) hash) due 8
    have:=LB4.out;omega⟩
   replace X:=ae.mk (X.out.bar fp.1 NF.out);replace NF:=ae.mk (aI fp NF.out hlt);replace FP:=ae.mk (FP.out.trans fp);replace HE:=ae.mk he
   clear he fp KC hlt x0 x5
   go_wp2
   go_ret
   refine⟨rfl,_,?_,FP.out⟩
   rw[← XH st dst asset amount due hash h_due];exact HE.out
  ·dsimp only at h_kind h_dst h_asset h_amount h_due h_hash h_sec
   subst h_kind h_dst h_asset h_amount h_due h_hash
   have HE:=ae.mk (HE0.out (.cells #[.int .i64 3,.int .i64 0,.int .i64 0,.int .i64 0,.int .i64 id,.int .i64 0,.string (strOfNums []),.string (strOfNums sec)] 164));have FP:=ae.mk (FP0.out (.cells #[.int .i64 3,.int .i64 0,.int .i64 0,.int .i64 0,.int .i64 id,.int .i64 0,.string (strOfNums []),.string (strOfNums sec)] 164));have X:=ae.mk (X0.out #[.int .i64 3,.int .i64 0,.int .i64 0,.int .i64 0,.int .i64 id,.int .i64 0,.string (strOfNums []),.string (strOfNums sec)])
   have KH:=ae.mk KH0
   clear KH0
   go_enter Tryz.func244,Tryz.ntmps244
   go_upto_region 1 with(fail)
   generalize w.alloc (.cells #[.int .i64 3,.int .i64 0,.int .i64 0,.int .i64 0,.int .i64 id,.int .i64 0,.string (strOfNums []),.string (strOfNums sec)] 164)=w0 at *
   clear HE0 FP0 X0
   have x0:=X.out.cell 0;have x1:=X.out.cell 1;have x2:=X.out.cell 2;have x3:=X.out.cell 3;have x4:=X.out.cell 4;have x5:=X.out.cell 5;have x6:=X.out.cell 6;have x7:=X.out.cell 7
   go_wp2_with fail
   refine(KH.out _).mono ?_
   rintro x w1 ⟨rfl,b1⟩
   replace X:=ae.mk (X.out.below b1 X.out.lt);replace HE:=ae.mk (HE.out.below b1);replace FP:=ae.mk (FP.out.trans (F'':=F) ⟨barOf b1 _,fun _ hk=>.inl hk⟩)
   clear b1 KH x0 x1 x2 x3 x4 x5 x6 x7
   have x0:=X.out.cell 0
   have KC:=aP w1 F e 3 1 _ HE.out (by have:=hl;omega)
   go_wp2_with fail
   refine KC.mono ?_
   rintro x w2 ⟨rfl,F2,he,fp⟩
   have hlt:=X.out.lt
   have LB2:ae ((encNum st 3 1).2.length≤900000000+8):=⟨by
    have a1:=aj st 3 1
    omega⟩
   replace X:=ae.mk (X.out.bar fp.1 NF.out);replace NF:=ae.mk (aI fp NF.out hlt);replace FP:=ae.mk (FP.out.trans fp);replace HE:=ae.mk he
   clear he fp KC hlt x0
   have x0:=X.out.cell 0;have x4:=X.out.cell 4
   have KC:=aP w2 F2 e id 2 _ HE.out (by have:=hl;have:=LB2.out;omega)
   go_wp2_with fail
   refine KC.mono ?_
   rintro x w3 ⟨rfl,F3,he,fp⟩
   have hlt:=X.out.lt
   have LB3:ae ((encNum (encNum st 3 1) id 2).2.length≤900000000+16):=⟨by
    have a1:=aj (encNum st 3 1) id 2
    have:=LB2.out;omega⟩
   replace X:=ae.mk (X.out.bar fp.1 NF.out);replace NF:=ae.mk (aI fp NF.out hlt);replace FP:=ae.mk (FP.out.trans fp);replace HE:=ae.mk he
   clear he fp KC hlt x0 x4
   have x0:=X.out.cell 0;have x7:=X.out.cell 7
   have KC:=qg sec hb2 (by omega) HE.out (by have:=hl;have:=LB2.out;have:=LB3.out;omega)
   go_wp2_with fail
   refine KC.mono ?_
   rintro x w4 ⟨rfl,F4,he,fp⟩
   have hlt:=X.out.lt
   have LB4:ae ((wText (encNum (encNum st 3 1) id 2) sec).2.length≤900000000+48):=⟨by
    have a1:=xM (encNum (encNum st 3 1) id 2) sec
    have:=LB3.out;omega⟩
   replace X:=ae.mk (X.out.bar fp.1 NF.out);replace NF:=ae.mk (aI fp NF.out hlt);replace FP:=ae.mk (FP.out.trans fp);replace HE:=ae.mk he
   clear he fp KC hlt x0 x7
   go_wp2
   go_ret
   refine⟨rfl,_,?_,FP.out⟩
   rw[← XI st id sec];exact HE.out
  ·dsimp only at h_kind h_dst h_asset h_amount h_due h_hash h_sec
   subst h_kind h_dst h_asset h_amount h_due h_hash h_sec
   have HE:=ae.mk (HE0.out (.cells #[.int .i64 4,.int .i64 0,.int .i64 0,.int .i64 0,.int .i64 id,.int .i64 0,.string (strOfNums []),.string (strOfNums [])] 164));have FP:=ae.mk (FP0.out (.cells #[.int .i64 4,.int .i64 0,.int .i64 0,.int .i64 0,.int .i64 id,.int .i64 0,.string (strOfNums []),.string (strOfNums [])] 164));have X:=ae.mk (X0.out #[.int .i64 4,.int .i64 0,.int .i64 0,.int .i64 0,.int .i64 id,.int .i64 0,.string (strOfNums []),.string (strOfNums [])])
   have KH:=ae.mk KH0
   clear KH0
   go_enter Tryz.func244,Tryz.ntmps244
   go_upto_region 1 with(fail)
   generalize w.alloc (.cells #[.int .i64 4,.int .i64 0,.int .i64 0,.int .i64 0,.int .i64 id,.int .i64 0,.string (strOfNums []),.string (strOfNums [])] 164)=w0 at *
   clear HE0 FP0 X0
   have x0:=X.out.cell 0;have x1:=X.out.cell 1;have x2:=X.out.cell 2;have x3:=X.out.cell 3;have x4:=X.out.cell 4;have x5:=X.out.cell 5;have x6:=X.out.cell 6;have x7:=X.out.cell 7
   go_wp2_with fail
   refine(KH.out _).mono ?_
   rintro x w1 ⟨rfl,b1⟩
   replace X:=ae.mk (X.out.below b1 X.out.lt);replace HE:=ae.mk (HE.out.below b1);replace FP:=ae.mk (FP.out.trans (F'':=F) ⟨barOf b1 _,fun _ hk=>.inl hk⟩)
   clear b1 KH x0 x1 x2 x3 x4 x5 x6 x7
   have x0:=X.out.cell 0
   have KC:=aP w1 F e 4 1 _ HE.out (by have:=hl;omega)
   go_wp2_with fail
   refine KC.mono ?_
   rintro x w2 ⟨rfl,F2,he,fp⟩
   have hlt:=X.out.lt
   have LB2:ae ((encNum st 4 1).2.length≤900000000+8):=⟨by
    have a1:=aj st 4 1
    omega⟩
   replace X:=ae.mk (X.out.bar fp.1 NF.out);replace NF:=ae.mk (aI fp NF.out hlt);replace FP:=ae.mk (FP.out.trans fp);replace HE:=ae.mk he
   clear he fp KC hlt x0
   have x0:=X.out.cell 0;have x4:=X.out.cell 4
   have KC:=aP w2 F2 e id 2 _ HE.out (by have:=hl;have:=LB2.out;omega)
   go_wp2_with fail
   refine KC.mono ?_
   rintro x w3 ⟨rfl,F3,he,fp⟩
   have hlt:=X.out.lt
   have LB3:ae ((encNum (encNum st 4 1) id 2).2.length≤900000000+16):=⟨by
    have a1:=aj (encNum st 4 1) id 2
    have:=LB2.out;omega⟩
   replace X:=ae.mk (X.out.bar fp.1 NF.out);replace NF:=ae.mk (aI fp NF.out hlt);replace FP:=ae.mk (FP.out.trans fp);replace HE:=ae.mk he
   clear he fp KC hlt x0 x4
   go_wp2
   go_ret
   refine⟨rfl,_,?_,FP.out⟩
   rw[← XJ st id];exact HE.out
 ·rw[if_neg hh,decide_eq_false hh]
  rw[decide_eq_false hh] at KH0
  have HE:=ae.mk (HE0.out (.cells #[.int .i64 kind,.int .i64 dst,.int .i64 asset,.int .i64 amount,.int .i64 id,.int .i64 due,.string (strOfNums hash),.string (strOfNums sec)] 164));have FP:=ae.mk (FP0.out (.cells #[.int .i64 kind,.int .i64 dst,.int .i64 asset,.int .i64 amount,.int .i64 id,.int .i64 due,.string (strOfNums hash),.string (strOfNums sec)] 164));have X:=ae.mk (X0.out #[.int .i64 kind,.int .i64 dst,.int .i64 asset,.int .i64 amount,.int .i64 id,.int .i64 due,.string (strOfNums hash),.string (strOfNums sec)])
  have KH:=ae.mk KH0
  clear KH0
  go_enter Tryz.func244,Tryz.ntmps244
  go_upto_region 1 with(fail)
  generalize w.alloc (.cells #[.int .i64 kind,.int .i64 dst,.int .i64 asset,.int .i64 amount,.int .i64 id,.int .i64 due,.string (strOfNums hash),.string (strOfNums sec)] 164)=w0 at *
  clear HE0 FP0 X0
  have x0:=X.out.cell 0;have x1:=X.out.cell 1;have x2:=X.out.cell 2;have x3:=X.out.cell 3;have x4:=X.out.cell 4;have x5:=X.out.cell 5;have x6:=X.out.cell 6;have x7:=X.out.cell 7
  go_wp2_with fail
  refine(KH.out _).mono ?_
  rintro x w1 ⟨rfl,b1⟩
  replace X:=ae.mk (X.out.below b1 X.out.lt);replace HE:=ae.mk (HE.out.below b1);replace FP:=ae.mk (FP.out.trans (F'':=F) ⟨barOf b1 _,fun _ hk=>.inl hk⟩)
  clear b1 KH x0 x1 x2 x3 x4 x5 x6 x7
  go_wp2
  go_ret
  exact⟨rfl,F,HE.out,FP.out⟩
def eQ (T:TypeId) (F:List Nat) (e:Nat) (st:St) (p:Prop) (w:World) (x:Ending) (w':World):Prop:=∃ q F',x=.returned (.bool q)∧Fp F F' w w'∧(q=true ↔ p)∧(q=true→En T w' F' e st)
theorem sO {α:Type}{l:List α}{k:Nat}{x:α}(h:l[k]?=some x):l.take (k+1)=l.take k++[x]:=by
 have hk:=(List.getElem?_eq_some_iff.1 h)
 obtain⟨hk,rfl⟩:=hk
 exact List.take_succ_eq_append_getElem hk
theorem IP {α:Type}{p:α→Prop}{l:List α}{k:Nat}{x:α}(h:l[k]?=some x) (ha:∀ r∈l.take k,p r) (hx:p x):∀ r∈l.take (k+1),p r:=by
 rw[sO h]
 intro r hr
 rcases List.mem_append.1 hr with h1|h1
 ·exact ha r h1
 ·rw[List.mem_singleton] at h1;subst h1;exact hx
theorem AY {w:World}{F:List Nat}{e B:Nat}{st:St}{A:Option Addr}{n c:Nat}{l:List RV}(h:En 301 w F e st) (hl:st.2.length≤800000000) (hB:B≤w.heap.size) (hF:∀ f∈F,B≤f) (hR:∀ w',Below B w w'→Rr w' A n l) (hok:∀ r∈l,r.ok) :
  Calls Tryz.prog 243 #[.pointer (some ⟨e,0,none⟩),.slice A n c,.int .i64 1,.int .i64 64,.func (.func 244) #[] #[]] w (eQ 301 F e (wAll wReq (encNum st n 1) l) (n≤64∧∀ r∈l,HoldR r) w):=by
 have LN:=ae.mk (hR w (Below.refl _ _)).1
 have RN:=ae.mk hR
 have HO:=ae.mk hok
 have LE:=aj st n 1
 generalize hP:(n≤64∧∀ r∈l,HoldR r)=P
 have HP:=ae.mk hP
 clear hP
 by_cases hm:n≤64
 ·have hm':(n:Int)≤64:=by omega
  have KC:=aP w F e (n:Int) 1 st h (by omega)
  obtain⟨s1,hst⟩:∃ s1,encNum st (n:Int) 1=s1:=⟨_,rfl⟩
  rw[hst] at KC LE ⊢
  have HB:=ae.mk hB;have HF:=ae.mk hF
  clear hst h hR hB hF hok
  go_enter Tryz.func243,Tryz.ntmps243
  go_wp2_with fail
  refine KC.mono ?_
  rintro x w1 ⟨rfl,F1,he,fp⟩
  have BW:ae (Below B w w1):=⟨fp.below HF.out HB.out⟩
  have AF:ae (∀ f∈F1,B≤f):=⟨fp.least HF.out HB.out⟩
  have FP:=ae.mk fp
  have LS:ae (∀ k,k≤n→(∀ r∈l.take k,HoldR r)→(wAll wReq s1 (l.take k)).2.length≤900000000):=⟨fun k hk hh=>by
   have:=vN (f:=wReq) (m:=54) (l:=l.take k) (st:=s1) (fun st x hx=>PU (hh x hx))
   rw[List.length_take] at this
   have h2:min k l.length≤64:=by omega
   have h3:54 * min k l.length≤54 * 64:=Nat.mul_le_mul_left _ h2
   omega⟩
  have HE:ae (En 301 w1 F1 e (wAll wReq s1 (l.take 0))):=⟨by simpa [wAll] using he⟩
  have HH:ae (∀ r∈l.take 0,HoldR r):=⟨by simp⟩
  clear he fp KC LE hl
  go_wp2
  go_loopw [24] (fun i wr=>∃ (k:Nat) (F':List Nat),k≤n∧i=.int .i64 k∧ae (En 301 wr F' e (wAll wReq s1 (l.take k)))∧ae (Fp F F' w wr)∧ae (∀ f∈F',B≤f)∧ae (Below B w wr)∧ae (∀ r∈l.take k,HoldR r)) (fun i _=>n - (Go.RowKit.intOf i).toNat)
  case atStart=>exact⟨0,F1,by omega,rfl,HE,FP,AF,BW,HH⟩
  case round =>
   clear HE FP AF BW HH
   obtain⟨k,F',hk,rfl,HE,FP,AF,BW,HH⟩:=hrel
   by_cases hkn:k < n
   ·have hkn':(k:Int) < n:=by omega
    obtain⟨b,o,r,rfl,hx,hcell⟩:=(RN.out _ BW.out).at_ hkn
    have hrm:=List.mem_of_getElem? hx
    have HX:=ae.mk hx
    have LK:=LS.out k hk HH.out
    obtain⟨M,hM⟩:∃ M,wr.heap.size=M:=⟨_,rfl⟩
    obtain⟨kind,dst,asset,amount,id,due,hash,sec⟩:=r
    have y0:=hcell 0 _ rfl;have y1:=hcell 1 _ rfl;have y2:=hcell 2 _ rfl;have y3:=hcell 3 _ rfl;have y4:=hcell 4 _ rfl;have y5:=hcell 5 _ rfl;have y6:=hcell 6 _ rfl;have y7:=hcell 7 _ rfl
    rw[Nat.add_zero] at y0
    dsimp only at y0 y1 y2 y3 y4 y5 y6 y7
    have bz:Below M wr (wr.alloc (.cells #[.int .i64 kind,.int .i64 dst,.int .i64 asset,.int .i64 amount,.int .i64 id,.int .i64 due,.string (strOfNums hash),.string (strOfNums sec)] 164)):=(Below.refl _ _).alloc (by omega) _
    have XB:ae (Blk (wr.alloc (.cells #[.int .i64 kind,.int .i64 dst,.int .i64 asset,.int .i64 amount,.int .i64 id,.int .i64 due,.string (strOfNums hash),.string (strOfNums sec)] 164)) M 164 #[.int .i64 kind,.int .i64 dst,.int .i64 asset,.int .i64 amount,.int .i64 id,.int .i64 due,.string (strOfNums hash),.string (strOfNums sec)]):=⟨Blk.new_at wr _ _ M hM.symm⟩
    have hE2:=HE.out.keep (barOf (hM▸bz) []) (fun _ _=>by simp)
    have hFP:Fp F' F' wr (wr.alloc (.cells #[.int .i64 kind,.int .i64 dst,.int .i64 asset,.int .i64 amount,.int .i64 id,.int .i64 due,.string (strOfNums hash),.string (strOfNums sec)] 164)):=⟨barOf (hM▸bz) F',fun _ hk=>.inl hk⟩
    have hBW:=hFP.below AF.out (by have:=BW.out.size;have:=HB.out;omega)
    have KC:=IM (r:=⟨kind,dst,asset,amount,id,due,hash,sec⟩) hE2 (HO.out _ hrm) LK
    unfold rqv at KC
    dsimp only at KC
    replace HE:=ae.mk hE2;replace FP:=ae.mk (FP.out.trans hFP);replace BW:=ae.mk (BW.out.trans hBW)
    have KK:=ae.mk KC
    clear KC hE2 hFP hBW bz LK hx hcell hrm
    go_upto_region 7 with(fail)
    generalize wr.alloc (.cells #[.int .i64 kind,.int .i64 dst,.int .i64 asset,.int .i64 amount,.int .i64 id,.int .i64 due,.string (strOfNums hash),.string (strOfNums sec)] 164)=w2 at *
    clear y0 y1 y2 y3 y4 y5 y6 y7
    have x0:=XB.out.cell 0;have x1:=XB.out.cell 1;have x2:=XB.out.cell 2;have x3:=XB.out.cell 3;have x4:=XB.out.cell 4;have x5:=XB.out.cell 5;have x6:=XB.out.cell 6;have x7:=XB.out.cell 7
    have HQ:ae (l.take (k+1)=l.take k++[⟨kind,dst,asset,amount,id,due,hash,sec⟩]):=⟨sO HX.out⟩
    have HM:ae (⟨kind,dst,asset,amount,id,due,hash,sec⟩∈l):=⟨List.mem_of_getElem? HX.out⟩
    have HS:ae (HoldR ⟨kind,dst,asset,amount,id,due,hash,sec⟩→∀ r∈l.take (k+1),HoldR r):=⟨fun h=>IP HX.out HH.out h⟩
    by_cases hh:HoldR ⟨kind,dst,asset,amount,id,due,hash,sec⟩
    ·have KD:=KK.out
     rw[if_pos hh,decide_eq_true hh] at KD
     replace HH:=ae.mk (HS.out hh)
     rw[← JG wReq,← HQ.out] at KD
     clear KK HS HM hh
     have KK:=ae.mk KD
     clear KD
     go_wp2_with fail
     refine KK.out.mono ?_
     rintro x w3 ⟨rfl,F2,he,fp⟩
     have BW2:=ae.mk (BW.out.trans (fp.below AF.out (by have:=BW.out.size;have:=HB.out;omega)))
     have AF2:=ae.mk (fp.least AF.out (by have:=BW.out.size;have:=HB.out;omega))
     replace AF:=AF2;replace BW:=BW2;replace FP:=ae.mk (FP.out.trans fp);replace HE:=ae.mk he
     clear he fp KK AF2 BW2 x0 x1 x2 x3 x4 x5 x6 x7
     go_wp2
     go_roundw
     case rel=>exact⟨k+1,F2,by omega,by go_num,HE,FP,AF,BW,HH⟩
     case measure=>simp[Go.RowKit.intOf];omega
    ·have KD:=KK.out
     rw[if_neg hh,decide_eq_false hh] at KD
     have NO:ae (¬ P):=⟨fun h=>by rw[← HP.out] at h;exact hh (h.2 _ HM.out)⟩
     have KK2:=ae.mk KD
     clear KD KK HS HM hh
     go_wp2_with fail
     refine KK2.out.mono ?_
     rintro x w3 ⟨rfl,F2,he,fp⟩
     replace FP:=ae.mk (FP.out.trans fp)
     clear he fp KK2 x0 x1 x2 x3 x4 x5 x6 x7
     go_wp2
     go_ret
     exact⟨false,F2,rfl,FP.out,⟨fun h=>(by cases h),fun h=>(NO.out h).elim⟩,fun h=>(by cases h)⟩
   ·have hkn':¬ (k:Int) < n:=by omega
    obtain rfl:k=n:=by omega
    have hh:l.take k=l:=by rw[← LN.out];exact List.take_length
    rw[hh] at HE HH
    have YES:ae P:=⟨by rw[← HP.out];exact⟨hm,HH.out⟩⟩
    go_wp2
    go_ret
    exact⟨true,F',rfl,FP.out,⟨fun _=>YES.out,fun _=>rfl⟩,fun _=>HE.out⟩
 ·have hm':¬ (n:Int)≤64:=by omega
  have NO:ae (¬ P):=⟨fun h=>by rw[← HP.out] at h;exact hm h.1⟩
  clear hm
  have hm2:(64:Int) < n:=by omega
  clear h LE
  go_enter Tryz.func243,Tryz.ntmps243
  go_wp2
  go_ret
  exact⟨false,F,rfl,Fp.refl _ _,⟨fun h=>(by cases h),fun h=>(NO.out h).elim⟩,fun h=>(by cases h)⟩
theorem IQ (seen:Int) {A:Option Addr}{n c:Nat}{l:List RV}{w:World}(hr:Rr w A n l) (hok:∀ r∈l,r.ok):Calls Tryz.prog 226 #[.agg #[.int .i64 seen,.slice A n c]] w (uJ (encB ⟨seen,l⟩) w):=by
 have LN:=ae.mk hr.1
 have hb0:=tC (x:=⟨seen,l⟩) hok
 have hl0:=Pz ⟨seen,l⟩
 have EC:ae (n≤64∧(∀ r∈l,HoldR r)→wAll wReq (encNum (encNum (0,[]) seen 2) n 1) l=encB ⟨seen,l⟩):=⟨fun h=>by
  rw[← hr.1] at h ⊢;exact JH h.1 h.2⟩
 have EN:ae (¬ (n≤64∧∀ r∈l,HoldR r)→encB ⟨seen,l⟩=(1,[])):=⟨fun h=>Jp (fun k=>h ⟨by rw[← hr.1];exact k.2.1,fun r hm=>(vK.1 (k.2.2 r hm)).1⟩)⟩
 generalize encB ⟨seen,l⟩=R at *
 have HB:=ae.mk hb0
 have HO:=ae.mk hok
 obtain⟨N,hN⟩:∃ N,w.heap.size=N:=⟨_,rfl⟩
 have B0:Below N w (w.alloc (.cells #[.int .i64 seen,.slice A n c] 72)):=(Below.refl _ _).alloc (by omega) _
 have X:ae (Blk (w.alloc (.cells #[.int .i64 seen,.slice A n c] 72)) N 72 #[.int .i64 seen,.slice A n c]):=⟨Blk.new_at w _ _ N hN.symm⟩
 have HR:=ae.mk (hr.below (hN▸B0))
 have B:=ae.mk B0
 have HN:=ae.mk hN
 clear B0 hr hok hb0
 go_enter Tryz.func226,Tryz.ntmps226
 go_upto_region 1 with(fail)
 generalize w.alloc (.cells #[.int .i64 seen,.slice A n c] 72)=w1 at *
 have KN:=gW w1
 obtain⟨M,hM⟩:∃ M,w1.heap.size=M:=⟨_,rfl⟩
 have hNM:N < M:=by rw[← hM];exact X.out.lt
 have HX:ae (∀ w',Below M w1 w'→Blk w' N 72 #[.int .i64 seen,.slice A n c]):=⟨fun w' b=>X.out.below b hNM⟩
 have RX:ae (∀ w',Below M w1 w'→Rr w' A n l):=⟨fun w' b=>HR.out.below (hM▸b)⟩
 rw[hM] at KN
 go_wp2_with fail
 refine KN.mono ?_
 rintro x w2 ⟨rfl,he,fp⟩
 have BW:=ae.mk (fp.below (B:=M) (by simp) (by omega))
 have KC:=aP w2 [M] M seen 2 (0,[]) he (by simp)
 have LE:=aj (0,[]) seen 2
 obtain⟨s1,hs1⟩:∃ s,encNum (0,[]) seen 2=s:=⟨_,rfl⟩
 rw[hs1] at KC LE EC
 clear hs1 he fp KN X HR
 have x0:=(HX.out _ BW.out).cell 0
 go_wp2_with fail
 refine KC.mono ?_
 rintro x w3 ⟨rfl,F3,he,fp⟩
 have AF:=fp.least (B:=M) (by simp) (by have:=BW.out.size;omega)
 replace BW:=ae.mk (BW.out.trans (fp.below (B:=M) (by simp) (by have:=BW.out.size;omega)))
 have KP:=AY (B:=M) (c:=c) he (by have h0:([]:List Int).length=0:=rfl;simp only[h0] at LE;omega) (by have:=BW.out.size;omega) AF (fun w' b=>RX.out w' (BW.out.trans b)) HO.out
 have KP2:=ae.mk KP
 unfold eQ at KP2
 have AF2:=ae.mk AF
 clear he fp KC x0 KP AF LE
 have x1:=(HX.out _ BW.out).cell 1
 go_wp2_with fail
 refine KP2.out.mono ?_
 rintro x w4 ⟨q,F4,rfl,fp,hq,he⟩
 replace BW:=ae.mk (BW.out.trans (fp.below AF2.out (by have:=BW.out.size;omega)))
 have BE:ae (Below N w w4):=⟨B.out.trans (BW.out.mono (by omega))⟩
 clear fp KP2 x1
 cases q with
 | true =>
  have he2:=he rfl
  rw[EC.out (hq.1 rfl)] at he2
  have KD:=lU w4 F4 M R he2 HB.out (by omega)
  obtain⟨R1,R2⟩:=R
  clear he he2 hq
  go_wp2_with fail
  refine KD.mono ?_
  rintro x w5 ⟨v,rfl,own,b5⟩
  obtain⟨A5,c5,rfl,h1,h2,r5⟩:=aO own HB.out
  have R5:=ae.mk r5
  replace BE:=ae.mk (BE.out.trans (b5.mono (by have:=BE.out.size;omega)))
  clear KD own b5 r5
  go_wp2
  go_ret2
  exact⟨A5,_,c5,rfl,h1,h2,R5.out,by rw[HN.out];exact BE.out⟩
 | false =>
  obtain rfl:=EN.out (fun h=>by have:=hq.2 h;cases this)
  clear he hq
  go_wp2
  go_ret2
  exact⟨none,0,0,rfl,Nat.le_refl _,by omega,Rd.nil_,by rw[HN.out];exact BE.out⟩
end Req
namespace Req
open Sha Wire
def iter {α:Type} (g:St→α × St):Nat→St→List α × St
 | 0,st=>([],st)
 | k+1,st=>((iter g k st).1++[(g (iter g k st).2).1],(g (iter g k st).2).2)
def IR (st:St):List Int × St:=iter (fun s=>decNum s 1) 32 st
def rY (st:St):(Int × Int × Int) × St :=
 (((decNum st 1).1,(decNum (decNum st 1).2 1).1,(decNum (decNum (decNum st 1).2 1).2 8).1),(decNum (decNum (decNum st 1).2 1).2 8).2)
structure Way {α:Type} (g:St→α × St) (p:α→List Int) (hold may:α→Prop):Prop where
 rest:∀ st,Bytes st.2→Bytes (g st).2.2
 one:∀ st,Bytes st.2→(g st).2.1=0→hold (g st).1→st.1=0∧st.2=p (g st).1++(g st).2.2∧may (g st).1
 back:∀ x t,may x→Bytes (p x++t)→g (0,p x++t)=(x,(0,t))
theorem Way.iter {α:Type}{g:St→α × St}{p:α→List Int}{hold may:α→Prop}(W:Way g p hold may) (k:Nat) (st:St) (hb:Bytes st.2) :
  Bytes (Req.iter g k st).2.2∧((Req.iter g k st).2.1=0→(∀ x∈(Req.iter g k st).1,hold x)→st.1=0∧st.2=(Req.iter g k st).1.flatMap p++(Req.iter g k st).2.2∧∀ x∈(Req.iter g k st).1,may x):=by
 induction k with
 | zero=>exact⟨hb,fun h _=>⟨h,by simp[Req.iter],by simp[Req.iter]⟩⟩
 | succ k ih =>
  obtain⟨h1,h2⟩:=ih
  refine⟨W.rest _ h1,fun he hh=>?_⟩
  simp only[Req.iter] at he hh ⊢
  obtain⟨k1,k2,k3⟩:=W.one _ h1 he (hh _ (by simp))
  obtain⟨j1,j2,j3⟩:=h2 k1 (fun x hx=>hh x (List.mem_append_left _ hx))
  refine⟨j1,?_,fun x hx=>?_⟩
  ·rw[List.flatMap_append,List.flatMap_singleton,List.append_assoc,← k2]
   exact j2
  ·rcases List.mem_append.1 hx with hx|hx
   ·exact j3 x hx
   ·rw[List.mem_singleton] at hx;subst hx;exact k3
def cReq (st:St):RV × St :=
 if (decNum st 1).1=1 then (⟨1,(rY (decNum st 1).2).1.1,(rY (decNum st 1).2).1.2.1,(rY (decNum st 1).2).1.2.2,0,0,[],[]⟩,(rY (decNum st 1).2).2)
 else if (decNum st 1).1=2 then (⟨2,(rY (decNum st 1).2).1.1,(rY (decNum st 1).2).1.2.1,(rY (decNum st 1).2).1.2.2,0,(decNum (IR (rY (decNum st 1).2).2).2 8).1,(IR (rY (decNum st 1).2).2).1,[]⟩,(decNum (IR (rY (decNum st 1).2).2).2 8).2)
 else if (decNum st 1).1=3 then (⟨3,0,0,0,(decNum (decNum st 1).2 2).1,0,[],(IR (decNum (decNum st 1).2 2).2).1⟩,(IR (decNum (decNum st 1).2 2).2).2)
 else if (decNum st 1).1=4 then (⟨4,0,0,0,(decNum (decNum st 1).2 2).1,0,[],[]⟩,(decNum (decNum st 1).2 2).2)
 else (⟨(decNum st 1).1,0,0,0,0,0,[],[]⟩,(decNum st 1).2)
def DecBC (b:List Int):Prop :=
 (decNum (decNum (0,b) 2).2 1).1≤64∧(∀ r∈(iter cReq (decNum (decNum (0,b) 2).2 1).1.toNat (decNum (decNum (0,b) 2).2 1).2).1,HoldR r)∧endOf (iter cReq (decNum (decNum (0,b) 2).2 1).1.toNat (decNum (decNum (0,b) 2).2 1).2).2=0
end Req
namespace Ledger
open Num Sha Purse Escrow Wire Req
def hdr:List Int:=[0,0,0,0,0,0,0,0,0,0,0,0,1]
theorem Xy {n:Int}(h:B8 n):be n.toNat 1=[n]:=by
 obtain⟨k,rfl⟩:∃ k:Nat,n=k:=⟨n.toNat,by have:=h.1;omega⟩
 have:=h.2
 simp only[be,Int.toNat_natCast,Nat.pow_zero,Nat.div_one]
 rw[Nat.mod_eq_of_lt (by omega)]
def Gone (s0:LS) (b:List Int) (k:Nat) (s:LS) (st:St):Prop:=∀ s',Reach s0 s'→Qo s'=b→k≤s'.e.length∧s=preE s0 (s'.e.take k)∧st=(0,(s'.e.drop k).flatMap WJ)
def cl0 (b:List Int):Int × St:=decNum (0,b) 8
def n0 (b:List Int):Int × St:=decNum (cl0 b).2 2
end Ledger
namespace Req
open Go.RowKit Sha Wire Num
def oK (r:Int × List Int) (w:World) (x:Ending) (w':World):Prop:=∃ A n c,x=.returned (.tuple #[.slice A n c,.int .i64 r.1])∧n≤c∧c≤9223372036854775807∧Rd w' A n r.2∧Below w.heap.size w w'∧∀ b o,A=some ⟨b,o,none⟩→w.heap.size≤b
def Xz (A:Option Addr) (n c:Nat) (l:List PV):Prop:=∀ (w':World) (F:List Nat) (e B:Nat) (st:St),En 301 w' F e st→st.2.length≤800000000→B≤w'.heap.size→(∀ f∈F,B≤f)→(∀ w2,Below B w' w2→Rp w2 A n l) →
 Calls Tryz.prog 173 #[.pointer (some ⟨e,0,none⟩),.slice A n c,.int .i64 1,.int .i64 64,.func (.func 174) #[] #[]] w' (eQ 301 F e (wAll wRep (encNum st n 1) l) (n≤64) w')
def XA (A:Option Addr) (n c:Nat) (l:List VV):Prop:=∀ (w':World) (F:List Nat) (e B:Nat) (st:St),En 301 w' F e st→st.2.length≤800000000→B≤w'.heap.size→(∀ f∈F,B≤f)→(∀ w2,Below B w' w2→Rv w2 A n l)→(∀ r∈l,r.ok) →
 Calls Tryz.prog 175 #[.pointer (some ⟨e,0,none⟩),.slice A n c,.int .i64 2,.int .i64 400,.func (.func 176) #[] #[]] w' (eQ 301 F e (wAll wEv (encNum st n 2) l) (n≤400∧∀ r∈l,vH r) w')
theorem IU (clock seen:Int) {A:Option Addr}{n c:Nat}{l:List PV}{D:Option Addr}{m d:Nat}{v:List VV}{w:World}(hpp:Xz A n c l) (hpv:XA D m d v) (hr:Rp w A n l) (hv:Rv w D m v) (hok:∀ r∈v,r.ok):Calls Tryz.prog 137 #[.agg #[.int .i64 clock,.int .i64 seen,.slice A n c,.slice D m d]] w (oK (encA ⟨clock,seen,l,v⟩) w):=by
 have hb0:=tH (x:=⟨clock,seen,l,v⟩) hok
 have hl0:=PD ⟨clock,seen,l,v⟩
 have EC:ae (Tck clock→n≤64→(m≤400∧∀ r∈v,vH r)→wAll wEv (encNum (wAll wRep (encNum (encNum (encNum (0,[]) clock 8) seen 2) n 1) l) m 2) v=encA ⟨clock,seen,l,v⟩):=⟨fun hc h k=>by
  rw[← hr.1] at h ⊢;rw[← hv.1] at k ⊢;exact JI hc h k.1 k.2⟩
 have E0:ae (¬ Tck clock→encA ⟨clock,seen,l,v⟩=(1,[])):=⟨fun h=>uX (fun k=>h k.1)⟩
 have E1:ae (¬ n≤64→encA ⟨clock,seen,l,v⟩=(1,[])):=⟨fun h=>uX (fun k=>h (by rw[← hr.1];exact k.2.2.1))⟩
 have E2:ae (¬ (m≤400∧∀ r∈v,vH r)→encA ⟨clock,seen,l,v⟩=(1,[])):=⟨fun h=>uX (fun k=>h ⟨by rw[← hv.1];exact k.2.2.2.1,fun r hm=>(vM.1 (k.2.2.2.2.2 r hm)).1⟩)⟩
 generalize encA ⟨clock,seen,l,v⟩=R at *
 have HB:=ae.mk hb0
 have HO:=ae.mk hok
 have HPP:=ae.mk hpp;have HPV:=ae.mk hpv
 have HL:=ae.mk hr.1
 have KT:=ae.mk (fun w=>lM clock w)
 rw[Af] at KT
 obtain⟨N,hN⟩:∃ N,w.heap.size=N:=⟨_,rfl⟩
 have B0:Below N w (w.alloc (.cells #[.int .i64 clock,.int .i64 seen,.slice A n c,.slice D m d] 68)):=(Below.refl _ _).alloc (by omega) _
 have X:ae (Blk (w.alloc (.cells #[.int .i64 clock,.int .i64 seen,.slice A n c,.slice D m d] 68)) N 68 #[.int .i64 clock,.int .i64 seen,.slice A n c,.slice D m d]):=⟨Blk.new_at w _ _ N hN.symm⟩
 have HR:=ae.mk (hr.below (hN▸B0));have HV:=ae.mk (hv.below (hN▸B0))
 have B:=ae.mk B0
 have HN:=ae.mk hN
 clear B0 hr hv hok hb0 hpp hpv
 go_enter Tryz.func137,Tryz.ntmps137
 go_upto_region 1 with(fail)
 generalize w.alloc (.cells #[.int .i64 clock,.int .i64 seen,.slice A n c,.slice D m d] 68)=w1 at *
 by_cases hc:Tck clock
 ·rw[decide_eq_true hc] at KT
  have KN:=gW w1
  obtain⟨M,hM⟩:∃ M,w1.heap.size=M:=⟨_,rfl⟩
  have hNM:N < M:=by rw[← hM];exact X.out.lt
  have HX:ae (∀ w',Below M w1 w'→Blk w' N 68 #[.int .i64 clock,.int .i64 seen,.slice A n c,.slice D m d]):=⟨fun w' b=>X.out.below b hNM⟩
  have RX:ae (∀ w',Below M w1 w'→Rp w' A n l):=⟨fun w' b=>HR.out.below (hM▸b)⟩
  have VX:ae (∀ w',Below M w1 w'→Rv w' D m v):=⟨fun w' b=>HV.out.below (hM▸b)⟩
  have x0:=X.out.cell 0
  rw[hM] at KN
  have KN2:=ae.mk KN
  clear KN
  go_wp2_with (go_at_call 129;refine(KT.out _).mono ?_;rintro x w' ⟨rfl,rfl⟩)
  refine KN2.out.mono ?_
  rintro x w2 ⟨rfl,he,fp⟩
  have BW:=ae.mk (fp.below (B:=M) (by simp) (by omega))
  have KC:=aP w2 [M] M clock 8 (0,[]) he (by simp)
  have LE:=aj (0,[]) clock 8
  obtain⟨s1,hs1⟩:∃ s,encNum (0,[]) clock 8=s:=⟨_,rfl⟩
  rw[hs1] at KC LE EC
  clear hs1 he fp KN2 X HR HV x0
  have x0:=(HX.out _ BW.out).cell 0
  go_wp2_with fail
  refine KC.mono ?_
  rintro x w3 ⟨rfl,F3,he,fp⟩
  have AF:=fp.least (B:=M) (by simp) (by have:=BW.out.size;omega)
  replace BW:=ae.mk (BW.out.trans (fp.below (B:=M) (by simp) (by have:=BW.out.size;omega)))
  have KC2:=aP w3 F3 M seen 2 s1 he (by have h0:([]:List Int).length=0:=rfl;simp only[h0] at LE;omega)
  have LE2:=aj s1 seen 2
  obtain⟨s2,hs2⟩:∃ s,encNum s1 seen 2=s:=⟨_,rfl⟩
  rw[hs2] at KC2 LE2 EC
  have LS:s2.2.length≤16:=by have h0:([]:List Int).length=0:=rfl;simp only[h0] at LE;omega
  have AF1:=ae.mk AF
  clear hs2 he fp KC x0 AF LE LE2
  have x1:=(HX.out _ BW.out).cell 1
  go_wp2_with fail
  refine KC2.mono ?_
  rintro x w4 ⟨rfl,F4,he,fp⟩
  have AF:=fp.least AF1.out (by have:=BW.out.size;omega)
  replace BW:=ae.mk (BW.out.trans (fp.below AF1.out (by have:=BW.out.size;omega)))
  have KP:=HPP.out _ _ _ M _ he (by omega) (by have:=BW.out.size;omega) AF (fun w' b=>RX.out w' (BW.out.trans b))
  have KP2:=ae.mk KP
  unfold eQ at KP2
  have AF2:=ae.mk AF
  have LW:ae (n≤64→(wAll wRep (encNum s2 n 1) l).2.length≤4000):=⟨fun h=>by
   have h1:=aj s2 n 1
   have h2:=vN (f:=wRep) (m:=54) (l:=l) (st:=encNum s2 n 1) (fun st x _=>PW)
   have h3:=HL.out
   have h4:54 * l.length≤54 * 64:=Nat.mul_le_mul_left _ (by omega)
   omega⟩
  clear he fp KC2 x1 KP AF AF1
  have x2:=(HX.out _ BW.out).cell 2
  go_wp2_with fail
  refine KP2.out.mono ?_
  rintro x w5 ⟨q,F5,rfl,fp,hq,he⟩
  have AF:=fp.least AF2.out (by have:=BW.out.size;omega)
  replace BW:=ae.mk (BW.out.trans (fp.below AF2.out (by have:=BW.out.size;omega)))
  clear fp KP2 x2 AF2
  cases q with
  | true =>
   have hn64:=hq.1 rfl
   have KP:=HPV.out _ _ _ M _ (he rfl) (by have:=LW.out hn64;omega) (by have:=BW.out.size;omega) AF (fun w' b=>VX.out w' (BW.out.trans b)) HO.out
   have KP2:=ae.mk KP
   unfold eQ at KP2
   have AF2:=ae.mk AF
   have HQ:=ae.mk hn64
   clear KP AF he hq hn64
   have x3:=(HX.out _ BW.out).cell 3
   go_wp2_with fail
   refine KP2.out.mono ?_
   rintro x w6 ⟨q,F6,rfl,fp,hq,he⟩
   replace BW:=ae.mk (BW.out.trans (fp.below AF2.out (by have:=BW.out.size;omega)))
   have BE:ae (Below N w w6):=⟨B.out.trans (BW.out.mono (by omega))⟩
   clear fp KP2 x3 AF2
   cases q with
   | true =>
    have he2:=he rfl
    rw[EC.out hc HQ.out (hq.1 rfl)] at he2
    have KD:=lU w6 F6 M R he2 HB.out (by omega)
    obtain⟨R1,R2⟩:=R
    clear he he2 hq
    go_wp2_with fail
    refine KD.mono ?_
    rintro x w7 ⟨v7,rfl,own,b5⟩
    obtain⟨A5,c5,rfl,h1,h2,r5⟩:=aO own HB.out
    have R5:=ae.mk r5
    have NW5:ae (∀ b o,A5=some ⟨b,o,none⟩→N≤b):=⟨fun b o hh=>by subst hh;have h1:=BE.out.size;have h2:=HN.out;have h3:=(own.lt b rfl).1;omega⟩
    replace BE:=ae.mk (BE.out.trans (b5.mono (by have:=BE.out.size;omega)))
    clear KD own b5 r5
    go_wp2
    go_ret2
    exact⟨A5,_,c5,rfl,h1,h2,R5.out,by rw[HN.out];exact BE.out,by rw[HN.out];exact NW5.out⟩
   | false =>
    obtain rfl:=E2.out (fun h=>by have:=hq.2 h;cases this)
    clear he hq
    go_wp2
    go_ret2
    exact⟨none,0,0,rfl,Nat.le_refl _,by omega,Rd.nil_,by rw[HN.out];exact BE.out,fun b o h=>by(cases h)⟩
  | false =>
   obtain rfl:=E1.out (fun h=>by have:=hq.2 h;cases this)
   have BE:ae (Below N w w5):=⟨B.out.trans (BW.out.mono (by omega))⟩
   clear he hq AF
   go_wp2
   go_ret2
   exact⟨none,0,0,rfl,Nat.le_refl _,by omega,Rd.nil_,by rw[HN.out];exact BE.out,fun b o h=>by(cases h)⟩
 ·rw[decide_eq_false hc] at KT
  obtain rfl:=E0.out hc
  have x0:=X.out.cell 0
  go_wp2_with (go_at_call 129;refine(KT.out _).mono ?_;rintro x w' ⟨rfl,rfl⟩)
  go_ret2
  exact⟨none,0,0,rfl,Nat.le_refl _,by omega,Rd.nil_,by rw[HN.out];exact B.out,fun b o h=>by(cases h)⟩
end Req
namespace Req
open Go.RowKit Sha Wire
end Req
namespace Ledger
open Go.RowKit Num Sha Purse Escrow Wire Req
section
variable {w : World} {x b q : Nat} {F F0 : List Nat} {st d d1 d2 : Value} {s : LS}
end
theorem OJ {w:World}{G:List Nat}{q:Nat}{s:PS}(h:Pr w G q s):Rk (w.alloc (.cells #[.pointer (some ⟨q,0,none⟩),.slice none 0 0] 149)) (w.heap.size :: ([]++G)) w.heap.size q ⟨s,[]⟩ :=
 ⟨G,.slice none 0 0,⟨h.1,h.2.below ((Below.refl _ _).alloc (Nat.le_refl _) _)⟩,Blk.new _ _ _,El.nil _,fun g hg=>by simp[Value.ownBlock] at hg,fun hm=>Nat.lt_irrefl _ (h.2.lts _ hm),rfl⟩
def xN (n:Nat) (X:Nat→List Int) (cap:Int) (w:World) (e:Ending) (w':World):Prop:=∃ k:Int,e=.returned (.int .i64 k)∧(bU n X cap∧k=0∨¬ bU n X cap∧k=1)∧Below w.heap.size w w'
def Dz (w:World) (n:Nat) (X:Nat→List Int) (cap:Int) (e:Ending) (w':World):Prop :=
 (¬ bU n X cap∧e=.returned (.tuple #[.pointer none,.int .i64 1])∧Below w.heap.size w w')∨(bU n X cap∧∃ x F,e=.returned (.tuple #[.pointer (some ⟨x,0,none⟩),.int .i64 0])∧Dk w' F x (newL n X cap)∧Below w.heap.size w w'∧∀ k∈F,w.heap.size≤k)
section
variable {w : World} {x b q : Nat} {F F0 : List Nat} {st d d1 d2 : Value} {s : LS}
theorem FU {A:Option Addr}{n c:Nat}{X:Nat→List Int}(cap:Int) (hr:Rwi w A n X):Calls Tryz.prog 60 #[.agg #[.slice A n c,.int .i64 cap]] w (xN n X cap w):=by
 obtain⟨N,hN⟩:∃ N,w.heap.size=N:=⟨_,rfl⟩
 have b0:Below w.heap.size w (w.alloc (.cells #[.slice A n c,.int .i64 cap] 41)):=(Below.refl _ _).alloc (Nat.le_refl _) _
 have X1:ae (Blk (w.alloc (.cells #[.slice A n c,.int .i64 cap] 41)) N 41 #[.slice A n c,.int .i64 cap]):=⟨Blk.new_at w _ _ N hN.symm⟩
 have KN:=ae.mk (Dy A n c X _ (hr.below b0))
 have B:=ae.mk b0
 unfold ig at KN
 clear hr b0
 go_enter Tryz.func60,Tryz.ntmps60
 go_upto_region 1 with(fail)
 generalize w.alloc (.cells #[.slice A n c,.int .i64 cap] 41)=w1 at *
 have x0:=X1.out.cell 0
 go_wp2_with fail
 refine KN.out.mono ?_
 rintro e w2 (⟨hn,rfl,bb⟩|⟨hn,p,G,rfl,hp,fp⟩)
 ·replace B:=ae.mk (B.out.trans (bb.mono B.out.size))
  have HN:=ae.mk (fun h:bU n X cap=>hn h.1)
  clear KN bb x0 hn
  go_wp2
  go_ret
  exact⟨1,rfl,.inr ⟨HN.out,rfl⟩,B.out⟩
 ·have bb:=fp.below (B:=w1.heap.size) (by simp) (Nat.le_refl _)
  replace X1:=ae.mk (X1.out.below bb X1.out.lt)
  replace B:=ae.mk (B.out.trans (bb.mono B.out.size))
  have HN:=ae.mk hn
  clear KN bb x0 hn hp fp
  have x1:=X1.out.cell 1
  by_cases h1:cap < 1
  ·go_wp2
   go_ret
   exact⟨1,rfl,.inr ⟨fun h=>by have:=h.2.1;omega,rfl⟩,B.out⟩
  ·by_cases h2:400 < cap
   ·go_wp2
    go_ret
    exact⟨1,rfl,.inr ⟨fun h=>by have:=h.2.2;omega,rfl⟩,B.out⟩
   ·go_wp2
    go_ret
    exact⟨0,rfl,.inl ⟨⟨HN.out,by omega,by omega⟩,rfl⟩,B.out⟩
theorem IV {A:Option Addr}{n c:Nat}{X:Nat→List Int}(cap:Int) (hr:Rwi w A n X):Calls Tryz.prog 28 #[.agg #[.slice A n c,.int .i64 cap]] w (Dz w n X cap):=by
 obtain⟨N,hN⟩:∃ N,w.heap.size=N:=⟨_,rfl⟩
 have b0:Below w.heap.size w (w.alloc (.cells #[.slice A n c,.int .i64 cap] 41)):=(Below.refl _ _).alloc (Nat.le_refl _) _
 have X1:ae (Blk (w.alloc (.cells #[.slice A n c,.int .i64 cap] 41)) N 41 #[.slice A n c,.int .i64 cap]):=⟨Blk.new_at w _ _ N hN.symm⟩
 have KN:=ae.mk (FU (c:=c) cap (hr.below b0))
 have B:=ae.mk b0
 have HR:ae (Rwi (w.alloc (.cells #[.slice A n c,.int .i64 cap] 41)) A n X):=⟨hr.below b0⟩
 unfold xN at KN
 clear hr b0
 go_enter Tryz.func28,Tryz.ntmps28
 go_upto_region 1 with(fail)
 generalize w.alloc (.cells #[.slice A n c,.int .i64 cap] 41)=w1 at *
 have x0:=X1.out.cell 0;have x1:=X1.out.cell 1
 go_wp2_with fail
 refine KN.out.mono ?_
 rintro e w2 ⟨k,rfl,(⟨hn,rfl⟩|⟨hn,rfl⟩),bb⟩
 rotate_left
 ·replace B:=ae.mk (B.out.trans (bb.mono B.out.size))
  have HN:=ae.mk hn
  clear KN bb x0 x1 hn
  go_wp2
  go_ret2
  exact .inl ⟨HN.out,rfl,B.out⟩
 ·replace X1:=ae.mk (X1.out.below bb X1.out.lt)
  replace HR:=ae.mk (HR.out.below bb)
  replace B:=ae.mk (B.out.trans (bb.mono B.out.size))
  have HN:=ae.mk hn
  clear KN bb x0 x1 hn
  have x0:=X1.out.cell 0;have x1:=X1.out.cell 1
  have KN:=ae.mk (Dy A n c X _ HR.out)
  unfold ig at KN
  go_wp2_with fail
  refine KN.out.mono ?_
  rintro e w3 (⟨hn,rfl,bb⟩|⟨hn,p,G,rfl,hp,fp⟩)
  ·exact absurd HN.out.1 hn
  ·have bb:=fp.below (B:=w2.heap.size) (by simp) (Nat.le_refl _)
   have HG:ae (∀ g∈G,w.heap.size≤g):=⟨fun g hg=>Nat.le_trans B.out.size ((fp.2 g hg).resolve_left (by simp))⟩
   replace X1:=ae.mk (X1.out.below bb X1.out.lt)
   replace B:=ae.mk (B.out.trans (bb.mono B.out.size))
   have B0:=ae.mk B.out
   have RB:=ae.mk (OJ hp)
   have b4:Below w3.heap.size w3 (w3.alloc (.cells #[.pointer (some ⟨p,0,none⟩),.slice none 0 0] 149)):=(Below.refl _ _).alloc (Nat.le_refl _) _
   clear x0 x1
   have x0:=X1.out.cell 0;have x1:=X1.out.cell 1
   replace B:=ae.mk (B.out.trans (b4.mono B.out.size))
   have L:ae (∀ w5,w5=(w3.alloc (.cells #[.pointer (some ⟨p,0,none⟩),.slice none 0 0] 149)).alloc (.cells #[.slice A n c,.int .i64 cap,.pointer (some ⟨w3.heap.size,0,none⟩),.int .i64 0,.slice none 0 0,.slice none 0 0,.slice none 0 0] 151)→∃ x F,w3.heap.size+1=x∧Dk w5 F x (newL n X cap)∧Below w.heap.size w w5∧∀ k∈F,w.heap.size≤k):=⟨fun w5 h5=>by
    have b5:Below (w3.alloc (.cells #[.pointer (some ⟨p,0,none⟩),.slice none 0 0] 149)).heap.size (w3.alloc (.cells #[.pointer (some ⟨p,0,none⟩),.slice none 0 0] 149)) ((w3.alloc (.cells #[.pointer (some ⟨p,0,none⟩),.slice none 0 0] 149)).alloc (.cells #[.slice A n c,.int .i64 cap,.pointer (some ⟨w3.heap.size,0,none⟩),.int .i64 0,.slice none 0 0,.slice none 0 0,.slice none 0 0] 151)):=(Below.refl _ _).alloc (Nat.le_refl _) _
    have B5:=B.out.trans (b5.mono B.out.size)
    have hs:(w3.alloc (.cells #[.pointer (some ⟨p,0,none⟩),.slice none 0 0] 149)).heap.size=w3.heap.size+1:=by simp
    have hw:w.heap.size≤w3.heap.size:=by have:=B0.out.size;omega
    subst h5
    refine⟨w3.heap.size+1,_,rfl,⟨_,w3.heap.size,p,.slice A n c,.slice none 0 0,.slice none 0 0,.slice none 0 0,⟨RB.out.below b5,?_,Ow.nil _,Ow.nil _,Ow.nil _,fun hm=>?_,fun g hg=>by simp[own3,Value.ownBlock] at hg,fun g hg=>by simp[own3,Value.ownBlock] at hg,fun g hg=>by simp[Value.ownBlock] at hg,fun g hg=>by simp[Value.ownBlock] at hg,fun g hg=>by simp[Value.ownBlock] at hg⟩,rfl⟩,B5,fun k hk=>?_⟩
    ·rw[← hs];exact Blk.new _ _ _
    ·have:=RB.out.lts _ hm
     omega
    ·rcases df_mem.1 hk with e|e|e
     ·omega
     ·simp only[List.nil_append,List.mem_cons] at e
      rcases e with e|e
      ·omega
      ·exact HG.out k e
     ·simp[own3,Value.ownBlock] at e⟩
   clear KN bb hp fp hn b4 HR B RB X1 HG B0
   go_wp2
   go_ret2
   obtain⟨x,F,rfl,h1,h2,h3⟩:=L.out _ rfl
   exact .inr ⟨HN.out,_,F,rfl,h1,h2,h3⟩
end
end Ledger
namespace Req
open Go.RowKit Sha Wire
theorem TA {n:Int}{s:Nat}(h1:1≤s) (h8:s≤8) (h0:0≤n) (hm:n≤4611686018427387904) (hn:n < 256 ^ s):fits n s=true:=by
 unfold fits
 apply decide_eq_true
 exact⟨by omega,by omega,h0,hm,by rw[Int.toNat_natCast];exact hn⟩
theorem rn1 {n:Int}(xs:List Int) (h:B8 n):dw (0,xs) n 1=(0,xs++be n.toNat 1):=by
 unfold dw
 have hf:fits n 1=true:=TA (s:=1) (by omega) (by omega) h.1 (by have:=h.2;omega) (by have:=h.2;omega)
 rw[if_pos hf]
 rfl
theorem rn2 {n:Int}(xs:List Int) (h:I16 n):dw (0,xs) n 2=(0,xs++be n.toNat 2):=by
 unfold dw
 have hf:fits n 2=true:=TA (s:=2) (by omega) (by omega) h.1 (by have:=h.2;omega) (by have:=h.2;omega)
 rw[if_pos hf]
 rfl
theorem rn8 {n:Int}(xs:List Int) (h:Amt n):dw (0,xs) n 8=(0,xs++be n.toNat 8):=by
 unfold dw
 have hf:fits n 8=true:=TA (s:=8) (by omega) (by omega) h.1 h.2 (by have:=h.2;omega)
 rw[if_pos hf]
 rfl
end Req
namespace Req
open Go.RowKit Sha Wire Num
theorem TC {w w':World}{e:Nat}(hb:Blk w e 158 #[.slice none 0 0,.int .i64 0]) (b:Below w.heap.size w w'):En 158 w' [e] e (0,[]) :=
 ⟨.slice none 0 0,hb.below b hb.lt,World.ownsRow_nil _ _ _ _,rfl⟩
theorem xO {clock seen:Int}(hT:Tck clock) (hs:I16 seen) (A:Option Addr) (c:Nat) (D:Option Addr) (d:Nat) (w:World):Calls Tryz.prog 29 #[.agg #[.int .i64 clock,.int .i64 seen,.slice A 0 c,.slice D 0 d]] w (uJ (0,bytesA ⟨clock,seen,[],[]⟩) w):=by
 obtain⟨N,hN⟩:∃ N,w.heap.size=N:=⟨_,rfl⟩
 have B0:Below w.heap.size w (w.alloc (.cells #[.int .i64 clock,.int .i64 seen,.slice A 0 c,.slice D 0 d] 68)):=(Below.refl _ _).alloc (Nat.le_refl _) _
 have X:ae (Blk (w.alloc (.cells #[.int .i64 clock,.int .i64 seen,.slice A 0 c,.slice D 0 d] 68)) N 68 #[.int .i64 clock,.int .i64 seen,.slice A 0 c,.slice D 0 d]):=⟨Blk.new_at w _ _ N hN.symm⟩
 have B:=ae.mk B0
 have ht:tickB clock=true:=decide_eq_true hT
 have cT:=ae.mk (fun w=>zX clock w)
 rw[ht] at cT
 obtain⟨h0,h1⟩:=hs
 clear B0
 go_enter Tryz.func29,Tryz.ntmps29
 go_upto_region 1 with(fail)
 generalize (w.alloc (.cells #[.int .i64 clock,.int .i64 seen,.slice A 0 c,.slice D 0 d] 68))=w1 at *
 have x0:=X.out.cell 0;have x1:=X.out.cell 1;have x2:=X.out.cell 2;have x3:=X.out.cell 3
 go_wp2_with (go_at_call 62;(with_reducible refine(cT.out _).mono ?_);rintro e w' ⟨rfl,rfl⟩)
 refine wp_loop_rounds 1 ?_
 rw[rounds_succ]
 go_wp2
 refine wp_loop_rounds 1 ?_
 rw[rounds_succ]
 go_upto_region 13 with(fail)
 clear x0 x1 x2 x3 cT
 obtain⟨M,hM⟩:∃ M,w1.heap.size=M:=⟨_,rfl⟩
 have b1:Below M w1 (w1.alloc (.cells #[.slice none 0 0,.int .i64 0] 158)):=(Below.refl _ _).alloc (by omega) _
 have E:ae (En 158 (w1.alloc (.cells #[.slice none 0 0,.int .i64 0] 158)) [M] M (0,[])):=⟨TC (Blk.new_at w1 _ _ M hM.symm) (Below.refl _ _)⟩
 have AF:ae (∀ f∈[M],M≤f):=⟨by simp⟩
 have XN:ae (∀ w',Below M w1 w'→Blk w' N 68 #[.int .i64 clock,.int .i64 seen,.slice A 0 c,.slice D 0 d]):=⟨fun w' b=>X.out.below b (by have:=X.out.lt;omega)⟩
 have BN:ae (∀ w',Below M w1 w'→Below w.heap.size w w'):=⟨fun w' b=>B.out.trans (b.mono (by have:=B.out.size;omega))⟩
 have B2:=ae.mk b1
 (try rw[hM])
 clear X B b1
 generalize w1.alloc (.cells #[.slice none 0 0,.int .i64 0] 158)=w2 at *
 have hMs:M≤w1.heap.size:=by omega
 have x0:=(XN.out _ B2.out).cell 0
 have KC:=lV w2 [M] M clock 8 (0,[]) E.out (by simp)
 rw[rn8 _ hT.amt] at KC
 go_wp2_with fail
 refine KC.mono ?_
 rintro x w3 ⟨rfl,F3,he,fp⟩
 have b:=fp.below AF.out (by have:=B2.out.size;omega)
 replace AF:=ae.mk (fp.least AF.out (by have:=B2.out.size;omega))
 replace B2:=ae.mk (B2.out.trans b)
 replace E:=ae.mk he
 clear he fp b KC x0
 have x1:=(XN.out _ B2.out).cell 1
 have KC:=lV w3 F3 M seen 2 (0,[]++be clock.toNat 8) E.out (by simp only[List.length_append,aJ,List.length_nil];omega)
 rw[rn2 _ ⟨h0,h1⟩] at KC
 go_wp2_with fail
 refine KC.mono ?_
 rintro x w4 ⟨rfl,F4,he,fp⟩
 have b:=fp.below AF.out (by have:=B2.out.size;omega)
 replace AF:=ae.mk (fp.least AF.out (by have:=B2.out.size;omega))
 replace B2:=ae.mk (B2.out.trans b)
 replace E:=ae.mk he
 clear he fp b KC x1
 have x2:=(XN.out _ B2.out).cell 2
 have KC:=lV w4 F4 M 0 1 (0,([]++be clock.toNat 8)++be seen.toNat 2) E.out (by simp only[List.length_append,aJ,List.length_nil];omega)
 rw[rn1 _ ⟨by omega,by omega⟩] at KC
 go_wp2_with fail
 refine KC.mono ?_
 rintro x w5 ⟨rfl,F5,he,fp⟩
 have b:=fp.below AF.out (by have:=B2.out.size;omega)
 replace AF:=ae.mk (fp.least AF.out (by have:=B2.out.size;omega))
 replace B2:=ae.mk (B2.out.trans b)
 replace E:=ae.mk he
 clear he fp b KC x2
 have x2:=(XN.out _ B2.out).cell 2
 go_wp2
 refine wp_loop_rounds 1 ?_
 rw[rounds_succ]
 have x3:=(XN.out _ B2.out).cell 3
 have KC:=lV w5 F5 M 0 2 (0,(([]++be clock.toNat 8)++be seen.toNat 2)++be (0:Int).toNat 1) E.out (by simp only[List.length_append,aJ,List.length_nil];omega)
 rw[rn2 _ ⟨by omega,by omega⟩] at KC
 go_wp2_with fail
 refine KC.mono ?_
 rintro x w8 ⟨rfl,F8,he,fp⟩
 have b:=fp.below AF.out (by have:=B2.out.size;omega)
 replace AF:=ae.mk (fp.least AF.out (by have:=B2.out.size;omega))
 replace B2:=ae.mk (B2.out.trans b)
 have E:ae (En 158 w8 F8 M (0,bytesA ⟨clock,seen,[],[]⟩)):=⟨by
  have e:bytesA ⟨clock,seen,[],[]⟩=((([]++be clock.toNat 8)++be seen.toNat 2)++be (0:Int).toNat 1)++be (0:Int).toNat 2:=by
   unfold bytesA;simp
  rw[e];exact he⟩
 clear he fp b KC x3 x2
 have x3:=(XN.out _ B2.out).cell 3
 go_wp2
 refine wp_loop_rounds 1 ?_
 rw[rounds_succ]
 have hb:=tH (x:=⟨clock,seen,[],[]⟩) (fun r hr=>by cases hr)
 rw[oO ⟨hT,⟨h0,h1⟩,Nat.zero_le _,Nat.zero_le _,(fun r hr=>by cases hr),(fun r hr=>by cases hr)⟩] at hb
 have KC:=Iz _ _ M _ E.out (fun _=>hb)
 clear hb
 unfold uG at KC
 have KC2:=ae.mk KC
 clear KC
 go_wp2_with fail
 refine KC2.out.mono ?_
 rintro x w6 ⟨A9,n9,c9,rfl,hc9,hm9,r9,b9⟩
 simp only[if_true] at r9
 have R9:ae (Rd w6 A9 n9 (bytesA ⟨clock,seen,[],[]⟩)):=⟨r9⟩
 replace B2:=ae.mk (B2.out.trans (b9.mono (by have:=B2.out.size;omega)))
 clear r9 b9 KC2 x3
 go_wp2
 go_ret2
 exact⟨A9,n9,c9,rfl,hc9,hm9,R9.out,BN.out _ B2.out⟩
end Req
end Go.Proofs.YtlkeieoecfkkeaaGreat
