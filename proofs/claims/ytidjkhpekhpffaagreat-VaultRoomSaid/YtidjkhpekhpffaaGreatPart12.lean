/-
  Parts laid together: ReqPost ReqPostA ReqCText ReqCPut ReqCPutV ReqCAll ReqCEnc ReqCodeDec LedgerRead ReqCEncA ReqCGetText.
-/
import Derived.Test.YtidjkhpekhpffaaGreatPart10
import Derived.Test.YtidjkhpekhpffaaGreatPart3
import Derived.Test.YtidjkhpekhpffaaGreatPart11
import Derived.Test.YtidjkhpekhpffaaGreatPart8
import Derived.Test.YtidjkhpekhpffaaGreatPart5
import Derived.Test.YtidjkhpekhpffaaGreatPart9
namespace Go.Proofs.YtidjkhpekhpffaaGreat.Req
open Go.RowKit Go.Proofs.YtidjkhpekhpffaaGreat.Sha Go.Proofs.YtidjkhpekhpffaaGreat.Wire
theorem results_row_tmp {P:Program}{fn:Func}{p u:Tmp}{ty:TypeId}(h:fn.results=#[.cell p ty,.tmp u]) (tmps:Array Value) (w:World) (g:Nat) (t:TypeId) (cs:Array Value) (fr:Nat × Nat) (d:TypeDesc)
  (hp:tmps.getD p undef=.pointer (some ⟨g,0,none⟩)) (hg:w.heap[g]?=some (.cells cs t fr))
  (hu:P.underlying ty=some d) (hd:(match d with|.struct _|.array _ _=>true|_=>false)=true) (hi:(P.info? ty).map (·.size)=some cs.size) :
  (results fn tmps).run P w=.ok (.tuple #[.agg cs,tmps.getD u undef]) w:=by
 have hp':tmps[p]?.getD undef=.pointer (some ⟨g,0,none⟩):=by simpa using hp
 simp[results,h,hp',asAddr,run_loadVar_row w g t ty cs fr d hg hu hd hi,Result.andThen]
theorem batch_size:(Tryz.prog.info? 75).map (·.size)=some 2:=by kernel_rfl
theorem decNum_size0 (st:St) (hb:Bytes st.2):0≤(decNum st 1).1∧(decNum st 1).1≤255:=by
 unfold decNum
 split
 ·split
  ·split
   ·rename_i h
    have h1:=val_take_lt st.2 hb 1 (by have:=h.1;simpa using this)
    constructor
    ·exact Int.natCast_nonneg _
    ·have e:(Int.toNat 1)=1:=rfl
     simp only[e];omega
   ·simp
  ·simp
 ·simp
def EncPost (r:Int × List Int) (w:World) (x:Ending) (w':World):Prop:=∃ A n c,x=.returned (.tuple #[.slice A n c,.int .i64 r.1])∧n≤c∧c≤9223372036854775807∧Rd w' A n r.2∧Below w.heap.size w w'
def SamePost (p:Prop) (w:World) (e:Ending) (w':World):Prop:=∃ q:Bool,e=.returned (.bool q)∧(q=true ↔ p)∧Below w.heap.size w w'
set_option maxRecDepth 100000 in
set_option maxHeartbeats 1000000 in
theorem putmove_any {w:World}{F:List Nat}{e:Nat}(a b c:Int) {st:St}(h:En 233 w F e st) (hl:st.2.length≤1000000000):Calls Tryz.prog 158 #[.pointer (some ⟨e,0,none⟩),.int .i64 a,.int .i64 b,.int .i64 c] w fun x w'=>x=.returned (.tuple #[])∧∃ F',En 233 w' F' e (wMove st a b c)∧Fp F F' w w':=by
 have l1:=encNum_len st a 1
 have l2:=encNum_len (encNum st a 1) b 1
 have KC:=num_any w F e a 1 st h (by omega)
 clear h
 go_enter Tryz.func158,Tryz.ntmps158
 go_wp2_with fail
 refine KC.mono ?_
 rintro x w1 ⟨rfl,F1,he,fp⟩
 have FP:=Kept.mk fp
 have KC2:=num_any w1 F1 e b 1 _ he (by omega)
 clear he fp KC
 go_wp2_with fail
 refine KC2.mono ?_
 rintro x w2 ⟨rfl,F2,he,fp⟩
 replace FP:=Kept.mk (FP.out.trans fp)
 have KC:=num_any w2 F2 e c 8 _ he (by omega)
 clear he fp KC2
 go_wp2_with fail
 refine KC.mono ?_
 rintro x w3 ⟨rfl,F3,he,fp⟩
 replace FP:=Kept.mk (FP.out.trans fp)
 have HE:=Kept.mk he
 clear he fp KC
 go_wp2
 go_end0
 exact⟨rfl,F3,HE.out,FP.out⟩
set_option maxRecDepth 100000 in
set_option maxHeartbeats 1000000 in
theorem puttext_any {w:World}{F:List Nat}{e:Nat}(b:List Int) (hb:Bytes b) (hbl:b.length≤100000) {st:St}(h:En 233 w F e st) (hl:st.2.length≤1000000000):Calls Tryz.prog 159 #[.pointer (some ⟨e,0,none⟩),.string (strOfNums b)] w fun x w'=>x=.returned (.tuple #[])∧∃ F',En 233 w' F' e (wText st b)∧Fp F F' w w':=by
 obtain⟨w1,c,hcv,r1,b1⟩:=to_bytes w b hb
 have HE:Kept (En 233 w1 F e (wText st (b.take 0))):=⟨by rw[List.take_zero,wText,wr_nil];exact h.below b1⟩
 have FP:Kept (Fp F F w w1):=⟨⟨barOf b1 F,fun _ hk=>.inl hk⟩⟩
 obtain⟨M,hM⟩:∃ M,w.heap.size=M:=⟨_,rfl⟩
 rw[hM] at hcv r1
 have OF:Kept (Off (some ⟨M,0,none⟩) b.length F):=⟨.inr ⟨M,0,rfl,fun hm=>by have:=h.lt M hm;omega⟩⟩
 have R:=Kept.mk r1
 have LB:=Kept.mk (show ∀ k,k≤b.length→(wText st (b.take k)).2.length≤1000100000 from fun k hk=>by
  have:=wr_len st True (b.take k)
  rw[List.length_take] at this
  unfold wText;omega)
 have HB:=Kept.mk hb
 clear r1 b1 h hb hM
 obtain⟨n,hn⟩:∃ n,b.length=n:=⟨_,rfl⟩
 have HN:=Kept.mk hn
 rw[hn] at hcv R OF LB hbl
 clear hn
 go_enter Tryz.func159,Tryz.ntmps159
 go_wp2
 clear hcv
 go_loopw [9] (fun i wr=>∃ (k:Nat) (F':List Nat),k≤n∧i=.int .i64 k∧Kept (En 233 wr F' e (wText st (b.take k)))∧Kept (Fp F F' w wr)∧Kept (Off (some ⟨M,0,none⟩) n F')∧Kept (Rd wr (some ⟨M,0,none⟩) n b)) (fun i _=>n - (Go.RowKit.intOf i).toNat)
 case atStart=>exact⟨0,F,by omega,rfl,HE,FP,OF,R⟩
 case round =>
  clear HE FP OF R
  obtain⟨k,F',hk,rfl,HE,FP,OF,R⟩:=hrel
  by_cases hkn:k < n
  ·have hkn':(k:Int) < n:=by omega
   have hkb:k < b.length:=by have:=HN.out;omega
   have hc:wr.cell? ⟨M,k,none⟩=some (.int .u8 (at_ b k)):=by
    obtain⟨-,-,h3⟩:=R.out
    rcases h3 with h3|⟨g,o,hg,hc⟩
    ·omega
    ·have:=hc k hkn
     simp only[Option.some.injEq,Addr.mk.injEq] at hg
     obtain⟨rfl,rfl,-⟩:=hg
     simpa using this
   have hx:=HB.out.at_ k
   have KC:=num_any wr F' e (at_ b k) 1 _ HE.out (by have:=LB.out k hk;omega)
   rw[wText_snoc _ _ _ hx,show b.take k++[at_ b k]=b.take (k+1) by rw[List.take_succ_eq_append_getElem hkb];simp[at_,hkb]] at KC
   obtain⟨z,hz⟩:∃ z,at_ b k=z:=⟨_,rfl⟩
   rw[hz] at KC hc hx
   have KK:=Kept.mk KC
   clear KC hz hkb
   go_wp2_with fail
   refine KK.out.mono ?_
   rintro x w2 ⟨rfl,F2,he,fp⟩
   have OF2:=Kept.mk (OF.out.step R.out fp)
   replace R:=Kept.mk (R.out.far fp.1 OF.out)
   replace OF:=OF2
   replace FP:=Kept.mk (FP.out.trans fp)
   replace HE:=Kept.mk he
   clear he fp KK OF2 hc hx
   go_wp2
   go_roundw
   case rel=>exact⟨k+1,F2,by omega,by go_num,HE,FP,OF,R⟩
   case measure=>simp[Go.RowKit.intOf];omega
  ·have hkn':¬ (k:Int) < n:=by omega
   obtain rfl:k=n:=by omega
   have hh:b.take k=b:=by rw[← HN.out];exact List.take_length
   rw[hh] at HE
   go_wp2
   go_end0
   exact⟨rfl,F',HE.out,FP.out⟩
theorem cnotin_step {F F':List Nat}{w w':World}{N:Nat}(fp:Fp F F' w w') (h:N∉F) (hlt:N < w.heap.size):N∉F':=fun hm=>by
 rcases fp.2 N hm with h1|h1
 ·exact h h1
 ·omega
theorem wMove_len (st:St) (a b c:Int):(wMove st a b c).2.length≤st.2.length+24:=by
 have l1:=encNum_len st a 1
 have l2:=encNum_len (encNum st a 1) b 1
 have l3:=encNum_len (encNum (encNum st a 1) b 1) c 8
 unfold wMove;omega
theorem wText_len (st:St) (b:List Int):(wText st b).2.length≤st.2.length+b.length:=wr_len st True b
set_option maxRecDepth 100000 in
set_option maxHeartbeats 4000000 in
theorem cputr_any {w:World}{F:List Nat}{e:Nat}{st:St}{r:RV}(h:En 233 w F e st) (hr:r.ok) (hl:st.2.length≤900000000):Calls Tryz.prog 258 #[.pointer (some ⟨e,0,none⟩),rqv r] w fun x w'=>x=.returned (.bool (decide (HoldR r)))∧∃ F',En 233 w' F' e (if HoldR r then wReq st r else st)∧Fp F F' w w':=by
 have KH0:=fun w=>holdR_any r hr w
 have LE:=encNum_len
 obtain⟨kind,dst,asset,amount,id,due,hash,sec⟩:=r
 obtain⟨hb1,hb2⟩:=hr
 unfold rqv at *
 dsimp only at KH0 hb1 hb2 ⊢
 have hN:w.heap.size∉F:=fun hm=>by have:=h.lt _ hm;omega
 have bz:∀ o,Below w.heap.size w (w.alloc o):=fun o=>(Below.refl _ _).alloc (Nat.le_refl _) o
 have NF:=Kept.mk hN
 have HE0:=Kept.mk (fun o=>h.below (bz o))
 have FP0:Kept (∀ o,Fp F F w (w.alloc o)):=⟨fun o=>⟨barOf (bz o) F,fun _ hk=>.inl hk⟩⟩
 have X0:=Kept.mk (fun cs=>Blk.new w 88 cs)
 obtain⟨N,hN2⟩:∃ N,w.heap.size=N:=⟨_,rfl⟩
 rw[hN2] at NF X0
 clear hN bz h
 by_cases hh:HoldR ⟨kind,dst,asset,amount,id,due,hash,sec⟩
 ·rw[if_pos hh,decide_eq_true hh]
  rw[decide_eq_true hh] at KH0
  rcases hh with⟨h_kind,h_id,h_due,h_hash,h_sec⟩|⟨h_kind,h_id,h_due,h_hash,h_sec⟩|⟨h_kind,h_dst,h_asset,h_amount,h_due,h_hash,h_sec⟩|⟨h_kind,h_dst,h_asset,h_amount,h_due,h_hash,h_sec⟩
  ·dsimp only at h_kind h_id h_due h_hash h_sec
   subst h_kind h_id h_due h_hash h_sec
   have HE:=Kept.mk (HE0.out (.cells #[.int .i64 1,.int .i64 dst,.int .i64 asset,.int .i64 amount,.int .i64 0,.int .i64 0,.string (strOfNums []),.string (strOfNums [])] 88));have FP:=Kept.mk (FP0.out (.cells #[.int .i64 1,.int .i64 dst,.int .i64 asset,.int .i64 amount,.int .i64 0,.int .i64 0,.string (strOfNums []),.string (strOfNums [])] 88));have X:=Kept.mk (X0.out #[.int .i64 1,.int .i64 dst,.int .i64 asset,.int .i64 amount,.int .i64 0,.int .i64 0,.string (strOfNums []),.string (strOfNums [])])
   have KH:=Kept.mk KH0
   clear KH0
   go_enter Tryz.func258,Tryz.ntmps258
   go_upto_region 1 with(fail)
   generalize w.alloc (.cells #[.int .i64 1,.int .i64 dst,.int .i64 asset,.int .i64 amount,.int .i64 0,.int .i64 0,.string (strOfNums []),.string (strOfNums [])] 88)=w0 at *
   clear HE0 FP0 X0
   have x0:=X.out.cell 0;have x1:=X.out.cell 1;have x2:=X.out.cell 2;have x3:=X.out.cell 3;have x4:=X.out.cell 4;have x5:=X.out.cell 5;have x6:=X.out.cell 6;have x7:=X.out.cell 7
   go_wp2_with fail
   refine(KH.out _).mono ?_
   rintro x w1 ⟨rfl,b1⟩
   replace X:=Kept.mk (X.out.below b1 X.out.lt);replace HE:=Kept.mk (HE.out.below b1);replace FP:=Kept.mk (FP.out.trans (F'':=F) ⟨barOf b1 _,fun _ hk=>.inl hk⟩)
   clear b1 KH x0 x1 x2 x3 x4 x5 x6 x7
   have x0:=X.out.cell 0
   have KC:=num_any w1 F e 1 1 _ HE.out (by have:=hl;omega)
   go_wp2_with fail
   refine KC.mono ?_
   rintro x w2 ⟨rfl,F2,he,fp⟩
   have hlt:=X.out.lt
   have LB2:Kept ((encNum st 1 1).2.length≤900000000+8):=⟨by
    have a1:=encNum_len st 1 1
    omega⟩
   replace X:=Kept.mk (X.out.bar fp.1 NF.out);replace NF:=Kept.mk (cnotin_step fp NF.out hlt);replace FP:=Kept.mk (FP.out.trans fp);replace HE:=Kept.mk he
   clear he fp KC hlt x0
   have x0:=X.out.cell 0;have x1:=X.out.cell 1;have x2:=X.out.cell 2;have x3:=X.out.cell 3
   have KC:=putmove_any dst asset amount HE.out (by have:=hl;have:=LB2.out;omega)
   go_wp2_with fail
   refine KC.mono ?_
   rintro x w3 ⟨rfl,F3,he,fp⟩
   have hlt:=X.out.lt
   have LB3:Kept ((wMove (encNum st 1 1) dst asset amount).2.length≤900000000+32):=⟨by
    have a1:=wMove_len (encNum st 1 1) dst asset amount
    have:=LB2.out;omega⟩
   replace X:=Kept.mk (X.out.bar fp.1 NF.out);replace NF:=Kept.mk (cnotin_step fp NF.out hlt);replace FP:=Kept.mk (FP.out.trans fp);replace HE:=Kept.mk he
   clear he fp KC hlt x0 x1 x2 x3
   go_wp2
   go_ret
   refine⟨rfl,_,?_,FP.out⟩
   rw[← wReq1 st dst asset amount];exact HE.out
  ·dsimp only at h_kind h_id h_due h_hash h_sec
   subst h_kind h_id h_sec
   have HE:=Kept.mk (HE0.out (.cells #[.int .i64 2,.int .i64 dst,.int .i64 asset,.int .i64 amount,.int .i64 0,.int .i64 due,.string (strOfNums hash),.string (strOfNums [])] 88));have FP:=Kept.mk (FP0.out (.cells #[.int .i64 2,.int .i64 dst,.int .i64 asset,.int .i64 amount,.int .i64 0,.int .i64 due,.string (strOfNums hash),.string (strOfNums [])] 88));have X:=Kept.mk (X0.out #[.int .i64 2,.int .i64 dst,.int .i64 asset,.int .i64 amount,.int .i64 0,.int .i64 due,.string (strOfNums hash),.string (strOfNums [])])
   have KH:=Kept.mk KH0
   clear KH0
   go_enter Tryz.func258,Tryz.ntmps258
   go_upto_region 1 with(fail)
   generalize w.alloc (.cells #[.int .i64 2,.int .i64 dst,.int .i64 asset,.int .i64 amount,.int .i64 0,.int .i64 due,.string (strOfNums hash),.string (strOfNums [])] 88)=w0 at *
   clear HE0 FP0 X0
   have x0:=X.out.cell 0;have x1:=X.out.cell 1;have x2:=X.out.cell 2;have x3:=X.out.cell 3;have x4:=X.out.cell 4;have x5:=X.out.cell 5;have x6:=X.out.cell 6;have x7:=X.out.cell 7
   go_wp2_with fail
   refine(KH.out _).mono ?_
   rintro x w1 ⟨rfl,b1⟩
   replace X:=Kept.mk (X.out.below b1 X.out.lt);replace HE:=Kept.mk (HE.out.below b1);replace FP:=Kept.mk (FP.out.trans (F'':=F) ⟨barOf b1 _,fun _ hk=>.inl hk⟩)
   clear b1 KH x0 x1 x2 x3 x4 x5 x6 x7
   have x0:=X.out.cell 0
   have KC:=num_any w1 F e 2 1 _ HE.out (by have:=hl;omega)
   go_wp2_with fail
   refine KC.mono ?_
   rintro x w2 ⟨rfl,F2,he,fp⟩
   have hlt:=X.out.lt
   have LB2:Kept ((encNum st 2 1).2.length≤900000000+8):=⟨by
    have a1:=encNum_len st 2 1
    omega⟩
   replace X:=Kept.mk (X.out.bar fp.1 NF.out);replace NF:=Kept.mk (cnotin_step fp NF.out hlt);replace FP:=Kept.mk (FP.out.trans fp);replace HE:=Kept.mk he
   clear he fp KC hlt x0
   have x0:=X.out.cell 0;have x1:=X.out.cell 1;have x2:=X.out.cell 2;have x3:=X.out.cell 3
   have KC:=putmove_any dst asset amount HE.out (by have:=hl;have:=LB2.out;omega)
   go_wp2_with fail
   refine KC.mono ?_
   rintro x w3 ⟨rfl,F3,he,fp⟩
   have hlt:=X.out.lt
   have LB3:Kept ((wMove (encNum st 2 1) dst asset amount).2.length≤900000000+32):=⟨by
    have a1:=wMove_len (encNum st 2 1) dst asset amount
    have:=LB2.out;omega⟩
   replace X:=Kept.mk (X.out.bar fp.1 NF.out);replace NF:=Kept.mk (cnotin_step fp NF.out hlt);replace FP:=Kept.mk (FP.out.trans fp);replace HE:=Kept.mk he
   clear he fp KC hlt x0 x1 x2 x3
   have x0:=X.out.cell 0;have x6:=X.out.cell 6
   have KC:=puttext_any hash hb1 (by omega) HE.out (by have:=hl;have:=LB2.out;have:=LB3.out;omega)
   go_wp2_with fail
   refine KC.mono ?_
   rintro x w4 ⟨rfl,F4,he,fp⟩
   have hlt:=X.out.lt
   have LB4:Kept ((wText (wMove (encNum st 2 1) dst asset amount) hash).2.length≤900000000+64):=⟨by
    have a1:=wText_len (wMove (encNum st 2 1) dst asset amount) hash
    have:=LB3.out;omega⟩
   replace X:=Kept.mk (X.out.bar fp.1 NF.out);replace NF:=Kept.mk (cnotin_step fp NF.out hlt);replace FP:=Kept.mk (FP.out.trans fp);replace HE:=Kept.mk he
   clear he fp KC hlt x0 x6
   have x0:=X.out.cell 0;have x5:=X.out.cell 5
   have KC:=num_any w4 F4 e due 8 _ HE.out (by have:=hl;have:=LB2.out;have:=LB3.out;have:=LB4.out;omega)
   go_wp2_with fail
   refine KC.mono ?_
   rintro x w5 ⟨rfl,F5,he,fp⟩
   have hlt:=X.out.lt
   have LB5:Kept ((encNum (wText (wMove (encNum st 2 1) dst asset amount) hash) due 8).2.length≤900000000+72):=⟨by
    have a1:=encNum_len (wText (wMove (encNum st 2 1) dst asset amount) hash) due 8
    have:=LB4.out;omega⟩
   replace X:=Kept.mk (X.out.bar fp.1 NF.out);replace NF:=Kept.mk (cnotin_step fp NF.out hlt);replace FP:=Kept.mk (FP.out.trans fp);replace HE:=Kept.mk he
   clear he fp KC hlt x0 x5
   go_wp2
   go_ret
   refine⟨rfl,_,?_,FP.out⟩
   rw[← wReq2 st dst asset amount due hash h_due];exact HE.out
  ·dsimp only at h_kind h_dst h_asset h_amount h_due h_hash h_sec
   subst h_kind h_dst h_asset h_amount h_due h_hash
   have HE:=Kept.mk (HE0.out (.cells #[.int .i64 3,.int .i64 0,.int .i64 0,.int .i64 0,.int .i64 id,.int .i64 0,.string (strOfNums []),.string (strOfNums sec)] 88));have FP:=Kept.mk (FP0.out (.cells #[.int .i64 3,.int .i64 0,.int .i64 0,.int .i64 0,.int .i64 id,.int .i64 0,.string (strOfNums []),.string (strOfNums sec)] 88));have X:=Kept.mk (X0.out #[.int .i64 3,.int .i64 0,.int .i64 0,.int .i64 0,.int .i64 id,.int .i64 0,.string (strOfNums []),.string (strOfNums sec)])
   have KH:=Kept.mk KH0
   clear KH0
   go_enter Tryz.func258,Tryz.ntmps258
   go_upto_region 1 with(fail)
   generalize w.alloc (.cells #[.int .i64 3,.int .i64 0,.int .i64 0,.int .i64 0,.int .i64 id,.int .i64 0,.string (strOfNums []),.string (strOfNums sec)] 88)=w0 at *
   clear HE0 FP0 X0
   have x0:=X.out.cell 0;have x1:=X.out.cell 1;have x2:=X.out.cell 2;have x3:=X.out.cell 3;have x4:=X.out.cell 4;have x5:=X.out.cell 5;have x6:=X.out.cell 6;have x7:=X.out.cell 7
   go_wp2_with fail
   refine(KH.out _).mono ?_
   rintro x w1 ⟨rfl,b1⟩
   replace X:=Kept.mk (X.out.below b1 X.out.lt);replace HE:=Kept.mk (HE.out.below b1);replace FP:=Kept.mk (FP.out.trans (F'':=F) ⟨barOf b1 _,fun _ hk=>.inl hk⟩)
   clear b1 KH x0 x1 x2 x3 x4 x5 x6 x7
   have x0:=X.out.cell 0
   have KC:=num_any w1 F e 3 1 _ HE.out (by have:=hl;omega)
   go_wp2_with fail
   refine KC.mono ?_
   rintro x w2 ⟨rfl,F2,he,fp⟩
   have hlt:=X.out.lt
   have LB2:Kept ((encNum st 3 1).2.length≤900000000+8):=⟨by
    have a1:=encNum_len st 3 1
    omega⟩
   replace X:=Kept.mk (X.out.bar fp.1 NF.out);replace NF:=Kept.mk (cnotin_step fp NF.out hlt);replace FP:=Kept.mk (FP.out.trans fp);replace HE:=Kept.mk he
   clear he fp KC hlt x0
   have x0:=X.out.cell 0;have x4:=X.out.cell 4
   have KC:=num_any w2 F2 e id 2 _ HE.out (by have:=hl;have:=LB2.out;omega)
   go_wp2_with fail
   refine KC.mono ?_
   rintro x w3 ⟨rfl,F3,he,fp⟩
   have hlt:=X.out.lt
   have LB3:Kept ((encNum (encNum st 3 1) id 2).2.length≤900000000+16):=⟨by
    have a1:=encNum_len (encNum st 3 1) id 2
    have:=LB2.out;omega⟩
   replace X:=Kept.mk (X.out.bar fp.1 NF.out);replace NF:=Kept.mk (cnotin_step fp NF.out hlt);replace FP:=Kept.mk (FP.out.trans fp);replace HE:=Kept.mk he
   clear he fp KC hlt x0 x4
   have x0:=X.out.cell 0;have x7:=X.out.cell 7
   have KC:=puttext_any sec hb2 (by omega) HE.out (by have:=hl;have:=LB2.out;have:=LB3.out;omega)
   go_wp2_with fail
   refine KC.mono ?_
   rintro x w4 ⟨rfl,F4,he,fp⟩
   have hlt:=X.out.lt
   have LB4:Kept ((wText (encNum (encNum st 3 1) id 2) sec).2.length≤900000000+48):=⟨by
    have a1:=wText_len (encNum (encNum st 3 1) id 2) sec
    have:=LB3.out;omega⟩
   replace X:=Kept.mk (X.out.bar fp.1 NF.out);replace NF:=Kept.mk (cnotin_step fp NF.out hlt);replace FP:=Kept.mk (FP.out.trans fp);replace HE:=Kept.mk he
   clear he fp KC hlt x0 x7
   go_wp2
   go_ret
   refine⟨rfl,_,?_,FP.out⟩
   rw[← wReq3 st id sec];exact HE.out
  ·dsimp only at h_kind h_dst h_asset h_amount h_due h_hash h_sec
   subst h_kind h_dst h_asset h_amount h_due h_hash h_sec
   have HE:=Kept.mk (HE0.out (.cells #[.int .i64 4,.int .i64 0,.int .i64 0,.int .i64 0,.int .i64 id,.int .i64 0,.string (strOfNums []),.string (strOfNums [])] 88));have FP:=Kept.mk (FP0.out (.cells #[.int .i64 4,.int .i64 0,.int .i64 0,.int .i64 0,.int .i64 id,.int .i64 0,.string (strOfNums []),.string (strOfNums [])] 88));have X:=Kept.mk (X0.out #[.int .i64 4,.int .i64 0,.int .i64 0,.int .i64 0,.int .i64 id,.int .i64 0,.string (strOfNums []),.string (strOfNums [])])
   have KH:=Kept.mk KH0
   clear KH0
   go_enter Tryz.func258,Tryz.ntmps258
   go_upto_region 1 with(fail)
   generalize w.alloc (.cells #[.int .i64 4,.int .i64 0,.int .i64 0,.int .i64 0,.int .i64 id,.int .i64 0,.string (strOfNums []),.string (strOfNums [])] 88)=w0 at *
   clear HE0 FP0 X0
   have x0:=X.out.cell 0;have x1:=X.out.cell 1;have x2:=X.out.cell 2;have x3:=X.out.cell 3;have x4:=X.out.cell 4;have x5:=X.out.cell 5;have x6:=X.out.cell 6;have x7:=X.out.cell 7
   go_wp2_with fail
   refine(KH.out _).mono ?_
   rintro x w1 ⟨rfl,b1⟩
   replace X:=Kept.mk (X.out.below b1 X.out.lt);replace HE:=Kept.mk (HE.out.below b1);replace FP:=Kept.mk (FP.out.trans (F'':=F) ⟨barOf b1 _,fun _ hk=>.inl hk⟩)
   clear b1 KH x0 x1 x2 x3 x4 x5 x6 x7
   have x0:=X.out.cell 0
   have KC:=num_any w1 F e 4 1 _ HE.out (by have:=hl;omega)
   go_wp2_with fail
   refine KC.mono ?_
   rintro x w2 ⟨rfl,F2,he,fp⟩
   have hlt:=X.out.lt
   have LB2:Kept ((encNum st 4 1).2.length≤900000000+8):=⟨by
    have a1:=encNum_len st 4 1
    omega⟩
   replace X:=Kept.mk (X.out.bar fp.1 NF.out);replace NF:=Kept.mk (cnotin_step fp NF.out hlt);replace FP:=Kept.mk (FP.out.trans fp);replace HE:=Kept.mk he
   clear he fp KC hlt x0
   have x0:=X.out.cell 0;have x4:=X.out.cell 4
   have KC:=num_any w2 F2 e id 2 _ HE.out (by have:=hl;have:=LB2.out;omega)
   go_wp2_with fail
   refine KC.mono ?_
   rintro x w3 ⟨rfl,F3,he,fp⟩
   have hlt:=X.out.lt
   have LB3:Kept ((encNum (encNum st 4 1) id 2).2.length≤900000000+16):=⟨by
    have a1:=encNum_len (encNum st 4 1) id 2
    have:=LB2.out;omega⟩
   replace X:=Kept.mk (X.out.bar fp.1 NF.out);replace NF:=Kept.mk (cnotin_step fp NF.out hlt);replace FP:=Kept.mk (FP.out.trans fp);replace HE:=Kept.mk he
   clear he fp KC hlt x0 x4
   go_wp2
   go_ret
   refine⟨rfl,_,?_,FP.out⟩
   rw[← wReq4 st id];exact HE.out
 ·rw[if_neg hh,decide_eq_false hh]
  rw[decide_eq_false hh] at KH0
  have HE:=Kept.mk (HE0.out (.cells #[.int .i64 kind,.int .i64 dst,.int .i64 asset,.int .i64 amount,.int .i64 id,.int .i64 due,.string (strOfNums hash),.string (strOfNums sec)] 88));have FP:=Kept.mk (FP0.out (.cells #[.int .i64 kind,.int .i64 dst,.int .i64 asset,.int .i64 amount,.int .i64 id,.int .i64 due,.string (strOfNums hash),.string (strOfNums sec)] 88));have X:=Kept.mk (X0.out #[.int .i64 kind,.int .i64 dst,.int .i64 asset,.int .i64 amount,.int .i64 id,.int .i64 due,.string (strOfNums hash),.string (strOfNums sec)])
  have KH:=Kept.mk KH0
  clear KH0
  go_enter Tryz.func258,Tryz.ntmps258
  go_upto_region 1 with(fail)
  generalize w.alloc (.cells #[.int .i64 kind,.int .i64 dst,.int .i64 asset,.int .i64 amount,.int .i64 id,.int .i64 due,.string (strOfNums hash),.string (strOfNums sec)] 88)=w0 at *
  clear HE0 FP0 X0
  have x0:=X.out.cell 0;have x1:=X.out.cell 1;have x2:=X.out.cell 2;have x3:=X.out.cell 3;have x4:=X.out.cell 4;have x5:=X.out.cell 5;have x6:=X.out.cell 6;have x7:=X.out.cell 7
  go_wp2_with fail
  refine(KH.out _).mono ?_
  rintro x w1 ⟨rfl,b1⟩
  replace X:=Kept.mk (X.out.below b1 X.out.lt);replace HE:=Kept.mk (HE.out.below b1);replace FP:=Kept.mk (FP.out.trans (F'':=F) ⟨barOf b1 _,fun _ hk=>.inl hk⟩)
  clear b1 KH x0 x1 x2 x3 x4 x5 x6 x7
  go_wp2
  go_ret
  exact⟨rfl,F,HE.out,FP.out⟩
set_option maxRecDepth 100000 in
set_option maxHeartbeats 4000000 in
theorem cputv_any {w:World}{F:List Nat}{e:Nat}{st:St}{r:VV}(h:En 233 w F e st) (hr:r.ok) (hl:st.2.length≤900000000):Calls Tryz.prog 118 #[.pointer (some ⟨e,0,none⟩),vqv r] w fun x w'=>x=.returned (.bool (decide (HoldV r)))∧∃ F',En 233 w' F' e (if HoldV r then wEv st r else st)∧Fp F F' w w':=by
 have KH0:=fun w=>holdV_any r hr w
 have LE:=encNum_len
 obtain⟨kind,src,dst,asset,amount,id,due,hash,sec⟩:=r
 obtain⟨hb1,hb2⟩:=hr
 unfold vqv at *
 dsimp only at KH0 hb1 hb2 ⊢
 have hN:w.heap.size∉F:=fun hm=>by have:=h.lt _ hm;omega
 have bz:∀ o,Below w.heap.size w (w.alloc o):=fun o=>(Below.refl _ _).alloc (Nat.le_refl _) o
 have NF:=Kept.mk hN
 have HE0:=Kept.mk (fun o=>h.below (bz o))
 have FP0:Kept (∀ o,Fp F F w (w.alloc o)):=⟨fun o=>⟨barOf (bz o) F,fun _ hk=>.inl hk⟩⟩
 have X0:=Kept.mk (fun cs=>Blk.new w 150 cs)
 obtain⟨N,hN2⟩:∃ N,w.heap.size=N:=⟨_,rfl⟩
 rw[hN2] at NF X0
 clear hN bz h
 by_cases hh:HoldV ⟨kind,src,dst,asset,amount,id,due,hash,sec⟩
 ·rw[if_pos hh,decide_eq_true hh]
  rw[decide_eq_true hh] at KH0
  rcases hh with⟨h_kind,h_id,h_due,h_hash,h_sec⟩|⟨h_kind,h_due,h_hash,h_sec⟩|⟨h_kind,h_src,h_dst,h_asset,h_amount,h_due,h_hash,h_sec⟩|⟨h_kind,h_src,h_dst,h_asset,h_amount,h_due,h_hash,h_sec⟩
  ·dsimp only at h_kind h_id h_due h_hash h_sec
   subst h_kind h_id h_due h_hash h_sec
   have HE:=Kept.mk (HE0.out (.cells #[.int .i64 1,.int .i64 src,.int .i64 dst,.int .i64 asset,.int .i64 amount,.int .i64 0,.int .i64 0,.string (strOfNums []),.string (strOfNums [])] 150));have FP:=Kept.mk (FP0.out (.cells #[.int .i64 1,.int .i64 src,.int .i64 dst,.int .i64 asset,.int .i64 amount,.int .i64 0,.int .i64 0,.string (strOfNums []),.string (strOfNums [])] 150));have X:=Kept.mk (X0.out #[.int .i64 1,.int .i64 src,.int .i64 dst,.int .i64 asset,.int .i64 amount,.int .i64 0,.int .i64 0,.string (strOfNums []),.string (strOfNums [])])
   have KH:=Kept.mk KH0
   clear KH0
   go_enter Tryz.func118,Tryz.ntmps118
   go_upto_region 1 with(fail)
   generalize w.alloc (.cells #[.int .i64 1,.int .i64 src,.int .i64 dst,.int .i64 asset,.int .i64 amount,.int .i64 0,.int .i64 0,.string (strOfNums []),.string (strOfNums [])] 150)=w0 at *
   clear HE0 FP0 X0
   have x0:=X.out.cell 0;have x1:=X.out.cell 1;have x2:=X.out.cell 2;have x3:=X.out.cell 3;have x4:=X.out.cell 4;have x5:=X.out.cell 5;have x6:=X.out.cell 6;have x7:=X.out.cell 7;have x8:=X.out.cell 8
   go_wp2_with fail
   refine(KH.out _).mono ?_
   rintro x w1 ⟨rfl,b1⟩
   replace X:=Kept.mk (X.out.below b1 X.out.lt);replace HE:=Kept.mk (HE.out.below b1);replace FP:=Kept.mk (FP.out.trans (F'':=F) ⟨barOf b1 _,fun _ hk=>.inl hk⟩)
   clear b1 KH x0 x1 x2 x3 x4 x5 x6 x7 x8
   have x0:=X.out.cell 0
   have KC:=num_any w1 F e 1 1 _ HE.out (by have:=hl;omega)
   go_wp2_with fail
   refine KC.mono ?_
   rintro x w2 ⟨rfl,F2,he,fp⟩
   have hlt:=X.out.lt
   have LB2:Kept ((encNum st 1 1).2.length≤900000000+8):=⟨by
    have a1:=encNum_len st 1 1
    omega⟩
   replace X:=Kept.mk (X.out.bar fp.1 NF.out);replace NF:=Kept.mk (cnotin_step fp NF.out hlt);replace FP:=Kept.mk (FP.out.trans fp);replace HE:=Kept.mk he
   clear he fp KC hlt x0
   have x0:=X.out.cell 0;have x1:=X.out.cell 1
   have KC:=num_any w2 F2 e src 1 _ HE.out (by have:=hl;have:=LB2.out;omega)
   go_wp2_with fail
   refine KC.mono ?_
   rintro x w3 ⟨rfl,F3,he,fp⟩
   have hlt:=X.out.lt
   have LB3:Kept ((encNum (encNum st 1 1) src 1).2.length≤900000000+16):=⟨by
    have a1:=encNum_len (encNum st 1 1) src 1
    have:=LB2.out;omega⟩
   replace X:=Kept.mk (X.out.bar fp.1 NF.out);replace NF:=Kept.mk (cnotin_step fp NF.out hlt);replace FP:=Kept.mk (FP.out.trans fp);replace HE:=Kept.mk he
   clear he fp KC hlt x0 x1
   have x0:=X.out.cell 0;have x2:=X.out.cell 2;have x3:=X.out.cell 3;have x4:=X.out.cell 4
   have KC:=putmove_any dst asset amount HE.out (by have:=hl;have:=LB2.out;have:=LB3.out;omega)
   go_wp2_with fail
   refine KC.mono ?_
   rintro x w4 ⟨rfl,F4,he,fp⟩
   have hlt:=X.out.lt
   have LB4:Kept ((wMove (encNum (encNum st 1 1) src 1) dst asset amount).2.length≤900000000+40):=⟨by
    have a1:=wMove_len (encNum (encNum st 1 1) src 1) dst asset amount
    have:=LB3.out;omega⟩
   replace X:=Kept.mk (X.out.bar fp.1 NF.out);replace NF:=Kept.mk (cnotin_step fp NF.out hlt);replace FP:=Kept.mk (FP.out.trans fp);replace HE:=Kept.mk he
   clear he fp KC hlt x0 x2 x3 x4
   go_wp2
   go_ret
   refine⟨rfl,_,?_,FP.out⟩
   rw[← wEv1 st src dst asset amount];exact HE.out
  ·dsimp only at h_kind h_due h_hash h_sec
   subst h_kind h_sec
   have HE:=Kept.mk (HE0.out (.cells #[.int .i64 2,.int .i64 src,.int .i64 dst,.int .i64 asset,.int .i64 amount,.int .i64 id,.int .i64 due,.string (strOfNums hash),.string (strOfNums [])] 150));have FP:=Kept.mk (FP0.out (.cells #[.int .i64 2,.int .i64 src,.int .i64 dst,.int .i64 asset,.int .i64 amount,.int .i64 id,.int .i64 due,.string (strOfNums hash),.string (strOfNums [])] 150));have X:=Kept.mk (X0.out #[.int .i64 2,.int .i64 src,.int .i64 dst,.int .i64 asset,.int .i64 amount,.int .i64 id,.int .i64 due,.string (strOfNums hash),.string (strOfNums [])])
   have KH:=Kept.mk KH0
   clear KH0
   go_enter Tryz.func118,Tryz.ntmps118
   go_upto_region 1 with(fail)
   generalize w.alloc (.cells #[.int .i64 2,.int .i64 src,.int .i64 dst,.int .i64 asset,.int .i64 amount,.int .i64 id,.int .i64 due,.string (strOfNums hash),.string (strOfNums [])] 150)=w0 at *
   clear HE0 FP0 X0
   have x0:=X.out.cell 0;have x1:=X.out.cell 1;have x2:=X.out.cell 2;have x3:=X.out.cell 3;have x4:=X.out.cell 4;have x5:=X.out.cell 5;have x6:=X.out.cell 6;have x7:=X.out.cell 7;have x8:=X.out.cell 8
   go_wp2_with fail
   refine(KH.out _).mono ?_
   rintro x w1 ⟨rfl,b1⟩
   replace X:=Kept.mk (X.out.below b1 X.out.lt);replace HE:=Kept.mk (HE.out.below b1);replace FP:=Kept.mk (FP.out.trans (F'':=F) ⟨barOf b1 _,fun _ hk=>.inl hk⟩)
   clear b1 KH x0 x1 x2 x3 x4 x5 x6 x7 x8
   have x0:=X.out.cell 0
   have KC:=num_any w1 F e 2 1 _ HE.out (by have:=hl;omega)
   go_wp2_with fail
   refine KC.mono ?_
   rintro x w2 ⟨rfl,F2,he,fp⟩
   have hlt:=X.out.lt
   have LB2:Kept ((encNum st 2 1).2.length≤900000000+8):=⟨by
    have a1:=encNum_len st 2 1
    omega⟩
   replace X:=Kept.mk (X.out.bar fp.1 NF.out);replace NF:=Kept.mk (cnotin_step fp NF.out hlt);replace FP:=Kept.mk (FP.out.trans fp);replace HE:=Kept.mk he
   clear he fp KC hlt x0
   have x0:=X.out.cell 0;have x1:=X.out.cell 1
   have KC:=num_any w2 F2 e src 1 _ HE.out (by have:=hl;have:=LB2.out;omega)
   go_wp2_with fail
   refine KC.mono ?_
   rintro x w3 ⟨rfl,F3,he,fp⟩
   have hlt:=X.out.lt
   have LB3:Kept ((encNum (encNum st 2 1) src 1).2.length≤900000000+16):=⟨by
    have a1:=encNum_len (encNum st 2 1) src 1
    have:=LB2.out;omega⟩
   replace X:=Kept.mk (X.out.bar fp.1 NF.out);replace NF:=Kept.mk (cnotin_step fp NF.out hlt);replace FP:=Kept.mk (FP.out.trans fp);replace HE:=Kept.mk he
   clear he fp KC hlt x0 x1
   have x0:=X.out.cell 0;have x2:=X.out.cell 2;have x3:=X.out.cell 3;have x4:=X.out.cell 4
   have KC:=putmove_any dst asset amount HE.out (by have:=hl;have:=LB2.out;have:=LB3.out;omega)
   go_wp2_with fail
   refine KC.mono ?_
   rintro x w4 ⟨rfl,F4,he,fp⟩
   have hlt:=X.out.lt
   have LB4:Kept ((wMove (encNum (encNum st 2 1) src 1) dst asset amount).2.length≤900000000+40):=⟨by
    have a1:=wMove_len (encNum (encNum st 2 1) src 1) dst asset amount
    have:=LB3.out;omega⟩
   replace X:=Kept.mk (X.out.bar fp.1 NF.out);replace NF:=Kept.mk (cnotin_step fp NF.out hlt);replace FP:=Kept.mk (FP.out.trans fp);replace HE:=Kept.mk he
   clear he fp KC hlt x0 x2 x3 x4
   have x0:=X.out.cell 0;have x5:=X.out.cell 5
   have KC:=num_any w4 F4 e id 2 _ HE.out (by have:=hl;have:=LB2.out;have:=LB3.out;have:=LB4.out;omega)
   go_wp2_with fail
   refine KC.mono ?_
   rintro x w5 ⟨rfl,F5,he,fp⟩
   have hlt:=X.out.lt
   have LB5:Kept ((encNum (wMove (encNum (encNum st 2 1) src 1) dst asset amount) id 2).2.length≤900000000+48):=⟨by
    have a1:=encNum_len (wMove (encNum (encNum st 2 1) src 1) dst asset amount) id 2
    have:=LB4.out;omega⟩
   replace X:=Kept.mk (X.out.bar fp.1 NF.out);replace NF:=Kept.mk (cnotin_step fp NF.out hlt);replace FP:=Kept.mk (FP.out.trans fp);replace HE:=Kept.mk he
   clear he fp KC hlt x0 x5
   have x0:=X.out.cell 0;have x7:=X.out.cell 7
   have KC:=puttext_any hash hb1 (by omega) HE.out (by have:=hl;have:=LB2.out;have:=LB3.out;have:=LB4.out;have:=LB5.out;omega)
   go_wp2_with fail
   refine KC.mono ?_
   rintro x w6 ⟨rfl,F6,he,fp⟩
   have hlt:=X.out.lt
   have LB6:Kept ((wText (encNum (wMove (encNum (encNum st 2 1) src 1) dst asset amount) id 2) hash).2.length≤900000000+80):=⟨by
    have a1:=wText_len (encNum (wMove (encNum (encNum st 2 1) src 1) dst asset amount) id 2) hash
    have:=LB5.out;omega⟩
   replace X:=Kept.mk (X.out.bar fp.1 NF.out);replace NF:=Kept.mk (cnotin_step fp NF.out hlt);replace FP:=Kept.mk (FP.out.trans fp);replace HE:=Kept.mk he
   clear he fp KC hlt x0 x7
   have x0:=X.out.cell 0;have x6:=X.out.cell 6
   have KC:=num_any w6 F6 e due 8 _ HE.out (by have:=hl;have:=LB2.out;have:=LB3.out;have:=LB4.out;have:=LB5.out;have:=LB6.out;omega)
   go_wp2_with fail
   refine KC.mono ?_
   rintro x w7 ⟨rfl,F7,he,fp⟩
   have hlt:=X.out.lt
   have LB7:Kept ((encNum (wText (encNum (wMove (encNum (encNum st 2 1) src 1) dst asset amount) id 2) hash) due 8).2.length≤900000000+88):=⟨by
    have a1:=encNum_len (wText (encNum (wMove (encNum (encNum st 2 1) src 1) dst asset amount) id 2) hash) due 8
    have:=LB6.out;omega⟩
   replace X:=Kept.mk (X.out.bar fp.1 NF.out);replace NF:=Kept.mk (cnotin_step fp NF.out hlt);replace FP:=Kept.mk (FP.out.trans fp);replace HE:=Kept.mk he
   clear he fp KC hlt x0 x6
   go_wp2
   go_ret
   refine⟨rfl,_,?_,FP.out⟩
   rw[← wEv2 st src dst asset amount id due hash h_due];exact HE.out
  ·dsimp only at h_kind h_src h_dst h_asset h_amount h_due h_hash h_sec
   subst h_kind h_src h_dst h_asset h_amount h_due h_hash
   have HE:=Kept.mk (HE0.out (.cells #[.int .i64 3,.int .i64 0,.int .i64 0,.int .i64 0,.int .i64 0,.int .i64 id,.int .i64 0,.string (strOfNums []),.string (strOfNums sec)] 150));have FP:=Kept.mk (FP0.out (.cells #[.int .i64 3,.int .i64 0,.int .i64 0,.int .i64 0,.int .i64 0,.int .i64 id,.int .i64 0,.string (strOfNums []),.string (strOfNums sec)] 150));have X:=Kept.mk (X0.out #[.int .i64 3,.int .i64 0,.int .i64 0,.int .i64 0,.int .i64 0,.int .i64 id,.int .i64 0,.string (strOfNums []),.string (strOfNums sec)])
   have KH:=Kept.mk KH0
   clear KH0
   go_enter Tryz.func118,Tryz.ntmps118
   go_upto_region 1 with(fail)
   generalize w.alloc (.cells #[.int .i64 3,.int .i64 0,.int .i64 0,.int .i64 0,.int .i64 0,.int .i64 id,.int .i64 0,.string (strOfNums []),.string (strOfNums sec)] 150)=w0 at *
   clear HE0 FP0 X0
   have x0:=X.out.cell 0;have x1:=X.out.cell 1;have x2:=X.out.cell 2;have x3:=X.out.cell 3;have x4:=X.out.cell 4;have x5:=X.out.cell 5;have x6:=X.out.cell 6;have x7:=X.out.cell 7;have x8:=X.out.cell 8
   go_wp2_with fail
   refine(KH.out _).mono ?_
   rintro x w1 ⟨rfl,b1⟩
   replace X:=Kept.mk (X.out.below b1 X.out.lt);replace HE:=Kept.mk (HE.out.below b1);replace FP:=Kept.mk (FP.out.trans (F'':=F) ⟨barOf b1 _,fun _ hk=>.inl hk⟩)
   clear b1 KH x0 x1 x2 x3 x4 x5 x6 x7 x8
   have x0:=X.out.cell 0
   have KC:=num_any w1 F e 3 1 _ HE.out (by have:=hl;omega)
   go_wp2_with fail
   refine KC.mono ?_
   rintro x w2 ⟨rfl,F2,he,fp⟩
   have hlt:=X.out.lt
   have LB2:Kept ((encNum st 3 1).2.length≤900000000+8):=⟨by
    have a1:=encNum_len st 3 1
    omega⟩
   replace X:=Kept.mk (X.out.bar fp.1 NF.out);replace NF:=Kept.mk (cnotin_step fp NF.out hlt);replace FP:=Kept.mk (FP.out.trans fp);replace HE:=Kept.mk he
   clear he fp KC hlt x0
   have x0:=X.out.cell 0;have x5:=X.out.cell 5
   have KC:=num_any w2 F2 e id 2 _ HE.out (by have:=hl;have:=LB2.out;omega)
   go_wp2_with fail
   refine KC.mono ?_
   rintro x w3 ⟨rfl,F3,he,fp⟩
   have hlt:=X.out.lt
   have LB3:Kept ((encNum (encNum st 3 1) id 2).2.length≤900000000+16):=⟨by
    have a1:=encNum_len (encNum st 3 1) id 2
    have:=LB2.out;omega⟩
   replace X:=Kept.mk (X.out.bar fp.1 NF.out);replace NF:=Kept.mk (cnotin_step fp NF.out hlt);replace FP:=Kept.mk (FP.out.trans fp);replace HE:=Kept.mk he
   clear he fp KC hlt x0 x5
   have x0:=X.out.cell 0;have x8:=X.out.cell 8
   have KC:=puttext_any sec hb2 (by omega) HE.out (by have:=hl;have:=LB2.out;have:=LB3.out;omega)
   go_wp2_with fail
   refine KC.mono ?_
   rintro x w4 ⟨rfl,F4,he,fp⟩
   have hlt:=X.out.lt
   have LB4:Kept ((wText (encNum (encNum st 3 1) id 2) sec).2.length≤900000000+48):=⟨by
    have a1:=wText_len (encNum (encNum st 3 1) id 2) sec
    have:=LB3.out;omega⟩
   replace X:=Kept.mk (X.out.bar fp.1 NF.out);replace NF:=Kept.mk (cnotin_step fp NF.out hlt);replace FP:=Kept.mk (FP.out.trans fp);replace HE:=Kept.mk he
   clear he fp KC hlt x0 x8
   go_wp2
   go_ret
   refine⟨rfl,_,?_,FP.out⟩
   rw[← wEv3 st id sec];exact HE.out
  ·dsimp only at h_kind h_src h_dst h_asset h_amount h_due h_hash h_sec
   subst h_kind h_src h_dst h_asset h_amount h_due h_hash h_sec
   have HE:=Kept.mk (HE0.out (.cells #[.int .i64 4,.int .i64 0,.int .i64 0,.int .i64 0,.int .i64 0,.int .i64 id,.int .i64 0,.string (strOfNums []),.string (strOfNums [])] 150));have FP:=Kept.mk (FP0.out (.cells #[.int .i64 4,.int .i64 0,.int .i64 0,.int .i64 0,.int .i64 0,.int .i64 id,.int .i64 0,.string (strOfNums []),.string (strOfNums [])] 150));have X:=Kept.mk (X0.out #[.int .i64 4,.int .i64 0,.int .i64 0,.int .i64 0,.int .i64 0,.int .i64 id,.int .i64 0,.string (strOfNums []),.string (strOfNums [])])
   have KH:=Kept.mk KH0
   clear KH0
   go_enter Tryz.func118,Tryz.ntmps118
   go_upto_region 1 with(fail)
   generalize w.alloc (.cells #[.int .i64 4,.int .i64 0,.int .i64 0,.int .i64 0,.int .i64 0,.int .i64 id,.int .i64 0,.string (strOfNums []),.string (strOfNums [])] 150)=w0 at *
   clear HE0 FP0 X0
   have x0:=X.out.cell 0;have x1:=X.out.cell 1;have x2:=X.out.cell 2;have x3:=X.out.cell 3;have x4:=X.out.cell 4;have x5:=X.out.cell 5;have x6:=X.out.cell 6;have x7:=X.out.cell 7;have x8:=X.out.cell 8
   go_wp2_with fail
   refine(KH.out _).mono ?_
   rintro x w1 ⟨rfl,b1⟩
   replace X:=Kept.mk (X.out.below b1 X.out.lt);replace HE:=Kept.mk (HE.out.below b1);replace FP:=Kept.mk (FP.out.trans (F'':=F) ⟨barOf b1 _,fun _ hk=>.inl hk⟩)
   clear b1 KH x0 x1 x2 x3 x4 x5 x6 x7 x8
   have x0:=X.out.cell 0
   have KC:=num_any w1 F e 4 1 _ HE.out (by have:=hl;omega)
   go_wp2_with fail
   refine KC.mono ?_
   rintro x w2 ⟨rfl,F2,he,fp⟩
   have hlt:=X.out.lt
   have LB2:Kept ((encNum st 4 1).2.length≤900000000+8):=⟨by
    have a1:=encNum_len st 4 1
    omega⟩
   replace X:=Kept.mk (X.out.bar fp.1 NF.out);replace NF:=Kept.mk (cnotin_step fp NF.out hlt);replace FP:=Kept.mk (FP.out.trans fp);replace HE:=Kept.mk he
   clear he fp KC hlt x0
   have x0:=X.out.cell 0;have x5:=X.out.cell 5
   have KC:=num_any w2 F2 e id 2 _ HE.out (by have:=hl;have:=LB2.out;omega)
   go_wp2_with fail
   refine KC.mono ?_
   rintro x w3 ⟨rfl,F3,he,fp⟩
   have hlt:=X.out.lt
   have LB3:Kept ((encNum (encNum st 4 1) id 2).2.length≤900000000+16):=⟨by
    have a1:=encNum_len (encNum st 4 1) id 2
    have:=LB2.out;omega⟩
   replace X:=Kept.mk (X.out.bar fp.1 NF.out);replace NF:=Kept.mk (cnotin_step fp NF.out hlt);replace FP:=Kept.mk (FP.out.trans fp);replace HE:=Kept.mk he
   clear he fp KC hlt x0 x5
   go_wp2
   go_ret
   refine⟨rfl,_,?_,FP.out⟩
   rw[← wEv4 st id];exact HE.out
 ·rw[if_neg hh,decide_eq_false hh]
  rw[decide_eq_false hh] at KH0
  have HE:=Kept.mk (HE0.out (.cells #[.int .i64 kind,.int .i64 src,.int .i64 dst,.int .i64 asset,.int .i64 amount,.int .i64 id,.int .i64 due,.string (strOfNums hash),.string (strOfNums sec)] 150));have FP:=Kept.mk (FP0.out (.cells #[.int .i64 kind,.int .i64 src,.int .i64 dst,.int .i64 asset,.int .i64 amount,.int .i64 id,.int .i64 due,.string (strOfNums hash),.string (strOfNums sec)] 150));have X:=Kept.mk (X0.out #[.int .i64 kind,.int .i64 src,.int .i64 dst,.int .i64 asset,.int .i64 amount,.int .i64 id,.int .i64 due,.string (strOfNums hash),.string (strOfNums sec)])
  have KH:=Kept.mk KH0
  clear KH0
  go_enter Tryz.func118,Tryz.ntmps118
  go_upto_region 1 with(fail)
  generalize w.alloc (.cells #[.int .i64 kind,.int .i64 src,.int .i64 dst,.int .i64 asset,.int .i64 amount,.int .i64 id,.int .i64 due,.string (strOfNums hash),.string (strOfNums sec)] 150)=w0 at *
  clear HE0 FP0 X0
  have x0:=X.out.cell 0;have x1:=X.out.cell 1;have x2:=X.out.cell 2;have x3:=X.out.cell 3;have x4:=X.out.cell 4;have x5:=X.out.cell 5;have x6:=X.out.cell 6;have x7:=X.out.cell 7;have x8:=X.out.cell 8
  go_wp2_with fail
  refine(KH.out _).mono ?_
  rintro x w1 ⟨rfl,b1⟩
  replace X:=Kept.mk (X.out.below b1 X.out.lt);replace HE:=Kept.mk (HE.out.below b1);replace FP:=Kept.mk (FP.out.trans (F'':=F) ⟨barOf b1 _,fun _ hk=>.inl hk⟩)
  clear b1 KH x0 x1 x2 x3 x4 x5 x6 x7 x8
  go_wp2
  go_ret
  exact⟨rfl,F,HE.out,FP.out⟩
set_option maxRecDepth 100000 in
set_option maxHeartbeats 1000000 in
theorem cputp_any {w:World}{F:List Nat}{e:Nat}{st:St}{r:PV}(h:En 233 w F e st) (hl:st.2.length≤900000000):Calls Tryz.prog 116 #[.pointer (some ⟨e,0,none⟩),pqv r] w fun x w'=>x=.returned (.bool true)∧∃ F',En 233 w' F' e (wRep st r)∧Fp F F' w w':=by
 have l1:=encNum_len st r.code 1
 obtain⟨code,id⟩:=r
 unfold pqv
 dsimp only at l1 ⊢
 have hN:w.heap.size∉F:=fun hm=>by have:=h.lt _ hm;omega
 have bz:Below w.heap.size w (w.alloc (.cells #[.int .i64 code,.int .i64 id] 167)):=(Below.refl _ _).alloc (Nat.le_refl _) _
 have NF:=Kept.mk hN
 have HE:=Kept.mk (h.below bz)
 have FP:Kept (Fp F F w (w.alloc (.cells #[.int .i64 code,.int .i64 id] 167))):=⟨⟨barOf bz F,fun _ hk=>.inl hk⟩⟩
 have X:=Kept.mk (Blk.new w 167 #[.int .i64 code,.int .i64 id])
 obtain⟨N,hN2⟩:∃ N,w.heap.size=N:=⟨_,rfl⟩
 rw[hN2] at NF X
 clear hN bz h
 go_enter Tryz.func116,Tryz.ntmps116
 go_upto_region 1 with(fail)
 generalize w.alloc (.cells #[.int .i64 code,.int .i64 id] 167)=w0 at *
 have x0:=X.out.cell 0
 have KC:=num_any w0 F e code 1 st HE.out (by omega)
 go_wp2_with fail
 refine KC.mono ?_
 rintro x w1 ⟨rfl,F1,he,fp⟩
 have hlt:=X.out.lt
 replace X:=Kept.mk (X.out.bar fp.1 NF.out);replace NF:=Kept.mk (cnotin_step fp NF.out hlt);replace FP:=Kept.mk (FP.out.trans fp)
 have KC2:=num_any w1 F1 e id 2 _ he (by omega)
 clear he fp KC hlt x0 HE
 have x1:=X.out.cell 1
 go_wp2_with fail
 refine KC2.mono ?_
 rintro x w2 ⟨rfl,F2,he,fp⟩
 replace FP:=Kept.mk (FP.out.trans fp)
 have HE:=Kept.mk he
 clear he fp KC2 x1
 go_wp2
 go_ret
 exact⟨rfl,F2,HE.out,FP.out⟩
def CPutPost (T:TypeId) (F:List Nat) (e:Nat) (st:St) (p:Prop) (w:World) (x:Ending) (w':World):Prop:=∃ q F',x=.returned (.bool q)∧Fp F F' w w'∧(q=true ↔ p)∧(q=true→En T w' F' e st)
theorem ctake_snoc {α:Type}{l:List α}{k:Nat}{x:α}(h:l[k]?=some x):l.take (k+1)=l.take k++[x]:=by
 have hk:=(List.getElem?_eq_some_iff.1 h)
 obtain⟨hk,rfl⟩:=hk
 exact List.take_succ_eq_append_getElem hk
theorem call_snoc {α:Type}{p:α→Prop}{l:List α}{k:Nat}{x:α}(h:l[k]?=some x) (ha:∀ r∈l.take k,p r) (hx:p x):∀ r∈l.take (k+1),p r:=by
 rw[ctake_snoc h]
 intro r hr
 rcases List.mem_append.1 hr with h1|h1
 ·exact ha r h1
 ·rw[List.mem_singleton] at h1;subst h1;exact hx
set_option maxRecDepth 100000 in
set_option maxHeartbeats 2000000 in
theorem putallr_any {w:World}{F:List Nat}{e B:Nat}{st:St}{A:Option Addr}{n c:Nat}{l:List RV}(h:En 233 w F e st) (hl:st.2.length≤800000000) (hB:B≤w.heap.size) (hF:∀ f∈F,B≤f) (hR:∀ w',Below B w w'→Rr w' A n l) (hok:∀ r∈l,r.ok) :
  Calls Tryz.prog 257 #[.pointer (some ⟨e,0,none⟩),.slice A n c,.int .i64 1,.int .i64 64,.func (.func 258) #[] #[]] w (CPutPost 233 F e (wAll wReq (encNum st n 1) l) (n≤64∧∀ r∈l,HoldR r) w):=by
 have LN:=Kept.mk (hR w (Below.refl _ _)).1
 have RN:=Kept.mk hR
 have HO:=Kept.mk hok
 have LE:=encNum_len st n 1
 generalize hP:(n≤64∧∀ r∈l,HoldR r)=P
 have HP:=Kept.mk hP
 clear hP
 by_cases hm:n≤64
 ·have hm':(n:Int)≤64:=by omega
  have KC:=num_any w F e (n:Int) 1 st h (by omega)
  obtain⟨s1,hst⟩:∃ s1,encNum st (n:Int) 1=s1:=⟨_,rfl⟩
  rw[hst] at KC LE ⊢
  have HB:=Kept.mk hB;have HF:=Kept.mk hF
  clear hst h hR hB hF hok
  go_enter Tryz.func257,Tryz.ntmps257
  go_wp2_with fail
  refine KC.mono ?_
  rintro x w1 ⟨rfl,F1,he,fp⟩
  have BW:Kept (Below B w w1):=⟨fp.below HF.out HB.out⟩
  have AF:Kept (∀ f∈F1,B≤f):=⟨fp.least HF.out HB.out⟩
  have FP:=Kept.mk fp
  have LS:Kept (∀ k,k≤n→(∀ r∈l.take k,HoldR r)→(wAll wReq s1 (l.take k)).2.length≤900000000):=⟨fun k hk hh=>by
   have:=wAll_len (f:=wReq) (m:=54) (l:=l.take k) (st:=s1) (fun st x hx=>wReq_len (hh x hx))
   rw[List.length_take] at this
   have h2:min k l.length≤64:=by omega
   have h3:54 * min k l.length≤54 * 64:=Nat.mul_le_mul_left _ h2
   omega⟩
  have HE:Kept (En 233 w1 F1 e (wAll wReq s1 (l.take 0))):=⟨by simpa [wAll] using he⟩
  have HH:Kept (∀ r∈l.take 0,HoldR r):=⟨by simp⟩
  clear he fp KC LE hl
  go_wp2
  go_loopw [24] (fun i wr=>∃ (k:Nat) (F':List Nat),k≤n∧i=.int .i64 k∧Kept (En 233 wr F' e (wAll wReq s1 (l.take k)))∧Kept (Fp F F' w wr)∧Kept (∀ f∈F',B≤f)∧Kept (Below B w wr)∧Kept (∀ r∈l.take k,HoldR r)) (fun i _=>n - (Go.RowKit.intOf i).toNat)
  case atStart=>exact⟨0,F1,by omega,rfl,HE,FP,AF,BW,HH⟩
  case round =>
   clear HE FP AF BW HH
   obtain⟨k,F',hk,rfl,HE,FP,AF,BW,HH⟩:=hrel
   by_cases hkn:k < n
   ·have hkn':(k:Int) < n:=by omega
    obtain⟨b,o,r,rfl,hx,hcell⟩:=(RN.out _ BW.out).at_ hkn
    have hrm:=List.mem_of_getElem? hx
    have HX:=Kept.mk hx
    have LK:=LS.out k hk HH.out
    obtain⟨M,hM⟩:∃ M,wr.heap.size=M:=⟨_,rfl⟩
    obtain⟨kind,dst,asset,amount,id,due,hash,sec⟩:=r
    have y0:=hcell 0 _ rfl;have y1:=hcell 1 _ rfl;have y2:=hcell 2 _ rfl;have y3:=hcell 3 _ rfl;have y4:=hcell 4 _ rfl;have y5:=hcell 5 _ rfl;have y6:=hcell 6 _ rfl;have y7:=hcell 7 _ rfl
    rw[Nat.add_zero] at y0
    dsimp only at y0 y1 y2 y3 y4 y5 y6 y7
    have bz:Below M wr (wr.alloc (.cells #[.int .i64 kind,.int .i64 dst,.int .i64 asset,.int .i64 amount,.int .i64 id,.int .i64 due,.string (strOfNums hash),.string (strOfNums sec)] 88)):=(Below.refl _ _).alloc (by omega) _
    have XB:Kept (Blk (wr.alloc (.cells #[.int .i64 kind,.int .i64 dst,.int .i64 asset,.int .i64 amount,.int .i64 id,.int .i64 due,.string (strOfNums hash),.string (strOfNums sec)] 88)) M 88 #[.int .i64 kind,.int .i64 dst,.int .i64 asset,.int .i64 amount,.int .i64 id,.int .i64 due,.string (strOfNums hash),.string (strOfNums sec)]):=⟨Blk.new_at wr _ _ M hM.symm⟩
    have hE2:=HE.out.keep (barOf (hM▸bz) []) (fun _ _=>by simp)
    have hFP:Fp F' F' wr (wr.alloc (.cells #[.int .i64 kind,.int .i64 dst,.int .i64 asset,.int .i64 amount,.int .i64 id,.int .i64 due,.string (strOfNums hash),.string (strOfNums sec)] 88)):=⟨barOf (hM▸bz) F',fun _ hk=>.inl hk⟩
    have hBW:=hFP.below AF.out (by have:=BW.out.size;have:=HB.out;omega)
    have KC:=cputr_any (r:=⟨kind,dst,asset,amount,id,due,hash,sec⟩) hE2 (HO.out _ hrm) LK
    unfold rqv at KC
    dsimp only at KC
    replace HE:=Kept.mk hE2;replace FP:=Kept.mk (FP.out.trans hFP);replace BW:=Kept.mk (BW.out.trans hBW)
    have KK:=Kept.mk KC
    clear KC hE2 hFP hBW bz LK hx hcell hrm
    go_upto_region 7 with(fail)
    generalize wr.alloc (.cells #[.int .i64 kind,.int .i64 dst,.int .i64 asset,.int .i64 amount,.int .i64 id,.int .i64 due,.string (strOfNums hash),.string (strOfNums sec)] 88)=w2 at *
    clear y0 y1 y2 y3 y4 y5 y6 y7
    have x0:=XB.out.cell 0;have x1:=XB.out.cell 1;have x2:=XB.out.cell 2;have x3:=XB.out.cell 3;have x4:=XB.out.cell 4;have x5:=XB.out.cell 5;have x6:=XB.out.cell 6;have x7:=XB.out.cell 7
    have HQ:Kept (l.take (k+1)=l.take k++[⟨kind,dst,asset,amount,id,due,hash,sec⟩]):=⟨ctake_snoc HX.out⟩
    have HM:Kept (⟨kind,dst,asset,amount,id,due,hash,sec⟩∈l):=⟨List.mem_of_getElem? HX.out⟩
    have HS:Kept (HoldR ⟨kind,dst,asset,amount,id,due,hash,sec⟩→∀ r∈l.take (k+1),HoldR r):=⟨fun h=>call_snoc HX.out HH.out h⟩
    by_cases hh:HoldR ⟨kind,dst,asset,amount,id,due,hash,sec⟩
    ·have KD:=KK.out
     rw[if_pos hh,decide_eq_true hh] at KD
     replace HH:=Kept.mk (HS.out hh)
     rw[← wAll_snoc wReq,← HQ.out] at KD
     clear KK HS HM hh
     have KK:=Kept.mk KD
     clear KD
     go_wp2_with fail
     refine KK.out.mono ?_
     rintro x w3 ⟨rfl,F2,he,fp⟩
     have BW2:=Kept.mk (BW.out.trans (fp.below AF.out (by have:=BW.out.size;have:=HB.out;omega)))
     have AF2:=Kept.mk (fp.least AF.out (by have:=BW.out.size;have:=HB.out;omega))
     replace AF:=AF2;replace BW:=BW2;replace FP:=Kept.mk (FP.out.trans fp);replace HE:=Kept.mk he
     clear he fp KK AF2 BW2 x0 x1 x2 x3 x4 x5 x6 x7
     go_wp2
     go_roundw
     case rel=>exact⟨k+1,F2,by omega,by go_num,HE,FP,AF,BW,HH⟩
     case measure=>simp[Go.RowKit.intOf];omega
    ·have KD:=KK.out
     rw[if_neg hh,decide_eq_false hh] at KD
     have NO:Kept (¬ P):=⟨fun h=>by rw[← HP.out] at h;exact hh (h.2 _ HM.out)⟩
     have KK2:=Kept.mk KD
     clear KD KK HS HM hh
     go_wp2_with fail
     refine KK2.out.mono ?_
     rintro x w3 ⟨rfl,F2,he,fp⟩
     replace FP:=Kept.mk (FP.out.trans fp)
     clear he fp KK2 x0 x1 x2 x3 x4 x5 x6 x7
     go_wp2
     go_ret
     exact⟨false,F2,rfl,FP.out,⟨fun h=>(by cases h),fun h=>(NO.out h).elim⟩,fun h=>(by cases h)⟩
   ·have hkn':¬ (k:Int) < n:=by omega
    obtain rfl:k=n:=by omega
    have hh:l.take k=l:=by rw[← LN.out];exact List.take_length
    rw[hh] at HE HH
    have YES:Kept P:=⟨by rw[← HP.out];exact⟨hm,HH.out⟩⟩
    go_wp2
    go_ret
    exact⟨true,F',rfl,FP.out,⟨fun _=>YES.out,fun _=>rfl⟩,fun _=>HE.out⟩
 ·have hm':¬ (n:Int)≤64:=by omega
  have NO:Kept (¬ P):=⟨fun h=>by rw[← HP.out] at h;exact hm h.1⟩
  clear hm
  have hm2:(64:Int) < n:=by omega
  clear h LE
  go_enter Tryz.func257,Tryz.ntmps257
  go_wp2
  go_ret
  exact⟨false,F,rfl,Fp.refl _ _,⟨fun h=>(by cases h),fun h=>(NO.out h).elim⟩,fun h=>(by cases h)⟩
set_option maxRecDepth 100000 in
set_option maxHeartbeats 2000000 in
theorem putallp_any {w:World}{F:List Nat}{e B:Nat}{st:St}{A:Option Addr}{n c:Nat}{l:List PV}(h:En 233 w F e st) (hl:st.2.length≤800000000) (hB:B≤w.heap.size) (hF:∀ f∈F,B≤f) (hR:∀ w',Below B w w'→Rp w' A n l) :
  Calls Tryz.prog 115 #[.pointer (some ⟨e,0,none⟩),.slice A n c,.int .i64 1,.int .i64 64,.func (.func 116) #[] #[]] w (CPutPost 233 F e (wAll wRep (encNum st n 1) l) (n≤64) w):=by
 have LN:=Kept.mk (hR w (Below.refl _ _)).1
 have RN:=Kept.mk hR
 have LE:=encNum_len st n 1
 generalize hP:(n≤64)=P
 have HP:=Kept.mk hP
 clear hP
 by_cases hm:n≤64
 ·have hm':(n:Int)≤64:=by omega
  have KC:=num_any w F e (n:Int) 1 st h (by omega)
  obtain⟨s1,hst⟩:∃ s1,encNum st (n:Int) 1=s1:=⟨_,rfl⟩
  rw[hst] at KC LE ⊢
  have HB:=Kept.mk hB;have HF:=Kept.mk hF
  clear hst h hR hB hF
  go_enter Tryz.func115,Tryz.ntmps115
  go_wp2_with fail
  refine KC.mono ?_
  rintro x w1 ⟨rfl,F1,he,fp⟩
  have BW:Kept (Below B w w1):=⟨fp.below HF.out HB.out⟩
  have AF:Kept (∀ f∈F1,B≤f):=⟨fp.least HF.out HB.out⟩
  have FP:=Kept.mk fp
  have LS:Kept (∀ k,k≤n→(wAll wRep s1 (l.take k)).2.length≤900000000):=⟨fun k hk=>by
   have:=wAll_len (f:=wRep) (m:=54) (l:=l.take k) (st:=s1) (fun st x hx=>wRep_len)
   rw[List.length_take] at this
   have h2:min k l.length≤64:=by omega
   have h3:54 * min k l.length≤54 * 64:=Nat.mul_le_mul_left _ h2
   omega⟩
  have HE:Kept (En 233 w1 F1 e (wAll wRep s1 (l.take 0))):=⟨by simpa [wAll] using he⟩
  clear he fp KC LE hl
  go_wp2
  go_loopw [24] (fun i wr=>∃ (k:Nat) (F':List Nat),k≤n∧i=.int .i64 k∧Kept (En 233 wr F' e (wAll wRep s1 (l.take k)))∧Kept (Fp F F' w wr)∧Kept (∀ f∈F',B≤f)∧Kept (Below B w wr)) (fun i _=>n - (Go.RowKit.intOf i).toNat)
  case atStart=>exact⟨0,F1,by omega,rfl,HE,FP,AF,BW⟩
  case round =>
   clear HE FP AF BW
   obtain⟨k,F',hk,rfl,HE,FP,AF,BW⟩:=hrel
   by_cases hkn:k < n
   ·have hkn':(k:Int) < n:=by omega
    obtain⟨b,o,r,rfl,hx,hcell⟩:=(RN.out _ BW.out).at_ hkn
    have HX:=Kept.mk hx
    have LK:=LS.out k hk
    obtain⟨M,hM⟩:∃ M,wr.heap.size=M:=⟨_,rfl⟩
    obtain⟨code,id⟩:=r
    have y0:=hcell 0 _ rfl;have y1:=hcell 1 _ rfl
    rw[Nat.add_zero] at y0
    dsimp only at y0 y1
    have bz:Below M wr (wr.alloc (.cells #[.int .i64 code,.int .i64 id] 167)):=(Below.refl _ _).alloc (by omega) _
    have XB:Kept (Blk (wr.alloc (.cells #[.int .i64 code,.int .i64 id] 167)) M 167 #[.int .i64 code,.int .i64 id]):=⟨Blk.new_at wr _ _ M hM.symm⟩
    have hE2:=HE.out.keep (barOf (hM▸bz) []) (fun _ _=>by simp)
    have hFP:Fp F' F' wr (wr.alloc (.cells #[.int .i64 code,.int .i64 id] 167)):=⟨barOf (hM▸bz) F',fun _ hk=>.inl hk⟩
    have hBW:=hFP.below AF.out (by have:=BW.out.size;have:=HB.out;omega)
    have KC:=cputp_any (r:=⟨code,id⟩) hE2 LK
    unfold pqv at KC
    dsimp only at KC
    replace HE:=Kept.mk hE2;replace FP:=Kept.mk (FP.out.trans hFP);replace BW:=Kept.mk (BW.out.trans hBW)
    have KK:=Kept.mk KC
    clear KC hE2 hFP hBW bz LK hx hcell
    go_upto_region 7 with(fail)
    generalize wr.alloc (.cells #[.int .i64 code,.int .i64 id] 167)=w2 at *
    clear y0 y1
    have x0:=XB.out.cell 0;have x1:=XB.out.cell 1
    have KD:=KK.out
    rw[← wAll_snoc wRep,← ctake_snoc HX.out] at KD
    clear KK
    have KK:=Kept.mk KD
    clear KD
    go_wp2_with fail
    refine KK.out.mono ?_
    rintro x w3 ⟨rfl,F2,he,fp⟩
    have BW2:=Kept.mk (BW.out.trans (fp.below AF.out (by have:=BW.out.size;have:=HB.out;omega)))
    have AF2:=Kept.mk (fp.least AF.out (by have:=BW.out.size;have:=HB.out;omega))
    replace AF:=AF2;replace BW:=BW2;replace FP:=Kept.mk (FP.out.trans fp);replace HE:=Kept.mk he
    clear he fp KK AF2 BW2 x0 x1
    go_wp2
    go_roundw
    case rel=>exact⟨k+1,F2,by omega,by go_num,HE,FP,AF,BW⟩
    case measure=>simp[Go.RowKit.intOf];omega
   ·have hkn':¬ (k:Int) < n:=by omega
    obtain rfl:k=n:=by omega
    have hh:l.take k=l:=by rw[← LN.out];exact List.take_length
    rw[hh] at HE
    have YES:Kept P:=⟨by rw[← HP.out];exact hm⟩
    go_wp2
    go_ret
    exact⟨true,F',rfl,FP.out,⟨fun _=>YES.out,fun _=>rfl⟩,fun _=>HE.out⟩
 ·have hm':¬ (n:Int)≤64:=by omega
  have NO:Kept (¬ P):=⟨fun h=>by rw[← HP.out] at h;exact hm h⟩
  clear hm
  have hm2:(64:Int) < n:=by omega
  clear h LE
  go_enter Tryz.func115,Tryz.ntmps115
  go_wp2
  go_ret
  exact⟨false,F,rfl,Fp.refl _ _,⟨fun h=>(by cases h),fun h=>(NO.out h).elim⟩,fun h=>(by cases h)⟩
set_option maxRecDepth 100000 in
set_option maxHeartbeats 2000000 in
theorem putallv_any {w:World}{F:List Nat}{e B:Nat}{st:St}{A:Option Addr}{n c:Nat}{l:List VV}(h:En 233 w F e st) (hl:st.2.length≤800000000) (hB:B≤w.heap.size) (hF:∀ f∈F,B≤f) (hR:∀ w',Below B w w'→Rv w' A n l) (hok:∀ r∈l,r.ok) :
  Calls Tryz.prog 117 #[.pointer (some ⟨e,0,none⟩),.slice A n c,.int .i64 2,.int .i64 400,.func (.func 118) #[] #[]] w (CPutPost 233 F e (wAll wEv (encNum st n 2) l) (n≤400∧∀ r∈l,HoldV r) w):=by
 have LN:=Kept.mk (hR w (Below.refl _ _)).1
 have RN:=Kept.mk hR
 have HO:=Kept.mk hok
 have LE:=encNum_len st n 2
 generalize hP:(n≤400∧∀ r∈l,HoldV r)=P
 have HP:=Kept.mk hP
 clear hP
 by_cases hm:n≤400
 ·have hm':(n:Int)≤400:=by omega
  have KC:=num_any w F e (n:Int) 2 st h (by omega)
  obtain⟨s1,hst⟩:∃ s1,encNum st (n:Int) 2=s1:=⟨_,rfl⟩
  rw[hst] at KC LE ⊢
  have HB:=Kept.mk hB;have HF:=Kept.mk hF
  clear hst h hR hB hF hok
  go_enter Tryz.func117,Tryz.ntmps117
  go_wp2_with fail
  refine KC.mono ?_
  rintro x w1 ⟨rfl,F1,he,fp⟩
  have BW:Kept (Below B w w1):=⟨fp.below HF.out HB.out⟩
  have AF:Kept (∀ f∈F1,B≤f):=⟨fp.least HF.out HB.out⟩
  have FP:=Kept.mk fp
  have LS:Kept (∀ k,k≤n→(∀ r∈l.take k,HoldV r)→(wAll wEv s1 (l.take k)).2.length≤900000000):=⟨fun k hk hh=>by
   have:=wAll_len (f:=wEv) (m:=54) (l:=l.take k) (st:=s1) (fun st x hx=>wEv_len (hh x hx))
   rw[List.length_take] at this
   have h2:min k l.length≤400:=by omega
   have h3:54 * min k l.length≤54 * 400:=Nat.mul_le_mul_left _ h2
   omega⟩
  have HE:Kept (En 233 w1 F1 e (wAll wEv s1 (l.take 0))):=⟨by simpa [wAll] using he⟩
  have HH:Kept (∀ r∈l.take 0,HoldV r):=⟨by simp⟩
  clear he fp KC LE hl
  go_wp2
  go_loopw [24] (fun i wr=>∃ (k:Nat) (F':List Nat),k≤n∧i=.int .i64 k∧Kept (En 233 wr F' e (wAll wEv s1 (l.take k)))∧Kept (Fp F F' w wr)∧Kept (∀ f∈F',B≤f)∧Kept (Below B w wr)∧Kept (∀ r∈l.take k,HoldV r)) (fun i _=>n - (Go.RowKit.intOf i).toNat)
  case atStart=>exact⟨0,F1,by omega,rfl,HE,FP,AF,BW,HH⟩
  case round =>
   clear HE FP AF BW HH
   obtain⟨k,F',hk,rfl,HE,FP,AF,BW,HH⟩:=hrel
   by_cases hkn:k < n
   ·have hkn':(k:Int) < n:=by omega
    obtain⟨b,o,r,rfl,hx,hcell⟩:=(RN.out _ BW.out).at_ hkn
    have hrm:=List.mem_of_getElem? hx
    have HX:=Kept.mk hx
    have LK:=LS.out k hk HH.out
    obtain⟨M,hM⟩:∃ M,wr.heap.size=M:=⟨_,rfl⟩
    obtain⟨kind,src,dst,asset,amount,id,due,hash,sec⟩:=r
    have y0:=hcell 0 _ rfl;have y1:=hcell 1 _ rfl;have y2:=hcell 2 _ rfl;have y3:=hcell 3 _ rfl;have y4:=hcell 4 _ rfl;have y5:=hcell 5 _ rfl;have y6:=hcell 6 _ rfl;have y7:=hcell 7 _ rfl;have y8:=hcell 8 _ rfl
    rw[Nat.add_zero] at y0
    dsimp only at y0 y1 y2 y3 y4 y5 y6 y7 y8
    have bz:Below M wr (wr.alloc (.cells #[.int .i64 kind,.int .i64 src,.int .i64 dst,.int .i64 asset,.int .i64 amount,.int .i64 id,.int .i64 due,.string (strOfNums hash),.string (strOfNums sec)] 150)):=(Below.refl _ _).alloc (by omega) _
    have XB:Kept (Blk (wr.alloc (.cells #[.int .i64 kind,.int .i64 src,.int .i64 dst,.int .i64 asset,.int .i64 amount,.int .i64 id,.int .i64 due,.string (strOfNums hash),.string (strOfNums sec)] 150)) M 150 #[.int .i64 kind,.int .i64 src,.int .i64 dst,.int .i64 asset,.int .i64 amount,.int .i64 id,.int .i64 due,.string (strOfNums hash),.string (strOfNums sec)]):=⟨Blk.new_at wr _ _ M hM.symm⟩
    have hE2:=HE.out.keep (barOf (hM▸bz) []) (fun _ _=>by simp)
    have hFP:Fp F' F' wr (wr.alloc (.cells #[.int .i64 kind,.int .i64 src,.int .i64 dst,.int .i64 asset,.int .i64 amount,.int .i64 id,.int .i64 due,.string (strOfNums hash),.string (strOfNums sec)] 150)):=⟨barOf (hM▸bz) F',fun _ hk=>.inl hk⟩
    have hBW:=hFP.below AF.out (by have:=BW.out.size;have:=HB.out;omega)
    have KC:=cputv_any (r:=⟨kind,src,dst,asset,amount,id,due,hash,sec⟩) hE2 (HO.out _ hrm) LK
    unfold vqv at KC
    dsimp only at KC
    replace HE:=Kept.mk hE2;replace FP:=Kept.mk (FP.out.trans hFP);replace BW:=Kept.mk (BW.out.trans hBW)
    have KK:=Kept.mk KC
    clear KC hE2 hFP hBW bz LK hx hcell hrm
    go_upto_region 7 with(fail)
    generalize wr.alloc (.cells #[.int .i64 kind,.int .i64 src,.int .i64 dst,.int .i64 asset,.int .i64 amount,.int .i64 id,.int .i64 due,.string (strOfNums hash),.string (strOfNums sec)] 150)=w2 at *
    clear y0 y1 y2 y3 y4 y5 y6 y7 y8
    have x0:=XB.out.cell 0;have x1:=XB.out.cell 1;have x2:=XB.out.cell 2;have x3:=XB.out.cell 3;have x4:=XB.out.cell 4;have x5:=XB.out.cell 5;have x6:=XB.out.cell 6;have x7:=XB.out.cell 7;have x8:=XB.out.cell 8
    have HQ:Kept (l.take (k+1)=l.take k++[⟨kind,src,dst,asset,amount,id,due,hash,sec⟩]):=⟨ctake_snoc HX.out⟩
    have HM:Kept (⟨kind,src,dst,asset,amount,id,due,hash,sec⟩∈l):=⟨List.mem_of_getElem? HX.out⟩
    have HS:Kept (HoldV ⟨kind,src,dst,asset,amount,id,due,hash,sec⟩→∀ r∈l.take (k+1),HoldV r):=⟨fun h=>call_snoc HX.out HH.out h⟩
    by_cases hh:HoldV ⟨kind,src,dst,asset,amount,id,due,hash,sec⟩
    ·have KD:=KK.out
     rw[if_pos hh,decide_eq_true hh] at KD
     replace HH:=Kept.mk (HS.out hh)
     rw[← wAll_snoc wEv,← HQ.out] at KD
     clear KK HS HM hh
     have KK:=Kept.mk KD
     clear KD
     go_wp2_with fail
     refine KK.out.mono ?_
     rintro x w3 ⟨rfl,F2,he,fp⟩
     have BW2:=Kept.mk (BW.out.trans (fp.below AF.out (by have:=BW.out.size;have:=HB.out;omega)))
     have AF2:=Kept.mk (fp.least AF.out (by have:=BW.out.size;have:=HB.out;omega))
     replace AF:=AF2;replace BW:=BW2;replace FP:=Kept.mk (FP.out.trans fp);replace HE:=Kept.mk he
     clear he fp KK AF2 BW2 x0 x1 x2 x3 x4 x5 x6 x7 x8
     go_wp2
     go_roundw
     case rel=>exact⟨k+1,F2,by omega,by go_num,HE,FP,AF,BW,HH⟩
     case measure=>simp[Go.RowKit.intOf];omega
    ·have KD:=KK.out
     rw[if_neg hh,decide_eq_false hh] at KD
     have NO:Kept (¬ P):=⟨fun h=>by rw[← HP.out] at h;exact hh (h.2 _ HM.out)⟩
     have KK2:=Kept.mk KD
     clear KD KK HS HM hh
     go_wp2_with fail
     refine KK2.out.mono ?_
     rintro x w3 ⟨rfl,F2,he,fp⟩
     replace FP:=Kept.mk (FP.out.trans fp)
     clear he fp KK2 x0 x1 x2 x3 x4 x5 x6 x7 x8
     go_wp2
     go_ret
     exact⟨false,F2,rfl,FP.out,⟨fun h=>(by cases h),fun h=>(NO.out h).elim⟩,fun h=>(by cases h)⟩
   ·have hkn':¬ (k:Int) < n:=by omega
    obtain rfl:k=n:=by omega
    have hh:l.take k=l:=by rw[← LN.out];exact List.take_length
    rw[hh] at HE HH
    have YES:Kept P:=⟨by rw[← HP.out];exact⟨hm,HH.out⟩⟩
    go_wp2
    go_ret
    exact⟨true,F',rfl,FP.out,⟨fun _=>YES.out,fun _=>rfl⟩,fun _=>HE.out⟩
 ·have hm':¬ (n:Int)≤400:=by omega
  have NO:Kept (¬ P):=⟨fun h=>by rw[← HP.out] at h;exact hm h.1⟩
  clear hm
  have hm2:(400:Int) < n:=by omega
  clear h LE
  go_enter Tryz.func117,Tryz.ntmps117
  go_wp2
  go_ret
  exact⟨false,F,rfl,Fp.refl _ _,⟨fun h=>(by cases h),fun h=>(NO.out h).elim⟩,fun h=>(by cases h)⟩
set_option maxRecDepth 100000 in
set_option maxHeartbeats 2000000 in
theorem cencb_any (seen:Int) {A:Option Addr}{n c:Nat}{l:List RV}{w:World}(hr:Rr w A n l) (hok:∀ r∈l,r.ok):Calls Tryz.prog 234 #[.agg #[.int .i64 seen,.slice A n c]] w (EncPost (encB ⟨seen,l⟩) w):=by
 have LN:=Kept.mk hr.1
 have hb0:=encB_bytes (x:=⟨seen,l⟩) hok
 have hl0:=encB_len ⟨seen,l⟩
 have EC:Kept (n≤64∧(∀ r∈l,HoldR r)→wAll wReq (encNum (encNum (0,[]) seen 2) n 1) l=encB ⟨seen,l⟩):=⟨fun h=>by
  rw[← hr.1] at h ⊢;exact encB_code h.1 h.2⟩
 have EN:Kept (¬ (n≤64∧∀ r∈l,HoldR r)→encB ⟨seen,l⟩=(1,[])):=⟨fun h=>encB_no (fun k=>h ⟨by rw[← hr.1];exact k.2.1,fun r hm=>(mayR_iff.1 (k.2.2 r hm)).1⟩)⟩
 generalize encB ⟨seen,l⟩=R at *
 have HB:=Kept.mk hb0
 have HO:=Kept.mk hok
 obtain⟨N,hN⟩:∃ N,w.heap.size=N:=⟨_,rfl⟩
 have B0:Below N w (w.alloc (.cells #[.int .i64 seen,.slice A n c] 75)):=(Below.refl _ _).alloc (by omega) _
 have X:Kept (Blk (w.alloc (.cells #[.int .i64 seen,.slice A n c] 75)) N 75 #[.int .i64 seen,.slice A n c]):=⟨Blk.new_at w _ _ N hN.symm⟩
 have HR:=Kept.mk (hr.below (hN▸B0))
 have B:=Kept.mk B0
 have HN:=Kept.mk hN
 clear B0 hr hok hb0
 go_enter Tryz.func234,Tryz.ntmps234
 go_upto_region 1 with(fail)
 generalize w.alloc (.cells #[.int .i64 seen,.slice A n c] 75)=w1 at *
 have KN:=newenc_any w1
 obtain⟨M,hM⟩:∃ M,w1.heap.size=M:=⟨_,rfl⟩
 have hNM:N < M:=by rw[← hM];exact X.out.lt
 have HX:Kept (∀ w',Below M w1 w'→Blk w' N 75 #[.int .i64 seen,.slice A n c]):=⟨fun w' b=>X.out.below b hNM⟩
 have RX:Kept (∀ w',Below M w1 w'→Rr w' A n l):=⟨fun w' b=>HR.out.below (hM▸b)⟩
 rw[hM] at KN
 go_wp2_with fail
 refine KN.mono ?_
 rintro x w2 ⟨rfl,he,fp⟩
 have BW:=Kept.mk (fp.below (B:=M) (by simp) (by omega))
 have KC:=num_any w2 [M] M seen 2 (0,[]) he (by simp)
 have LE:=encNum_len (0,[]) seen 2
 obtain⟨s1,hs1⟩:∃ s,encNum (0,[]) seen 2=s:=⟨_,rfl⟩
 rw[hs1] at KC LE EC
 clear hs1 he fp KN X HR
 have x0:=(HX.out _ BW.out).cell 0
 go_wp2_with fail
 refine KC.mono ?_
 rintro x w3 ⟨rfl,F3,he,fp⟩
 have AF:=fp.least (B:=M) (by simp) (by have:=BW.out.size;omega)
 replace BW:=Kept.mk (BW.out.trans (fp.below (B:=M) (by simp) (by have:=BW.out.size;omega)))
 have KP:=putallr_any (B:=M) (c:=c) he (by have h0:([]:List Int).length=0:=rfl;simp only[h0] at LE;omega) (by have:=BW.out.size;omega) AF (fun w' b=>RX.out w' (BW.out.trans b)) HO.out
 have KP2:=Kept.mk KP
 unfold CPutPost at KP2
 have AF2:=Kept.mk AF
 clear he fp KC x0 KP AF LE
 have x1:=(HX.out _ BW.out).cell 1
 go_wp2_with fail
 refine KP2.out.mono ?_
 rintro x w4 ⟨q,F4,rfl,fp,hq,he⟩
 replace BW:=Kept.mk (BW.out.trans (fp.below AF2.out (by have:=BW.out.size;omega)))
 have BE:Kept (Below N w w4):=⟨B.out.trans (BW.out.mono (by omega))⟩
 clear fp KP2 x1
 cases q with
 | true =>
  have he2:=he rfl
  rw[EC.out (hq.1 rfl)] at he2
  have KD:=done_any w4 F4 M R he2 HB.out (by omega)
  obtain⟨R1,R2⟩:=R
  clear he he2 hq
  go_wp2_with fail
  refine KD.mono ?_
  rintro x w5 ⟨v,rfl,own,b5⟩
  obtain⟨A5,c5,rfl,h1,h2,r5⟩:=own_rd own HB.out
  have R5:=Kept.mk r5
  replace BE:=Kept.mk (BE.out.trans (b5.mono (by have:=BE.out.size;omega)))
  clear KD own b5 r5
  go_wp2
  go_ret2
  exact⟨A5,_,c5,rfl,h1,h2,R5.out,by rw[HN.out];exact BE.out⟩
 | false =>
  obtain rfl:=EN.out (fun h=>by have:=hq.2 h;cases this)
  clear he hq
  go_wp2
  go_ret2
  exact⟨none,0,0,rfl,Nat.le_refl _,by omega,Rd.nil_,by rw[HN.out];exact BE.out⟩
end Go.Proofs.YtidjkhpekhpffaaGreat.Req
namespace Go.Proofs.YtidjkhpekhpffaaGreat.Req
open Go.Proofs.YtidjkhpekhpffaaGreat.Sha Go.Proofs.YtidjkhpekhpffaaGreat.Wire
def iter {α:Type} (g:St→α × St):Nat→St→List α × St
 | 0,st=>([],st)
 | k+1,st=>((iter g k st).1++[(g (iter g k st).2).1],(g (iter g k st).2).2)
theorem iter_len {α:Type}(g:St→α × St) (k:Nat) (st:St):(iter g k st).1.length=k:=by
 induction k with
 | zero=>rfl
 | succ k ih=>simp[iter,ih]
def cText (st:St):List Int × St:=iter (fun s=>decNum s 1) 32 st
def cMove (st:St):(Int × Int × Int) × St :=
 (((decNum st 1).1,(decNum (decNum st 1).2 1).1,(decNum (decNum (decNum st 1).2 1).2 8).1),(decNum (decNum (decNum st 1).2 1).2 8).2)
structure Way {α:Type} (g:St→α × St) (p:α→List Int) (hold may:α→Prop):Prop where
 rest:∀ st,Bytes st.2→Bytes (g st).2.2
 one:∀ st,Bytes st.2→(g st).2.1=0→hold (g st).1→st.1=0∧st.2=p (g st).1++(g st).2.2∧may (g st).1
 back:∀ x t,may x→Bytes (p x++t)→g (0,p x++t)=(x,(0,t))
theorem bytes_of_append {a b:List Int}(h:Bytes (a++b)):Bytes a∧Bytes b :=
 ⟨fun x hx=>h x (List.mem_append_left _ hx),fun x hx=>h x (List.mem_append_right _ hx)⟩
theorem Way.iter {α:Type}{g:St→α × St}{p:α→List Int}{hold may:α→Prop}(W:Way g p hold may) (k:Nat) (st:St) (hb:Bytes st.2) :
  Bytes (Req.iter g k st).2.2∧((Req.iter g k st).2.1=0→(∀ x∈(Req.iter g k st).1,hold x)→st.1=0∧st.2=(Req.iter g k st).1.flatMap p++(Req.iter g k st).2.2∧∀ x∈(Req.iter g k st).1,may x):=by
 induction k with
 | zero=>exact⟨hb,fun h _=>⟨h,by simp[Req.iter],by simp[Req.iter]⟩⟩
 | succ k ih =>
  obtain⟨h1,h2⟩:=ih
  refine⟨W.rest _ h1,fun he hh=>?_⟩
  simp only[Req.iter] at he hh ⊢
  obtain⟨k1,k2,k3⟩:=W.one _ h1 he (hh _ (by simp))
  obtain⟨j1,j2,j3⟩:=h2 k1 (fun x hx=>hh x (List.mem_append_left _ hx))
  refine⟨j1,?_,fun x hx=>?_⟩
  ·rw[List.flatMap_append,List.flatMap_singleton,List.append_assoc,← k2]
   exact j2
  ·rcases List.mem_append.1 hx with hx|hx
   ·exact j3 x hx
   ·rw[List.mem_singleton] at hx;subst hx;exact k3
theorem Way.iter_back {α:Type}{g:St→α × St}{p:α→List Int}{hold may:α→Prop}(W:Way g p hold may) (l:List α) (t:List Int) (hm:∀ x∈l,may x) (hb:Bytes (l.flatMap p++t)) :
  ∀ k,k≤l.length→Req.iter g k (0,l.flatMap p++t)=(l.take k,(0,(l.drop k).flatMap p++t)):=by
 intro k
 induction k with
 | zero=>intro _;simp[Req.iter]
 | succ k ih =>
  intro hk
  have h1:=ih (by omega)
  have hx:k < l.length:=by omega
  rw[Req.iter,h1]
  have hd:l.drop k=l[k] :: l.drop (k+1):=List.drop_eq_getElem_cons hx
  have hbk:Bytes ((l.drop k).flatMap p++t):=by
   have e:l.flatMap p++t=(l.take k).flatMap p++((l.drop k).flatMap p++t):=by
    rw[← List.append_assoc,← List.flatMap_append,List.take_append_drop]
   rw[e] at hb
   exact(bytes_of_append hb).2
  rw[hd,List.flatMap_cons,List.append_assoc] at hbk ⊢
  rw[W.back _ _ (hm _ (List.getElem_mem hx)) hbk,List.take_succ_eq_append_getElem hx]
theorem Way.whole {α:Type}{g:St→α × St}{p:α→List Int}{hold may:α→Prop}(W:Way g p hold may) (l:List α) (t:List Int) (hm:∀ x∈l,may x) (hb:Bytes (l.flatMap p++t)) :
  Req.iter g l.length (0,l.flatMap p++t)=(l,(0,t)):=by
 rw[W.iter_back l t hm hb _ (Nat.le_refl _)]
 simp
theorem dn_val {st:St}{s:Nat}(hb:Bytes st.2) (h:(decNum st s).2.1=0):st.1=0∧0≤(decNum st s).1∧(decNum st s).1≤4611686018427387904∧(decNum st s).1.toNat < 256 ^ s∧st.2=be (decNum st s).1.toNat s++(decNum st s).2.2:=by
 unfold decNum at h ⊢
 by_cases h0:st.1=0
 ·rw[if_pos h0] at h ⊢
  by_cases hs:1≤(s:Int)∧(s:Int)≤8
  ·rw[if_pos hs] at h ⊢
   simp only[Int.toNat_natCast] at h ⊢
   by_cases hv:s≤st.2.length∧val (st.2.take s)≤4611686018427387904
   ·rw[if_pos hv] at h ⊢
    have h1:=val_take_lt st.2 hb s hv.1
    have h2:=be_val (st.2.take s) (hb.take s)
    rw[List.length_take,Nat.min_eq_left hv.1] at h2
    refine⟨h0,by simp,by simpa using (show ((val (st.2.take s):Nat):Int)≤4611686018427387904 by omega),by simpa using h1,?_⟩
    simp only[Int.toNat_natCast,h2,List.take_append_drop]
   ·rw[if_neg hv] at h;simp at h
  ·rw[if_neg hs] at h;simp at h
 ·rw[if_neg h0] at h;exact absurd h h0
theorem dn1 {st:St}(hb:Bytes st.2) (h:(decNum st 1).2.1=0):st.1=0∧B8 (decNum st 1).1∧st.2=be (decNum st 1).1.toNat 1++(decNum st 1).2.2:=by
 obtain⟨h1,h2,h3,h4,h5⟩:=dn_val (s:=1) hb h
 exact⟨h1,⟨h2,by have:(decNum st 1).1.toNat < 256:=h4;omega⟩,h5⟩
theorem dn2 {st:St}(hb:Bytes st.2) (h:(decNum st 2).2.1=0):st.1=0∧I16 (decNum st 2).1∧st.2=be (decNum st 2).1.toNat 2++(decNum st 2).2.2:=by
 obtain⟨h1,h2,h3,h4,h5⟩:=dn_val (s:=2) hb h
 exact⟨h1,⟨h2,by have:(decNum st 2).1.toNat < 65536:=h4;omega⟩,h5⟩
theorem dn8 {st:St}(hb:Bytes st.2) (h:(decNum st 8).2.1=0):st.1=0∧Amt (decNum st 8).1∧st.2=be (decNum st 8).1.toNat 8++(decNum st 8).2.2:=by
 obtain⟨h1,h2,h3,h4,h5⟩:=dn_val (s:=8) hb h
 exact⟨h1,⟨h2,h3⟩,h5⟩
theorem b80:B8 0:=by decide
theorem i160:I16 0:=by decide
theorem amt0:Amt 0:=by decide
theorem byte_way:Way (fun s=>decNum s 1) (fun x:Int=>[x]) (fun _=>True) B8 where
 rest st hb:=decNum_bytes st 1 hb
 one st hb h _:=by
  obtain⟨h1,h2,h3⟩:=dn1 hb h
  refine⟨h1,?_,h2⟩
  rw[h3]
  congr 1
  simp only[be,Nat.pow_zero,Nat.div_one]
  congr 1
  have:=h2.1;have:=h2.2
  omega
 back x t h hb:=by
  have:=nb1 t h
  have e:be x.toNat 1=[x]:=by
   simp only[be,Nat.pow_zero,Nat.div_one]
   congr 1
   have:=h.1;have:=h.2
   omega
  rwa [e] at this
theorem flat_one (l:List Int):l.flatMap (fun x=>[x])=l:=by induction l<;>simp[*]
theorem cText_rest (st:St) (hb:Bytes st.2):Bytes (cText st).2.2:=(byte_way.iter 32 st hb).1
theorem cText_one {st:St}(hb:Bytes st.2) (h:(cText st).2.1=0):st.1=0∧st.2=(cText st).1++(cText st).2.2:=by
 obtain⟨h1,h2,h3⟩:=(byte_way.iter 32 st hb).2 h (fun _ _=>trivial)
 rw[flat_one] at h2
 exact⟨h1,h2⟩
theorem cText_back (b t:List Int) (hl:b.length=32) (hb:Bytes (b++t)):cText (0,b++t)=(b,(0,t)):=by
 have:=byte_way.whole b t (fun x hx=>(bytes_of_append hb).1 x hx) (by rw[flat_one];exact hb)
 rwa [flat_one,hl] at this
theorem iter_bytes1 (k:Nat) (st:St) (hb:Bytes st.2):Bytes (iter (fun s=>decNum s 1) k st).1:=by
 induction k with
 | zero=>intro x hx;simp[iter] at hx
 | succ k ih =>
  intro x hx
  rcases List.mem_append.1 hx with h|h
  ·exact ih x h
  ·rw[List.mem_singleton] at h
   subst h
   exact decNum_size0 _ ((byte_way.iter k st hb).1)
theorem cMove_rest (st:St) (hb:Bytes st.2):Bytes (cMove st).2.2:=decNum_bytes _ _ (decNum_bytes _ _ (decNum_bytes _ _ hb))
theorem cMove_one {st:St}(hb:Bytes st.2) (h:(cMove st).2.1=0):st.1=0∧B8 (cMove st).1.1∧B8 (cMove st).1.2.1∧Amt (cMove st).1.2.2∧st.2=be (cMove st).1.1.toNat 1++(be (cMove st).1.2.1.toNat 1++(be (cMove st).1.2.2.toNat 8++(cMove st).2.2)):=by
 unfold cMove at h ⊢
 dsimp only at h ⊢
 obtain⟨h1,h2,h3⟩:=dn8 (decNum_bytes _ _ (decNum_bytes _ _ hb)) h
 obtain⟨k1,k2,k3⟩:=dn1 (decNum_bytes _ _ hb) h1
 obtain⟨j1,j2,j3⟩:=dn1 hb k1
 refine⟨j1,j2,k2,h2,?_⟩
 rw[← h3,← k3,← j3]
theorem cMove_back {a b c:Int}(t:List Int) (ha:B8 a) (hb:B8 b) (hc:Amt c):cMove (0,be a.toNat 1++(be b.toNat 1++(be c.toNat 8++t)))=((a,b,c),(0,t)):=by
 unfold cMove
 simp only[nb1 _ ha,nb1 _ hb,nb8 _ hc]
def cReq (st:St):RV × St :=
 if (decNum st 1).1=1 then (⟨1,(cMove (decNum st 1).2).1.1,(cMove (decNum st 1).2).1.2.1,(cMove (decNum st 1).2).1.2.2,0,0,[],[]⟩,(cMove (decNum st 1).2).2)
 else if (decNum st 1).1=2 then (⟨2,(cMove (decNum st 1).2).1.1,(cMove (decNum st 1).2).1.2.1,(cMove (decNum st 1).2).1.2.2,0,(decNum (cText (cMove (decNum st 1).2).2).2 8).1,(cText (cMove (decNum st 1).2).2).1,[]⟩,(decNum (cText (cMove (decNum st 1).2).2).2 8).2)
 else if (decNum st 1).1=3 then (⟨3,0,0,0,(decNum (decNum st 1).2 2).1,0,[],(cText (decNum (decNum st 1).2 2).2).1⟩,(cText (decNum (decNum st 1).2 2).2).2)
 else if (decNum st 1).1=4 then (⟨4,0,0,0,(decNum (decNum st 1).2 2).1,0,[],[]⟩,(decNum (decNum st 1).2 2).2)
 else (⟨(decNum st 1).1,0,0,0,0,0,[],[]⟩,(decNum st 1).2)
theorem req_rest (st:St) (hb:Bytes st.2):Bytes (cReq st).2.2:=by
 have h0:=decNum_bytes st 1 hb
 unfold cReq
 split
 ·(try dsimp only);exact cMove_rest _ h0
 ·split
  ·(try dsimp only);exact decNum_bytes _ _ (cText_rest _ (cMove_rest _ h0))
  ·split
   ·(try dsimp only);exact cText_rest _ (decNum_bytes _ _ h0)
   ·split
    ·(try dsimp only);exact decNum_bytes _ _ h0
    ·(try dsimp only);exact h0
theorem req_one (st:St) (hb:Bytes st.2) (h:(cReq st).2.1=0) (hh:HoldR (cReq st).1):st.1=0∧st.2=putR (cReq st).1++(cReq st).2.2∧MayR (cReq st).1:=by
 have h0:=decNum_bytes st 1 hb
 rw[mayR_iff]
 unfold cReq at h hh ⊢
 by_cases e1:(decNum st 1).1=1
 ·simp only[if_pos e1] at h hh ⊢
  obtain⟨k1,k2,k3,k4,k5⟩:=cMove_one h0 h
  obtain⟨j1,j2,j3⟩:=dn1 hb k1
  refine⟨j1,?_,hh,k2,k3,k4,i160⟩
  rw[j3,e1,k5];simp[putR]
 ·by_cases e2:(decNum st 1).1=2
  ·simp only[if_neg e1,if_pos e2] at h hh ⊢
   obtain⟨a1,a2,a3⟩:=dn8 (cText_rest _ (cMove_rest _ h0)) h
   obtain⟨b1,b2⟩:=cText_one (cMove_rest _ h0) a1
   obtain⟨k1,k2,k3,k4,k5⟩:=cMove_one h0 b1
   obtain⟨j1,j2,j3⟩:=dn1 hb k1
   refine⟨j1,?_,hh,k2,k3,k4,i160⟩
   rw[j3,e2,k5,b2,a3];simp[putR]
  ·by_cases e3:(decNum st 1).1=3
   ·simp only[if_neg e1,if_neg e2,if_pos e3] at h hh ⊢
    obtain⟨b1,b2⟩:=cText_one (decNum_bytes _ _ h0) h
    obtain⟨k1,k2,k3⟩:=dn2 h0 b1
    obtain⟨j1,j2,j3⟩:=dn1 hb k1
    refine⟨j1,?_,hh,b80,b80,amt0,k2⟩
    rw[j3,e3,k3,b2];simp[putR]
   ·by_cases e4:(decNum st 1).1=4
    ·simp only[if_neg e1,if_neg e2,if_neg e3,if_pos e4] at h hh ⊢
     obtain⟨k1,k2,k3⟩:=dn2 h0 h
     obtain⟨j1,j2,j3⟩:=dn1 hb k1
     refine⟨j1,?_,hh,b80,b80,amt0,k2⟩
     rw[j3,e4,k3];simp[putR]
    ·simp only[if_neg e1,if_neg e2,if_neg e3,if_neg e4] at hh
     rcases hh with hh|hh|hh|hh
     ·exact absurd hh.1 e1
     ·exact absurd hh.1 e2
     ·exact absurd hh.1 e3
     ·exact absurd hh.1 e4
theorem req_back (r:RV) (t:List Int) (h:MayR r) (hb:Bytes (putR r++t)):cReq (0,putR r++t)=(r,(0,t)):=by
 obtain⟨kind,dst,asset,amount,id,due,hash,sec⟩:=r
 have hk:B8 kind:=by rcases h with h|h|h|h<;>have:=h.1<;>exact⟨by dsimp only at this;omega,by dsimp only at this;omega⟩
 have ha:∀ u,decNum (0,be kind.toNat 1++u) 1=(kind,(0,u)):=fun u=>nb1 u hk
 unfold putR at hb ⊢
 unfold cReq
 simp only[List.append_assoc,ha]
 rcases h with⟨h1,h2,h3,h4,h5,h6,h7,h8⟩|⟨h1,h2,h3,h4,h5,h6,h7,h8⟩|⟨h1,h2,h3,h4,h5,h6,h7,h8⟩|⟨h1,h2,h3,h4,h5,h6,h7,h8⟩<;>dsimp only at h1 h2 h3 h4 h5 h6 h7 h8
 ·subst h1 h5 h6 h7 h8
  simp[List.append_assoc,cMove_back _ h2 h3 h4]
 ·subst h1 h5 h8
  have hb2:Bytes (hash++(be due.toNat 8++t)):=by
   simp only[List.append_assoc] at hb
   replace hb:=(bytes_of_append hb).2
   simp only[or_true,if_true] at hb
   replace hb:=(bytes_of_append hb).2
   simpa using hb
  simp[List.append_assoc,cMove_back _ h2 h3 h4,cText_back hash _ h7 hb2,nb8 _ h6.amt]
 ·subst h1 h2 h3 h4 h6 h7
  have hb2:Bytes (sec++t):=by
   simp only[List.append_assoc] at hb
   replace hb:=(bytes_of_append hb).2
   simp at hb
   exact(bytes_of_append hb).2
  simp[nb2 _ h5,cText_back sec _ h8 hb2]
 ·subst h1 h2 h3 h4 h6 h7 h8
  simp[nb2 _ h5]
theorem req_way:Way cReq putR HoldR MayR:=⟨req_rest,req_one,req_back⟩
def DecBC (b:List Int):Prop :=
 (decNum (decNum (0,b) 2).2 1).1≤64∧(∀ r∈(iter cReq (decNum (decNum (0,b) 2).2 1).1.toNat (decNum (decNum (0,b) 2).2 1).2).1,HoldR r)∧endOf (iter cReq (decNum (decNum (0,b) 2).2 1).1.toNat (decNum (decNum (0,b) 2).2 1).2).2=0
theorem endOf_zero {st:St}(h:endOf st=0):st.1=0∧st.2=[]:=by
 unfold endOf at h
 split at h
 ·rename_i h0
  refine⟨h0,?_⟩
  split at h
  ·rename_i h1;exact List.length_eq_zero_iff.1 h1
  ·omega
 ·rename_i h0;exact absurd h h0
theorem decB_yes {b:List Int}(hb:Bytes b) (h:DecBC b):DecB b 0 ⟨(decNum (0,b) 2).1,(iter cReq (decNum (decNum (0,b) 2).2 1).1.toNat (decNum (decNum (0,b) 2).2 1).2).1⟩:=by
 obtain⟨h1,h2,h3⟩:=h
 have k0:=decNum_bytes (0,b) 2 hb
 have k1:=decNum_bytes _ 1 k0
 obtain⟨e1,e2⟩:=endOf_zero h3
 obtain⟨i1,i2,i3⟩:=(req_way.iter _ _ k1).2 e1 h2
 have il:=iter_len cReq (decNum (decNum (0,b) 2).2 1).1.toNat (decNum (decNum (0,b) 2).2 1).2
 obtain⟨n1,n2,n3⟩:=dn1 k0 i1
 obtain⟨s1,s2,s3⟩:=dn2 hb n1
 generalize (iter cReq (decNum (decNum (0,b) 2).2 1).1.toNat (decNum (decNum (0,b) 2).2 1).2)=it at *
 generalize decNum (decNum (0,b) 2).2 1=n at *
 generalize decNum (0,b) 2=s at *
 refine .inl ⟨rfl,?_⟩
 have hn:=n2.1
 rw[encB_yes (x:=⟨s.1,it.1⟩) ⟨s2,by dsimp only;omega,i3⟩]
 unfold bytesB
 dsimp only at s3 ⊢
 rw[s3,n3,i2,e2,il,List.append_nil]
theorem decB_no {b:List Int}(hb:Bytes b) (h:¬ DecBC b):DecB b 2 ⟨0,[]⟩:=by
 refine .inr ⟨rfl,rfl,fun y hy=>h ?_⟩
 obtain⟨k,e⟩:=encB_inv hy
 obtain⟨seen,l⟩:=y
 obtain⟨k1,k2,k3⟩:=k
 dsimp only at k1 k2 k3
 have e1:=nb2 (be l.length 1++l.flatMap putR) k1
 have e2:=nb1 (n:=l.length) (l.flatMap putR) ⟨by omega,by omega⟩
 rw[Int.toNat_natCast] at e2
 have hb2:Bytes (l.flatMap putR++[]):=by
  rw[e,bytesB] at hb
  simpa using (bytes_of_append (bytes_of_append hb).2).2
 have e3:=req_way.whole l [] k3 hb2
 rw[List.append_nil] at e3
 unfold DecBC
 rw[e,bytesB]
 simp only[e1,e2,Int.toNat_natCast,e3]
 exact⟨by omega,fun r hr=>(mayR_iff.1 (k3 r hr)).1,rfl⟩
end Go.Proofs.YtidjkhpekhpffaaGreat.Req
namespace Go.Proofs.YtidjkhpekhpffaaGreat.Ledger
open Go.Proofs.YtidjkhpekhpffaaGreat.Num Go.Proofs.YtidjkhpekhpffaaGreat.Sha Go.Proofs.YtidjkhpekhpffaaGreat.Purse Go.Proofs.YtidjkhpekhpffaaGreat.Escrow Go.Proofs.YtidjkhpekhpffaaGreat.Wire Go.Proofs.YtidjkhpekhpffaaGreat.Req
def hdr:List Int:=[0,0,0,0,0,0,0,0,0,0,0,0,1]
theorem hdr_is:be 0 8++(be 0 2++(be 0 1++be 1 2))=hdr:=by decide
theorem hdr_app (l:List Int):hdr++l=be 0 8++(be 0 2++(be 0 1++(be 1 2++l))):=by
 rw[← hdr_is];simp only[List.append_assoc]
theorem bytesA_one (v:VV):bytesA ⟨0,0,[],[v]⟩=hdr++putV v:=by
 rw[hdr_app]
 show be 0 8++(be 0 2++(be 0 1++([]++(be 1 2++([v]:List VV).flatMap putV))))=_
 rw[List.nil_append,List.flatMap_singleton]
theorem okA_one {v:VV}(h:MayV v):OkA ⟨0,0,[],[v]⟩ :=
 ⟨(by decide:Tck 0),(by decide:I16 0),(by decide:(0:Nat)≤64),(by decide:(1:Nat)≤400),(by intro p hp;cases hp),by intro u hu;rw[List.mem_singleton] at hu;exact hu▸h⟩
theorem encA_one {v:VV}(h:MayV v):encA ⟨0,0,[],[v]⟩=(0,hdr++putV v):=by rw[encA_yes (okA_one h),bytesA_one]
def bhL (k:Int):Nat:=if k=1 then 11 else if k=2 then 53 else if k=3 then 34 else if k=4 then 2 else 0
theorem putV_cons {v:VV}(h:MayV v):∃ l,putV v=be v.kind.toNat 1++l∧l.length=bhL v.kind∧B8 v.kind:=by
 refine⟨_,rfl,?_,?_⟩
 ·rcases h with⟨h1,h2,h3,h4,h5,h6,h7,h8,h9⟩|⟨h1,h2,h3,h4,h5,h6,h7,h8,h9⟩|⟨h1,h2,h3,h4,h5,h6,h7,h8,h9⟩|⟨h1,h2,h3,h4,h5,h6,h7,h8,h9⟩<;>simp[h1,h8,h9,bhL,be_len]
 ·rcases h with⟨h1,-⟩|⟨h1,-⟩|⟨h1,-⟩|⟨h1,-⟩<;>rw[h1]<;>decide
theorem b8_be {n:Int}(h:B8 n):be n.toNat 1=[n]:=by
 obtain⟨k,rfl⟩:∃ k:Nat,n=k:=⟨n.toNat,by have:=h.1;omega⟩
 have:=h.2
 simp only[be,Int.toNat_natCast,Nat.pow_zero,Nat.div_one]
 rw[Nat.mod_eq_of_lt (by omega)]
def Gone (s0:LS) (b:List Int) (k:Nat) (s:LS) (st:St):Prop:=∀ s',Reach s0 s'→saveL s'=b→k≤s'.e.length∧s=preE s0 (s'.e.take k)∧st=(0,(s'.e.drop k).flatMap putLE)
def cl0 (b:List Int):Int × St:=decNum (0,b) 8
def n0 (b:List Int):Int × St:=decNum (cl0 b).2 2
end Go.Proofs.YtidjkhpekhpffaaGreat.Ledger
namespace Go.Proofs.YtidjkhpekhpffaaGreat.Req
open Go.RowKit Go.Proofs.YtidjkhpekhpffaaGreat.Sha Go.Proofs.YtidjkhpekhpffaaGreat.Wire Go.Proofs.YtidjkhpekhpffaaGreat.Num
def EncNPost (r:Int × List Int) (w:World) (x:Ending) (w':World):Prop:=∃ A n c,x=.returned (.tuple #[.slice A n c,.int .i64 r.1])∧n≤c∧c≤9223372036854775807∧Rd w' A n r.2∧Below w.heap.size w w'∧∀ b o,A=some ⟨b,o,none⟩→w.heap.size≤b
set_option maxRecDepth 100000 in
set_option maxHeartbeats 3000000 in
theorem cencan_any (clock seen:Int) {A:Option Addr}{n c:Nat}{l:List PV}{D:Option Addr}{m d:Nat}{v:List VV}{w:World}(hr:Rp w A n l) (hv:Rv w D m v) (hok:∀ r∈v,r.ok):Calls Tryz.prog 60 #[.agg #[.int .i64 clock,.int .i64 seen,.slice A n c,.slice D m d]] w (EncNPost (encA ⟨clock,seen,l,v⟩) w):=by
 have hb0:=encA_bytes (x:=⟨clock,seen,l,v⟩) hok
 have hl0:=encA_len ⟨clock,seen,l,v⟩
 have EC:Kept (Tck clock→n≤64→(m≤400∧∀ r∈v,HoldV r)→wAll wEv (encNum (wAll wRep (encNum (encNum (encNum (0,[]) clock 8) seen 2) n 1) l) m 2) v=encA ⟨clock,seen,l,v⟩):=⟨fun hc h k=>by
  rw[← hr.1] at h ⊢;rw[← hv.1] at k ⊢;exact encA_code hc h k.1 k.2⟩
 have E0:Kept (¬ Tck clock→encA ⟨clock,seen,l,v⟩=(1,[])):=⟨fun h=>encA_no (fun k=>h k.1)⟩
 have E1:Kept (¬ n≤64→encA ⟨clock,seen,l,v⟩=(1,[])):=⟨fun h=>encA_no (fun k=>h (by rw[← hr.1];exact k.2.2.1))⟩
 have E2:Kept (¬ (m≤400∧∀ r∈v,HoldV r)→encA ⟨clock,seen,l,v⟩=(1,[])):=⟨fun h=>encA_no (fun k=>h ⟨by rw[← hv.1];exact k.2.2.2.1,fun r hm=>(mayV_iff.1 (k.2.2.2.2.2 r hm)).1⟩)⟩
 generalize encA ⟨clock,seen,l,v⟩=R at *
 have HB:=Kept.mk hb0
 have HO:=Kept.mk hok
 have HL:=Kept.mk hr.1
 have KT:=Kept.mk (fun w=>tick_any clock w)
 rw[ctick_iff] at KT
 obtain⟨N,hN⟩:∃ N,w.heap.size=N:=⟨_,rfl⟩
 have B0:Below N w (w.alloc (.cells #[.int .i64 clock,.int .i64 seen,.slice A n c,.slice D m d] 81)):=(Below.refl _ _).alloc (by omega) _
 have X:Kept (Blk (w.alloc (.cells #[.int .i64 clock,.int .i64 seen,.slice A n c,.slice D m d] 81)) N 81 #[.int .i64 clock,.int .i64 seen,.slice A n c,.slice D m d]):=⟨Blk.new_at w _ _ N hN.symm⟩
 have HR:=Kept.mk (hr.below (hN▸B0));have HV:=Kept.mk (hv.below (hN▸B0))
 have B:=Kept.mk B0
 have HN:=Kept.mk hN
 clear B0 hr hv hok hb0
 go_enter Tryz.func60,Tryz.ntmps60
 go_upto_region 1 with(fail)
 generalize w.alloc (.cells #[.int .i64 clock,.int .i64 seen,.slice A n c,.slice D m d] 81)=w1 at *
 by_cases hc:Tck clock
 ·rw[decide_eq_true hc] at KT
  have KN:=newenc_any w1
  obtain⟨M,hM⟩:∃ M,w1.heap.size=M:=⟨_,rfl⟩
  have hNM:N < M:=by rw[← hM];exact X.out.lt
  have HX:Kept (∀ w',Below M w1 w'→Blk w' N 81 #[.int .i64 clock,.int .i64 seen,.slice A n c,.slice D m d]):=⟨fun w' b=>X.out.below b hNM⟩
  have RX:Kept (∀ w',Below M w1 w'→Rp w' A n l):=⟨fun w' b=>HR.out.below (hM▸b)⟩
  have VX:Kept (∀ w',Below M w1 w'→Rv w' D m v):=⟨fun w' b=>HV.out.below (hM▸b)⟩
  have x0:=X.out.cell 0
  rw[hM] at KN
  have KN2:=Kept.mk KN
  clear KN
  go_wp2_with (go_at_call 114;refine(KT.out _).mono ?_;rintro x w' ⟨rfl,rfl⟩)
  refine KN2.out.mono ?_
  rintro x w2 ⟨rfl,he,fp⟩
  have BW:=Kept.mk (fp.below (B:=M) (by simp) (by omega))
  have KC:=num_any w2 [M] M clock 8 (0,[]) he (by simp)
  have LE:=encNum_len (0,[]) clock 8
  obtain⟨s1,hs1⟩:∃ s,encNum (0,[]) clock 8=s:=⟨_,rfl⟩
  rw[hs1] at KC LE EC
  clear hs1 he fp KN2 X HR HV x0
  have x0:=(HX.out _ BW.out).cell 0
  go_wp2_with fail
  refine KC.mono ?_
  rintro x w3 ⟨rfl,F3,he,fp⟩
  have AF:=fp.least (B:=M) (by simp) (by have:=BW.out.size;omega)
  replace BW:=Kept.mk (BW.out.trans (fp.below (B:=M) (by simp) (by have:=BW.out.size;omega)))
  have KC2:=num_any w3 F3 M seen 2 s1 he (by have h0:([]:List Int).length=0:=rfl;simp only[h0] at LE;omega)
  have LE2:=encNum_len s1 seen 2
  obtain⟨s2,hs2⟩:∃ s,encNum s1 seen 2=s:=⟨_,rfl⟩
  rw[hs2] at KC2 LE2 EC
  have LS:s2.2.length≤16:=by have h0:([]:List Int).length=0:=rfl;simp only[h0] at LE;omega
  have AF1:=Kept.mk AF
  clear hs2 he fp KC x0 AF LE LE2
  have x1:=(HX.out _ BW.out).cell 1
  go_wp2_with fail
  refine KC2.mono ?_
  rintro x w4 ⟨rfl,F4,he,fp⟩
  have AF:=fp.least AF1.out (by have:=BW.out.size;omega)
  replace BW:=Kept.mk (BW.out.trans (fp.below AF1.out (by have:=BW.out.size;omega)))
  have KP:=putallp_any (B:=M) (c:=c) he (by omega) (by have:=BW.out.size;omega) AF (fun w' b=>RX.out w' (BW.out.trans b))
  have KP2:=Kept.mk KP
  unfold CPutPost at KP2
  have AF2:=Kept.mk AF
  have LW:Kept (n≤64→(wAll wRep (encNum s2 n 1) l).2.length≤4000):=⟨fun h=>by
   have h1:=encNum_len s2 n 1
   have h2:=wAll_len (f:=wRep) (m:=54) (l:=l) (st:=encNum s2 n 1) (fun st x _=>wRep_len)
   have h3:=HL.out
   have h4:54 * l.length≤54 * 64:=Nat.mul_le_mul_left _ (by omega)
   omega⟩
  clear he fp KC2 x1 KP AF AF1
  have x2:=(HX.out _ BW.out).cell 2
  go_wp2_with fail
  refine KP2.out.mono ?_
  rintro x w5 ⟨q,F5,rfl,fp,hq,he⟩
  have AF:=fp.least AF2.out (by have:=BW.out.size;omega)
  replace BW:=Kept.mk (BW.out.trans (fp.below AF2.out (by have:=BW.out.size;omega)))
  clear fp KP2 x2 AF2
  cases q with
  | true =>
   have hn64:=hq.1 rfl
   have KP:=putallv_any (B:=M) (c:=d) (he rfl) (by have:=LW.out hn64;omega) (by have:=BW.out.size;omega) AF (fun w' b=>VX.out w' (BW.out.trans b)) HO.out
   have KP2:=Kept.mk KP
   unfold CPutPost at KP2
   have AF2:=Kept.mk AF
   have HQ:=Kept.mk hn64
   clear KP AF he hq hn64
   have x3:=(HX.out _ BW.out).cell 3
   go_wp2_with fail
   refine KP2.out.mono ?_
   rintro x w6 ⟨q,F6,rfl,fp,hq,he⟩
   replace BW:=Kept.mk (BW.out.trans (fp.below AF2.out (by have:=BW.out.size;omega)))
   have BE:Kept (Below N w w6):=⟨B.out.trans (BW.out.mono (by omega))⟩
   clear fp KP2 x3 AF2
   cases q with
   | true =>
    have he2:=he rfl
    rw[EC.out hc HQ.out (hq.1 rfl)] at he2
    have KD:=done_any w6 F6 M R he2 HB.out (by omega)
    obtain⟨R1,R2⟩:=R
    clear he he2 hq
    go_wp2_with fail
    refine KD.mono ?_
    rintro x w7 ⟨v7,rfl,own,b5⟩
    obtain⟨A5,c5,rfl,h1,h2,r5⟩:=own_rd own HB.out
    have R5:=Kept.mk r5
    have NW5:Kept (∀ b o,A5=some ⟨b,o,none⟩→N≤b):=⟨fun b o hh=>by subst hh;have h1:=BE.out.size;have h2:=HN.out;have h3:=(own.lt b rfl).1;omega⟩
    replace BE:=Kept.mk (BE.out.trans (b5.mono (by have:=BE.out.size;omega)))
    clear KD own b5 r5
    go_wp2
    go_ret2
    exact⟨A5,_,c5,rfl,h1,h2,R5.out,by rw[HN.out];exact BE.out,by rw[HN.out];exact NW5.out⟩
   | false =>
    obtain rfl:=E2.out (fun h=>by have:=hq.2 h;cases this)
    clear he hq
    go_wp2
    go_ret2
    exact⟨none,0,0,rfl,Nat.le_refl _,by omega,Rd.nil_,by rw[HN.out];exact BE.out,fun b o h=>by(cases h)⟩
  | false =>
   obtain rfl:=E1.out (fun h=>by have:=hq.2 h;cases this)
   have BE:Kept (Below N w w5):=⟨B.out.trans (BW.out.mono (by omega))⟩
   clear he hq AF
   go_wp2
   go_ret2
   exact⟨none,0,0,rfl,Nat.le_refl _,by omega,Rd.nil_,by rw[HN.out];exact BE.out,fun b o h=>by(cases h)⟩
 ·rw[decide_eq_false hc] at KT
  obtain rfl:=E0.out hc
  have x0:=X.out.cell 0
  go_wp2_with (go_at_call 114;refine(KT.out _).mono ?_;rintro x w' ⟨rfl,rfl⟩)
  go_ret2
  exact⟨none,0,0,rfl,Nat.le_refl _,by omega,Rd.nil_,by rw[HN.out];exact B.out,fun b o h=>by(cases h)⟩
end Go.Proofs.YtidjkhpekhpffaaGreat.Req
namespace Go.Proofs.YtidjkhpekhpffaaGreat.Req
open Go.RowKit Go.Proofs.YtidjkhpekhpffaaGreat.Sha Go.Proofs.YtidjkhpekhpffaaGreat.Wire
theorem make32 (w:World):∃ w',(Instr.makeSlice 44 (.int .i64 32) (.int .i64 32)).run Tryz.prog w=.ok (.slice (some ⟨w.heap.size,0,none⟩) 32 32) w'∧Blk w' w.heap.size 5 (arr .u8 (List.replicate 32 0))∧Below w.heap.size w w':=make_big w 32 (by omega)
theorem row_next (xs:List Int) (z:Int) (k:Nat) (hl:xs.length=k) (hk:k < 32):(xs++List.replicate (32 - k) 0).set k z=(xs++[z])++List.replicate (32 - (k+1)) 0:=by
 obtain⟨m,hm⟩:∃ m,32 - k=m+1:=⟨32 - (k+1),by omega⟩
 have h2:32 - (k+1)=m:=by omega
 rw[hm,h2,List.set_append_right _ _ (by omega),hl,Nat.sub_self,List.replicate_succ,List.set_cons_zero,List.append_assoc]
 rfl
theorem results_three {P:Program}{fn:Func}{a b c:Tmp}(h:fn.results=#[.tmp a,.tmp b,.tmp c]) (tmps:Array Value) (w:World):(results fn tmps).run P w=.ok (.tuple #[tmps.getD a undef,tmps.getD b undef,tmps.getD c undef]) w:=by
 simp[results,h]
set_option maxRecDepth 100000 in
set_option maxHeartbeats 1000000 in
theorem cgetmove_any {w:World}{d:Nat}{G:List Nat}{st:St}(h:De 243 w d G st) (hd:d∉G):Calls Tryz.prog 160 #[.pointer (some ⟨d,0,none⟩)] w fun x w'=>x=.returned (.tuple #[.int .i64 (cMove st).1.1,.int .i64 (cMove st).1.2.1,.int .i64 (cMove st).1.2.2])∧De 243 w' d G (cMove st).2∧Bar [d] w w':=by
 unfold cMove
 dsimp only
 have KC:=dnum_any w d G 1 st h hd
 obtain⟨a,ha⟩:∃ a,decNum st 1=a:=⟨_,rfl⟩
 rw[ha] at KC ⊢
 obtain⟨c,hc⟩:∃ c,decNum a.2 1=c:=⟨_,rfl⟩
 rw[hc]
 obtain⟨f,hf⟩:∃ f,decNum c.2 8=f:=⟨_,rfl⟩
 rw[hf]
 have HC:=Kept.mk hc;have HF:=Kept.mk hf
 clear h ha hc hf
 go_enter Tryz.func160,Tryz.ntmps160
 go_wp2_with fail
 refine KC.mono ?_
 rintro x w1 ⟨rfl,he,b⟩
 have B:=Kept.mk b
 have KC2:=dnum_any w1 d G 1 a.2 he hd
 rw[HC.out] at KC2
 clear he b KC
 go_wp2_with fail
 refine KC2.mono ?_
 rintro x w2 ⟨rfl,he,b⟩
 replace B:=Kept.mk (B.out.trans b (fun x hx=>.inl hx))
 have KC:=dnum_any w2 d G 8 c.2 he hd
 rw[HF.out] at KC
 clear he b KC2
 go_wp2_with fail
 refine KC.mono ?_
 rintro x w3 ⟨rfl,he,b⟩
 replace B:=Kept.mk (B.out.trans b (fun x hx=>.inl hx))
 have HE:=Kept.mk he
 clear he b KC
 go_wp2
 refine bodyPost_ret (results_three rfl _ _) rfl ?_
 exact⟨rfl,HE.out,B.out⟩
set_option maxRecDepth 100000 in
set_option maxHeartbeats 1000000 in
theorem cgettext_any {w:World}{d:Nat}{G:List Nat}{st:St}(h:De 243 w d G st) (hd:d∉G):Calls Tryz.prog 161 #[.pointer (some ⟨d,0,none⟩)] w fun x w'=>x=.returned (.string (strOfNums (cText st).1))∧De 243 w' d G (cText st).2∧Bar [d] w w':=by
 have hb:=h.bytes
 have HBY:Kept (∀ k,Bytes (iter (fun s=>decNum s 1) k st).1∧Bytes (iter (fun s=>decNum s 1) k st).2.2):=⟨fun k=>⟨iter_bytes1 k st hb,(byte_way.iter k st hb).1⟩⟩
 have HLE:Kept (∀ k,(iter (fun s=>decNum s 1) k st).1.length=k):=⟨fun k=>iter_len _ k st⟩
 obtain⟨w1,hmk,hblk,b1⟩:=make32 w
 obtain⟨M,hM⟩:∃ M,w.heap.size=M:=⟨_,rfl⟩
 have DM:Kept (d≠M∧∀ g∈G,g≠M):=⟨by have:=h.lt;omega,fun g hg=>by have:=h.1 g hg;omega⟩
 have HD:Kept (De 243 w1 d G (iter (fun s=>decNum s 1) 0 st).2):=⟨h.below b1⟩
 have B:Kept (Bar [d] w w1):=⟨barOf b1 _⟩
 rw[hM] at hmk hblk
 have X:Kept (Blk w1 M 5 (arr .u8 ((iter (fun s=>decNum s 1) 0 st).1++List.replicate (32 - 0) 0))):=⟨hblk⟩
 have MW:Kept (w.heap.size≤M):=⟨by omega⟩
 have HM:=Kept.mk hM
 clear h hb hblk b1
 go_enter Tryz.func161,Tryz.ntmps161
 go_wp2
 clear hmk
 go_loopw [8] (fun i wr=>∃ (k:Nat),k≤32∧i=.int .i64 k∧Kept (De 243 wr d G (iter (fun s=>decNum s 1) k st).2)∧Kept (Blk wr M 5 (arr .u8 ((iter (fun s=>decNum s 1) k st).1++List.replicate (32 - k) 0)))∧Kept (Bar [d] w wr)) (fun i _=>32 - (Go.RowKit.intOf i).toNat)
 case atStart=>exact⟨0,by omega,rfl,HD,X,B⟩
 case round =>
  clear HD X B
  obtain⟨k,hk,rfl,HD,X,B⟩:=hrel
  by_cases hkn:k < 32
  ·have hkn':(k:Int) < 32:=by omega
   have hz:=decNum_size0 _ (HBY.out k).2
   have KC:=dnum_any wr d G 1 _ HD.out hd
   have hrow:=row_next _ (decNum (iter (fun s=>decNum s 1) k st).2 1).1 k (HLE.out k) hkn
   have hit:iter (fun s=>decNum s 1) (k+1) st=((iter (fun s=>decNum s 1) k st).1++[(decNum (iter (fun s=>decNum s 1) k st).2 1).1],(decNum (iter (fun s=>decNum s 1) k st).2 1).2):=rfl
   have HIT:=Kept.mk hit;have HRO:=Kept.mk hrow
   obtain⟨s2,hs2⟩:∃ s2,decNum (iter (fun s=>decNum s 1) k st).2 1=s2:=⟨_,rfl⟩
   rw[hs2] at KC hz HIT HRO
   obtain⟨z,s3⟩:=s2
   dsimp only at KC hz HIT HRO
   have KK:=Kept.mk KC
   clear hs2 KC hrow hit
   go_wp2_with fail
   refine KK.out.mono ?_
   rintro x w2 ⟨rfl,he,b⟩
   replace X:=Kept.mk (X.out.bar b (by simpa using fun h=>DM.out.1 h.symm))
   replace B:=Kept.mk (B.out.trans b (fun x hx=>.inl hx))
   have hsz:((arr .u8 ((iter (fun s=>decNum s 1) k st).1++List.replicate (32 - k) 0))).size=32:=by
    rw[arr_size,List.length_append,HLE.out k,List.length_replicate];omega
   have hc0:=X.out.cell k
   have hfz:=X.out.frozen k
   have hc:w2.cell? ⟨M,k,none⟩=some (.int .u8 (at_ ((iter (fun s=>decNum s 1) k st).1++List.replicate (32 - k) 0) k)):=X.out.at_ k (by rw[arr_size] at hsz;omega)
   have HE:=Kept.mk he
   clear he b KK hc0 hsz HD
   generalize at_ ((iter (fun s=>decNum s 1) k st).1++List.replicate (32 - k) 0) k=y at *
   go_wp2
   have X2:Blk (w2.setCell ⟨M,k,none⟩ (.int .u8 z)) M 5 (arr .u8 ((iter (fun s=>decNum s 1) (k+1) st).1++List.replicate (32 - (k+1)) 0)):=by
    rw[HIT.out]
    rw[← HRO.out,← arr_set]
    exact X.out.set_ k _
   have hbm:Bar [M] w2 (w2.setCell ⟨M,k,none⟩ (.int .u8 z)):=(Bar.refl _ _).setCell (by simp) _
   have HD:Kept (De 243 (w2.setCell ⟨M,k,none⟩ (.int .u8 z)) d G (iter (fun s=>decNum s 1) (k+1) st).2):=⟨by
    rw[HIT.out]
    exact HE.out.keep hbm (by simpa using DM.out.1) (fun g hg=>by simpa using DM.out.2 g hg)⟩
   replace B:=Kept.mk (B.out.setCell (p:=⟨M,k,none⟩) (.inr MW.out) (.int .u8 z))
   replace X:=Kept.mk X2
   clear X2 hbm
   go_roundw
   case rel=>exact⟨k+1,by omega,by go_num,HD,X,B⟩
   case measure=>simp[Go.RowKit.intOf];omega
  ·have hkn':¬ (k:Int) < 32:=by omega
   obtain rfl:k=32:=by omega
   have hr:Rd wr (some ⟨M,0,none⟩) 32 (cText st).1:=Rd.blk (T:=5) (by
    have:=X.out
    rwa [Nat.sub_self,List.replicate_zero,List.append_nil] at this) (HBY.out 32).1 (HLE.out 32)
   have hcv:=conv_same (cap:=32) hr
   have HE:Kept (De 243 wr d G (cText st).2):=HD
   clear hr HD
   go_wp2
   go_ret
   exact⟨rfl,HE.out,B.out⟩
end Go.Proofs.YtidjkhpekhpffaaGreat.Req
