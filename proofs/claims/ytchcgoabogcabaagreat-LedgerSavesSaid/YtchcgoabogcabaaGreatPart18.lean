/-
  Parts laid together: ReqCAll ReqCEnc ReqCEncA ReqCGetText.
-/
import Derived.Test.YtchcgoabogcabaaGreatPart17
import Derived.Test.YtchcgoabogcabaaGreatPart7
import Derived.Test.YtchcgoabogcabaaGreatPart16
import Derived.Test.YtchcgoabogcabaaGreatPart12
import Derived.Test.YtchcgoabogcabaaGreatPart9
import Derived.Test.YtchcgoabogcabaaGreatPart8
namespace Go.Proofs.YtchcgoabogcabaaGreat.Req
open Go.RowKit Go.Proofs.YtchcgoabogcabaaGreat.Sha Go.Proofs.YtchcgoabogcabaaGreat.Wire
set_option maxRecDepth 100000 in
set_option maxHeartbeats 1000000 in
theorem cputp_any {w:World}{F:List Nat}{e:Nat}{st:St}{r:PV}(h:En 143 w F e st) (hl:st.2.length≤900000000):Calls Tryz.prog 90 #[.pointer (some ⟨e,0,none⟩),pqv r] w fun x w'=>x=.returned (.bool true)∧∃ F',En 143 w' F' e (wRep st r)∧Fp F F' w w':=by
 have l1:=encNum_len st r.code 1
 obtain⟨code,id⟩:=r
 unfold pqv
 dsimp only at l1 ⊢
 have hN:w.heap.size∉F:=fun hm=>by have:=h.lt _ hm;omega
 have bz:Below w.heap.size w (w.alloc (.cells #[.int .i64 code,.int .i64 id] 63)):=(Below.refl _ _).alloc (Nat.le_refl _) _
 have NF:=Kept.mk hN
 have HE:=Kept.mk (h.below bz)
 have FP:Kept (Fp F F w (w.alloc (.cells #[.int .i64 code,.int .i64 id] 63))):=⟨⟨barOf bz F,fun _ hk=>.inl hk⟩⟩
 have X:=Kept.mk (Blk.new w 63 #[.int .i64 code,.int .i64 id])
 obtain⟨N,hN2⟩:∃ N,w.heap.size=N:=⟨_,rfl⟩
 rw[hN2] at NF X
 clear hN bz h
 go_enter Tryz.func90,Tryz.ntmps90
 go_upto_region 1 with(fail)
 generalize w.alloc (.cells #[.int .i64 code,.int .i64 id] 63)=w0 at *
 have x0:=X.out.cell 0
 have KC:=num_any w0 F e code 1 st HE.out (by omega)
 go_wp2_with fail
 refine KC.mono ?_
 rintro x w1 ⟨rfl,F1,he,fp⟩
 have hlt:=X.out.lt
 replace X:=Kept.mk (X.out.bar fp.1 NF.out);replace NF:=Kept.mk (cnotin_step fp NF.out hlt);replace FP:=Kept.mk (FP.out.trans fp)
 have KC2:=num_any w1 F1 e id 2 _ he (by omega)
 clear he fp KC hlt x0 HE
 have x1:=X.out.cell 1
 go_wp2_with fail
 refine KC2.mono ?_
 rintro x w2 ⟨rfl,F2,he,fp⟩
 replace FP:=Kept.mk (FP.out.trans fp)
 have HE:=Kept.mk he
 clear he fp KC2 x1
 go_wp2
 go_ret
 exact⟨rfl,F2,HE.out,FP.out⟩
def CPutPost (T:TypeId) (F:List Nat) (e:Nat) (st:St) (p:Prop) (w:World) (x:Ending) (w':World):Prop:=∃ q F',x=.returned (.bool q)∧Fp F F' w w'∧(q=true ↔ p)∧(q=true→En T w' F' e st)
theorem ctake_snoc {α:Type}{l:List α}{k:Nat}{x:α}(h:l[k]?=some x):l.take (k+1)=l.take k++[x]:=by
 have hk:=(List.getElem?_eq_some_iff.1 h)
 obtain⟨hk,rfl⟩:=hk
 exact List.take_succ_eq_append_getElem hk
theorem call_snoc {α:Type}{p:α→Prop}{l:List α}{k:Nat}{x:α}(h:l[k]?=some x) (ha:∀ r∈l.take k,p r) (hx:p x):∀ r∈l.take (k+1),p r:=by
 rw[ctake_snoc h]
 intro r hr
 rcases List.mem_append.1 hr with h1|h1
 ·exact ha r h1
 ·rw[List.mem_singleton] at h1;subst h1;exact hx
set_option maxRecDepth 100000 in
set_option maxHeartbeats 2000000 in
theorem putallr_any {w:World}{F:List Nat}{e B:Nat}{st:St}{A:Option Addr}{n c:Nat}{l:List RV}(h:En 143 w F e st) (hl:st.2.length≤800000000) (hB:B≤w.heap.size) (hF:∀ f∈F,B≤f) (hR:∀ w',Below B w w'→Rr w' A n l) (hok:∀ r∈l,r.ok) :
  Calls Tryz.prog 117 #[.pointer (some ⟨e,0,none⟩),.slice A n c,.int .i64 1,.int .i64 64,.func (.func 118) #[] #[]] w (CPutPost 143 F e (wAll wReq (encNum st n 1) l) (n≤64∧∀ r∈l,HoldR r) w):=by
 have LN:=Kept.mk (hR w (Below.refl _ _)).1
 have RN:=Kept.mk hR
 have HO:=Kept.mk hok
 have LE:=encNum_len st n 1
 generalize hP:(n≤64∧∀ r∈l,HoldR r)=P
 have HP:=Kept.mk hP
 clear hP
 by_cases hm:n≤64
 ·have hm':(n:Int)≤64:=by omega
  have KC:=num_any w F e (n:Int) 1 st h (by omega)
  obtain⟨s1,hst⟩:∃ s1,encNum st (n:Int) 1=s1:=⟨_,rfl⟩
  rw[hst] at KC LE ⊢
  have HB:=Kept.mk hB;have HF:=Kept.mk hF
  clear hst h hR hB hF hok
  go_enter Tryz.func117,Tryz.ntmps117
  go_wp2_with fail
  refine KC.mono ?_
  rintro x w1 ⟨rfl,F1,he,fp⟩
  have BW:Kept (Below B w w1):=⟨fp.below HF.out HB.out⟩
  have AF:Kept (∀ f∈F1,B≤f):=⟨fp.least HF.out HB.out⟩
  have FP:=Kept.mk fp
  have LS:Kept (∀ k,k≤n→(∀ r∈l.take k,HoldR r)→(wAll wReq s1 (l.take k)).2.length≤900000000):=⟨fun k hk hh=>by
   have:=wAll_len (f:=wReq) (m:=54) (l:=l.take k) (st:=s1) (fun st x hx=>wReq_len (hh x hx))
   rw[List.length_take] at this
   have h2:min k l.length≤64:=by omega
   have h3:54 * min k l.length≤54 * 64:=Nat.mul_le_mul_left _ h2
   omega⟩
  have HE:Kept (En 143 w1 F1 e (wAll wReq s1 (l.take 0))):=⟨by simpa [wAll] using he⟩
  have HH:Kept (∀ r∈l.take 0,HoldR r):=⟨by simp⟩
  clear he fp KC LE hl
  go_wp2
  go_loopw [24] (fun i wr=>∃ (k:Nat) (F':List Nat),k≤n∧i=.int .i64 k∧Kept (En 143 wr F' e (wAll wReq s1 (l.take k)))∧Kept (Fp F F' w wr)∧Kept (∀ f∈F',B≤f)∧Kept (Below B w wr)∧Kept (∀ r∈l.take k,HoldR r)) (fun i _=>n - (Go.RowKit.intOf i).toNat)
  case atStart=>exact⟨0,F1,by omega,rfl,HE,FP,AF,BW,HH⟩
  case round =>
   clear HE FP AF BW HH
   obtain⟨k,F',hk,rfl,HE,FP,AF,BW,HH⟩:=hrel
   by_cases hkn:k < n
   ·have hkn':(k:Int) < n:=by omega
    obtain⟨b,o,r,rfl,hx,hcell⟩:=(RN.out _ BW.out).at_ hkn
    have hrm:=List.mem_of_getElem? hx
    have HX:=Kept.mk hx
    have LK:=LS.out k hk HH.out
    obtain⟨M,hM⟩:∃ M,wr.heap.size=M:=⟨_,rfl⟩
    obtain⟨kind,dst,asset,amount,id,due,hash,sec⟩:=r
    have y0:=hcell 0 _ rfl;have y1:=hcell 1 _ rfl;have y2:=hcell 2 _ rfl;have y3:=hcell 3 _ rfl;have y4:=hcell 4 _ rfl;have y5:=hcell 5 _ rfl;have y6:=hcell 6 _ rfl;have y7:=hcell 7 _ rfl
    rw[Nat.add_zero] at y0
    dsimp only at y0 y1 y2 y3 y4 y5 y6 y7
    have bz:Below M wr (wr.alloc (.cells #[.int .i64 kind,.int .i64 dst,.int .i64 asset,.int .i64 amount,.int .i64 id,.int .i64 due,.string (strOfNums hash),.string (strOfNums sec)] 65)):=(Below.refl _ _).alloc (by omega) _
    have XB:Kept (Blk (wr.alloc (.cells #[.int .i64 kind,.int .i64 dst,.int .i64 asset,.int .i64 amount,.int .i64 id,.int .i64 due,.string (strOfNums hash),.string (strOfNums sec)] 65)) M 65 #[.int .i64 kind,.int .i64 dst,.int .i64 asset,.int .i64 amount,.int .i64 id,.int .i64 due,.string (strOfNums hash),.string (strOfNums sec)]):=⟨Blk.new_at wr _ _ M hM.symm⟩
    have hE2:=HE.out.keep (barOf (hM▸bz) []) (fun _ _=>by simp)
    have hFP:Fp F' F' wr (wr.alloc (.cells #[.int .i64 kind,.int .i64 dst,.int .i64 asset,.int .i64 amount,.int .i64 id,.int .i64 due,.string (strOfNums hash),.string (strOfNums sec)] 65)):=⟨barOf (hM▸bz) F',fun _ hk=>.inl hk⟩
    have hBW:=hFP.below AF.out (by have:=BW.out.size;have:=HB.out;omega)
    have KC:=cputr_any (r:=⟨kind,dst,asset,amount,id,due,hash,sec⟩) hE2 (HO.out _ hrm) LK
    unfold rqv at KC
    dsimp only at KC
    replace HE:=Kept.mk hE2;replace FP:=Kept.mk (FP.out.trans hFP);replace BW:=Kept.mk (BW.out.trans hBW)
    have KK:=Kept.mk KC
    clear KC hE2 hFP hBW bz LK hx hcell hrm
    go_upto_region 7 with(fail)
    generalize wr.alloc (.cells #[.int .i64 kind,.int .i64 dst,.int .i64 asset,.int .i64 amount,.int .i64 id,.int .i64 due,.string (strOfNums hash),.string (strOfNums sec)] 65)=w2 at *
    clear y0 y1 y2 y3 y4 y5 y6 y7
    have x0:=XB.out.cell 0;have x1:=XB.out.cell 1;have x2:=XB.out.cell 2;have x3:=XB.out.cell 3;have x4:=XB.out.cell 4;have x5:=XB.out.cell 5;have x6:=XB.out.cell 6;have x7:=XB.out.cell 7
    have HQ:Kept (l.take (k+1)=l.take k++[⟨kind,dst,asset,amount,id,due,hash,sec⟩]):=⟨ctake_snoc HX.out⟩
    have HM:Kept (⟨kind,dst,asset,amount,id,due,hash,sec⟩∈l):=⟨List.mem_of_getElem? HX.out⟩
    have HS:Kept (HoldR ⟨kind,dst,asset,amount,id,due,hash,sec⟩→∀ r∈l.take (k+1),HoldR r):=⟨fun h=>call_snoc HX.out HH.out h⟩
    by_cases hh:HoldR ⟨kind,dst,asset,amount,id,due,hash,sec⟩
    ·have KD:=KK.out
     rw[if_pos hh,decide_eq_true hh] at KD
     replace HH:=Kept.mk (HS.out hh)
     rw[← wAll_snoc wReq,← HQ.out] at KD
     clear KK HS HM hh
     have KK:=Kept.mk KD
     clear KD
     go_wp2_with fail
     refine KK.out.mono ?_
     rintro x w3 ⟨rfl,F2,he,fp⟩
     have BW2:=Kept.mk (BW.out.trans (fp.below AF.out (by have:=BW.out.size;have:=HB.out;omega)))
     have AF2:=Kept.mk (fp.least AF.out (by have:=BW.out.size;have:=HB.out;omega))
     replace AF:=AF2;replace BW:=BW2;replace FP:=Kept.mk (FP.out.trans fp);replace HE:=Kept.mk he
     clear he fp KK AF2 BW2 x0 x1 x2 x3 x4 x5 x6 x7
     go_wp2
     go_roundw
     case rel=>exact⟨k+1,F2,by omega,by go_num,HE,FP,AF,BW,HH⟩
     case measure=>simp[Go.RowKit.intOf];omega
    ·have KD:=KK.out
     rw[if_neg hh,decide_eq_false hh] at KD
     have NO:Kept (¬ P):=⟨fun h=>by rw[← HP.out] at h;exact hh (h.2 _ HM.out)⟩
     have KK2:=Kept.mk KD
     clear KD KK HS HM hh
     go_wp2_with fail
     refine KK2.out.mono ?_
     rintro x w3 ⟨rfl,F2,he,fp⟩
     replace FP:=Kept.mk (FP.out.trans fp)
     clear he fp KK2 x0 x1 x2 x3 x4 x5 x6 x7
     go_wp2
     go_ret
     exact⟨false,F2,rfl,FP.out,⟨fun h=>(by cases h),fun h=>(NO.out h).elim⟩,fun h=>(by cases h)⟩
   ·have hkn':¬ (k:Int) < n:=by omega
    obtain rfl:k=n:=by omega
    have hh:l.take k=l:=by rw[← LN.out];exact List.take_length
    rw[hh] at HE HH
    have YES:Kept P:=⟨by rw[← HP.out];exact⟨hm,HH.out⟩⟩
    go_wp2
    go_ret
    exact⟨true,F',rfl,FP.out,⟨fun _=>YES.out,fun _=>rfl⟩,fun _=>HE.out⟩
 ·have hm':¬ (n:Int)≤64:=by omega
  have NO:Kept (¬ P):=⟨fun h=>by rw[← HP.out] at h;exact hm h.1⟩
  clear hm
  have hm2:(64:Int) < n:=by omega
  clear h LE
  go_enter Tryz.func117,Tryz.ntmps117
  go_wp2
  go_ret
  exact⟨false,F,rfl,Fp.refl _ _,⟨fun h=>(by cases h),fun h=>(NO.out h).elim⟩,fun h=>(by cases h)⟩
set_option maxRecDepth 100000 in
set_option maxHeartbeats 2000000 in
theorem putallp_any {w:World}{F:List Nat}{e B:Nat}{st:St}{A:Option Addr}{n c:Nat}{l:List PV}(h:En 143 w F e st) (hl:st.2.length≤800000000) (hB:B≤w.heap.size) (hF:∀ f∈F,B≤f) (hR:∀ w',Below B w w'→Rp w' A n l) :
  Calls Tryz.prog 89 #[.pointer (some ⟨e,0,none⟩),.slice A n c,.int .i64 1,.int .i64 64,.func (.func 90) #[] #[]] w (CPutPost 143 F e (wAll wRep (encNum st n 1) l) (n≤64) w):=by
 have LN:=Kept.mk (hR w (Below.refl _ _)).1
 have RN:=Kept.mk hR
 have LE:=encNum_len st n 1
 generalize hP:(n≤64)=P
 have HP:=Kept.mk hP
 clear hP
 by_cases hm:n≤64
 ·have hm':(n:Int)≤64:=by omega
  have KC:=num_any w F e (n:Int) 1 st h (by omega)
  obtain⟨s1,hst⟩:∃ s1,encNum st (n:Int) 1=s1:=⟨_,rfl⟩
  rw[hst] at KC LE ⊢
  have HB:=Kept.mk hB;have HF:=Kept.mk hF
  clear hst h hR hB hF
  go_enter Tryz.func89,Tryz.ntmps89
  go_wp2_with fail
  refine KC.mono ?_
  rintro x w1 ⟨rfl,F1,he,fp⟩
  have BW:Kept (Below B w w1):=⟨fp.below HF.out HB.out⟩
  have AF:Kept (∀ f∈F1,B≤f):=⟨fp.least HF.out HB.out⟩
  have FP:=Kept.mk fp
  have LS:Kept (∀ k,k≤n→(wAll wRep s1 (l.take k)).2.length≤900000000):=⟨fun k hk=>by
   have:=wAll_len (f:=wRep) (m:=54) (l:=l.take k) (st:=s1) (fun st x hx=>wRep_len)
   rw[List.length_take] at this
   have h2:min k l.length≤64:=by omega
   have h3:54 * min k l.length≤54 * 64:=Nat.mul_le_mul_left _ h2
   omega⟩
  have HE:Kept (En 143 w1 F1 e (wAll wRep s1 (l.take 0))):=⟨by simpa [wAll] using he⟩
  clear he fp KC LE hl
  go_wp2
  go_loopw [24] (fun i wr=>∃ (k:Nat) (F':List Nat),k≤n∧i=.int .i64 k∧Kept (En 143 wr F' e (wAll wRep s1 (l.take k)))∧Kept (Fp F F' w wr)∧Kept (∀ f∈F',B≤f)∧Kept (Below B w wr)) (fun i _=>n - (Go.RowKit.intOf i).toNat)
  case atStart=>exact⟨0,F1,by omega,rfl,HE,FP,AF,BW⟩
  case round =>
   clear HE FP AF BW
   obtain⟨k,F',hk,rfl,HE,FP,AF,BW⟩:=hrel
   by_cases hkn:k < n
   ·have hkn':(k:Int) < n:=by omega
    obtain⟨b,o,r,rfl,hx,hcell⟩:=(RN.out _ BW.out).at_ hkn
    have HX:=Kept.mk hx
    have LK:=LS.out k hk
    obtain⟨M,hM⟩:∃ M,wr.heap.size=M:=⟨_,rfl⟩
    obtain⟨code,id⟩:=r
    have y0:=hcell 0 _ rfl;have y1:=hcell 1 _ rfl
    rw[Nat.add_zero] at y0
    dsimp only at y0 y1
    have bz:Below M wr (wr.alloc (.cells #[.int .i64 code,.int .i64 id] 63)):=(Below.refl _ _).alloc (by omega) _
    have XB:Kept (Blk (wr.alloc (.cells #[.int .i64 code,.int .i64 id] 63)) M 63 #[.int .i64 code,.int .i64 id]):=⟨Blk.new_at wr _ _ M hM.symm⟩
    have hE2:=HE.out.keep (barOf (hM▸bz) []) (fun _ _=>by simp)
    have hFP:Fp F' F' wr (wr.alloc (.cells #[.int .i64 code,.int .i64 id] 63)):=⟨barOf (hM▸bz) F',fun _ hk=>.inl hk⟩
    have hBW:=hFP.below AF.out (by have:=BW.out.size;have:=HB.out;omega)
    have KC:=cputp_any (r:=⟨code,id⟩) hE2 LK
    unfold pqv at KC
    dsimp only at KC
    replace HE:=Kept.mk hE2;replace FP:=Kept.mk (FP.out.trans hFP);replace BW:=Kept.mk (BW.out.trans hBW)
    have KK:=Kept.mk KC
    clear KC hE2 hFP hBW bz LK hx hcell
    go_upto_region 7 with(fail)
    generalize wr.alloc (.cells #[.int .i64 code,.int .i64 id] 63)=w2 at *
    clear y0 y1
    have x0:=XB.out.cell 0;have x1:=XB.out.cell 1
    have KD:=KK.out
    rw[← wAll_snoc wRep,← ctake_snoc HX.out] at KD
    clear KK
    have KK:=Kept.mk KD
    clear KD
    go_wp2_with fail
    refine KK.out.mono ?_
    rintro x w3 ⟨rfl,F2,he,fp⟩
    have BW2:=Kept.mk (BW.out.trans (fp.below AF.out (by have:=BW.out.size;have:=HB.out;omega)))
    have AF2:=Kept.mk (fp.least AF.out (by have:=BW.out.size;have:=HB.out;omega))
    replace AF:=AF2;replace BW:=BW2;replace FP:=Kept.mk (FP.out.trans fp);replace HE:=Kept.mk he
    clear he fp KK AF2 BW2 x0 x1
    go_wp2
    go_roundw
    case rel=>exact⟨k+1,F2,by omega,by go_num,HE,FP,AF,BW⟩
    case measure=>simp[Go.RowKit.intOf];omega
   ·have hkn':¬ (k:Int) < n:=by omega
    obtain rfl:k=n:=by omega
    have hh:l.take k=l:=by rw[← LN.out];exact List.take_length
    rw[hh] at HE
    have YES:Kept P:=⟨by rw[← HP.out];exact hm⟩
    go_wp2
    go_ret
    exact⟨true,F',rfl,FP.out,⟨fun _=>YES.out,fun _=>rfl⟩,fun _=>HE.out⟩
 ·have hm':¬ (n:Int)≤64:=by omega
  have NO:Kept (¬ P):=⟨fun h=>by rw[← HP.out] at h;exact hm h⟩
  clear hm
  have hm2:(64:Int) < n:=by omega
  clear h LE
  go_enter Tryz.func89,Tryz.ntmps89
  go_wp2
  go_ret
  exact⟨false,F,rfl,Fp.refl _ _,⟨fun h=>(by cases h),fun h=>(NO.out h).elim⟩,fun h=>(by cases h)⟩
set_option maxRecDepth 100000 in
set_option maxHeartbeats 2000000 in
theorem putallv_any {w:World}{F:List Nat}{e B:Nat}{st:St}{A:Option Addr}{n c:Nat}{l:List VV}(h:En 143 w F e st) (hl:st.2.length≤800000000) (hB:B≤w.heap.size) (hF:∀ f∈F,B≤f) (hR:∀ w',Below B w w'→Rv w' A n l) (hok:∀ r∈l,r.ok) :
  Calls Tryz.prog 91 #[.pointer (some ⟨e,0,none⟩),.slice A n c,.int .i64 2,.int .i64 400,.func (.func 92) #[] #[]] w (CPutPost 143 F e (wAll wEv (encNum st n 2) l) (n≤400∧∀ r∈l,HoldV r) w):=by
 have LN:=Kept.mk (hR w (Below.refl _ _)).1
 have RN:=Kept.mk hR
 have HO:=Kept.mk hok
 have LE:=encNum_len st n 2
 generalize hP:(n≤400∧∀ r∈l,HoldV r)=P
 have HP:=Kept.mk hP
 clear hP
 by_cases hm:n≤400
 ·have hm':(n:Int)≤400:=by omega
  have KC:=num_any w F e (n:Int) 2 st h (by omega)
  obtain⟨s1,hst⟩:∃ s1,encNum st (n:Int) 2=s1:=⟨_,rfl⟩
  rw[hst] at KC LE ⊢
  have HB:=Kept.mk hB;have HF:=Kept.mk hF
  clear hst h hR hB hF hok
  go_enter Tryz.func91,Tryz.ntmps91
  go_wp2_with fail
  refine KC.mono ?_
  rintro x w1 ⟨rfl,F1,he,fp⟩
  have BW:Kept (Below B w w1):=⟨fp.below HF.out HB.out⟩
  have AF:Kept (∀ f∈F1,B≤f):=⟨fp.least HF.out HB.out⟩
  have FP:=Kept.mk fp
  have LS:Kept (∀ k,k≤n→(∀ r∈l.take k,HoldV r)→(wAll wEv s1 (l.take k)).2.length≤900000000):=⟨fun k hk hh=>by
   have:=wAll_len (f:=wEv) (m:=54) (l:=l.take k) (st:=s1) (fun st x hx=>wEv_len (hh x hx))
   rw[List.length_take] at this
   have h2:min k l.length≤400:=by omega
   have h3:54 * min k l.length≤54 * 400:=Nat.mul_le_mul_left _ h2
   omega⟩
  have HE:Kept (En 143 w1 F1 e (wAll wEv s1 (l.take 0))):=⟨by simpa [wAll] using he⟩
  have HH:Kept (∀ r∈l.take 0,HoldV r):=⟨by simp⟩
  clear he fp KC LE hl
  go_wp2
  go_loopw [24] (fun i wr=>∃ (k:Nat) (F':List Nat),k≤n∧i=.int .i64 k∧Kept (En 143 wr F' e (wAll wEv s1 (l.take k)))∧Kept (Fp F F' w wr)∧Kept (∀ f∈F',B≤f)∧Kept (Below B w wr)∧Kept (∀ r∈l.take k,HoldV r)) (fun i _=>n - (Go.RowKit.intOf i).toNat)
  case atStart=>exact⟨0,F1,by omega,rfl,HE,FP,AF,BW,HH⟩
  case round =>
   clear HE FP AF BW HH
   obtain⟨k,F',hk,rfl,HE,FP,AF,BW,HH⟩:=hrel
   by_cases hkn:k < n
   ·have hkn':(k:Int) < n:=by omega
    obtain⟨b,o,r,rfl,hx,hcell⟩:=(RN.out _ BW.out).at_ hkn
    have hrm:=List.mem_of_getElem? hx
    have HX:=Kept.mk hx
    have LK:=LS.out k hk HH.out
    obtain⟨M,hM⟩:∃ M,wr.heap.size=M:=⟨_,rfl⟩
    obtain⟨kind,src,dst,asset,amount,id,due,hash,sec⟩:=r
    have y0:=hcell 0 _ rfl;have y1:=hcell 1 _ rfl;have y2:=hcell 2 _ rfl;have y3:=hcell 3 _ rfl;have y4:=hcell 4 _ rfl;have y5:=hcell 5 _ rfl;have y6:=hcell 6 _ rfl;have y7:=hcell 7 _ rfl;have y8:=hcell 8 _ rfl
    rw[Nat.add_zero] at y0
    dsimp only at y0 y1 y2 y3 y4 y5 y6 y7 y8
    have bz:Below M wr (wr.alloc (.cells #[.int .i64 kind,.int .i64 src,.int .i64 dst,.int .i64 asset,.int .i64 amount,.int .i64 id,.int .i64 due,.string (strOfNums hash),.string (strOfNums sec)] 71)):=(Below.refl _ _).alloc (by omega) _
    have XB:Kept (Blk (wr.alloc (.cells #[.int .i64 kind,.int .i64 src,.int .i64 dst,.int .i64 asset,.int .i64 amount,.int .i64 id,.int .i64 due,.string (strOfNums hash),.string (strOfNums sec)] 71)) M 71 #[.int .i64 kind,.int .i64 src,.int .i64 dst,.int .i64 asset,.int .i64 amount,.int .i64 id,.int .i64 due,.string (strOfNums hash),.string (strOfNums sec)]):=⟨Blk.new_at wr _ _ M hM.symm⟩
    have hE2:=HE.out.keep (barOf (hM▸bz) []) (fun _ _=>by simp)
    have hFP:Fp F' F' wr (wr.alloc (.cells #[.int .i64 kind,.int .i64 src,.int .i64 dst,.int .i64 asset,.int .i64 amount,.int .i64 id,.int .i64 due,.string (strOfNums hash),.string (strOfNums sec)] 71)):=⟨barOf (hM▸bz) F',fun _ hk=>.inl hk⟩
    have hBW:=hFP.below AF.out (by have:=BW.out.size;have:=HB.out;omega)
    have KC:=cputv_any (r:=⟨kind,src,dst,asset,amount,id,due,hash,sec⟩) hE2 (HO.out _ hrm) LK
    unfold vqv at KC
    dsimp only at KC
    replace HE:=Kept.mk hE2;replace FP:=Kept.mk (FP.out.trans hFP);replace BW:=Kept.mk (BW.out.trans hBW)
    have KK:=Kept.mk KC
    clear KC hE2 hFP hBW bz LK hx hcell hrm
    go_upto_region 7 with(fail)
    generalize wr.alloc (.cells #[.int .i64 kind,.int .i64 src,.int .i64 dst,.int .i64 asset,.int .i64 amount,.int .i64 id,.int .i64 due,.string (strOfNums hash),.string (strOfNums sec)] 71)=w2 at *
    clear y0 y1 y2 y3 y4 y5 y6 y7 y8
    have x0:=XB.out.cell 0;have x1:=XB.out.cell 1;have x2:=XB.out.cell 2;have x3:=XB.out.cell 3;have x4:=XB.out.cell 4;have x5:=XB.out.cell 5;have x6:=XB.out.cell 6;have x7:=XB.out.cell 7;have x8:=XB.out.cell 8
    have HQ:Kept (l.take (k+1)=l.take k++[⟨kind,src,dst,asset,amount,id,due,hash,sec⟩]):=⟨ctake_snoc HX.out⟩
    have HM:Kept (⟨kind,src,dst,asset,amount,id,due,hash,sec⟩∈l):=⟨List.mem_of_getElem? HX.out⟩
    have HS:Kept (HoldV ⟨kind,src,dst,asset,amount,id,due,hash,sec⟩→∀ r∈l.take (k+1),HoldV r):=⟨fun h=>call_snoc HX.out HH.out h⟩
    by_cases hh:HoldV ⟨kind,src,dst,asset,amount,id,due,hash,sec⟩
    ·have KD:=KK.out
     rw[if_pos hh,decide_eq_true hh] at KD
     replace HH:=Kept.mk (HS.out hh)
     rw[← wAll_snoc wEv,← HQ.out] at KD
     clear KK HS HM hh
     have KK:=Kept.mk KD
     clear KD
     go_wp2_with fail
     refine KK.out.mono ?_
     rintro x w3 ⟨rfl,F2,he,fp⟩
     have BW2:=Kept.mk (BW.out.trans (fp.below AF.out (by have:=BW.out.size;have:=HB.out;omega)))
     have AF2:=Kept.mk (fp.least AF.out (by have:=BW.out.size;have:=HB.out;omega))
     replace AF:=AF2;replace BW:=BW2;replace FP:=Kept.mk (FP.out.trans fp);replace HE:=Kept.mk he
     clear he fp KK AF2 BW2 x0 x1 x2 x3 x4 x5 x6 x7 x8
     go_wp2
     go_roundw
     case rel=>exact⟨k+1,F2,by omega,by go_num,HE,FP,AF,BW,HH⟩
     case measure=>simp[Go.RowKit.intOf];omega
    ·have KD:=KK.out
     rw[if_neg hh,decide_eq_false hh] at KD
     have NO:Kept (¬ P):=⟨fun h=>by rw[← HP.out] at h;exact hh (h.2 _ HM.out)⟩
     have KK2:=Kept.mk KD
     clear KD KK HS HM hh
     go_wp2_with fail
     refine KK2.out.mono ?_
     rintro x w3 ⟨rfl,F2,he,fp⟩
     replace FP:=Kept.mk (FP.out.trans fp)
     clear he fp KK2 x0 x1 x2 x3 x4 x5 x6 x7 x8
     go_wp2
     go_ret
     exact⟨false,F2,rfl,FP.out,⟨fun h=>(by cases h),fun h=>(NO.out h).elim⟩,fun h=>(by cases h)⟩
   ·have hkn':¬ (k:Int) < n:=by omega
    obtain rfl:k=n:=by omega
    have hh:l.take k=l:=by rw[← LN.out];exact List.take_length
    rw[hh] at HE HH
    have YES:Kept P:=⟨by rw[← HP.out];exact⟨hm,HH.out⟩⟩
    go_wp2
    go_ret
    exact⟨true,F',rfl,FP.out,⟨fun _=>YES.out,fun _=>rfl⟩,fun _=>HE.out⟩
 ·have hm':¬ (n:Int)≤400:=by omega
  have NO:Kept (¬ P):=⟨fun h=>by rw[← HP.out] at h;exact hm h.1⟩
  clear hm
  have hm2:(400:Int) < n:=by omega
  clear h LE
  go_enter Tryz.func91,Tryz.ntmps91
  go_wp2
  go_ret
  exact⟨false,F,rfl,Fp.refl _ _,⟨fun h=>(by cases h),fun h=>(NO.out h).elim⟩,fun h=>(by cases h)⟩
set_option maxRecDepth 100000 in
set_option maxHeartbeats 2000000 in
theorem cencb_any (seen:Int) {A:Option Addr}{n c:Nat}{l:List RV}{w:World}(hr:Rr w A n l) (hok:∀ r∈l,r.ok):Calls Tryz.prog 93 #[.agg #[.int .i64 seen,.slice A n c]] w (EncPost (encB ⟨seen,l⟩) w):=by
 have LN:=Kept.mk hr.1
 have hb0:=encB_bytes (x:=⟨seen,l⟩) hok
 have hl0:=encB_len ⟨seen,l⟩
 have EC:Kept (n≤64∧(∀ r∈l,HoldR r)→wAll wReq (encNum (encNum (0,[]) seen 2) n 1) l=encB ⟨seen,l⟩):=⟨fun h=>by
  rw[← hr.1] at h ⊢;exact encB_code h.1 h.2⟩
 have EN:Kept (¬ (n≤64∧∀ r∈l,HoldR r)→encB ⟨seen,l⟩=(1,[])):=⟨fun h=>encB_no (fun k=>h ⟨by rw[← hr.1];exact k.2.1,fun r hm=>(mayR_iff.1 (k.2.2 r hm)).1⟩)⟩
 generalize encB ⟨seen,l⟩=R at *
 have HB:=Kept.mk hb0
 have HO:=Kept.mk hok
 obtain⟨N,hN⟩:∃ N,w.heap.size=N:=⟨_,rfl⟩
 have B0:Below N w (w.alloc (.cells #[.int .i64 seen,.slice A n c] 53)):=(Below.refl _ _).alloc (by omega) _
 have X:Kept (Blk (w.alloc (.cells #[.int .i64 seen,.slice A n c] 53)) N 53 #[.int .i64 seen,.slice A n c]):=⟨Blk.new_at w _ _ N hN.symm⟩
 have HR:=Kept.mk (hr.below (hN▸B0))
 have B:=Kept.mk B0
 have HN:=Kept.mk hN
 clear B0 hr hok hb0
 go_enter Tryz.func93,Tryz.ntmps93
 go_upto_region 1 with(fail)
 generalize w.alloc (.cells #[.int .i64 seen,.slice A n c] 53)=w1 at *
 have KN:=newenc_any w1
 obtain⟨M,hM⟩:∃ M,w1.heap.size=M:=⟨_,rfl⟩
 have hNM:N < M:=by rw[← hM];exact X.out.lt
 have HX:Kept (∀ w',Below M w1 w'→Blk w' N 53 #[.int .i64 seen,.slice A n c]):=⟨fun w' b=>X.out.below b hNM⟩
 have RX:Kept (∀ w',Below M w1 w'→Rr w' A n l):=⟨fun w' b=>HR.out.below (hM▸b)⟩
 rw[hM] at KN
 go_wp2_with fail
 refine KN.mono ?_
 rintro x w2 ⟨rfl,he,fp⟩
 have BW:=Kept.mk (fp.below (B:=M) (by simp) (by omega))
 have KC:=num_any w2 [M] M seen 2 (0,[]) he (by simp)
 have LE:=encNum_len (0,[]) seen 2
 obtain⟨s1,hs1⟩:∃ s,encNum (0,[]) seen 2=s:=⟨_,rfl⟩
 rw[hs1] at KC LE EC
 clear hs1 he fp KN X HR
 have x0:=(HX.out _ BW.out).cell 0
 go_wp2_with fail
 refine KC.mono ?_
 rintro x w3 ⟨rfl,F3,he,fp⟩
 have AF:=fp.least (B:=M) (by simp) (by have:=BW.out.size;omega)
 replace BW:=Kept.mk (BW.out.trans (fp.below (B:=M) (by simp) (by have:=BW.out.size;omega)))
 have KP:=putallr_any (B:=M) (c:=c) he (by have h0:([]:List Int).length=0:=rfl;simp only[h0] at LE;omega) (by have:=BW.out.size;omega) AF (fun w' b=>RX.out w' (BW.out.trans b)) HO.out
 have KP2:=Kept.mk KP
 unfold CPutPost at KP2
 have AF2:=Kept.mk AF
 clear he fp KC x0 KP AF LE
 have x1:=(HX.out _ BW.out).cell 1
 go_wp2_with fail
 refine KP2.out.mono ?_
 rintro x w4 ⟨q,F4,rfl,fp,hq,he⟩
 replace BW:=Kept.mk (BW.out.trans (fp.below AF2.out (by have:=BW.out.size;omega)))
 have BE:Kept (Below N w w4):=⟨B.out.trans (BW.out.mono (by omega))⟩
 clear fp KP2 x1
 cases q with
 | true =>
  have he2:=he rfl
  rw[EC.out (hq.1 rfl)] at he2
  have KD:=done_any w4 F4 M R he2 HB.out (by omega)
  obtain⟨R1,R2⟩:=R
  clear he he2 hq
  go_wp2_with fail
  refine KD.mono ?_
  rintro x w5 ⟨v,rfl,own,b5⟩
  obtain⟨A5,c5,rfl,h1,h2,r5⟩:=own_rd own HB.out
  have R5:=Kept.mk r5
  replace BE:=Kept.mk (BE.out.trans (b5.mono (by have:=BE.out.size;omega)))
  clear KD own b5 r5
  go_wp2
  go_ret2
  exact⟨A5,_,c5,rfl,h1,h2,R5.out,by rw[HN.out];exact BE.out⟩
 | false =>
  obtain rfl:=EN.out (fun h=>by have:=hq.2 h;cases this)
  clear he hq
  go_wp2
  go_ret2
  exact⟨none,0,0,rfl,Nat.le_refl _,by omega,Rd.nil_,by rw[HN.out];exact BE.out⟩
end Go.Proofs.YtchcgoabogcabaaGreat.Req
namespace Go.Proofs.YtchcgoabogcabaaGreat.Req
open Go.RowKit Go.Proofs.YtchcgoabogcabaaGreat.Sha Go.Proofs.YtchcgoabogcabaaGreat.Wire Go.Proofs.YtchcgoabogcabaaGreat.Num
def EncNPost (r:Int × List Int) (w:World) (x:Ending) (w':World):Prop:=∃ A n c,x=.returned (.tuple #[.slice A n c,.int .i64 r.1])∧n≤c∧c≤9223372036854775807∧Rd w' A n r.2∧Below w.heap.size w w'∧∀ b o,A=some ⟨b,o,none⟩→w.heap.size≤b
set_option maxRecDepth 100000 in
set_option maxHeartbeats 3000000 in
theorem cencan_any (clock seen:Int) {A:Option Addr}{n c:Nat}{l:List PV}{D:Option Addr}{m d:Nat}{v:List VV}{w:World}(hr:Rp w A n l) (hv:Rv w D m v) (hok:∀ r∈v,r.ok):Calls Tryz.prog 63 #[.agg #[.int .i64 clock,.int .i64 seen,.slice A n c,.slice D m d]] w (EncNPost (encA ⟨clock,seen,l,v⟩) w):=by
 have hb0:=encA_bytes (x:=⟨clock,seen,l,v⟩) hok
 have hl0:=encA_len ⟨clock,seen,l,v⟩
 have EC:Kept (Tck clock→n≤64→(m≤400∧∀ r∈v,HoldV r)→wAll wEv (encNum (wAll wRep (encNum (encNum (encNum (0,[]) clock 8) seen 2) n 1) l) m 2) v=encA ⟨clock,seen,l,v⟩):=⟨fun hc h k=>by
  rw[← hr.1] at h ⊢;rw[← hv.1] at k ⊢;exact encA_code hc h k.1 k.2⟩
 have E0:Kept (¬ Tck clock→encA ⟨clock,seen,l,v⟩=(1,[])):=⟨fun h=>encA_no (fun k=>h k.1)⟩
 have E1:Kept (¬ n≤64→encA ⟨clock,seen,l,v⟩=(1,[])):=⟨fun h=>encA_no (fun k=>h (by rw[← hr.1];exact k.2.2.1))⟩
 have E2:Kept (¬ (m≤400∧∀ r∈v,HoldV r)→encA ⟨clock,seen,l,v⟩=(1,[])):=⟨fun h=>encA_no (fun k=>h ⟨by rw[← hv.1];exact k.2.2.2.1,fun r hm=>(mayV_iff.1 (k.2.2.2.2.2 r hm)).1⟩)⟩
 generalize encA ⟨clock,seen,l,v⟩=R at *
 have HB:=Kept.mk hb0
 have HO:=Kept.mk hok
 have HL:=Kept.mk hr.1
 have KT:=Kept.mk (fun w=>tick_any clock w)
 rw[ctick_iff] at KT
 obtain⟨N,hN⟩:∃ N,w.heap.size=N:=⟨_,rfl⟩
 have B0:Below N w (w.alloc (.cells #[.int .i64 clock,.int .i64 seen,.slice A n c,.slice D m d] 59)):=(Below.refl _ _).alloc (by omega) _
 have X:Kept (Blk (w.alloc (.cells #[.int .i64 clock,.int .i64 seen,.slice A n c,.slice D m d] 59)) N 59 #[.int .i64 clock,.int .i64 seen,.slice A n c,.slice D m d]):=⟨Blk.new_at w _ _ N hN.symm⟩
 have HR:=Kept.mk (hr.below (hN▸B0));have HV:=Kept.mk (hv.below (hN▸B0))
 have B:=Kept.mk B0
 have HN:=Kept.mk hN
 clear B0 hr hv hok hb0
 go_enter Tryz.func63,Tryz.ntmps63
 go_upto_region 1 with(fail)
 generalize w.alloc (.cells #[.int .i64 clock,.int .i64 seen,.slice A n c,.slice D m d] 59)=w1 at *
 by_cases hc:Tck clock
 ·rw[decide_eq_true hc] at KT
  have KN:=newenc_any w1
  obtain⟨M,hM⟩:∃ M,w1.heap.size=M:=⟨_,rfl⟩
  have hNM:N < M:=by rw[← hM];exact X.out.lt
  have HX:Kept (∀ w',Below M w1 w'→Blk w' N 59 #[.int .i64 clock,.int .i64 seen,.slice A n c,.slice D m d]):=⟨fun w' b=>X.out.below b hNM⟩
  have RX:Kept (∀ w',Below M w1 w'→Rp w' A n l):=⟨fun w' b=>HR.out.below (hM▸b)⟩
  have VX:Kept (∀ w',Below M w1 w'→Rv w' D m v):=⟨fun w' b=>HV.out.below (hM▸b)⟩
  have x0:=X.out.cell 0
  rw[hM] at KN
  have KN2:=Kept.mk KN
  clear KN
  go_wp2_with (go_at_call 69;refine(KT.out _).mono ?_;rintro x w' ⟨rfl,rfl⟩)
  refine KN2.out.mono ?_
  rintro x w2 ⟨rfl,he,fp⟩
  have BW:=Kept.mk (fp.below (B:=M) (by simp) (by omega))
  have KC:=num_any w2 [M] M clock 8 (0,[]) he (by simp)
  have LE:=encNum_len (0,[]) clock 8
  obtain⟨s1,hs1⟩:∃ s,encNum (0,[]) clock 8=s:=⟨_,rfl⟩
  rw[hs1] at KC LE EC
  clear hs1 he fp KN2 X HR HV x0
  have x0:=(HX.out _ BW.out).cell 0
  go_wp2_with fail
  refine KC.mono ?_
  rintro x w3 ⟨rfl,F3,he,fp⟩
  have AF:=fp.least (B:=M) (by simp) (by have:=BW.out.size;omega)
  replace BW:=Kept.mk (BW.out.trans (fp.below (B:=M) (by simp) (by have:=BW.out.size;omega)))
  have KC2:=num_any w3 F3 M seen 2 s1 he (by have h0:([]:List Int).length=0:=rfl;simp only[h0] at LE;omega)
  have LE2:=encNum_len s1 seen 2
  obtain⟨s2,hs2⟩:∃ s,encNum s1 seen 2=s:=⟨_,rfl⟩
  rw[hs2] at KC2 LE2 EC
  have LS:s2.2.length≤16:=by have h0:([]:List Int).length=0:=rfl;simp only[h0] at LE;omega
  have AF1:=Kept.mk AF
  clear hs2 he fp KC x0 AF LE LE2
  have x1:=(HX.out _ BW.out).cell 1
  go_wp2_with fail
  refine KC2.mono ?_
  rintro x w4 ⟨rfl,F4,he,fp⟩
  have AF:=fp.least AF1.out (by have:=BW.out.size;omega)
  replace BW:=Kept.mk (BW.out.trans (fp.below AF1.out (by have:=BW.out.size;omega)))
  have KP:=putallp_any (B:=M) (c:=c) he (by omega) (by have:=BW.out.size;omega) AF (fun w' b=>RX.out w' (BW.out.trans b))
  have KP2:=Kept.mk KP
  unfold CPutPost at KP2
  have AF2:=Kept.mk AF
  have LW:Kept (n≤64→(wAll wRep (encNum s2 n 1) l).2.length≤4000):=⟨fun h=>by
   have h1:=encNum_len s2 n 1
   have h2:=wAll_len (f:=wRep) (m:=54) (l:=l) (st:=encNum s2 n 1) (fun st x _=>wRep_len)
   have h3:=HL.out
   have h4:54 * l.length≤54 * 64:=Nat.mul_le_mul_left _ (by omega)
   omega⟩
  clear he fp KC2 x1 KP AF AF1
  have x2:=(HX.out _ BW.out).cell 2
  go_wp2_with fail
  refine KP2.out.mono ?_
  rintro x w5 ⟨q,F5,rfl,fp,hq,he⟩
  have AF:=fp.least AF2.out (by have:=BW.out.size;omega)
  replace BW:=Kept.mk (BW.out.trans (fp.below AF2.out (by have:=BW.out.size;omega)))
  clear fp KP2 x2 AF2
  cases q with
  | true =>
   have hn64:=hq.1 rfl
   have KP:=putallv_any (B:=M) (c:=d) (he rfl) (by have:=LW.out hn64;omega) (by have:=BW.out.size;omega) AF (fun w' b=>VX.out w' (BW.out.trans b)) HO.out
   have KP2:=Kept.mk KP
   unfold CPutPost at KP2
   have AF2:=Kept.mk AF
   have HQ:=Kept.mk hn64
   clear KP AF he hq hn64
   have x3:=(HX.out _ BW.out).cell 3
   go_wp2_with fail
   refine KP2.out.mono ?_
   rintro x w6 ⟨q,F6,rfl,fp,hq,he⟩
   replace BW:=Kept.mk (BW.out.trans (fp.below AF2.out (by have:=BW.out.size;omega)))
   have BE:Kept (Below N w w6):=⟨B.out.trans (BW.out.mono (by omega))⟩
   clear fp KP2 x3 AF2
   cases q with
   | true =>
    have he2:=he rfl
    rw[EC.out hc HQ.out (hq.1 rfl)] at he2
    have KD:=done_any w6 F6 M R he2 HB.out (by omega)
    obtain⟨R1,R2⟩:=R
    clear he he2 hq
    go_wp2_with fail
    refine KD.mono ?_
    rintro x w7 ⟨v7,rfl,own,b5⟩
    obtain⟨A5,c5,rfl,h1,h2,r5⟩:=own_rd own HB.out
    have R5:=Kept.mk r5
    have NW5:Kept (∀ b o,A5=some ⟨b,o,none⟩→N≤b):=⟨fun b o hh=>by subst hh;have h1:=BE.out.size;have h2:=HN.out;have h3:=(own.lt b rfl).1;omega⟩
    replace BE:=Kept.mk (BE.out.trans (b5.mono (by have:=BE.out.size;omega)))
    clear KD own b5 r5
    go_wp2
    go_ret2
    exact⟨A5,_,c5,rfl,h1,h2,R5.out,by rw[HN.out];exact BE.out,by rw[HN.out];exact NW5.out⟩
   | false =>
    obtain rfl:=E2.out (fun h=>by have:=hq.2 h;cases this)
    clear he hq
    go_wp2
    go_ret2
    exact⟨none,0,0,rfl,Nat.le_refl _,by omega,Rd.nil_,by rw[HN.out];exact BE.out,fun b o h=>by(cases h)⟩
  | false =>
   obtain rfl:=E1.out (fun h=>by have:=hq.2 h;cases this)
   have BE:Kept (Below N w w5):=⟨B.out.trans (BW.out.mono (by omega))⟩
   clear he hq AF
   go_wp2
   go_ret2
   exact⟨none,0,0,rfl,Nat.le_refl _,by omega,Rd.nil_,by rw[HN.out];exact BE.out,fun b o h=>by(cases h)⟩
 ·rw[decide_eq_false hc] at KT
  obtain rfl:=E0.out hc
  have x0:=X.out.cell 0
  go_wp2_with (go_at_call 69;refine(KT.out _).mono ?_;rintro x w' ⟨rfl,rfl⟩)
  go_ret2
  exact⟨none,0,0,rfl,Nat.le_refl _,by omega,Rd.nil_,by rw[HN.out];exact B.out,fun b o h=>by(cases h)⟩
end Go.Proofs.YtchcgoabogcabaaGreat.Req
namespace Go.Proofs.YtchcgoabogcabaaGreat.Req
open Go.RowKit Go.Proofs.YtchcgoabogcabaaGreat.Sha Go.Proofs.YtchcgoabogcabaaGreat.Wire
theorem make32 (w:World):∃ w',(Instr.makeSlice 26 (.int .i64 32) (.int .i64 32)).run Tryz.prog w=.ok (.slice (some ⟨w.heap.size,0,none⟩) 32 32) w'∧Blk w' w.heap.size 5 (arr .u8 (List.replicate 32 0))∧Below w.heap.size w w':=make_big w 32 (by omega)
theorem row_next (xs:List Int) (z:Int) (k:Nat) (hl:xs.length=k) (hk:k < 32):(xs++List.replicate (32 - k) 0).set k z=(xs++[z])++List.replicate (32 - (k+1)) 0:=by
 obtain⟨m,hm⟩:∃ m,32 - k=m+1:=⟨32 - (k+1),by omega⟩
 have h2:32 - (k+1)=m:=by omega
 rw[hm,h2,List.set_append_right _ _ (by omega),hl,Nat.sub_self,List.replicate_succ,List.set_cons_zero,List.append_assoc]
 rfl
theorem results_three {P:Program}{fn:Func}{a b c:Tmp}(h:fn.results=#[.tmp a,.tmp b,.tmp c]) (tmps:Array Value) (w:World):(results fn tmps).run P w=.ok (.tuple #[tmps.getD a undef,tmps.getD b undef,tmps.getD c undef]) w:=by
 simp[results,h]
set_option maxRecDepth 100000 in
set_option maxHeartbeats 1000000 in
theorem cgetmove_any {w:World}{d:Nat}{G:List Nat}{st:St}(h:De 157 w d G st) (hd:d∉G):Calls Tryz.prog 132 #[.pointer (some ⟨d,0,none⟩)] w fun x w'=>x=.returned (.tuple #[.int .i64 (cMove st).1.1,.int .i64 (cMove st).1.2.1,.int .i64 (cMove st).1.2.2])∧De 157 w' d G (cMove st).2∧Bar [d] w w':=by
 unfold cMove
 dsimp only
 have KC:=dnum_any w d G 1 st h hd
 obtain⟨a,ha⟩:∃ a,decNum st 1=a:=⟨_,rfl⟩
 rw[ha] at KC ⊢
 obtain⟨c,hc⟩:∃ c,decNum a.2 1=c:=⟨_,rfl⟩
 rw[hc]
 obtain⟨f,hf⟩:∃ f,decNum c.2 8=f:=⟨_,rfl⟩
 rw[hf]
 have HC:=Kept.mk hc;have HF:=Kept.mk hf
 clear h ha hc hf
 go_enter Tryz.func132,Tryz.ntmps132
 go_wp2_with fail
 refine KC.mono ?_
 rintro x w1 ⟨rfl,he,b⟩
 have B:=Kept.mk b
 have KC2:=dnum_any w1 d G 1 a.2 he hd
 rw[HC.out] at KC2
 clear he b KC
 go_wp2_with fail
 refine KC2.mono ?_
 rintro x w2 ⟨rfl,he,b⟩
 replace B:=Kept.mk (B.out.trans b (fun x hx=>.inl hx))
 have KC:=dnum_any w2 d G 8 c.2 he hd
 rw[HF.out] at KC
 clear he b KC2
 go_wp2_with fail
 refine KC.mono ?_
 rintro x w3 ⟨rfl,he,b⟩
 replace B:=Kept.mk (B.out.trans b (fun x hx=>.inl hx))
 have HE:=Kept.mk he
 clear he b KC
 go_wp2
 refine bodyPost_ret (results_three rfl _ _) rfl ?_
 exact⟨rfl,HE.out,B.out⟩
set_option maxRecDepth 100000 in
set_option maxHeartbeats 1000000 in
theorem cgettext_any {w:World}{d:Nat}{G:List Nat}{st:St}(h:De 157 w d G st) (hd:d∉G):Calls Tryz.prog 133 #[.pointer (some ⟨d,0,none⟩)] w fun x w'=>x=.returned (.string (strOfNums (cText st).1))∧De 157 w' d G (cText st).2∧Bar [d] w w':=by
 have hb:=h.bytes
 have HBY:Kept (∀ k,Bytes (iter (fun s=>decNum s 1) k st).1∧Bytes (iter (fun s=>decNum s 1) k st).2.2):=⟨fun k=>⟨iter_bytes1 k st hb,(byte_way.iter k st hb).1⟩⟩
 have HLE:Kept (∀ k,(iter (fun s=>decNum s 1) k st).1.length=k):=⟨fun k=>iter_len _ k st⟩
 obtain⟨w1,hmk,hblk,b1⟩:=make32 w
 obtain⟨M,hM⟩:∃ M,w.heap.size=M:=⟨_,rfl⟩
 have DM:Kept (d≠M∧∀ g∈G,g≠M):=⟨by have:=h.lt;omega,fun g hg=>by have:=h.1 g hg;omega⟩
 have HD:Kept (De 157 w1 d G (iter (fun s=>decNum s 1) 0 st).2):=⟨h.below b1⟩
 have B:Kept (Bar [d] w w1):=⟨barOf b1 _⟩
 rw[hM] at hmk hblk
 have X:Kept (Blk w1 M 5 (arr .u8 ((iter (fun s=>decNum s 1) 0 st).1++List.replicate (32 - 0) 0))):=⟨hblk⟩
 have MW:Kept (w.heap.size≤M):=⟨by omega⟩
 have HM:=Kept.mk hM
 clear h hb hblk b1
 go_enter Tryz.func133,Tryz.ntmps133
 go_wp2
 clear hmk
 go_loopw [8] (fun i wr=>∃ (k:Nat),k≤32∧i=.int .i64 k∧Kept (De 157 wr d G (iter (fun s=>decNum s 1) k st).2)∧Kept (Blk wr M 5 (arr .u8 ((iter (fun s=>decNum s 1) k st).1++List.replicate (32 - k) 0)))∧Kept (Bar [d] w wr)) (fun i _=>32 - (Go.RowKit.intOf i).toNat)
 case atStart=>exact⟨0,by omega,rfl,HD,X,B⟩
 case round =>
  clear HD X B
  obtain⟨k,hk,rfl,HD,X,B⟩:=hrel
  by_cases hkn:k < 32
  ·have hkn':(k:Int) < 32:=by omega
   have hz:=decNum_size0 _ (HBY.out k).2
   have KC:=dnum_any wr d G 1 _ HD.out hd
   have hrow:=row_next _ (decNum (iter (fun s=>decNum s 1) k st).2 1).1 k (HLE.out k) hkn
   have hit:iter (fun s=>decNum s 1) (k+1) st=((iter (fun s=>decNum s 1) k st).1++[(decNum (iter (fun s=>decNum s 1) k st).2 1).1],(decNum (iter (fun s=>decNum s 1) k st).2 1).2):=rfl
   have HIT:=Kept.mk hit;have HRO:=Kept.mk hrow
   obtain⟨s2,hs2⟩:∃ s2,decNum (iter (fun s=>decNum s 1) k st).2 1=s2:=⟨_,rfl⟩
   rw[hs2] at KC hz HIT HRO
   obtain⟨z,s3⟩:=s2
   dsimp only at KC hz HIT HRO
   have KK:=Kept.mk KC
   clear hs2 KC hrow hit
   go_wp2_with fail
   refine KK.out.mono ?_
   rintro x w2 ⟨rfl,he,b⟩
   replace X:=Kept.mk (X.out.bar b (by simpa using fun h=>DM.out.1 h.symm))
   replace B:=Kept.mk (B.out.trans b (fun x hx=>.inl hx))
   have hsz:((arr .u8 ((iter (fun s=>decNum s 1) k st).1++List.replicate (32 - k) 0))).size=32:=by
    rw[arr_size,List.length_append,HLE.out k,List.length_replicate];omega
   have hc0:=X.out.cell k
   have hfz:=X.out.frozen k
   have hc:w2.cell? ⟨M,k,none⟩=some (.int .u8 (at_ ((iter (fun s=>decNum s 1) k st).1++List.replicate (32 - k) 0) k)):=X.out.at_ k (by rw[arr_size] at hsz;omega)
   have HE:=Kept.mk he
   clear he b KK hc0 hsz HD
   generalize at_ ((iter (fun s=>decNum s 1) k st).1++List.replicate (32 - k) 0) k=y at *
   go_wp2
   have X2:Blk (w2.setCell ⟨M,k,none⟩ (.int .u8 z)) M 5 (arr .u8 ((iter (fun s=>decNum s 1) (k+1) st).1++List.replicate (32 - (k+1)) 0)):=by
    rw[HIT.out]
    rw[← HRO.out,← arr_set]
    exact X.out.set_ k _
   have hbm:Bar [M] w2 (w2.setCell ⟨M,k,none⟩ (.int .u8 z)):=(Bar.refl _ _).setCell (by simp) _
   have HD:Kept (De 157 (w2.setCell ⟨M,k,none⟩ (.int .u8 z)) d G (iter (fun s=>decNum s 1) (k+1) st).2):=⟨by
    rw[HIT.out]
    exact HE.out.keep hbm (by simpa using DM.out.1) (fun g hg=>by simpa using DM.out.2 g hg)⟩
   replace B:=Kept.mk (B.out.setCell (p:=⟨M,k,none⟩) (.inr MW.out) (.int .u8 z))
   replace X:=Kept.mk X2
   clear X2 hbm
   go_roundw
   case rel=>exact⟨k+1,by omega,by go_num,HD,X,B⟩
   case measure=>simp[Go.RowKit.intOf];omega
  ·have hkn':¬ (k:Int) < 32:=by omega
   obtain rfl:k=32:=by omega
   have hr:Rd wr (some ⟨M,0,none⟩) 32 (cText st).1:=Rd.blk (T:=5) (by
    have:=X.out
    rwa [Nat.sub_self,List.replicate_zero,List.append_nil] at this) (HBY.out 32).1 (HLE.out 32)
   have hcv:=conv_same (cap:=32) hr
   have HE:Kept (De 157 wr d G (cText st).2):=HD
   clear hr HD
   go_wp2
   go_ret
   exact⟨rfl,HE.out,B.out⟩
end Go.Proofs.YtchcgoabogcabaaGreat.Req
