/-
  Parts laid together: ReqPost ReqPostA ReqFew ReqRSameEv ReqRSameA LedgerR2 ReqRPut0 ReqRPutV ReqCodeDec LedgerRead.
-/
import Derived.Test.YtchcgoabogcabaaGreatPart10
import Derived.Test.YtchcgoabogcabaaGreatPart3
import Derived.Test.YtchcgoabogcabaaGreatPart12
import Derived.Deep.QuietTactic
import Derived.BigQuiet
import Derived.Test.YtchcgoabogcabaaGreatPart13
import Derived.Test.YtchcgoabogcabaaGreatPart15
import Derived.Test.YtchcgoabogcabaaGreatPart5
namespace Go.Proofs.YtchcgoabogcabaaGreat.Req
open Go.RowKit Go.Proofs.YtchcgoabogcabaaGreat.Sha Go.Proofs.YtchcgoabogcabaaGreat.Wire
theorem results_row_tmp {P:Program}{fn:Func}{p u:Tmp}{ty:TypeId}(h:fn.results=#[.cell p ty,.tmp u]) (tmps:Array Value) (w:World) (g:Nat) (t:TypeId) (cs:Array Value) (fr:Nat × Nat) (d:TypeDesc)
  (hp:tmps.getD p undef=.pointer (some ⟨g,0,none⟩)) (hg:w.heap[g]?=some (.cells cs t fr))
  (hu:P.underlying ty=some d) (hd:(match d with|.struct _|.array _ _=>true|_=>false)=true) (hi:(P.info? ty).map (·.size)=some cs.size) :
  (results fn tmps).run P w=.ok (.tuple #[.agg cs,tmps.getD u undef]) w:=by
 have hp':tmps[p]?.getD undef=.pointer (some ⟨g,0,none⟩):=by simpa using hp
 simp[results,h,hp',asAddr,run_loadVar_row w g t ty cs fr d hg hu hd hi,Result.andThen]
theorem decNum_size0 (st:St) (hb:Bytes st.2):0≤(decNum st 1).1∧(decNum st 1).1≤255:=by
 unfold decNum
 split
 ·split
  ·split
   ·rename_i h
    have h1:=val_take_lt st.2 hb 1 (by have:=h.1;simpa using this)
    constructor
    ·exact Int.natCast_nonneg _
    ·have e:(Int.toNat 1)=1:=rfl
     simp only[e];omega
   ·simp
  ·simp
 ·simp
def EncPost (r:Int × List Int) (w:World) (x:Ending) (w':World):Prop:=∃ A n c,x=.returned (.tuple #[.slice A n c,.int .i64 r.1])∧n≤c∧c≤9223372036854775807∧Rd w' A n r.2∧Below w.heap.size w w'
def SamePost (p:Prop) (w:World) (e:Ending) (w':World):Prop:=∃ q:Bool,e=.returned (.bool q)∧(q=true ↔ p)∧Below w.heap.size w w'
def DecAPost (b:List Int) (w:World) (x:Ending) (w':World):Prop :=
 ∃ e clock seen A n c l D m d v,x=.returned (.tuple #[.agg #[.int .i64 clock,.int .i64 seen,.slice A n c,.slice D m d],.int .i64 e])∧n≤c∧c≤9223372036854775807∧m≤d∧d≤9223372036854775807∧Rp w' A n l∧Rv w' D m v∧(∀ r∈v,r.ok)∧DecA b e ⟨clock,seen,l,v⟩∧Below w.heap.size w w'
def RV.small (r:RV):Prop:=r.hash.length≤20000∧r.sec.length≤20000
def VV.small (r:VV):Prop:=r.hash.length≤20000∧r.sec.length≤20000
theorem MayR.small {r:RV}(h:MayR r):r.small:=by
 rcases h with⟨-,-,-,-,-,-,h1,h2⟩|⟨-,-,-,-,-,-,h1,h2⟩|⟨-,-,-,-,-,-,h1,h2⟩|⟨-,-,-,-,-,-,h1,h2⟩<;>constructor<;>simp[h1,h2]
theorem MayV.small {r:VV}(h:MayV r):r.small:=by
 rcases h with⟨-,-,-,-,-,-,-,h1,h2⟩|⟨-,-,-,-,-,-,-,h1,h2⟩|⟨-,-,-,-,-,-,-,h1,h2⟩|⟨-,-,-,-,-,-,-,h1,h2⟩<;>constructor<;>simp[h1,h2]
def FewPost (p:Prop) (w:World) (e:Ending) (w':World):Prop:=∃ t:Bool,e=.returned (.bool t)∧(t=true→p)∧Below w.heap.size w w'
theorem all_snoc' {α:Type}{p:α→Prop}{l:List α}{k:Nat}{x:α}(h:l[k]?=some x) (ha:∀ r∈l.take k,p r) (hx:p x):∀ r∈l.take (k+1),p r:=by
 obtain⟨hk,rfl⟩:=List.getElem?_eq_some_iff.1 h
 rw[List.take_succ_eq_append_getElem hk]
 intro r hr
 rcases List.mem_append.1 hr with h1|h1
 ·exact ha r h1
 ·rw[List.mem_singleton] at h1;subst h1;exact hx
theorem min_as (l:Nat):∃ m:Nat,min (l:Int) 20001=m∧m≤20001∧(m≤20000→l≤20000):=by
 by_cases h:l≤20001
 ·exact⟨l,by omega,by omega,by omega⟩
 ·exact⟨20001,by omega,by omega,by omega⟩
set_option maxRecDepth 100000 in
set_option maxHeartbeats 2000000 in
theorem few_any (seen:Int) (A:Option Addr) (n c:Nat) (l:List RV) (w:World) (hr:Rr w A n l) (hc:n≤9223372036854775807):Calls Tryz.prog 23 #[.agg #[.int .i64 seen,.slice A n c]] w (FewPost (n≤100∧∀ r∈l,r.small) w):=by
 have HR:=Kept.mk hr
 have LN:=Kept.mk hr.1
 obtain⟨Q,hQ⟩:∃ Q:Prop,(n≤100∧∀ r∈l,r.small)=Q:=⟨_,rfl⟩
 rw[hQ]
 have HQ:=Kept.mk hQ
 obtain⟨N,hN⟩:∃ N,w.heap.size=N:=⟨_,rfl⟩
 have X:Kept (Blk (w.alloc (.cells #[.int .i64 seen,.slice A n c] 53)) N 53 #[.int .i64 seen,.slice A n c]):=⟨Blk.new_at w _ _ N hN.symm⟩
 have B:Kept (Below w.heap.size w (w.alloc (.cells #[.int .i64 seen,.slice A n c] 53))):=⟨(Below.refl _ _).alloc (Nat.le_refl _) _⟩
 clear hr hQ
 go_enter Tryz.func23,Tryz.ntmps23
 go_upto_region 1 with(fail)
 generalize w.alloc (.cells #[.int .i64 seen,.slice A n c] 53)=w1 at *
 go_wp2
 go_loopw [3,4] (fun s i wr=>∃ k z:Nat,k≤n∧k≤100∧z≤40002 * k∧s=.int .i64 z∧i=.int .i64 k∧Kept (z≤20000→∀ r∈l.take k,r.small)∧Kept (Blk wr N 53 #[.int .i64 seen,.slice A n c])∧Kept (Below w.heap.size w wr)) (fun _ i _=>n - (Go.RowKit.intOf i).toNat)
 case atStart=>exact⟨0,0,by omega,by omega,by omega,rfl,rfl,⟨by simp⟩,X,B⟩
 case round =>
  clear X B
  obtain⟨k,z,hk,hk2,hz,rfl,rfl,HS,X,B⟩:=hrel
  have x1:=X.out.cell 1
  by_cases hkn:k < n
  ·have hkn':(k:Int) < n:=by omega
   by_cases hk3:k < 100
   ·have hk3':(k:Int) < 100:=by omega
    obtain⟨b,o,r,rfl,hx,hcell⟩:=(HR.out.below B.out).at_ hkn
    obtain⟨m1,h1,h2,h3⟩:=min_as (strOfNums r.hash).size
    obtain⟨m2,h4,h5,h6⟩:=min_as (strOfNums r.sec).size
    rw[strOfNums_size] at h3 h6
    have HS2:Kept (z+m1+m2≤20000→∀ r∈l.take (k+1),r.small):=⟨fun h=>all_snoc' hx (HS.out (by omega)) ⟨h3 (by omega),h6 (by omega)⟩⟩
    have y6:=hcell 6 _ rfl;have y7:=hcell 7 _ rfl
    have e1:IntKind.i64.wrap ((z:Int)+m1)=(z:Int)+m1:=by rw[IntKind.wrap_i64];omega
    have e2:IntKind.i64.wrap ((z:Int)+m1+m2)=(z:Int)+m1+m2:=by rw[IntKind.wrap_i64];omega
    clear hcell hx h3 h6
    generalize strOfNums r.hash=S1 at *
    generalize strOfNums r.sec=S2 at *
    go_upto_region 5 with(fail)
    go_quiet (fail)
    generalize hd:wr.drewN nq=wd at *
    have BD:Below wr.heap.size wr wd:=hd▸below_drewN (Below.refl _ _) nq
    replace B:=Kept.mk (B.out.trans (BD.mono B.out.size));replace X:=Kept.mk (X.out.below BD X.out.lt)
    clear BD hd y6 y7 x1
    go_wp2
    go_roundw
    case rel=>exact⟨k+1,z+m1+m2,by omega,by omega,by omega,by go_num,by go_num,HS2,X,B⟩
    case measure=>simp[Go.RowKit.intOf];omega
   ·obtain rfl:k=100:=by omega
    have hk3':¬ ((100:Nat):Int) < 100:=by omega
    have hn2:¬ (n:Int)≤100:=by omega
    go_wp2
    go_ret
    exact⟨_,rfl,by simp,B.out⟩
  ·have hkn':¬ (k:Int) < n:=by omega
   obtain rfl:k=n:=by omega
   have hk3:(k:Int)≤100:=by omega
   by_cases hz2:z≤20000
   ·have hz3:(z:Int)≤20000:=by omega
    have YES:Kept Q:=⟨by
     rw[← HQ.out]
     have:=HS.out hz2
     rw[List.take_of_length_le (Nat.le_of_eq LN.out)] at this
     exact⟨by omega,this⟩⟩
    go_wp2
    go_ret
    exact⟨true,rfl,fun _=>YES.out,B.out⟩
   ·have hz3:¬ (z:Int)≤20000:=by omega
    go_wp2
    go_ret
    exact⟨_,rfl,by simp,B.out⟩
set_option maxRecDepth 100000 in
set_option maxHeartbeats 4000000 in
theorem rsameev_any (A1:Option Addr) (n1 c1:Nat) (l1:List VV) (A2:Option Addr) (n2 c2:Nat) (l2:List VV) (w:World) (h1:Rv w A1 n1 l1) (h2:Rv w A2 n2 l2) (hm:n1≤9223372036854775807) (o1:∀ r∈l1,r.ok) (o2:∀ r∈l2,r.ok) :
  Calls Tryz.prog 11 #[.slice A1 n1 c1,.slice A2 n2 c2] w (SamePost (l1=l2) w):=by
 have H1:=Kept.mk h1;have H2:=Kept.mk h2;have O1:=Kept.mk o1;have O2:=Kept.mk o2
 have L1:=Kept.mk h1.1;have L2:=Kept.mk h2.1
 generalize hP:(l1=l2)=P
 have HP:=Kept.mk hP
 have B:=Kept.mk (Below.refl w.heap.size w)
 clear h1 h2 o1 o2 hP
 by_cases hn:n1=n2
 ·subst hn
  go_enter Tryz.func11,Tryz.ntmps11
  go_wp2
  have TK:Kept (l1.take 0=l2.take 0):=⟨by simp⟩
  go_loopw [5] (fun i wr=>∃ k:Nat,k≤n1∧i=.int .i64 k∧Kept (l1.take k=l2.take k)∧Kept (Below w.heap.size w wr)) (fun i _=>n1 - (Go.RowKit.intOf i).toNat)
  case atStart=>exact⟨0,by omega,rfl,TK,B⟩
  case round =>
   clear TK B
   obtain⟨k,hk,rfl,TK,B⟩:=hrel
   by_cases hkn:k < n1
   ·have hkn':(k:Int) < n1:=by omega
    obtain⟨b1,o1,r1,rfl,hx1,hc1⟩:=(H1.out.below B.out).at_ hkn
    obtain⟨b2,o2,r2,rfl,hx2,hc2⟩:=(H2.out.below B.out).at_ hkn
    have NE:=fun w=>ev_neq r1 r2 (O1.out r1 (List.mem_of_getElem? hx1)) (O2.out r2 (List.mem_of_getElem? hx2)) w
    obtain⟨q,hq⟩:∃ q,sameV r1 r2=q:=⟨_,rfl⟩
    rw[hq] at NE
    have X1:=Kept.mk hx1;have X2:=Kept.mk hx2;have HQ:=Kept.mk hq
    obtain⟨p0,p1,p2,p3,p4,p5,p6,p7,p8⟩:=r1
    obtain⟨q0,q1,q2,q3,q4,q5,q6,q7,q8⟩:=r2
    have u0:=hc1 0 _ rfl;have u1:=hc1 1 _ rfl;have u2:=hc1 2 _ rfl;have u3:=hc1 3 _ rfl;have u4:=hc1 4 _ rfl;have u5:=hc1 5 _ rfl;have u6:=hc1 6 _ rfl;have u7:=hc1 7 _ rfl;have u8:=hc1 8 _ rfl
    have v0:=hc2 0 _ rfl;have v1:=hc2 1 _ rfl;have v2:=hc2 2 _ rfl;have v3:=hc2 3 _ rfl;have v4:=hc2 4 _ rfl;have v5:=hc2 5 _ rfl;have v6:=hc2 6 _ rfl;have v7:=hc2 7 _ rfl;have v8:=hc2 8 _ rfl
    rw[Nat.add_zero] at u0 v0
    dsimp only at u0 v0 u1 v1 u2 v2 u3 v3 u4 v4 u5 v5 u6 v6 u7 v7 u8 v8
    unfold vqv at NE
    dsimp only at NE
    clear hc1 hc2 hx1 hx2 hq
    go_upto_region 6 with(fail)
    go_quiet (fail)
    generalize hd:wr.drewN nq=wd at *
    have BD:Below wr.heap.size wr wd:=hd▸below_drewN (Below.refl _ _) nq
    replace B:=Kept.mk (B.out.trans (BD.mono B.out.size))
    clear BD hd u0 v0 u1 v1 u2 v2 u3 v3 u4 v4 u5 v5 u6 v6 u7 v7 u8 v8
    cases q with
    | true =>
     have TK2:Kept (l1.take (k+1)=l2.take (k+1)):=⟨take_next X1.out X2.out TK.out (sameV_iff.1 HQ.out)⟩
     go_wp2
     go_roundw
     case rel=>exact⟨k+1,by omega,by go_num,TK2,B⟩
     case measure=>simp[Go.RowKit.intOf];omega
    | false =>
     have hne:¬ l1=l2:=fun h=>by
      have a:=X1.out
      rw[h,X2.out] at a
      injection a with a
      have:=sameV_iff.2 a.symm
      rw[HQ.out] at this
      cases this
     have NO:=Kept.mk (fun h:P=>by rw[← HP.out] at h;exact hne h)
     clear hne
     go_wp2
     go_ret
     exact⟨false,rfl,⟨fun h=>(by cases h),fun h=>(NO.out h).elim⟩,B.out⟩
   ·have hkn':¬ (k:Int) < n1:=by omega
    obtain rfl:k=n1:=by omega
    have hall:l1=l2:=by
     have:=TK.out
     rwa [List.take_of_length_le (Nat.le_of_eq H1.out.1),List.take_of_length_le (Nat.le_of_eq H2.out.1)] at this
    have YES:Kept P:=⟨by rw[← HP.out];exact hall⟩
    clear hall
    go_wp2
    go_ret
    exact⟨true,rfl,⟨fun _=>YES.out,fun _=>rfl⟩,B.out⟩
 ·have hn2:((n1:Int) != n2)=true:=by
   rw[bne_iff_ne];omega
  have NO:=Kept.mk (fun h:P=>by
   rw[← HP.out] at h
   exact hn (by rw[← L1.out,← L2.out,h]))
  go_enter Tryz.func11,Tryz.ntmps11
  go_wp2
  go_ret
  exact⟨false,rfl,⟨fun h=>(by cases h),fun h=>(NO.out h).elim⟩,B.out⟩
set_option maxRecDepth 100000 in
set_option maxHeartbeats 4000000 in
theorem rsamea_any (t1 s1:Int) (A1:Option Addr) (n1 c1:Nat) (l1:List PV) (D1:Option Addr) (m1 e1:Nat) (v1:List VV) (t2 s2:Int) (A2:Option Addr) (n2 c2:Nat) (l2:List PV) (D2:Option Addr) (m2 e2:Nat) (v2:List VV) (w:World)
  (h1:Rp w A1 n1 l1) (h2:Rp w A2 n2 l2) (g1:Rv w D1 m1 v1) (g2:Rv w D2 m2 v2) (hm:n1≤9223372036854775807) (hm2:m1≤9223372036854775807) (o1:∀ r∈v1,r.ok) (o2:∀ r∈v2,r.ok) :
  Calls Tryz.prog 18 #[.agg #[.int .i64 t1,.int .i64 s1,.slice A1 n1 c1,.slice D1 m1 e1],.agg #[.int .i64 t2,.int .i64 s2,.slice A2 n2 c2,.slice D2 m2 e2]] w (SamePost ((⟨t1,s1,l1,v1⟩:AV)=⟨t2,s2,l2,v2⟩) w):=by
 have H1:=Kept.mk h1;have H2:=Kept.mk h2;have G1:=Kept.mk g1;have G2:=Kept.mk g2;have O1:=Kept.mk o1;have O2:=Kept.mk o2
 have L1:=Kept.mk h1.1;have L2:=Kept.mk h2.1
 generalize hP:((⟨t1,s1,l1,v1⟩:AV)=⟨t2,s2,l2,v2⟩)=P
 have HP:=Kept.mk hP
 obtain⟨N,hN⟩:∃ N,w.heap.size=N:=⟨_,rfl⟩
 have X:Kept (Blk ((w.alloc (.cells #[.int .i64 t1,.int .i64 s1,.slice A1 n1 c1,.slice D1 m1 e1] 59)).alloc (.cells #[.int .i64 t2,.int .i64 s2,.slice A2 n2 c2,.slice D2 m2 e2] 59)) N 59 #[.int .i64 t1,.int .i64 s1,.slice A1 n1 c1,.slice D1 m1 e1]):=⟨(Blk.new_at w _ _ N hN.symm).alloc _⟩
 have Y:Kept (Blk ((w.alloc (.cells #[.int .i64 t1,.int .i64 s1,.slice A1 n1 c1,.slice D1 m1 e1] 59)).alloc (.cells #[.int .i64 t2,.int .i64 s2,.slice A2 n2 c2,.slice D2 m2 e2] 59)) (N+1) 59 #[.int .i64 t2,.int .i64 s2,.slice A2 n2 c2,.slice D2 m2 e2]):=⟨Blk.new_at _ _ _ (N+1) (by simp[hN])⟩
 have B:Kept (Below w.heap.size w ((w.alloc (.cells #[.int .i64 t1,.int .i64 s1,.slice A1 n1 c1,.slice D1 m1 e1] 59)).alloc (.cells #[.int .i64 t2,.int .i64 s2,.slice A2 n2 c2,.slice D2 m2 e2] 59))):=⟨((Below.refl _ _).alloc (Nat.le_refl _) _).alloc (by simp) _⟩
 clear h1 h2 g1 g2 o1 o2 hP
 go_enter Tryz.func18,Tryz.ntmps18
 go_upto_region 1 with(fail)
 generalize ((w.alloc (.cells #[.int .i64 t1,.int .i64 s1,.slice A1 n1 c1,.slice D1 m1 e1] 59)).alloc (.cells #[.int .i64 t2,.int .i64 s2,.slice A2 n2 c2,.slice D2 m2 e2] 59))=w1 at *
 have x0:=X.out.cell 0;have x1:=X.out.cell 1;have x2:=X.out.cell 2;have y0:=Y.out.cell 0;have y1:=Y.out.cell 1;have y2:=Y.out.cell 2
 by_cases ht:t1=t2
 ·subst ht
  by_cases hs:s1=s2
  ·subst hs
   by_cases hn:n1=n2
   ·subst hn
    go_wp2
    clear x0 x1 x2 y0 y1 y2
    have TK:Kept (l1.take 0=l2.take 0):=⟨by simp⟩
    go_loopw [5] (fun i wr=>∃ k:Nat,k≤n1∧i=.int .i64 k∧Kept (l1.take k=l2.take k)∧Kept (Blk wr N 59 #[.int .i64 t1,.int .i64 s1,.slice A1 n1 c1,.slice D1 m1 e1])∧Kept (Blk wr (N+1) 59 #[.int .i64 t1,.int .i64 s1,.slice A2 n1 c2,.slice D2 m2 e2])∧Kept (Below w.heap.size w wr)) (fun i _=>n1 - (Go.RowKit.intOf i).toNat)
    case atStart=>exact⟨0,by omega,rfl,TK,X,Y,B⟩
    case round =>
     clear TK X Y B
     obtain⟨k,hk,rfl,TK,X,Y,B⟩:=hrel
     have x2:=X.out.cell 2;have x3:=X.out.cell 3
     have y2:=Y.out.cell 2;have y3:=Y.out.cell 3
     by_cases hkn:k < n1
     ·have hkn':(k:Int) < n1:=by omega
      obtain⟨b1,o1,r1,rfl,hx1,hc1⟩:=(H1.out.below B.out).at_ hkn
      obtain⟨b2,o2,r2,rfl,hx2,hc2⟩:=(H2.out.below B.out).at_ hkn
      have NE:=fun w=>rep_neq r1 r2 w
      obtain⟨q,hq⟩:∃ q,sameP r1 r2=q:=⟨_,rfl⟩
      rw[hq] at NE
      have X1:=Kept.mk hx1;have X2:=Kept.mk hx2;have HQ:=Kept.mk hq
      obtain⟨p0,p1⟩:=r1
      obtain⟨q0,q1⟩:=r2
      have u0:=hc1 0 _ rfl;have u1:=hc1 1 _ rfl
      have v0:=hc2 0 _ rfl;have v1:=hc2 1 _ rfl
      rw[Nat.add_zero] at u0 v0
      dsimp only at u0 v0 u1 v1
      unfold pqv at NE
      dsimp only at NE
      clear hc1 hc2 hx1 hx2 hq
      go_upto_region 6 with(fail)
      go_quiet (fail)
      generalize hd:wr.drewN nq=wd at *
      have BD:Below wr.heap.size wr wd:=hd▸below_drewN (Below.refl _ _) nq
      replace B:=Kept.mk (B.out.trans (BD.mono B.out.size))
      replace X:=Kept.mk (X.out.below BD X.out.lt)
      replace Y:=Kept.mk (Y.out.below BD Y.out.lt)
      clear BD hd u0 v0 u1 v1
      cases q with
      | true =>
       have TK2:Kept (l1.take (k+1)=l2.take (k+1)):=⟨take_next X1.out X2.out TK.out (sameP_iff.1 HQ.out)⟩
       go_wp2
       go_roundw
       case rel=>exact⟨k+1,by omega,by go_num,TK2,X,Y,B⟩
       case measure=>simp[Go.RowKit.intOf];omega
      | false =>
       have hne:¬ l1=l2:=fun h=>by
        have a:=X1.out
        rw[h,X2.out] at a
        injection a with a
        have:=sameP_iff.2 a.symm
        rw[HQ.out] at this
        cases this
       have NO:=Kept.mk (fun h:P=>by rw[← HP.out] at h;exact hne (by injection h))
       clear hne
       go_wp2
       go_ret
       exact⟨false,rfl,⟨fun h=>(by cases h),fun h=>(NO.out h).elim⟩,B.out⟩
     ·have hkn':¬ (k:Int) < n1:=by omega
      obtain rfl:k=n1:=by omega
      have hall:l1=l2:=by
       have:=TK.out
       rwa [List.take_of_length_le (Nat.le_of_eq H1.out.1),List.take_of_length_le (Nat.le_of_eq H2.out.1)] at this
      have KS:=rsameev_any D1 m1 e1 v1 D2 m2 e2 v2 wr (G1.out.below B.out) (G2.out.below B.out) hm2 O1.out O2.out
      have HA:=Kept.mk hall
      unfold SamePost at KS
      have KS2:=Kept.mk KS
      clear hall KS
      go_wp2_with fail
      refine KS2.out.mono ?_
      rintro e w9 ⟨q,rfl,hq,b9⟩
      replace B:=Kept.mk (B.out.trans (b9.mono B.out.size))
      have HQ:Kept (q=true ↔ P):=⟨by rw[← HP.out,hq,HA.out];exact⟨fun h=>by rw[h],fun h=>by injection h⟩⟩
      clear hq b9 KS2
      go_wp2
      go_ret
      exact⟨q,rfl,HQ.out,B.out⟩
   ·have hn2:((n1:Int) != n2)=true:=by
     rw[bne_iff_ne];omega
    have NO:=Kept.mk (fun h:P=>by
     rw[← HP.out] at h
     have e:l1=l2:=by injection h
     exact hn (by rw[← L1.out,← L2.out,e]))
    go_wp2
    go_ret
    exact⟨false,rfl,⟨fun h=>(by cases h),fun h=>(NO.out h).elim⟩,B.out⟩
  ·have hs2:(s1 != s2)=true:=by
    rw[bne_iff_ne];exact hs
   have NO:=Kept.mk (fun h:P=>by
    rw[← HP.out] at h
    exact hs (by injection h))
   go_wp2
   go_ret
   exact⟨false,rfl,⟨fun h=>(by cases h),fun h=>(NO.out h).elim⟩,B.out⟩
 ·have ht2:(t1 != t2)=true:=by
   rw[bne_iff_ne];exact ht
  have NO:=Kept.mk (fun h:P=>by
   rw[← HP.out] at h
   exact ht (by injection h))
  go_wp2
  go_ret
  exact⟨false,rfl,⟨fun h=>(by cases h),fun h=>(NO.out h).elim⟩,B.out⟩
end Go.Proofs.YtchcgoabogcabaaGreat.Req
namespace Go.Proofs.YtchcgoabogcabaaGreat.Ledger
open Go.RowKit Go.Proofs.YtchcgoabogcabaaGreat.Num Go.Proofs.YtchcgoabogcabaaGreat.Sha Go.Proofs.YtchcgoabogcabaaGreat.Purse Go.Proofs.YtchcgoabogcabaaGreat.Escrow Go.Proofs.YtchcgoabogcabaaGreat.Wire Go.Proofs.YtchcgoabogcabaaGreat.Req
theorem rk_begin {w:World}{G:List Nat}{q:Nat}{s:PS}(h:Pr w G q s):Rk (w.alloc (.cells #[.pointer (some ⟨q,0,none⟩),.slice none 0 0] 114)) (w.heap.size :: ([]++G)) w.heap.size q ⟨s,[]⟩ :=
 ⟨G,.slice none 0 0,⟨h.1,h.2.below ((Below.refl _ _).alloc (Nat.le_refl _) _)⟩,Blk.new _ _ _,El.nil _,fun g hg=>by simp[Value.ownBlock] at hg,fun hm=>Nat.lt_irrefl _ (h.2.lts _ hm),rfl⟩
def CheckPost (n:Nat) (X:Nat→List Int) (cap:Int) (w:World) (e:Ending) (w':World):Prop:=∃ k:Int,e=.returned (.int .i64 k)∧(confOk n X cap∧k=0∨¬ confOk n X cap∧k=1)∧Below w.heap.size w w'
def NewDPost (w:World) (n:Nat) (X:Nat→List Int) (cap:Int) (e:Ending) (w':World):Prop :=
 (¬ confOk n X cap∧e=.returned (.tuple #[.pointer none,.int .i64 1])∧Below w.heap.size w w')∨(confOk n X cap∧∃ x F,e=.returned (.tuple #[.pointer (some ⟨x,0,none⟩),.int .i64 0])∧Dk w' F x (newL n X cap)∧Below w.heap.size w w'∧∀ k∈F,w.heap.size≤k)
section
variable {w : World} {x b q : Nat} {F F0 : List Nat} {st d d1 d2 : Value} {s : LS}
set_option maxRecDepth 100000 in
set_option maxHeartbeats 1000000 in
theorem rcheck_any {A:Option Addr}{n c:Nat}{X:Nat→List Int}(cap:Int) (hr:Rwi w A n X):Calls Tryz.prog 35 #[.agg #[.slice A n c,.int .i64 cap]] w (CheckPost n X cap w):=by
 obtain⟨N,hN⟩:∃ N,w.heap.size=N:=⟨_,rfl⟩
 have b0:Below w.heap.size w (w.alloc (.cells #[.slice A n c,.int .i64 cap] 24)):=(Below.refl _ _).alloc (Nat.le_refl _) _
 have X1:Kept (Blk (w.alloc (.cells #[.slice A n c,.int .i64 cap] 24)) N 24 #[.slice A n c,.int .i64 cap]):=⟨Blk.new_at w _ _ N hN.symm⟩
 have KN:=Kept.mk (rnew_any A n c X _ (hr.below b0))
 have B:=Kept.mk b0
 unfold NewPost at KN
 clear hr b0
 go_enter Tryz.func35,Tryz.ntmps35
 go_upto_region 1 with(fail)
 generalize w.alloc (.cells #[.slice A n c,.int .i64 cap] 24)=w1 at *
 have x0:=X1.out.cell 0
 go_wp2_with fail
 refine KN.out.mono ?_
 rintro e w2 (⟨hn,rfl,bb⟩|⟨hn,p,G,rfl,hp,fp⟩)
 ·replace B:=Kept.mk (B.out.trans (bb.mono B.out.size))
  have HN:=Kept.mk (fun h:confOk n X cap=>hn h.1)
  clear KN bb x0 hn
  go_wp2
  go_ret
  exact⟨1,rfl,.inr ⟨HN.out,rfl⟩,B.out⟩
 ·have bb:=fp.below (B:=w1.heap.size) (by simp) (Nat.le_refl _)
  replace X1:=Kept.mk (X1.out.below bb X1.out.lt)
  replace B:=Kept.mk (B.out.trans (bb.mono B.out.size))
  have HN:=Kept.mk hn
  clear KN bb x0 hn hp fp
  have x1:=X1.out.cell 1
  by_cases h1:cap < 1
  ·go_wp2
   go_ret
   exact⟨1,rfl,.inr ⟨fun h=>by have:=h.2.1;omega,rfl⟩,B.out⟩
  ·by_cases h2:400 < cap
   ·go_wp2
    go_ret
    exact⟨1,rfl,.inr ⟨fun h=>by have:=h.2.2;omega,rfl⟩,B.out⟩
   ·go_wp2
    go_ret
    exact⟨0,rfl,.inl ⟨⟨HN.out,by omega,by omega⟩,rfl⟩,B.out⟩
set_option maxRecDepth 100000 in
set_option maxHeartbeats 1000000 in
theorem rnewl_any {A:Option Addr}{n c:Nat}{X:Nat→List Int}(cap:Int) (hr:Rwi w A n X):Calls Tryz.prog 14 #[.agg #[.slice A n c,.int .i64 cap]] w (NewDPost w n X cap):=by
 obtain⟨N,hN⟩:∃ N,w.heap.size=N:=⟨_,rfl⟩
 have b0:Below w.heap.size w (w.alloc (.cells #[.slice A n c,.int .i64 cap] 24)):=(Below.refl _ _).alloc (Nat.le_refl _) _
 have X1:Kept (Blk (w.alloc (.cells #[.slice A n c,.int .i64 cap] 24)) N 24 #[.slice A n c,.int .i64 cap]):=⟨Blk.new_at w _ _ N hN.symm⟩
 have KN:=Kept.mk (rcheck_any (c:=c) cap (hr.below b0))
 have B:=Kept.mk b0
 have HR:Kept (Rwi (w.alloc (.cells #[.slice A n c,.int .i64 cap] 24)) A n X):=⟨hr.below b0⟩
 unfold CheckPost at KN
 clear hr b0
 go_enter Tryz.func14,Tryz.ntmps14
 go_upto_region 1 with(fail)
 generalize w.alloc (.cells #[.slice A n c,.int .i64 cap] 24)=w1 at *
 have x0:=X1.out.cell 0;have x1:=X1.out.cell 1
 go_wp2_with fail
 refine KN.out.mono ?_
 rintro e w2 ⟨k,rfl,(⟨hn,rfl⟩|⟨hn,rfl⟩),bb⟩
 rotate_left
 ·replace B:=Kept.mk (B.out.trans (bb.mono B.out.size))
  have HN:=Kept.mk hn
  clear KN bb x0 x1 hn
  go_wp2
  go_ret2
  exact .inl ⟨HN.out,rfl,B.out⟩
 ·replace X1:=Kept.mk (X1.out.below bb X1.out.lt)
  replace HR:=Kept.mk (HR.out.below bb)
  replace B:=Kept.mk (B.out.trans (bb.mono B.out.size))
  have HN:=Kept.mk hn
  clear KN bb x0 x1 hn
  have x0:=X1.out.cell 0;have x1:=X1.out.cell 1
  have KN:=Kept.mk (rnew_any A n c X _ HR.out)
  unfold NewPost at KN
  go_wp2_with fail
  refine KN.out.mono ?_
  rintro e w3 (⟨hn,rfl,bb⟩|⟨hn,p,G,rfl,hp,fp⟩)
  ·exact absurd HN.out.1 hn
  ·have bb:=fp.below (B:=w2.heap.size) (by simp) (Nat.le_refl _)
   have HG:Kept (∀ g∈G,w.heap.size≤g):=⟨fun g hg=>Nat.le_trans B.out.size ((fp.2 g hg).resolve_left (by simp))⟩
   replace X1:=Kept.mk (X1.out.below bb X1.out.lt)
   replace B:=Kept.mk (B.out.trans (bb.mono B.out.size))
   have B0:=Kept.mk B.out
   have RB:=Kept.mk (rk_begin hp)
   have b4:Below w3.heap.size w3 (w3.alloc (.cells #[.pointer (some ⟨p,0,none⟩),.slice none 0 0] 114)):=(Below.refl _ _).alloc (Nat.le_refl _) _
   clear x0 x1
   have x0:=X1.out.cell 0;have x1:=X1.out.cell 1
   replace B:=Kept.mk (B.out.trans (b4.mono B.out.size))
   have L:Kept (∀ w5,w5=(w3.alloc (.cells #[.pointer (some ⟨p,0,none⟩),.slice none 0 0] 114)).alloc (.cells #[.slice A n c,.int .i64 cap,.pointer (some ⟨w3.heap.size,0,none⟩),.int .i64 0,.slice none 0 0,.slice none 0 0,.slice none 0 0] 43)→∃ x F,w3.heap.size+1=x∧Dk w5 F x (newL n X cap)∧Below w.heap.size w w5∧∀ k∈F,w.heap.size≤k):=⟨fun w5 h5=>by
    have b5:Below (w3.alloc (.cells #[.pointer (some ⟨p,0,none⟩),.slice none 0 0] 114)).heap.size (w3.alloc (.cells #[.pointer (some ⟨p,0,none⟩),.slice none 0 0] 114)) ((w3.alloc (.cells #[.pointer (some ⟨p,0,none⟩),.slice none 0 0] 114)).alloc (.cells #[.slice A n c,.int .i64 cap,.pointer (some ⟨w3.heap.size,0,none⟩),.int .i64 0,.slice none 0 0,.slice none 0 0,.slice none 0 0] 43)):=(Below.refl _ _).alloc (Nat.le_refl _) _
    have B5:=B.out.trans (b5.mono B.out.size)
    have hs:(w3.alloc (.cells #[.pointer (some ⟨p,0,none⟩),.slice none 0 0] 114)).heap.size=w3.heap.size+1:=by simp
    have hw:w.heap.size≤w3.heap.size:=by have:=B0.out.size;omega
    subst h5
    refine⟨w3.heap.size+1,_,rfl,⟨_,w3.heap.size,p,.slice A n c,.slice none 0 0,.slice none 0 0,.slice none 0 0,⟨RB.out.below b5,?_,Ow.nil _,Ow.nil _,Ow.nil _,fun hm=>?_,fun g hg=>by simp[own3,Value.ownBlock] at hg,fun g hg=>by simp[own3,Value.ownBlock] at hg,fun g hg=>by simp[Value.ownBlock] at hg,fun g hg=>by simp[Value.ownBlock] at hg,fun g hg=>by simp[Value.ownBlock] at hg⟩,rfl⟩,B5,fun k hk=>?_⟩
    ·rw[← hs];exact Blk.new _ _ _
    ·have:=RB.out.lts _ hm
     omega
    ·rcases df_mem.1 hk with e|e|e
     ·omega
     ·simp only[List.nil_append,List.mem_cons] at e
      rcases e with e|e
      ·omega
      ·exact HG.out k e
     ·simp[own3,Value.ownBlock] at e⟩
   clear KN bb hp fp hn b4 HR B RB X1 HG B0
   go_wp2
   go_ret2
   obtain⟨x,F,rfl,h1,h2,h3⟩:=L.out _ rfl
   exact .inr ⟨HN.out,_,F,rfl,h1,h2,h3⟩
end
end Go.Proofs.YtchcgoabogcabaaGreat.Ledger
namespace Go.Proofs.YtchcgoabogcabaaGreat.Req
open Go.RowKit Go.Proofs.YtchcgoabogcabaaGreat.Sha Go.Proofs.YtchcgoabogcabaaGreat.Wire
theorem fitsI {n:Int}{s:Nat}(h1:1≤s) (h8:s≤8) (h0:0≤n) (hm:n≤4611686018427387904) (hn:n < 256 ^ s):fits n s=true:=by
 unfold fits
 apply decide_eq_true
 exact⟨by omega,by omega,h0,hm,by rw[Int.toNat_natCast];exact hn⟩
theorem rn1 {n:Int}(xs:List Int) (h:B8 n):rencNum (0,xs) n 1=(0,xs++be n.toNat 1):=by
 unfold rencNum
 have hf:fits n 1=true:=fitsI (s:=1) (by omega) (by omega) h.1 (by have:=h.2;omega) (by have:=h.2;omega)
 rw[if_pos hf]
 rfl
theorem rn2 {n:Int}(xs:List Int) (h:I16 n):rencNum (0,xs) n 2=(0,xs++be n.toNat 2):=by
 unfold rencNum
 have hf:fits n 2=true:=fitsI (s:=2) (by omega) (by omega) h.1 (by have:=h.2;omega) (by have:=h.2;omega)
 rw[if_pos hf]
 rfl
theorem rn8 {n:Int}(xs:List Int) (h:Amt n):rencNum (0,xs) n 8=(0,xs++be n.toNat 8):=by
 unfold rencNum
 have hf:fits n 8=true:=fitsI (s:=8) (by omega) (by omega) h.1 h.2 (by have:=h.2;omega)
 rw[if_pos hf]
 rfl
theorem notin_step {F F':List Nat}{w w':World}{N:Nat}(fp:Fp F F' w w') (h:N∉F) (hlt:N < w.heap.size):N∉F':=fun hm=>by
 rcases fp.2 N hm with h1|h1
 ·exact h h1
 ·omega
set_option maxRecDepth 100000 in
set_option maxHeartbeats 4000000 in
theorem rputv_any {w:World}{F:List Nat}{e:Nat}{xs:List Int}{r:VV}(h:En 122 w F e (0,xs)) (hm:MayV r) (hr:r.ok) (hl:xs.length≤100000000):Calls Tryz.prog 42 #[.pointer (some ⟨e,0,none⟩),vqv r] w fun x w'=>x=.returned (.tuple #[])∧∃ F',En 122 w' F' e (0,xs++putV r)∧Fp F F' w w':=by
 obtain⟨kind,src,dst,asset,amount,id,due,hash,sec⟩:=r
 obtain⟨hb1,hb2⟩:=hr
 unfold vqv
 dsimp only at hb1 hb2 ⊢
 have hN:w.heap.size∉F:=fun hm=>by have:=h.lt _ hm;omega
 have bz:∀ o,Below w.heap.size w (w.alloc o):=fun o=>(Below.refl _ _).alloc (Nat.le_refl _) o
 have NF:=Kept.mk hN
 have HE0:=Kept.mk (fun o=>h.below (bz o))
 have FP0:Kept (∀ o,Fp F F w (w.alloc o)):=⟨fun o=>⟨barOf (bz o) F,fun _ hk=>.inl hk⟩⟩
 have X0:=Kept.mk (fun cs=>Blk.new w 71 cs)
 obtain⟨N,hN2⟩:∃ N,w.heap.size=N:=⟨_,rfl⟩
 rw[hN2] at NF X0
 clear hN bz h
 rcases hm with⟨h1,hs,h2,h3,h4,h5,h6,h7,h8⟩|⟨h1,hs,h2,h3,h4,h5,h6,h7,h8⟩|⟨h1,hs,h2,h3,h4,h5,h6,h7,h8⟩|⟨h1,hs,h2,h3,h4,h5,h6,h7,h8⟩<;>dsimp only at h1 hs h2 h3 h4 h5 h6 h7 h8
 ·subst h1 h5 h6 h7 h8
  have HE:=Kept.mk (HE0.out (.cells #[.int .i64 1,.int .i64 src,.int .i64 dst,.int .i64 asset,.int .i64 amount,.int .i64 0,.int .i64 0,.string (strOfNums []),.string (strOfNums [])] 71));have FP:=Kept.mk (FP0.out (.cells #[.int .i64 1,.int .i64 src,.int .i64 dst,.int .i64 asset,.int .i64 amount,.int .i64 0,.int .i64 0,.string (strOfNums []),.string (strOfNums [])] 71));have X:=Kept.mk (X0.out #[.int .i64 1,.int .i64 src,.int .i64 dst,.int .i64 asset,.int .i64 amount,.int .i64 0,.int .i64 0,.string (strOfNums []),.string (strOfNums [])])
  go_enter Tryz.func42,Tryz.ntmps42
  go_upto_region 1 with(fail)
  generalize w.alloc (.cells #[.int .i64 1,.int .i64 src,.int .i64 dst,.int .i64 asset,.int .i64 amount,.int .i64 0,.int .i64 0,.string (strOfNums []),.string (strOfNums [])] 71)=w0 at *
  clear HE0 FP0 X0
  have x0:=X.out.cell 0
  have KC:=rnum_any w0 F e 1 1 (0,xs) HE.out (by simp only;omega)
  rw[rn1 _ (show B8 1 from⟨by omega,by omega⟩)] at KC
  go_wp2_with fail
  refine KC.mono ?_
  rintro x w1 ⟨rfl,F1,he,fp⟩
  have hlt:=X.out.lt
  replace X:=Kept.mk (X.out.bar fp.1 NF.out);replace NF:=Kept.mk (notin_step fp NF.out hlt);replace FP:=Kept.mk (FP.out.trans fp);replace HE:=Kept.mk he
  clear he fp KC hlt x0
  have x0:=X.out.cell 0;have x1:=X.out.cell 1
  have KC:=rnum_any w1 F1 e src 1 (0,(xs++be (1:Int).toNat 1)) HE.out (by simp only[List.length_append,be_len];omega)
  rw[rn1 _ hs] at KC
  go_wp2_with fail
  refine KC.mono ?_
  rintro x w2 ⟨rfl,F2,he,fp⟩
  have hlt:=X.out.lt
  replace X:=Kept.mk (X.out.bar fp.1 NF.out);replace NF:=Kept.mk (notin_step fp NF.out hlt);replace FP:=Kept.mk (FP.out.trans fp);replace HE:=Kept.mk he
  clear he fp KC hlt x0 x1
  have x0:=X.out.cell 0;have x2:=X.out.cell 2
  have KC:=rnum_any w2 F2 e dst 1 (0,((xs++be (1:Int).toNat 1)++be (src:Int).toNat 1)) HE.out (by simp only[List.length_append,be_len];omega)
  rw[rn1 _ h2] at KC
  go_wp2_with fail
  refine KC.mono ?_
  rintro x w3 ⟨rfl,F3,he,fp⟩
  have hlt:=X.out.lt
  replace X:=Kept.mk (X.out.bar fp.1 NF.out);replace NF:=Kept.mk (notin_step fp NF.out hlt);replace FP:=Kept.mk (FP.out.trans fp);replace HE:=Kept.mk he
  clear he fp KC hlt x0 x2
  have x0:=X.out.cell 0;have x3:=X.out.cell 3
  have KC:=rnum_any w3 F3 e asset 1 (0,(((xs++be (1:Int).toNat 1)++be (src:Int).toNat 1)++be (dst:Int).toNat 1)) HE.out (by simp only[List.length_append,be_len];omega)
  rw[rn1 _ h3] at KC
  go_wp2_with fail
  refine KC.mono ?_
  rintro x w4 ⟨rfl,F4,he,fp⟩
  have hlt:=X.out.lt
  replace X:=Kept.mk (X.out.bar fp.1 NF.out);replace NF:=Kept.mk (notin_step fp NF.out hlt);replace FP:=Kept.mk (FP.out.trans fp);replace HE:=Kept.mk he
  clear he fp KC hlt x0 x3
  have x0:=X.out.cell 0;have x4:=X.out.cell 4
  have KC:=rnum_any w4 F4 e amount 8 (0,((((xs++be (1:Int).toNat 1)++be (src:Int).toNat 1)++be (dst:Int).toNat 1)++be (asset:Int).toNat 1)) HE.out (by simp only[List.length_append,be_len];omega)
  rw[rn8 _ h4] at KC
  go_wp2_with fail
  refine KC.mono ?_
  rintro x w5 ⟨rfl,F5,he,fp⟩
  have hlt:=X.out.lt
  replace X:=Kept.mk (X.out.bar fp.1 NF.out);replace NF:=Kept.mk (notin_step fp NF.out hlt);replace FP:=Kept.mk (FP.out.trans fp);replace HE:=Kept.mk he
  clear he fp KC hlt x0 x4
  have x0:=X.out.cell 0;have x8:=X.out.cell 8
  obtain⟨v6,c6,hcv,r2,b2⟩:=to_bytes w5 [] (by intro x hx;simp at hx)
  have KC:=rraw_any v6 F5 e (some ⟨w5.heap.size,0,none⟩) 0 c6 [] (0,(((((xs++be (1:Int).toNat 1)++be (src:Int).toNat 1)++be (dst:Int).toNat 1)++be (asset:Int).toNat 1)++be (amount:Int).toNat 8)) (HE.out.below b2) r2 (by simp only[List.length_append,be_len];omega)
  replace FP:=Kept.mk (FP.out.trans (F'':=F5) ⟨barOf b2 _,fun _ hk=>.inl hk⟩);replace X:=Kept.mk (X.out.below b2 X.out.lt)
  clear b2 r2
  go_wp2_with fail
  refine KC.mono ?_
  clear hcv
  rintro x w6 ⟨rfl,F6,he,fp⟩
  have hlt:=X.out.lt
  replace X:=Kept.mk (X.out.bar fp.1 NF.out);replace NF:=Kept.mk (notin_step fp NF.out hlt);replace FP:=Kept.mk (FP.out.trans fp);replace HE:=Kept.mk he
  clear he fp KC hlt x0 x8
  go_wp2
  go_end0
  refine⟨rfl,_,?_,FP.out⟩
  have hp:xs++putV ⟨1,src,dst,asset,amount,0,0,[],[]⟩=((((((xs++be (1:Int).toNat 1)++be (src:Int).toNat 1)++be (dst:Int).toNat 1)++be (asset:Int).toNat 1)++be (amount:Int).toNat 8)++[]):=by simp[putV,List.append_assoc]
  rw[hp];exact HE.out
 ·subst h1 h8
  have HE:=Kept.mk (HE0.out (.cells #[.int .i64 2,.int .i64 src,.int .i64 dst,.int .i64 asset,.int .i64 amount,.int .i64 id,.int .i64 due,.string (strOfNums hash),.string (strOfNums [])] 71));have FP:=Kept.mk (FP0.out (.cells #[.int .i64 2,.int .i64 src,.int .i64 dst,.int .i64 asset,.int .i64 amount,.int .i64 id,.int .i64 due,.string (strOfNums hash),.string (strOfNums [])] 71));have X:=Kept.mk (X0.out #[.int .i64 2,.int .i64 src,.int .i64 dst,.int .i64 asset,.int .i64 amount,.int .i64 id,.int .i64 due,.string (strOfNums hash),.string (strOfNums [])])
  go_enter Tryz.func42,Tryz.ntmps42
  go_upto_region 1 with(fail)
  generalize w.alloc (.cells #[.int .i64 2,.int .i64 src,.int .i64 dst,.int .i64 asset,.int .i64 amount,.int .i64 id,.int .i64 due,.string (strOfNums hash),.string (strOfNums [])] 71)=w0 at *
  clear HE0 FP0 X0
  have x0:=X.out.cell 0
  have KC:=rnum_any w0 F e 2 1 (0,xs) HE.out (by simp only;omega)
  rw[rn1 _ (show B8 2 from⟨by omega,by omega⟩)] at KC
  go_wp2_with fail
  refine KC.mono ?_
  rintro x w1 ⟨rfl,F1,he,fp⟩
  have hlt:=X.out.lt
  replace X:=Kept.mk (X.out.bar fp.1 NF.out);replace NF:=Kept.mk (notin_step fp NF.out hlt);replace FP:=Kept.mk (FP.out.trans fp);replace HE:=Kept.mk he
  clear he fp KC hlt x0
  have x0:=X.out.cell 0;have x1:=X.out.cell 1
  have KC:=rnum_any w1 F1 e src 1 (0,(xs++be (2:Int).toNat 1)) HE.out (by simp only[List.length_append,be_len];omega)
  rw[rn1 _ hs] at KC
  go_wp2_with fail
  refine KC.mono ?_
  rintro x w2 ⟨rfl,F2,he,fp⟩
  have hlt:=X.out.lt
  replace X:=Kept.mk (X.out.bar fp.1 NF.out);replace NF:=Kept.mk (notin_step fp NF.out hlt);replace FP:=Kept.mk (FP.out.trans fp);replace HE:=Kept.mk he
  clear he fp KC hlt x0 x1
  have x0:=X.out.cell 0;have x2:=X.out.cell 2
  have KC:=rnum_any w2 F2 e dst 1 (0,((xs++be (2:Int).toNat 1)++be (src:Int).toNat 1)) HE.out (by simp only[List.length_append,be_len];omega)
  rw[rn1 _ h2] at KC
  go_wp2_with fail
  refine KC.mono ?_
  rintro x w3 ⟨rfl,F3,he,fp⟩
  have hlt:=X.out.lt
  replace X:=Kept.mk (X.out.bar fp.1 NF.out);replace NF:=Kept.mk (notin_step fp NF.out hlt);replace FP:=Kept.mk (FP.out.trans fp);replace HE:=Kept.mk he
  clear he fp KC hlt x0 x2
  have x0:=X.out.cell 0;have x3:=X.out.cell 3
  have KC:=rnum_any w3 F3 e asset 1 (0,(((xs++be (2:Int).toNat 1)++be (src:Int).toNat 1)++be (dst:Int).toNat 1)) HE.out (by simp only[List.length_append,be_len];omega)
  rw[rn1 _ h3] at KC
  go_wp2_with fail
  refine KC.mono ?_
  rintro x w4 ⟨rfl,F4,he,fp⟩
  have hlt:=X.out.lt
  replace X:=Kept.mk (X.out.bar fp.1 NF.out);replace NF:=Kept.mk (notin_step fp NF.out hlt);replace FP:=Kept.mk (FP.out.trans fp);replace HE:=Kept.mk he
  clear he fp KC hlt x0 x3
  have x0:=X.out.cell 0;have x4:=X.out.cell 4
  have KC:=rnum_any w4 F4 e amount 8 (0,((((xs++be (2:Int).toNat 1)++be (src:Int).toNat 1)++be (dst:Int).toNat 1)++be (asset:Int).toNat 1)) HE.out (by simp only[List.length_append,be_len];omega)
  rw[rn8 _ h4] at KC
  go_wp2_with fail
  refine KC.mono ?_
  rintro x w5 ⟨rfl,F5,he,fp⟩
  have hlt:=X.out.lt
  replace X:=Kept.mk (X.out.bar fp.1 NF.out);replace NF:=Kept.mk (notin_step fp NF.out hlt);replace FP:=Kept.mk (FP.out.trans fp);replace HE:=Kept.mk he
  clear he fp KC hlt x0 x4
  have x0:=X.out.cell 0;have x5:=X.out.cell 5
  have KC:=rnum_any w5 F5 e id 2 (0,(((((xs++be (2:Int).toNat 1)++be (src:Int).toNat 1)++be (dst:Int).toNat 1)++be (asset:Int).toNat 1)++be (amount:Int).toNat 8)) HE.out (by simp only[List.length_append,be_len];omega)
  rw[rn2 _ h5] at KC
  go_wp2_with fail
  refine KC.mono ?_
  rintro x w6 ⟨rfl,F6,he,fp⟩
  have hlt:=X.out.lt
  replace X:=Kept.mk (X.out.bar fp.1 NF.out);replace NF:=Kept.mk (notin_step fp NF.out hlt);replace FP:=Kept.mk (FP.out.trans fp);replace HE:=Kept.mk he
  clear he fp KC hlt x0 x5
  have x0:=X.out.cell 0;have x7:=X.out.cell 7
  obtain⟨v7,c7,hcv,r2,b2⟩:=to_bytes w6 hash hb1
  rw[h7] at hcv r2
  have KC:=rraw_any v7 F6 e (some ⟨w6.heap.size,0,none⟩) 32 c7 hash (0,((((((xs++be (2:Int).toNat 1)++be (src:Int).toNat 1)++be (dst:Int).toNat 1)++be (asset:Int).toNat 1)++be (amount:Int).toNat 8)++be (id:Int).toNat 2)) (HE.out.below b2) r2 (by simp only[List.length_append,be_len];omega)
  replace FP:=Kept.mk (FP.out.trans (F'':=F6) ⟨barOf b2 _,fun _ hk=>.inl hk⟩);replace X:=Kept.mk (X.out.below b2 X.out.lt)
  clear b2 r2
  go_wp2_with fail
  refine KC.mono ?_
  clear hcv
  rintro x w7 ⟨rfl,F7,he,fp⟩
  have hlt:=X.out.lt
  replace X:=Kept.mk (X.out.bar fp.1 NF.out);replace NF:=Kept.mk (notin_step fp NF.out hlt);replace FP:=Kept.mk (FP.out.trans fp);replace HE:=Kept.mk he
  clear he fp KC hlt x0 x7
  have x0:=X.out.cell 0;have x6:=X.out.cell 6
  have KC:=rnum_any w7 F7 e due 8 (0,(((((((xs++be (2:Int).toNat 1)++be (src:Int).toNat 1)++be (dst:Int).toNat 1)++be (asset:Int).toNat 1)++be (amount:Int).toNat 8)++be (id:Int).toNat 2)++hash)) HE.out (by simp only[List.length_append,be_len,h7];omega)
  rw[rn8 _ h6.amt] at KC
  go_wp2_with fail
  refine KC.mono ?_
  rintro x w8 ⟨rfl,F8,he,fp⟩
  have hlt:=X.out.lt
  replace X:=Kept.mk (X.out.bar fp.1 NF.out);replace NF:=Kept.mk (notin_step fp NF.out hlt);replace FP:=Kept.mk (FP.out.trans fp);replace HE:=Kept.mk he
  clear he fp KC hlt x0 x6
  have x0:=X.out.cell 0;have x8:=X.out.cell 8
  obtain⟨v9,c9,hcv,r2,b2⟩:=to_bytes w8 [] (by intro x hx;simp at hx)
  have KC:=rraw_any v9 F8 e (some ⟨w8.heap.size,0,none⟩) 0 c9 [] (0,((((((((xs++be (2:Int).toNat 1)++be (src:Int).toNat 1)++be (dst:Int).toNat 1)++be (asset:Int).toNat 1)++be (amount:Int).toNat 8)++be (id:Int).toNat 2)++hash)++be (due:Int).toNat 8)) (HE.out.below b2) r2 (by simp only[List.length_append,be_len,h7];omega)
  replace FP:=Kept.mk (FP.out.trans (F'':=F8) ⟨barOf b2 _,fun _ hk=>.inl hk⟩);replace X:=Kept.mk (X.out.below b2 X.out.lt)
  clear b2 r2
  go_wp2_with fail
  refine KC.mono ?_
  clear hcv
  rintro x w9 ⟨rfl,F9,he,fp⟩
  have hlt:=X.out.lt
  replace X:=Kept.mk (X.out.bar fp.1 NF.out);replace NF:=Kept.mk (notin_step fp NF.out hlt);replace FP:=Kept.mk (FP.out.trans fp);replace HE:=Kept.mk he
  clear he fp KC hlt x0 x8
  go_wp2
  go_end0
  refine⟨rfl,_,?_,FP.out⟩
  have hp:xs++putV ⟨2,src,dst,asset,amount,id,due,hash,[]⟩=(((((((((xs++be (2:Int).toNat 1)++be (src:Int).toNat 1)++be (dst:Int).toNat 1)++be (asset:Int).toNat 1)++be (amount:Int).toNat 8)++be (id:Int).toNat 2)++hash)++be (due:Int).toNat 8)++[]):=by simp[putV,List.append_assoc]
  rw[hp];exact HE.out
 ·subst h1 hs h2 h3 h4 h6 h7
  have HE:=Kept.mk (HE0.out (.cells #[.int .i64 3,.int .i64 0,.int .i64 0,.int .i64 0,.int .i64 0,.int .i64 id,.int .i64 0,.string (strOfNums []),.string (strOfNums sec)] 71));have FP:=Kept.mk (FP0.out (.cells #[.int .i64 3,.int .i64 0,.int .i64 0,.int .i64 0,.int .i64 0,.int .i64 id,.int .i64 0,.string (strOfNums []),.string (strOfNums sec)] 71));have X:=Kept.mk (X0.out #[.int .i64 3,.int .i64 0,.int .i64 0,.int .i64 0,.int .i64 0,.int .i64 id,.int .i64 0,.string (strOfNums []),.string (strOfNums sec)])
  go_enter Tryz.func42,Tryz.ntmps42
  go_upto_region 1 with(fail)
  generalize w.alloc (.cells #[.int .i64 3,.int .i64 0,.int .i64 0,.int .i64 0,.int .i64 0,.int .i64 id,.int .i64 0,.string (strOfNums []),.string (strOfNums sec)] 71)=w0 at *
  clear HE0 FP0 X0
  have x0:=X.out.cell 0
  have KC:=rnum_any w0 F e 3 1 (0,xs) HE.out (by simp only;omega)
  rw[rn1 _ (show B8 3 from⟨by omega,by omega⟩)] at KC
  go_wp2_with fail
  refine KC.mono ?_
  rintro x w1 ⟨rfl,F1,he,fp⟩
  have hlt:=X.out.lt
  replace X:=Kept.mk (X.out.bar fp.1 NF.out);replace NF:=Kept.mk (notin_step fp NF.out hlt);replace FP:=Kept.mk (FP.out.trans fp);replace HE:=Kept.mk he
  clear he fp KC hlt x0
  have x0:=X.out.cell 0;have x5:=X.out.cell 5
  have KC:=rnum_any w1 F1 e id 2 (0,(xs++be (3:Int).toNat 1)) HE.out (by simp only[List.length_append,be_len];omega)
  rw[rn2 _ h5] at KC
  go_wp2_with fail
  refine KC.mono ?_
  rintro x w2 ⟨rfl,F2,he,fp⟩
  have hlt:=X.out.lt
  replace X:=Kept.mk (X.out.bar fp.1 NF.out);replace NF:=Kept.mk (notin_step fp NF.out hlt);replace FP:=Kept.mk (FP.out.trans fp);replace HE:=Kept.mk he
  clear he fp KC hlt x0 x5
  have x0:=X.out.cell 0;have x8:=X.out.cell 8
  obtain⟨v3,c3,hcv,r2,b2⟩:=to_bytes w2 sec hb2
  rw[h8] at hcv r2
  have KC:=rraw_any v3 F2 e (some ⟨w2.heap.size,0,none⟩) 32 c3 sec (0,((xs++be (3:Int).toNat 1)++be (id:Int).toNat 2)) (HE.out.below b2) r2 (by simp only[List.length_append,be_len];omega)
  replace FP:=Kept.mk (FP.out.trans (F'':=F2) ⟨barOf b2 _,fun _ hk=>.inl hk⟩);replace X:=Kept.mk (X.out.below b2 X.out.lt)
  clear b2 r2
  go_wp2_with fail
  refine KC.mono ?_
  clear hcv
  rintro x w3 ⟨rfl,F3,he,fp⟩
  have hlt:=X.out.lt
  replace X:=Kept.mk (X.out.bar fp.1 NF.out);replace NF:=Kept.mk (notin_step fp NF.out hlt);replace FP:=Kept.mk (FP.out.trans fp);replace HE:=Kept.mk he
  clear he fp KC hlt x0 x8
  go_wp2
  go_end0
  refine⟨rfl,_,?_,FP.out⟩
  have hp:xs++putV ⟨3,0,0,0,0,id,0,[],sec⟩=(((xs++be (3:Int).toNat 1)++be (id:Int).toNat 2)++sec):=by simp[putV,List.append_assoc]
  rw[hp];exact HE.out
 ·subst h1 hs h2 h3 h4 h6 h7 h8
  have HE:=Kept.mk (HE0.out (.cells #[.int .i64 4,.int .i64 0,.int .i64 0,.int .i64 0,.int .i64 0,.int .i64 id,.int .i64 0,.string (strOfNums []),.string (strOfNums [])] 71));have FP:=Kept.mk (FP0.out (.cells #[.int .i64 4,.int .i64 0,.int .i64 0,.int .i64 0,.int .i64 0,.int .i64 id,.int .i64 0,.string (strOfNums []),.string (strOfNums [])] 71));have X:=Kept.mk (X0.out #[.int .i64 4,.int .i64 0,.int .i64 0,.int .i64 0,.int .i64 0,.int .i64 id,.int .i64 0,.string (strOfNums []),.string (strOfNums [])])
  go_enter Tryz.func42,Tryz.ntmps42
  go_upto_region 1 with(fail)
  generalize w.alloc (.cells #[.int .i64 4,.int .i64 0,.int .i64 0,.int .i64 0,.int .i64 0,.int .i64 id,.int .i64 0,.string (strOfNums []),.string (strOfNums [])] 71)=w0 at *
  clear HE0 FP0 X0
  have x0:=X.out.cell 0
  have KC:=rnum_any w0 F e 4 1 (0,xs) HE.out (by simp only;omega)
  rw[rn1 _ (show B8 4 from⟨by omega,by omega⟩)] at KC
  go_wp2_with fail
  refine KC.mono ?_
  rintro x w1 ⟨rfl,F1,he,fp⟩
  have hlt:=X.out.lt
  replace X:=Kept.mk (X.out.bar fp.1 NF.out);replace NF:=Kept.mk (notin_step fp NF.out hlt);replace FP:=Kept.mk (FP.out.trans fp);replace HE:=Kept.mk he
  clear he fp KC hlt x0
  have x0:=X.out.cell 0;have x5:=X.out.cell 5
  have KC:=rnum_any w1 F1 e id 2 (0,(xs++be (4:Int).toNat 1)) HE.out (by simp only[List.length_append,be_len];omega)
  rw[rn2 _ h5] at KC
  go_wp2_with fail
  refine KC.mono ?_
  rintro x w2 ⟨rfl,F2,he,fp⟩
  have hlt:=X.out.lt
  replace X:=Kept.mk (X.out.bar fp.1 NF.out);replace NF:=Kept.mk (notin_step fp NF.out hlt);replace FP:=Kept.mk (FP.out.trans fp);replace HE:=Kept.mk he
  clear he fp KC hlt x0 x5
  have x0:=X.out.cell 0;have x8:=X.out.cell 8
  obtain⟨v3,c3,hcv,r2,b2⟩:=to_bytes w2 [] (by intro x hx;simp at hx)
  have KC:=rraw_any v3 F2 e (some ⟨w2.heap.size,0,none⟩) 0 c3 [] (0,((xs++be (4:Int).toNat 1)++be (id:Int).toNat 2)) (HE.out.below b2) r2 (by simp only[List.length_append,be_len];omega)
  replace FP:=Kept.mk (FP.out.trans (F'':=F2) ⟨barOf b2 _,fun _ hk=>.inl hk⟩);replace X:=Kept.mk (X.out.below b2 X.out.lt)
  clear b2 r2
  go_wp2_with fail
  refine KC.mono ?_
  clear hcv
  rintro x w3 ⟨rfl,F3,he,fp⟩
  have hlt:=X.out.lt
  replace X:=Kept.mk (X.out.bar fp.1 NF.out);replace NF:=Kept.mk (notin_step fp NF.out hlt);replace FP:=Kept.mk (FP.out.trans fp);replace HE:=Kept.mk he
  clear he fp KC hlt x0 x8
  go_wp2
  go_end0
  refine⟨rfl,_,?_,FP.out⟩
  have hp:xs++putV ⟨4,0,0,0,0,id,0,[],[]⟩=(((xs++be (4:Int).toNat 1)++be (id:Int).toNat 2)++[]):=by simp[putV,List.append_assoc]
  rw[hp];exact HE.out
end Go.Proofs.YtchcgoabogcabaaGreat.Req
namespace Go.Proofs.YtchcgoabogcabaaGreat.Req
open Go.Proofs.YtchcgoabogcabaaGreat.Sha Go.Proofs.YtchcgoabogcabaaGreat.Wire
def iter {α:Type} (g:St→α × St):Nat→St→List α × St
 | 0,st=>([],st)
 | k+1,st=>((iter g k st).1++[(g (iter g k st).2).1],(g (iter g k st).2).2)
theorem iter_len {α:Type}(g:St→α × St) (k:Nat) (st:St):(iter g k st).1.length=k:=by
 induction k with
 | zero=>rfl
 | succ k ih=>simp[iter,ih]
def cText (st:St):List Int × St:=iter (fun s=>decNum s 1) 32 st
def cMove (st:St):(Int × Int × Int) × St :=
 (((decNum st 1).1,(decNum (decNum st 1).2 1).1,(decNum (decNum (decNum st 1).2 1).2 8).1),(decNum (decNum (decNum st 1).2 1).2 8).2)
structure Way {α:Type} (g:St→α × St) (p:α→List Int) (hold may:α→Prop):Prop where
 rest:∀ st,Bytes st.2→Bytes (g st).2.2
 one:∀ st,Bytes st.2→(g st).2.1=0→hold (g st).1→st.1=0∧st.2=p (g st).1++(g st).2.2∧may (g st).1
 back:∀ x t,may x→Bytes (p x++t)→g (0,p x++t)=(x,(0,t))
theorem bytes_of_append {a b:List Int}(h:Bytes (a++b)):Bytes a∧Bytes b :=
 ⟨fun x hx=>h x (List.mem_append_left _ hx),fun x hx=>h x (List.mem_append_right _ hx)⟩
theorem Way.iter {α:Type}{g:St→α × St}{p:α→List Int}{hold may:α→Prop}(W:Way g p hold may) (k:Nat) (st:St) (hb:Bytes st.2) :
  Bytes (Req.iter g k st).2.2∧((Req.iter g k st).2.1=0→(∀ x∈(Req.iter g k st).1,hold x)→st.1=0∧st.2=(Req.iter g k st).1.flatMap p++(Req.iter g k st).2.2∧∀ x∈(Req.iter g k st).1,may x):=by
 induction k with
 | zero=>exact⟨hb,fun h _=>⟨h,by simp[Req.iter],by simp[Req.iter]⟩⟩
 | succ k ih =>
  obtain⟨h1,h2⟩:=ih
  refine⟨W.rest _ h1,fun he hh=>?_⟩
  simp only[Req.iter] at he hh ⊢
  obtain⟨k1,k2,k3⟩:=W.one _ h1 he (hh _ (by simp))
  obtain⟨j1,j2,j3⟩:=h2 k1 (fun x hx=>hh x (List.mem_append_left _ hx))
  refine⟨j1,?_,fun x hx=>?_⟩
  ·rw[List.flatMap_append,List.flatMap_singleton,List.append_assoc,← k2]
   exact j2
  ·rcases List.mem_append.1 hx with hx|hx
   ·exact j3 x hx
   ·rw[List.mem_singleton] at hx;subst hx;exact k3
theorem Way.iter_back {α:Type}{g:St→α × St}{p:α→List Int}{hold may:α→Prop}(W:Way g p hold may) (l:List α) (t:List Int) (hm:∀ x∈l,may x) (hb:Bytes (l.flatMap p++t)) :
  ∀ k,k≤l.length→Req.iter g k (0,l.flatMap p++t)=(l.take k,(0,(l.drop k).flatMap p++t)):=by
 intro k
 induction k with
 | zero=>intro _;simp[Req.iter]
 | succ k ih =>
  intro hk
  have h1:=ih (by omega)
  have hx:k < l.length:=by omega
  rw[Req.iter,h1]
  have hd:l.drop k=l[k] :: l.drop (k+1):=List.drop_eq_getElem_cons hx
  have hbk:Bytes ((l.drop k).flatMap p++t):=by
   have e:l.flatMap p++t=(l.take k).flatMap p++((l.drop k).flatMap p++t):=by
    rw[← List.append_assoc,← List.flatMap_append,List.take_append_drop]
   rw[e] at hb
   exact(bytes_of_append hb).2
  rw[hd,List.flatMap_cons,List.append_assoc] at hbk ⊢
  rw[W.back _ _ (hm _ (List.getElem_mem hx)) hbk,List.take_succ_eq_append_getElem hx]
theorem Way.whole {α:Type}{g:St→α × St}{p:α→List Int}{hold may:α→Prop}(W:Way g p hold may) (l:List α) (t:List Int) (hm:∀ x∈l,may x) (hb:Bytes (l.flatMap p++t)) :
  Req.iter g l.length (0,l.flatMap p++t)=(l,(0,t)):=by
 rw[W.iter_back l t hm hb _ (Nat.le_refl _)]
 simp
theorem dn_val {st:St}{s:Nat}(hb:Bytes st.2) (h:(decNum st s).2.1=0):st.1=0∧0≤(decNum st s).1∧(decNum st s).1≤4611686018427387904∧(decNum st s).1.toNat < 256 ^ s∧st.2=be (decNum st s).1.toNat s++(decNum st s).2.2:=by
 unfold decNum at h ⊢
 by_cases h0:st.1=0
 ·rw[if_pos h0] at h ⊢
  by_cases hs:1≤(s:Int)∧(s:Int)≤8
  ·rw[if_pos hs] at h ⊢
   simp only[Int.toNat_natCast] at h ⊢
   by_cases hv:s≤st.2.length∧val (st.2.take s)≤4611686018427387904
   ·rw[if_pos hv] at h ⊢
    have h1:=val_take_lt st.2 hb s hv.1
    have h2:=be_val (st.2.take s) (hb.take s)
    rw[List.length_take,Nat.min_eq_left hv.1] at h2
    refine⟨h0,by simp,by simpa using (show ((val (st.2.take s):Nat):Int)≤4611686018427387904 by omega),by simpa using h1,?_⟩
    simp only[Int.toNat_natCast,h2,List.take_append_drop]
   ·rw[if_neg hv] at h;simp at h
  ·rw[if_neg hs] at h;simp at h
 ·rw[if_neg h0] at h;exact absurd h h0
theorem dn1 {st:St}(hb:Bytes st.2) (h:(decNum st 1).2.1=0):st.1=0∧B8 (decNum st 1).1∧st.2=be (decNum st 1).1.toNat 1++(decNum st 1).2.2:=by
 obtain⟨h1,h2,h3,h4,h5⟩:=dn_val (s:=1) hb h
 exact⟨h1,⟨h2,by have:(decNum st 1).1.toNat < 256:=h4;omega⟩,h5⟩
theorem dn2 {st:St}(hb:Bytes st.2) (h:(decNum st 2).2.1=0):st.1=0∧I16 (decNum st 2).1∧st.2=be (decNum st 2).1.toNat 2++(decNum st 2).2.2:=by
 obtain⟨h1,h2,h3,h4,h5⟩:=dn_val (s:=2) hb h
 exact⟨h1,⟨h2,by have:(decNum st 2).1.toNat < 65536:=h4;omega⟩,h5⟩
theorem dn8 {st:St}(hb:Bytes st.2) (h:(decNum st 8).2.1=0):st.1=0∧Amt (decNum st 8).1∧st.2=be (decNum st 8).1.toNat 8++(decNum st 8).2.2:=by
 obtain⟨h1,h2,h3,h4,h5⟩:=dn_val (s:=8) hb h
 exact⟨h1,⟨h2,h3⟩,h5⟩
theorem b80:B8 0:=by decide
theorem i160:I16 0:=by decide
theorem amt0:Amt 0:=by decide
theorem byte_way:Way (fun s=>decNum s 1) (fun x:Int=>[x]) (fun _=>True) B8 where
 rest st hb:=decNum_bytes st 1 hb
 one st hb h _:=by
  obtain⟨h1,h2,h3⟩:=dn1 hb h
  refine⟨h1,?_,h2⟩
  rw[h3]
  congr 1
  simp only[be,Nat.pow_zero,Nat.div_one]
  congr 1
  have:=h2.1;have:=h2.2
  omega
 back x t h hb:=by
  have:=nb1 t h
  have e:be x.toNat 1=[x]:=by
   simp only[be,Nat.pow_zero,Nat.div_one]
   congr 1
   have:=h.1;have:=h.2
   omega
  rwa [e] at this
theorem flat_one (l:List Int):l.flatMap (fun x=>[x])=l:=by induction l<;>simp[*]
theorem cText_rest (st:St) (hb:Bytes st.2):Bytes (cText st).2.2:=(byte_way.iter 32 st hb).1
theorem cText_one {st:St}(hb:Bytes st.2) (h:(cText st).2.1=0):st.1=0∧st.2=(cText st).1++(cText st).2.2:=by
 obtain⟨h1,h2,h3⟩:=(byte_way.iter 32 st hb).2 h (fun _ _=>trivial)
 rw[flat_one] at h2
 exact⟨h1,h2⟩
theorem cText_back (b t:List Int) (hl:b.length=32) (hb:Bytes (b++t)):cText (0,b++t)=(b,(0,t)):=by
 have:=byte_way.whole b t (fun x hx=>(bytes_of_append hb).1 x hx) (by rw[flat_one];exact hb)
 rwa [flat_one,hl] at this
theorem iter_bytes1 (k:Nat) (st:St) (hb:Bytes st.2):Bytes (iter (fun s=>decNum s 1) k st).1:=by
 induction k with
 | zero=>intro x hx;simp[iter] at hx
 | succ k ih =>
  intro x hx
  rcases List.mem_append.1 hx with h|h
  ·exact ih x h
  ·rw[List.mem_singleton] at h
   subst h
   exact decNum_size0 _ ((byte_way.iter k st hb).1)
theorem cMove_rest (st:St) (hb:Bytes st.2):Bytes (cMove st).2.2:=decNum_bytes _ _ (decNum_bytes _ _ (decNum_bytes _ _ hb))
theorem cMove_one {st:St}(hb:Bytes st.2) (h:(cMove st).2.1=0):st.1=0∧B8 (cMove st).1.1∧B8 (cMove st).1.2.1∧Amt (cMove st).1.2.2∧st.2=be (cMove st).1.1.toNat 1++(be (cMove st).1.2.1.toNat 1++(be (cMove st).1.2.2.toNat 8++(cMove st).2.2)):=by
 unfold cMove at h ⊢
 dsimp only at h ⊢
 obtain⟨h1,h2,h3⟩:=dn8 (decNum_bytes _ _ (decNum_bytes _ _ hb)) h
 obtain⟨k1,k2,k3⟩:=dn1 (decNum_bytes _ _ hb) h1
 obtain⟨j1,j2,j3⟩:=dn1 hb k1
 refine⟨j1,j2,k2,h2,?_⟩
 rw[← h3,← k3,← j3]
theorem cMove_back {a b c:Int}(t:List Int) (ha:B8 a) (hb:B8 b) (hc:Amt c):cMove (0,be a.toNat 1++(be b.toNat 1++(be c.toNat 8++t)))=((a,b,c),(0,t)):=by
 unfold cMove
 simp only[nb1 _ ha,nb1 _ hb,nb8 _ hc]
def cEv (st:St):VV × St :=
 if (decNum st 1).1=1 then (⟨1,(decNum (decNum st 1).2 1).1,(cMove (decNum (decNum st 1).2 1).2).1.1,(cMove (decNum (decNum st 1).2 1).2).1.2.1,(cMove (decNum (decNum st 1).2 1).2).1.2.2,0,0,[],[]⟩,(cMove (decNum (decNum st 1).2 1).2).2)
 else if (decNum st 1).1=2 then (⟨2,(decNum (decNum st 1).2 1).1,(cMove (decNum (decNum st 1).2 1).2).1.1,(cMove (decNum (decNum st 1).2 1).2).1.2.1,(cMove (decNum (decNum st 1).2 1).2).1.2.2,(decNum (cMove (decNum (decNum st 1).2 1).2).2 2).1,
  (decNum (cText (decNum (cMove (decNum (decNum st 1).2 1).2).2 2).2).2 8).1,(cText (decNum (cMove (decNum (decNum st 1).2 1).2).2 2).2).1,[]⟩,(decNum (cText (decNum (cMove (decNum (decNum st 1).2 1).2).2 2).2).2 8).2)
 else if (decNum st 1).1=3 then (⟨3,0,0,0,0,(decNum (decNum st 1).2 2).1,0,[],(cText (decNum (decNum st 1).2 2).2).1⟩,(cText (decNum (decNum st 1).2 2).2).2)
 else if (decNum st 1).1=4 then (⟨4,0,0,0,0,(decNum (decNum st 1).2 2).1,0,[],[]⟩,(decNum (decNum st 1).2 2).2)
 else (⟨(decNum st 1).1,0,0,0,0,0,0,[],[]⟩,(decNum st 1).2)
def cRep (st:St):PV × St:=(⟨(decNum st 1).1,(decNum (decNum st 1).2 2).1⟩,(decNum (decNum st 1).2 2).2)
theorem rep_way:Way cRep putP (fun _=>True) MayP where
 rest st hb:=decNum_bytes _ _ (decNum_bytes _ _ hb)
 one st hb h _:=by
  unfold cRep at h ⊢
  dsimp only at h ⊢
  obtain⟨k1,k2,k3⟩:=dn2 (decNum_bytes _ _ hb) h
  obtain⟨j1,j2,j3⟩:=dn1 hb k1
  refine⟨j1,?_,j2,k2⟩
  unfold putP
  rw[List.append_assoc,← k3,← j3]
 back x t h hb:=by
  unfold cRep putP
  simp only[List.append_assoc,nb1 _ h.1,nb2 _ h.2]
theorem ev_rest (st:St) (hb:Bytes st.2):Bytes (cEv st).2.2:=by
 have h0:=decNum_bytes st 1 hb
 have h1:=decNum_bytes _ 1 h0
 unfold cEv
 split
 ·(try dsimp only);exact cMove_rest _ h1
 ·split
  ·(try dsimp only);exact decNum_bytes _ _ (cText_rest _ (decNum_bytes _ _ (cMove_rest _ h1)))
  ·split
   ·(try dsimp only);exact cText_rest _ (decNum_bytes _ _ h0)
   ·split
    ·(try dsimp only);exact decNum_bytes _ _ h0
    ·(try dsimp only);exact h0
theorem ev_one (st:St) (hb:Bytes st.2) (h:(cEv st).2.1=0) (hh:HoldV (cEv st).1):st.1=0∧st.2=putV (cEv st).1++(cEv st).2.2∧MayV (cEv st).1:=by
 have h0:=decNum_bytes st 1 hb
 have h1:=decNum_bytes _ 1 h0
 rw[mayV_iff]
 unfold cEv at h hh ⊢
 by_cases e1:(decNum st 1).1=1
 ·simp only[if_pos e1] at h hh ⊢
  obtain⟨k1,k2,k3,k4,k5⟩:=cMove_one h1 h
  obtain⟨s1,s2,s3⟩:=dn1 h0 k1
  obtain⟨j1,j2,j3⟩:=dn1 hb s1
  refine⟨j1,?_,hh,s2,k2,k3,k4,i160⟩
  rw[j3,e1,s3,k5];simp[putV]
 ·by_cases e2:(decNum st 1).1=2
  ·simp only[if_neg e1,if_pos e2] at h hh ⊢
   obtain⟨a1,a2,a3⟩:=dn8 (cText_rest _ (decNum_bytes _ _ (cMove_rest _ h1))) h
   obtain⟨b1,b2⟩:=cText_one (decNum_bytes _ _ (cMove_rest _ h1)) a1
   obtain⟨i1,i2,i3⟩:=dn2 (cMove_rest _ h1) b1
   obtain⟨k1,k2,k3,k4,k5⟩:=cMove_one h1 i1
   obtain⟨s1,s2,s3⟩:=dn1 h0 k1
   obtain⟨j1,j2,j3⟩:=dn1 hb s1
   refine⟨j1,?_,hh,s2,k2,k3,k4,i2⟩
   rw[j3,e2,s3,k5,i3,b2,a3];simp[putV]
  ·by_cases e3:(decNum st 1).1=3
   ·simp only[if_neg e1,if_neg e2,if_pos e3] at h hh ⊢
    obtain⟨b1,b2⟩:=cText_one (decNum_bytes _ _ h0) h
    obtain⟨k1,k2,k3⟩:=dn2 h0 b1
    obtain⟨j1,j2,j3⟩:=dn1 hb k1
    refine⟨j1,?_,hh,b80,b80,b80,amt0,k2⟩
    rw[j3,e3,k3,b2];simp[putV]
   ·by_cases e4:(decNum st 1).1=4
    ·simp only[if_neg e1,if_neg e2,if_neg e3,if_pos e4] at h hh ⊢
     obtain⟨k1,k2,k3⟩:=dn2 h0 h
     obtain⟨j1,j2,j3⟩:=dn1 hb k1
     refine⟨j1,?_,hh,b80,b80,b80,amt0,k2⟩
     rw[j3,e4,k3];simp[putV]
    ·simp only[if_neg e1,if_neg e2,if_neg e3,if_neg e4] at hh
     rcases hh with hh|hh|hh|hh
     ·exact absurd hh.1 e1
     ·exact absurd hh.1 e2
     ·exact absurd hh.1 e3
     ·exact absurd hh.1 e4
theorem ev_back (r:VV) (t:List Int) (h:MayV r) (hb:Bytes (putV r++t)):cEv (0,putV r++t)=(r,(0,t)):=by
 obtain⟨kind,src,dst,asset,amount,id,due,hash,sec⟩:=r
 have hk:B8 kind:=by rcases h with h|h|h|h<;>have:=h.1<;>exact⟨by dsimp only at this;omega,by dsimp only at this;omega⟩
 have ha:∀ u,decNum (0,be kind.toNat 1++u) 1=(kind,(0,u)):=fun u=>nb1 u hk
 unfold putV at hb ⊢
 unfold cEv
 simp only[List.append_assoc,ha]
 rcases h with⟨h1,hs,h2,h3,h4,h5,h6,h7,h8⟩|⟨h1,hs,h2,h3,h4,h5,h6,h7,h8⟩|⟨h1,hs,h2,h3,h4,h5,h6,h7,h8⟩|⟨h1,hs,h2,h3,h4,h5,h6,h7,h8⟩<;>dsimp only at h1 hs h2 h3 h4 h5 h6 h7 h8
 ·subst h1 h5 h6 h7 h8
  simp[List.append_assoc,nb1 _ hs,cMove_back _ h2 h3 h4]
 ·subst h1 h8
  have hb2:Bytes (hash++(be due.toNat 8++t)):=by
   simp only[List.append_assoc] at hb
   replace hb:=(bytes_of_append hb).2
   rw[if_pos (by decide)] at hb
   replace hb:=(bytes_of_append hb).2
   rw[if_pos (by decide)] at hb
   replace hb:=(bytes_of_append hb).2
   simpa using hb
  simp[List.append_assoc,nb1 _ hs,nb2 _ h5,cMove_back _ h2 h3 h4,cText_back hash _ h7 hb2,nb8 _ h6.amt]
 ·subst h1 hs h2 h3 h4 h6 h7
  have hb2:Bytes (sec++t):=by
   simp only[List.append_assoc] at hb
   replace hb:=(bytes_of_append hb).2
   simp at hb
   exact(bytes_of_append hb).2
  simp[nb2 _ h5,cText_back sec _ h8 hb2]
 ·subst h1 hs h2 h3 h4 h6 h7 h8
  simp[nb2 _ h5]
theorem ev_way:Way cEv putV HoldV MayV:=⟨ev_rest,ev_one,ev_back⟩
theorem endOf_zero {st:St}(h:endOf st=0):st.1=0∧st.2=[]:=by
 unfold endOf at h
 split at h
 ·rename_i h0
  refine⟨h0,?_⟩
  split at h
  ·rename_i h1;exact List.length_eq_zero_iff.1 h1
  ·omega
 ·rename_i h0;exact absurd h h0
def dA0 (b:List Int):St:=(decNum (decNum (0,b) 8).2 2).2
def dA1 (b:List Int):Int × St:=decNum (dA0 b) 1
def dA2 (b:List Int):List PV × St:=iter cRep (dA1 b).1.toNat (dA1 b).2
def dA3 (b:List Int):Int × St:=decNum (dA2 b).2 2
def dA4 (b:List Int):List VV × St:=iter cEv (dA3 b).1.toNat (dA3 b).2
def DecAC (b:List Int):Prop:=Tck (decNum (0,b) 8).1∧(dA1 b).1≤64∧(dA3 b).1≤400∧(∀ r∈(dA4 b).1,HoldV r)∧endOf (dA4 b).2=0
theorem decA_yes {b:List Int}(hb:Bytes b) (h:DecAC b):DecA b 0 ⟨(decNum (0,b) 8).1,(decNum (decNum (0,b) 8).2 2).1,(dA2 b).1,(dA4 b).1⟩:=by
 obtain⟨h0,h1,h2,h3,h4⟩:=h
 have b0:=decNum_bytes (0,b) 8 hb
 have b1:Bytes (dA0 b).2:=decNum_bytes _ 2 b0
 have b2:Bytes (dA1 b).2.2:=decNum_bytes _ 1 b1
 have b3:Bytes (dA2 b).2.2:=(rep_way.iter _ _ b2).1
 have b4:Bytes (dA3 b).2.2:=decNum_bytes _ 2 b3
 obtain⟨e1,e2⟩:=endOf_zero h4
 obtain⟨v1,v2,v3⟩:=(ev_way.iter (dA3 b).1.toNat _ b4).2 e1 h3
 have vl:(dA4 b).1.length=(dA3 b).1.toNat:=iter_len _ _ _
 obtain⟨m1,m2,m3⟩:=dn2 b3 v1
 obtain⟨p1,p2,p3⟩:=(rep_way.iter (dA1 b).1.toNat _ b2).2 m1 (fun _ _=>trivial)
 have pl:(dA2 b).1.length=(dA1 b).1.toNat:=iter_len _ _ _
 obtain⟨n1,n2,n3⟩:=dn1 b1 p1
 obtain⟨s1,s2,s3⟩:=dn2 b0 n1
 obtain⟨c1,c2,c3⟩:=dn8 hb s1
 refine .inl ⟨rfl,?_⟩
 have hn:=n2.1;have hm:=m2.1
 rw[encA_yes (x:=⟨(decNum (0,b) 8).1,(decNum (decNum (0,b) 8).2 2).1,(dA2 b).1,(dA4 b).1⟩) ⟨h0,s2,by dsimp only;omega,by dsimp only;omega,p3,v3⟩]
 unfold bytesA
 dsimp only
 have q1:(dA2 b).1.flatMap putP++(dA2 b).2.2=(dA1 b).2.2:=p2.symm
 have q2:(dA4 b).1.flatMap putV++(dA4 b).2.2=(dA3 b).2.2:=v2.symm
 have q3:be (dA3 b).1.toNat 2++(dA3 b).2.2=(dA2 b).2.2:=m3.symm
 have q4:be (dA1 b).1.toNat 1++(dA1 b).2.2=(dA0 b).2:=n3.symm
 have q5:be (decNum (decNum (0,b) 8).2 2).1.toNat 2++(dA0 b).2=(decNum (0,b) 8).2.2:=s3.symm
 rw[e2,List.append_nil] at q2
 rw[pl,vl,q2,q3,q1,q4,q5]
 exact congrArg (Prod.mk 0) c3.symm
theorem decA_no {b:List Int}(hb:Bytes b) (h:¬ DecAC b):DecA b 2 ⟨0,0,[],[]⟩:=by
 refine .inr ⟨rfl,rfl,fun y hy=>h ?_⟩
 obtain⟨k,e⟩:=encA_inv hy
 obtain⟨clock,seen,p,v⟩:=y
 obtain⟨k1,k2,k3,k4,k5,k6⟩:=k
 dsimp only at k1 k2 k3 k4 k5 k6
 have e0:=nb8 (be seen.toNat 2++(be p.length 1++(p.flatMap putP++(be v.length 2++v.flatMap putV)))) k1.amt
 have e1:=nb2 (be p.length 1++(p.flatMap putP++(be v.length 2++v.flatMap putV))) k2
 have e2:=nb1 (n:=p.length) (p.flatMap putP++(be v.length 2++v.flatMap putV)) ⟨by omega,by omega⟩
 have e3:=nb2 (n:=v.length) (v.flatMap putV) ⟨by omega,by omega⟩
 rw[Int.toNat_natCast] at e2 e3
 have hb2:Bytes (p.flatMap putP++(be v.length 2++v.flatMap putV)):=by
  rw[e,bytesA] at hb
  exact(bytes_of_append (bytes_of_append (bytes_of_append hb).2).2).2
 have hb3:Bytes (v.flatMap putV++[]):=by
  simpa using (bytes_of_append (bytes_of_append hb2).2).2
 have e4:=rep_way.whole p _ k5 hb2
 have e5:=ev_way.whole v [] k6 hb3
 rw[List.append_nil] at e5
 unfold DecAC dA4 dA3 dA2 dA1 dA0
 rw[e,bytesA]
 simp only[e0,e1,e2,e3,e4,e5,Int.toNat_natCast]
 exact⟨k1,by omega,by omega,fun r hr=>(mayV_iff.1 (k6 r hr)).1,rfl⟩
end Go.Proofs.YtchcgoabogcabaaGreat.Req
namespace Go.Proofs.YtchcgoabogcabaaGreat.Ledger
open Go.Proofs.YtchcgoabogcabaaGreat.Num Go.Proofs.YtchcgoabogcabaaGreat.Sha Go.Proofs.YtchcgoabogcabaaGreat.Purse Go.Proofs.YtchcgoabogcabaaGreat.Escrow Go.Proofs.YtchcgoabogcabaaGreat.Wire Go.Proofs.YtchcgoabogcabaaGreat.Req
def hdr:List Int:=[0,0,0,0,0,0,0,0,0,0,0,0,1]
theorem hdr_is:be 0 8++(be 0 2++(be 0 1++be 1 2))=hdr:=by decide
theorem hdr_bytes:Bytes hdr:=by rw[← hdr_is];exact(be_bytes _ _).append ((be_bytes _ _).append ((be_bytes _ _).append (be_bytes _ _)))
theorem hdr_app (l:List Int):hdr++l=be 0 8++(be 0 2++(be 0 1++(be 1 2++l))):=by
 rw[← hdr_is];simp only[List.append_assoc]
theorem bytesA_one (v:VV):bytesA ⟨0,0,[],[v]⟩=hdr++putV v:=by
 rw[hdr_app]
 show be 0 8++(be 0 2++(be 0 1++([]++(be 1 2++([v]:List VV).flatMap putV))))=_
 rw[List.nil_append,List.flatMap_singleton]
theorem okA_one {v:VV}(h:MayV v):OkA ⟨0,0,[],[v]⟩ :=
 ⟨(by decide:Tck 0),(by decide:I16 0),(by decide:(0:Nat)≤64),(by decide:(1:Nat)≤400),(by intro p hp;cases hp),by intro u hu;rw[List.mem_singleton] at hu;exact hu▸h⟩
theorem encA_one {v:VV}(h:MayV v):encA ⟨0,0,[],[v]⟩=(0,hdr++putV v):=by rw[encA_yes (okA_one h),bytesA_one]
theorem dec_one {l:List Int}{x:AV}(h:DecA (hdr++l) 0 x):∃ v,x.v=[v]∧MayV v:=by
 rcases h with⟨-,h⟩|⟨h,-⟩
 ·obtain⟨ok,hb⟩:=encA_inv h
  have e:=rdA_back ok
  rw[← hb,hdr_app] at e
  have n8:=nb8 (n:=0) (be 0 2++(be 0 1++(be 1 2++l))) (by decide)
  have n2:=nb2 (n:=0) (be 0 1++(be 1 2++l)) (by decide)
  have n1:=nb1 (n:=0) (be 1 2++l) (by decide)
  have m2:=nb2 (n:=1) l (by decide)
  have t0:(Int.toNat 0)=0:=rfl
  have t1:(Int.toNat 1)=1:=rfl
  rw[t0] at n8 n2 n1
  rw[t1] at m2
  have hv:(rdA (be 0 8++(be 0 2++(be 0 1++(be 1 2++l))))).1.v=[(getV (0,l)).1]:=by
   unfold rdA
   simp only[n8,n2,n1,t0,many,m2,t1,if_true]
  rw[e] at hv
  exact⟨_,hv,ok.2.2.2.2.2 _ (by rw[hv];exact List.mem_singleton.2 rfl)⟩
 ·exact absurd h (by decide)
theorem dec_put {v:VV}(h:MayV v) {e:Int}{x:AV}(k:DecA (hdr++putV v) e x):e=0∧x=⟨0,0,[],[v]⟩:=k.one (.inl ⟨rfl,encA_one h⟩)
def bhL (k:Int):Nat:=if k=1 then 11 else if k=2 then 53 else if k=3 then 34 else if k=4 then 2 else 0
theorem bhL_le (k:Int):bhL k≤53:=by unfold bhL;(repeat' split)<;>omega
def rawE (st:St):List Int × St:=((decNum st 1).1 :: (iter (fun s=>decNum s 1) (bhL (decNum st 1).1) (decNum st 1).2).1,(iter (fun s=>decNum s 1) (bhL (decNum st 1).1) (decNum st 1).2).2)
theorem putV_cons {v:VV}(h:MayV v):∃ l,putV v=be v.kind.toNat 1++l∧l.length=bhL v.kind∧B8 v.kind:=by
 refine⟨_,rfl,?_,?_⟩
 ·rcases h with⟨h1,h2,h3,h4,h5,h6,h7,h8,h9⟩|⟨h1,h2,h3,h4,h5,h6,h7,h8,h9⟩|⟨h1,h2,h3,h4,h5,h6,h7,h8,h9⟩|⟨h1,h2,h3,h4,h5,h6,h7,h8,h9⟩<;>simp[h1,h8,h9,bhL,be_len]
 ·rcases h with⟨h1,-⟩|⟨h1,-⟩|⟨h1,-⟩|⟨h1,-⟩<;>rw[h1]<;>decide
theorem b8_be {n:Int}(h:B8 n):be n.toNat 1=[n]:=by
 obtain⟨k,rfl⟩:∃ k:Nat,n=k:=⟨n.toNat,by have:=h.1;omega⟩
 have:=h.2
 simp only[be,Int.toNat_natCast,Nat.pow_zero,Nat.div_one]
 rw[Nat.mod_eq_of_lt (by omega)]
theorem rawE_back {v:VV}(h:MayV v) (hk:v.ok) (t:List Int) (ht:Bytes t):rawE (0,putV v++t)=(putV v,(0,t)):=by
 obtain⟨l,h1,h2,h3⟩:=putV_cons h
 have hb:=putV_bytes hk
 rw[h1] at hb ⊢
 have hl:Bytes l:=(bytes_of_append hb).2
 unfold rawE
 rw[List.append_assoc,nb1 _ h3]
 dsimp only
 have e:=byte_way.whole l t (fun x hx=>by have:=hl x hx;exact⟨this.1,by omega⟩) (by rw[flat_one];exact hl.append ht)
 rw[flat_one,h2] at e
 rw[e,b8_be h3]
 rfl
theorem rawE_bytes (st:St) (hb:Bytes st.2):Bytes (rawE st).1:=by
 intro x hx
 rcases List.mem_cons.1 hx with rfl|hx
 ·have:=decNum_size0 st hb;exact⟨this.1,by omega⟩
 ·exact iter_bytes1 _ _ (decNum_bytes _ _ hb) x hx
def EvAns (b:List Int) (v:VV) (ok:Bool):Prop:=(ok=true∧MayV v∧v.ok∧∃ x:AV,DecA (hdr++b) 0 x∧x.v=[v])∨(ok=false∧v=V0∧∀ x,¬ DecA (hdr++b) 0 x)
theorem evAns_put {u v:VV}{ok:Bool}(h:MayV u) (k:EvAns (putV u) v ok):ok=true∧v=u:=by
 rcases k with⟨h1,-,-,x,h2,h3⟩|⟨-,-,h2⟩
 ·obtain⟨-,rfl⟩:=dec_put h h2
  dsimp only at h3
  injection h3 with h3
  exact⟨h1,h3.symm⟩
 ·exact absurd (.inl ⟨rfl,encA_one h⟩) (h2 _)
theorem reqOf_ok {v:VV}(h:v.ok):(reqOf v).ok:=h
def Gone (s0:LS) (b:List Int) (k:Nat) (s:LS) (st:St):Prop:=∀ s',Reach s0 s'→saveL s'=b→k≤s'.e.length∧s=preE s0 (s'.e.take k)∧st=(0,(s'.e.drop k).flatMap putLE)
def cl0 (b:List Int):Int × St:=decNum (0,b) 8
def n0 (b:List Int):Int × St:=decNum (cl0 b).2 2
theorem save_head {s:LS}(w:WL s):cl0 (saveL s)=(s.clock,(0,be s.e.length 2++s.e.flatMap putLE))∧n0 (saveL s)=(((s.e.length:Nat):Int),(0,s.e.flatMap putLE)):=by
 have h1:cl0 (saveL s)=(s.clock,(0,be s.e.length 2++s.e.flatMap putLE)):=nb8 _ w.clock.amt
 refine⟨h1,?_⟩
 unfold n0
 rw[h1]
 have:=nb2 (n:=(s.e.length:Nat)) (s.e.flatMap putLE) ⟨by omega,by have:=w.len;omega⟩
 rwa [Int.toNat_natCast] at this
theorem gone_start {s0:LS}(w:WL s0) (wi:WI s0) (b:List Int):Gone s0 b 0 s0 (n0 b).2:=by
 intro s' hr hs
 subst hs
 rw[(save_head (hr.keeps w wi).wl).2]
 exact⟨Nat.zero_le _,rfl,rfl⟩
theorem drop_cons {α:Type}{l:List α}{k:Nat}(h:k < l.length):l.drop k=l[k] :: l.drop (k+1):=List.drop_eq_getElem_cons h
theorem gone_step {s0:LS}(w:WL s0) (wi:WI s0) (h0:s0.e=[]) {b:List Int}{k:Nat}{s:LS}{st:St}(g:Gone s0 b k s st) {v:VV}{ok:Bool}(hv:EvAns (rawE (decNum (decNum st 1).2 8).2).1 v ok) :
  (∀ s',Reach s0 s'→saveL s'=b→k < s'.e.length→ok=true∧(oneL (clockL s (decNum (decNum st 1).2 8).1) (decNum st 1).1 (reqOf v)).1.code=0) ∧
  (∀ n:Nat,(n:Int)=(n0 b).1→k < n→Gone s0 b (k+1) (oneL (clockL s (decNum (decNum st 1).2 8).1) (decNum st 1).1 (reqOf v)).2 (rawE (decNum (decNum st 1).2 8).2).2):=by
 have key:∀ s',Reach s0 s'→saveL s'=b→k < s'.e.length→ok=true∧(oneL (clockL s (decNum (decNum st 1).2 8).1) (decNum st 1).1 (reqOf v)).1.code=0∧(oneL (clockL s (decNum (decNum st 1).2 8).1) (decNum st 1).1 (reqOf v)).2=preE s0 (s'.e.take (k+1))∧(rawE (decNum (decNum st 1).2 8).2).2=(0,(s'.e.drop (k+1)).flatMap putLE):=by
  intro s' hr hs hk
  obtain⟨-,h1,h2⟩:=g s' hr hs
  have W:=(hr.keeps w wi).wl
  have H:=hr.hist w wi h0
  have hx:s'.e[k]∈s'.e:=List.getElem_mem hk
  have he:=W.each _ hx
  rw[drop_cons hk,List.flatMap_cons] at h2
  obtain⟨x,hxe⟩:∃ x,s'.e[k]=x:=⟨_,rfl⟩
  rw[hxe] at h2 hx he
  have hw:=W.who hx
  have e1:decNum st 1=(x.who,(0,be x.at_.toNat 8++(putV x.v++(s'.e.drop (k+1)).flatMap putLE))):=by
   rw[h2];unfold putLE
   rw[List.append_assoc,List.append_assoc]
   exact nb1 _ hw
  have e2:decNum (decNum st 1).2 8=(x.at_,(0,putV x.v++(s'.e.drop (k+1)).flatMap putLE)):=by
   rw[e1];exact nb8 _ he.2.2.2.amt
  have hrest:Bytes ((s'.e.drop (k+1)).flatMap putLE):=flat_bytes fun y hy=>(be_bytes _ _).append ((be_bytes _ _).append (putV_bytes (W.each y (List.mem_of_mem_drop hy)).2.1))
  have e3:rawE (decNum (decNum st 1).2 8).2=(putV x.v,(0,(s'.e.drop (k+1)).flatMap putLE)):=by
   rw[e2];exact rawE_back he.1 he.2.1 _ hrest
  rw[e3] at hv
  obtain⟨ho,rfl⟩:=evAns_put he.1 hv
  have hst:(oneL (clockL s (decNum (decNum st 1).2 8).1) (decNum st 1).1 (reqOf x.v)).2=preE s0 (s'.e.take (k+1)):=by
   rw[e2,e1,List.take_succ_eq_append_getElem hk,preE_snoc,hxe,← h1];rfl
  refine⟨ho,?_,hst,by rw[e3]⟩
  apply Classical.byContradiction
  intro hc
  have hsame:(oneL (clockL s (decNum (decNum st 1).2 8).1) (decNum st 1).1 (reqOf x.v)).2=clockL s (decNum (decNum st 1).2 8).1:=by
   unfold oneL at hc ⊢
   split
   ·rename_i q1
    rw[if_pos q1] at hc
    split
    ·rename_i q2
     rw[if_pos q2] at hc
     exact absurd rfl hc
    ·rfl
   ·rfl
  have l1:=congrArg LS.e (hst.symm.trans hsame)
  rw[clockL_e,h1,H.each _ (by omega),H.each _ (by omega)] at l1
  have l2:=congrArg List.length l1
  simp only[List.length_take] at l2
  omega
 refine⟨fun s' hr hs hk=>⟨(key s' hr hs hk).1,(key s' hr hs hk).2.1⟩,fun n hn hk s' hr hs=>?_⟩
 have W:=(hr.keeps w wi).wl
 have hl:n=s'.e.length:=by
  subst hs
  rw[(save_head W).2] at hn
  dsimp only at hn
  omega
 have:=key s' hr hs (by omega)
 exact⟨by omega,this.2.2.1,this.2.2.2⟩
theorem gone_end {s0:LS}(w:WL s0) (wi:WI s0) (h0:s0.e=[]) {b:List Int}{k:Nat}{s:LS}{st:St}(g:Gone s0 b k s st) (hk:(n0 b).1≤k):∀ s',Reach s0 s'→saveL s'=b→clockL s (cl0 b).1=s':=by
 intro s' hr hs
 obtain⟨h1,h2,-⟩:=g s' hr hs
 have W:=(hr.keeps w wi).wl
 obtain⟨⟨c,e1,e2⟩,-,-⟩:=hr.hist w wi h0
 subst hs
 rw[(save_head W).2] at hk
 dsimp only at hk
 obtain rfl:k=s'.e.length:=by omega
 rw[List.take_length] at h2
 rw[(save_head W).1,h2,e1]
 dsimp only
 unfold clockL
 by_cases hc:c < s'.clock
 ·rw[if_pos ⟨W.clock,hc⟩]
 ·rw[if_neg (fun q=>hc q.2)]
  have:c=s'.clock:=by omega
  subst this;rfl
end Go.Proofs.YtchcgoabogcabaaGreat.Ledger
