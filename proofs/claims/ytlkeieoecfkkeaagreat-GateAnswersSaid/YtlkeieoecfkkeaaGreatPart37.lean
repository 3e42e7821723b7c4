/-
  Parts laid together: JOpenSpec JOpen.
-/
import Derived.Test.YtlkeieoecfkkeaaGreatPart29
import Derived.Test.YtlkeieoecfkkeaaGreatPart36
set_option maxRecDepth 100000
set_option maxHeartbeats 4000000
namespace Go.Proofs.YtlkeieoecfkkeaaGreat
namespace Journal
open Go.RowKit Sha Disk Go.Proofs.YtlkeieoecfkkeaaGreat.Frame
instance (b:List Int):Decidable (hitB b):=by unfold hitB;infer_instance
def begV (s:DS) (half:Nat):JV:=if hitB (textJ s half 0) then ⟨half,(getF (textJ s half 0)).1.gen,true,(getF (textJ s half 0)).1.body,[],(getF (textJ s half 0)).2.1.toNat,1,false⟩ else ⟨half,0,false,[],[],0,1,false⟩
def nowV (s:DS):JV:=if (begV s 1).has=true∧((begV s 0).has=false∨(begV s 0).gen < (begV s 1).gen) then begV s 1 else begV s 0
theorem QH {s:DS}(hd:s.down=false):openJ s=recsJ s (hn s) (nowV s):=by
 unfold openJ
 rw[if_neg (by simp[hd])]
 congr 1
 have h0:headJ s 0 noJ=begV s 0:=by
  unfold headJ begV
  by_cases hh:hitB (textJ s 0 0)
  ·rw[if_pos hh,if_pos ⟨hh.1,hh.2.1,hh.2.2,.inl rfl⟩];rfl
  ·rw[if_neg hh,if_neg (fun h=>hh ⟨h.1,h.2.1,h.2.2.1⟩)];rfl
 rw[h0]
 have hr:(begV s 0).recs=[]∧(begV s 0).seq=1∧(begV s 0).dead=false:=by unfold begV;split<;>exact⟨rfl,rfl,rfl⟩
 unfold nowV headJ
 by_cases hh:hitB (textJ s 1 0)
 ·have e:begV s 1=⟨1,(getF (textJ s 1 0)).1.gen,true,(getF (textJ s 1 0)).1.body,[],(getF (textJ s 1 0)).2.1.toNat,1,false⟩:=by unfold begV;rw[if_pos hh]
  rw[e]
  by_cases hc:(begV s 0).has=false∨(begV s 0).gen < (getF (textJ s 1 0)).1.gen
  ·rw[if_pos ⟨hh.1,hh.2.1,hh.2.2,hc⟩,if_pos ⟨rfl,hc⟩,hr.1,hr.2.1,hr.2.2]
  ·rw[if_neg (fun h=>hc h.2.2.2),if_neg (fun h=>hc h.2)]
 ·have e:(begV s 1).has=false:=by unfold begV;rw[if_neg hh]
  rw[if_neg (fun h=>hh ⟨h.1,h.2.1,h.2.2.1⟩),if_neg (fun h=>by rw[e] at h;exact absurd h.1 (by simp))]
theorem SQ {n:Nat}{s:DS}(hwf:WF n s) {half:Nat}(hh:half=0∨half=1):COk n (begV s half)∧(begV s half).recs=[]∧(begV s half).half=half∧(begV s half).dead=false:=by
 unfold begV
 split
 ·next hc =>
  have hb:=eG (jB hwf (half:=half) (m:=0) (by omega)) hc.1
  have hl:=lD hwf (half:=half) (m:=0) (by omega)
  have hhn:=jZ hwf
  exact⟨⟨hh,⟨hb.1,hb.2.1⟩,rfl,by show (getF (textJ s half 0)).2.1.toNat≤n / 2;omega,Nat.zero_le _,yE hc.1,fun q hq=>by cases hq⟩,rfl,rfl,rfl⟩
 ·exact⟨⟨hh,by show (0:Int)≤0∧(0:Int)≤4294967295;omega,rfl,Nat.zero_le _,Nat.zero_le _,by show 0≤60000;omega,fun q hq=>by cases hq⟩,rfl,rfl,rfl⟩
def U6 (t:Nat) (fr:Int) (s:DS) (half:Nat) (A:Option Addr) (l:Nat) (w:World) (e:Ending) (w':World):Prop:=∃ Ap m cp A2 l2 c2,e=.returned (.tuple #[hvl fr (begV s half).gen (begV s half).has Ap m cp,.slice A2 l2 c2])∧m≤cp∧cp≤maxLen∧Rd w' Ap m (begV s half).pict∧(∀ F:List Nat,(∀ k∈F,k < w.heap.size)→Off Ap m F) ∧
 l2≤c2∧c2≤maxLen∧Rd w' A2 l2 (textJ s half (begV s half).pos)∧(∀ F,Off A l F→Off A2 l2 F)∧Tab w' t∧Bar [t] w w'
theorem MF {n:Nat}{s:DS}(hwf:WF n s) {t half:Nat}{fr:Int}(hh:half=0∨half=1) {A:Option Addr}{l c:Nat}{w w':World}{e:Ending}(hr:Rd w A l (textJ s half 0)) (hO:Off A l [t]) (hc:l≤c) (hcm:c≤maxLen) (h:vV t fr (textJ s half 0) A l c w e w'):U6 t fr s half A l w e w':=by
 obtain⟨h1,h2,h3⟩:=h
 rcases h3 with⟨h3,h4⟩|⟨h3,Ap,m,cp,A2,l2,c2,h4,h5,h6,h7,h8,h9,h10,h11,h12,h13⟩
 ·have e:begV s half=⟨half,0,false,[],[],0,1,false⟩:=by unfold begV;rw[if_neg h3]
  refine⟨none,0,0,A,l,c,by rw[e];exact h4,Nat.le_refl _,by unfold maxLen;omega,by rw[e];exact Rd.nil_,fun _ _=>.inl rfl,hc,hcm,by rw[e];exact hr.far h2 hO,fun _ h=>h,h1,h2⟩
 ·have e:begV s half=⟨half,(getF (textJ s half 0)).1.gen,true,(getF (textJ s half 0)).1.body,[],(getF (textJ s half 0)).2.1.toNat,1,false⟩:=by unfold begV;rw[if_pos h3]
  have hb:=eG (jB hwf (half:=half) (m:=0) (by omega)) h3.1
  have hl:=lD hwf (half:=half) (m:=0) (by omega)
  refine⟨Ap,m,cp,A2,l2,c2,by rw[e];exact h4,h5,h6,by rw[e];exact h7,h8,h10,h11,?_,h13,h1,h2⟩
  rw[e]
  have hd:=yD hwf (half:=half) (m:=0) (k:=(getF (textJ s half 0)).2.1.toNat) (by omega) (by omega)
  rw[hd,Nat.zero_add] at h12
  exact h12
theorem H7 {n:Nat}{s:DS}(hwf:WF n s):(allD s n).take (64 * (n / 2))=textJ s 0 0∧((allD s n).drop (64 * (n / 2))).take (64 * (n / 2))=textJ s 1 0:=by
 have hhn:=jZ hwf
 have hl:∀ k,k≤n→(cat (rowOf s.now) k).length=64 * k:=fun k hk=>jX (c:=64) k (fun j hj=>((hwf.secs j (by omega)).1).1)
 have e0:cat (rowOf s.now) (n / 2)=textJ s 0 0:=by
  unfold textJ;rw[hhn,Nat.sub_zero];congr 1;funext i;congr 1;omega
 have e1:cat (fun i=>rowOf s.now (n / 2+i)) (n / 2)=textJ s 1 0:=by
  unfold textJ;rw[hhn,Nat.sub_zero];congr 1;funext i;congr 1;omega
 have hlx:∀ k,n / 2+k≤n→(cat (fun i=>rowOf s.now (n / 2+i)) k).length=64 * k:=fun k hk=>jX (c:=64) k (fun j hj=>((hwf.secs _ (by omega)).1).1)
 have hs:allD s n=cat (rowOf s.now) (n / 2)++cat (fun i=>rowOf s.now (n / 2+i)) (n - n / 2):=by
  unfold allD;rw[← Cf];congr 1;omega
 have hs2:cat (fun i=>rowOf s.now (n / 2+i)) (n - n / 2)=cat (fun i=>rowOf s.now (n / 2+i)) (n / 2)++cat (fun i=>rowOf s.now (n / 2+(n / 2+i))) (n - n / 2 - n / 2):=by
  rw[← Cf];congr 1;omega
 have h1:=hl (n / 2) (by omega)
 have h2:=hlx (n / 2) (by omega)
 refine⟨?_,?_⟩
 ·rw[hs,List.take_append_of_le_length (by omega),List.take_of_length_le (by omega),e0]
 ·rw[hs,List.drop_append_of_le_length (by omega),List.drop_eq_nil_of_le (by omega),List.nil_append,hs2,List.take_append_of_le_length (by omega),List.take_of_length_le (by omega),e1]
theorem qX {w0 w:World}{F K:List Nat}{t d j n rm:Nat}{s:DS}{v:JV}{A:Option Addr}{m c:Nat}{vr:Value}(h1:Tab w t) (h2:Dk w F d n s) (k1:Blk w j 187 (jc t d ((v.half * (n / 2):Nat):Int) v.gen v.has A m c vr ((rm:Nat):Int) v.dead)) (k2:m≤c) (k3:c≤9223372036854775807) (k4:Rd w A m v.pict) (k5:In A m K) (k5':Off A m vr.ownBlock.toList) (k6:Og w 22 vr v.recs K)
  (k7:∀ k∈K,j < k∧k < w.heap.size) (hj:w0.heap.size≤j) (h4:t∉F) (ht0:t < w0.heap.size) (hF0:∀ k∈F,k < w0.heap.size) (k9:COk n v) (k10:rm≤n / 2) (k11:v.dead=false→rm+v.pos=n / 2) (hb:Bar [t] w0 w) (hv:openJ s=v):gY Cj w0 (t :: F) t d n s (.returned (.pointer (some ⟨j,0,none⟩))) w:=by
 rw[gY,hv]
 refine⟨j,t :: (F++j :: K),rfl,⟨F,j :: K,h1,h2,⟨A,m,c,vr,rm,K,k1,k2,k3,k4,⟨k5,k5'⟩,k6,fun k hk=>(k7 k hk).2,fun hm=>by have:=k7 j hm;omega,rfl,k9,k10,k11⟩,h4,fun hm=>?_,fun k hk hm=>?_,rfl⟩,hb.mono (by intro k hk;rw[List.mem_singleton] at hk;simp[hk]),fun k hk=>?_⟩
 ·rcases List.mem_cons.1 hm with e|hm
  ·omega
  ·have:=k7 t hm;omega
 ·have h0:=hF0 k hk
  rcases List.mem_cons.1 hm with e|hm
  ·omega
  ·have:=k7 k hm;omega
 ·simp only[List.mem_cons,List.mem_append] at hk
  rcases hk with e|e|e|e
  ·exact .inl (by simp[e])
  ·exact .inl (by simp[e])
  ·exact .inr (by omega)
  ·have:=k7 k e;exact .inr (by omega)
theorem ja {s:DS}:∀ (k:Nat) (v:JV),(recsJ s k v).half=v.half∧(recsJ s k v).gen=v.gen∧(recsJ s k v).has=v.has∧(recsJ s k v).pict=v.pict∧(recsJ s k v).dead=v.dead
  | 0,_=>⟨rfl,rfl,rfl,rfl,rfl⟩
  | k+1,v=>by
    unfold recsJ
    split
    · exact ja k (jY s v)
    · exact⟨rfl,rfl,rfl,rfl,rfl⟩
theorem lH {n:Nat}{s:DS}(hwf:WF n s):∀ (k:Nat) (v:JV),COk n v→COk n (recsJ s k v)
  | 0,_,h=>h
  | k+1,v,h=>by
    unfold recsJ
    split
    · next hm=>exact lH hwf k _ (Ei h hwf hm)
    · exact h
theorem H9 {w:World}{H:List Nat}{t d n:Nat}{s:DS}(sd:Sd w H t d n s) (hd:s.down=true) :
  Calls Tryz.prog 46 #[.pointer (some ⟨t,0,none⟩),.pointer (some ⟨d,0,none⟩)] w (gY Cj w H t d n s):=by
 obtain⟨F,ht,hk,htF,rfl⟩:=sd
 obtain⟨N,hN⟩:∃ N,w.heap.size=N:=⟨_,rfl⟩
 have htN:t < N:=by rw[← hN];exact dQ ht
 have hFN:∀ k∈F,k < N:=fun k hm=>by rw[← hN];exact hk.lts k hm
 have ba:Below w.heap.size w (w.alloc (.cells #[.pointer (some ⟨t,0,none⟩),.pointer (some ⟨d,0,none⟩),.int .i64 0,.int .i64 0,.bool false,.slice none 0 0,.slice none 0 0,.int .i64 0,.bool false] 187)):=(Below.refl _ _).alloc (Nat.le_refl _) _
 have JB:=ae.mk (Blk.new_at w 187 #[.pointer (some ⟨t,0,none⟩),.pointer (some ⟨d,0,none⟩),.int .i64 0,.int .i64 0,.bool false,.slice none 0 0,.slice none 0 0,.int .i64 0,.bool false] N hN.symm)
 have K1:=hk.keep (barOf ba []) (fun _ _=>by simp)
 have T1:=ae.mk (ftab_bar ht (barOf ba []) (by simp))
 have CR:=ae.mk (Hz K1 hd)
 have D1:=ae.mk K1
 have B1:ae (Bar [t] w (w.alloc (.cells #[.pointer (some ⟨t,0,none⟩),.pointer (some ⟨d,0,none⟩),.int .i64 0,.int .i64 0,.bool false,.slice none 0 0,.slice none 0 0,.int .i64 0,.bool false] 187))):=⟨barOf ba _⟩
 have HO:ae (openJ s={ noJ with dead:=true }):=⟨by unfold openJ;rw[if_pos hd]⟩
 clear ht hk ba K1 hd
 go_enter Tryz.func46,Tryz.ntmps46
 go_wp2_with fail
 refine CR.out.mono ?_
 generalize (w.alloc (.cells #[.pointer (some ⟨t,0,none⟩),.pointer (some ⟨d,0,none⟩),.int .i64 0,.int .i64 0,.bool false,.slice none 0 0,.slice none 0 0,.int .i64 0,.bool false] 187))=w1 at *
 rintro e w2 ⟨rfl,b2⟩
 have JB2:=JB.out.below b2 JB.out.lt
 have y8:=JB2.frozen 8
 have x8:=JB2.cell 8
 have hs:Bar [N] w2 (w2.setCell ⟨N,8,none⟩ (.bool true)):=(Bar.refl _ _).setCell (by simp) _
 have hjx:=JB2.set_ 8 (.bool true)
 have hje:(#[Value.pointer (some ⟨t,0,none⟩),.pointer (some ⟨d,0,none⟩),.int .i64 0,.int .i64 0,.bool false,.slice none 0 0,.slice none 0 0,.int .i64 0,.bool false]:Array Value).setIfInBounds 8 (.bool true)=jc t d (((0:Nat) * (n / 2):Nat):Int) 0 false none 0 0 (.slice none 0 0) ((0:Nat):Int) true:=by simp[jc]
 rw[hje] at hjx
 have PG:=ae.mk (qX (w0:=w) (j:=N) (rm:=0) (v:={ noJ with dead:=true }) (ftab_bar (ftab_bar T1.out (barOf b2 []) (by simp)) hs (by simp;omega)) ((D1.out.keep (barOf b2 []) (fun _ _=>by simp)).keep hs (fun k hk hm=>by rw[List.mem_singleton] at hm;have:=hFN k hk;omega)) hjx (Nat.le_refl 0) (by omega) Rd.nil_ (K:=[]) (.inl rfl) (.inl rfl) (Og.nil _ _ _) (by simp) (by omega) htF (by omega) (by rw[hN];exact hFN) ⟨.inl rfl,by show (0:Int)≤0∧(0:Int)≤4294967295;omega,rfl,Nat.zero_le _,Nat.zero_le _,by show 0≤60000;omega,fun q hq=>by cases hq⟩ (by omega) (fun h=>by cases h) ((B1.out.trans (barOf b2 []) (by simp)).trans hs (fun k hk=>by rw[List.mem_singleton] at hk;exact .inr (by omega))) HO.out)
 clear JB JB2 T1 CR D1 B1 HO b2 hs hjx hje
 go_wp2
 go_ret
 exact PG.out
theorem QI (api:dS) {w:World}{H:List Nat}{t d n:Nat}{s:DS}(sd:Sd w H t d n s) (hd:s.down=false) :
  Calls Tryz.prog 46 #[.pointer (some ⟨t,0,none⟩),.pointer (some ⟨d,0,none⟩)] w (gY Cj w H t d n s):=by
 obtain⟨F,ht,hk,htF,rfl⟩:=sd
 obtain⟨N,hN⟩:∃ N,w.heap.size=N:=⟨_,rfl⟩
 have htN:t < N:=by rw[← hN];exact dQ ht
 have HFN:ae (∀ k∈F,k < N):=⟨fun k hm=>by rw[← hN];exact hk.lts k hm⟩
 have hwf:=hk.1
 have hhn:=jZ hwf
 have hn8:=hwf.n2
 obtain⟨M,hM⟩:∃ M,n / 2=M:=⟨_,rfl⟩
 have hM9:M≤4096:=by omega
 have hM2:2 * M≤n:=by omega
 have HV:=ae.mk (H7 hwf)
 have HW:=ae.mk hwf
 have HHM:ae (hn s=M∧n / 2=M):=⟨by omega,hM⟩
 rw[hM] at HV
 have ba:Below w.heap.size w (w.alloc (.cells #[.pointer (some ⟨t,0,none⟩),.pointer (some ⟨d,0,none⟩),.int .i64 0,.int .i64 0,.bool false,.slice none 0 0,.slice none 0 0,.int .i64 0,.bool false] 187)):=(Below.refl _ _).alloc (Nat.le_refl _) _
 have JB:=ae.mk (Blk.new_at w 187 #[.pointer (some ⟨t,0,none⟩),.pointer (some ⟨d,0,none⟩),.int .i64 0,.int .i64 0,.bool false,.slice none 0 0,.slice none 0 0,.int .i64 0,.bool false] N hN.symm)
 have K1:=hk.keep (barOf ba []) (fun _ _=>by simp)
 have T1:=ae.mk (ftab_bar ht (barOf ba []) (by simp))
 have CR:=ae.mk (QG K1 hd)
 have D1:=ae.mk K1
 have B1:ae (Bar [t] w (w.alloc (.cells #[.pointer (some ⟨t,0,none⟩),.pointer (some ⟨d,0,none⟩),.int .i64 0,.int .i64 0,.bool false,.slice none 0 0,.slice none 0 0,.int .i64 0,.bool false] 187))):=⟨barOf ba _⟩
 have HOP:=ae.mk (QH hd)
 have sz1:(w.alloc (.cells #[.pointer (some ⟨t,0,none⟩),.pointer (some ⟨d,0,none⟩),.int .i64 0,.int .i64 0,.bool false,.slice none 0 0,.slice none 0 0,.int .i64 0,.bool false] 187)).heap.size=N+1:=by simp[hN]
 clear ht hk ba K1 hd hwf hhn hM
 go_enter Tryz.func46,Tryz.ntmps46
 go_wp2_with fail
 refine CR.out.mono ?_
 generalize (w.alloc (.cells #[.pointer (some ⟨t,0,none⟩),.pointer (some ⟨d,0,none⟩),.int .i64 0,.int .i64 0,.bool false,.slice none 0 0,.slice none 0 0,.int .i64 0,.bool false] 187))=w1 at *
 rintro e w2 ⟨A,c,rfl,hc,hcm,r2,o2,b2⟩
 have hcm1:maxLen=9223372036854775807:=rfl
 have JB2:=ae.mk (JB.out.below b2 JB.out.lt)
 have T2:=ae.mk (ftab_bar T1.out (barOf b2 []) (by simp))
 have D2:=ae.mk (D1.out.keep (barOf b2 []) (fun _ _=>by simp))
 have B2:=ae.mk (B1.out.trans (barOf b2 []) (by simp))
 have R2:=ae.mk r2
 have O2:ae (Off A (64 * n) [t]):=⟨o2 [t] (fun k hk=>by rw[List.mem_singleton] at hk;omega)⟩
 have O2N:ae (Off A (64 * n) [N]):=⟨o2 [N] (fun k hk=>by rw[List.mem_singleton] at hk;omega)⟩
 have sz2:N+1≤w2.heap.size:=by have:=b2.size;omega
 have CS:=tZ D2.out (JB2.out.cell 1)
 rw[HHM.out.2] at CS
 have CS:=ae.mk CS
 clear CR JB T1 D1 B1 r2 o2 b2 sz1
 go_wp2_with fail
 refine CS.out.mono ?_
 rintro e w' ⟨rfl,rfl⟩
 clear CS
 have s1:=fun w'=>dE A (64 * n) c (64 * M) (by omega) ((M:Int) * 64) (by omega) w'
 obtain⟨A',s2,r2,o2⟩:=jU A (64 * n) c hc (64 * M) (by omega) ((M:Int) * 64) (by omega)
 have s3:=fun w'=>dE A' (64 * n - 64 * M) (c - 64 * M) (64 * M) (by omega) ((M:Int) * 64) (by omega) w'
 have W1:IntKind.i64.wrap ((M:Int) * 64)=(M:Int) * 64:=by simp only[IntKind.wrap_i64];omega
 have RF:ae (∀ W,Rd W A (64 * n) (allD s n)→Rd W A (64 * M) (textJ s 0 0)∧Rd W A' (64 * M) (textJ s 1 0)):=⟨fun W hW=>by
  have h1:=BI hW (64 * M) (by omega)
  have h2:=BI (r2 W _ hW) (64 * M) (by omega)
  rw[HV.out.1] at h1
  rw[HV.out.2] at h2
  exact⟨h1,h2⟩⟩
 have off_head:∀ {B:Option Addr} {x y:Nat} {G:List Nat},x≤y→Off B y G→Off B x G:=fun hxy h=>by
  rcases h with h|h
  ·exact .inl (by omega)
  ·exact .inr h
 have OF:ae (Off A (64 * M) [t]∧Off A' (64 * M) [t]):=⟨off_head (by omega) O2.out,off_head (by omega) (o2 _ O2.out)⟩
 have OFX:ae (∀ G,Off A (64 * n) G→Off A (64 * M) G∧Off A' (64 * M) G):=⟨fun G hG=>⟨off_head (by omega) hG,off_head (by omega) (o2 _ hG)⟩⟩
 clear r2 o2
 go_upto_region 7 with(fail)
 go_quiet (fail)
 have bd:=below_drewN (Below.refl w2.heap.size w2) nq
 have JB3:=ae.mk (JB2.out.below bd JB2.out.lt)
 have T3:=ae.mk (ftab_bar T2.out (barOf bd []) (by simp))
 have D3:=ae.mk (D2.out.keep (barOf bd []) (fun _ _=>by simp))
 have B3:=ae.mk (B2.out.trans (barOf bd []) (by simp))
 have R3:=ae.mk (R2.out.below bd)
 have sz3:N+1≤(w2.drewN nq).heap.size:=by have:=bd.size;omega
 clear JB2 T2 D2 B2 R2 bd sz2 s1 s2 s3 W1
 generalize w2.drewN nq=w3 at *
 have CB:=ae.mk ((uf api 0 T3.out (RF.out _ R3.out).1 (show 64 * M≤c by omega) hcm (by omega) OF.out.1).mono fun e w' h=>MF HW.out (.inl rfl) (RF.out _ R3.out).1 OF.out.1 (show 64 * M≤c by omega) hcm h)
 go_wp2_with fail
 refine CB.out.mono ?_
 rintro e w4 ⟨Ap,m,cp,A2,l2,c2,rfl,q1,q2,q3,q4,q5,q6,q7,q8,q9,q10⟩
 simp only[hvl]
 obtain⟨v0,hv0⟩:∃ v,begV s 0=v:=⟨_,rfl⟩
 obtain⟨v1,hv1⟩:∃ v,begV s 1=v:=⟨_,rfl⟩
 have BK0:=ae.mk (SQ HW.out (half:=0) (.inl rfl))
 have BK1:=ae.mk (SQ HW.out (half:=1) (.inr rfl))
 have HNW:ae (nowV s=if v1.has=true∧(v0.has=false∨v0.gen < v1.gen) then v1 else v0):=⟨by unfold nowV;rw[hv0,hv1]⟩
 rw[hv0] at BK0
 rw[hv1] at BK1
 rw[hv0] at q3 q7 ⊢
 clear hv0
 obtain⟨K0,in0,hK0⟩:=DU q3 q4
 obtain⟨B0,hB0⟩:∃ q,w4.heap.size=q:=⟨_,rfl⟩
 have sz4:=q10.size
 have b5:Bar [] w4 (w4.alloc (.cells #[.int .i64 0,.int .i64 v0.gen,.bool v0.has,.slice Ap m cp,.slice none 0 0,.int .i64 0] 185)):=barOf ((Below.refl _ _).alloc (Nat.le_refl _) _) []
 have b35:Bar [t] w3 (w4.alloc (.cells #[.int .i64 0,.int .i64 v0.gen,.bool v0.has,.slice Ap m cp,.slice none 0 0,.int .i64 0] 185)):=q10.trans b5 (by simp)
 have HZ5:=ae.mk (Blk.new_at w4 185 #[.int .i64 0,.int .i64 v0.gen,.bool v0.has,.slice Ap m cp,.slice none 0 0,.int .i64 0] B0 hB0.symm)
 have sz5:(w4.alloc (.cells #[.int .i64 0,.int .i64 v0.gen,.bool v0.has,.slice Ap m cp,.slice none 0 0,.int .i64 0] 185)).heap.size=B0+1:=by simp[hB0]
 have T5:=ae.mk (ftab_bar q9 b5 (by simp))
 have JB5:=ae.mk (JB3.out.bar b35 (by simp;omega))
 have D5:=ae.mk (D3.out.keep b35 (fun k hk hm=>by rw[List.mem_singleton] at hm;subst hm;exact htF hk))
 have B5:=ae.mk (B3.out.trans b35 (by simp))
 have R5:=ae.mk (R3.out.far b35 O2.out)
 have P5:=ae.mk (q3.far b5 (q3.off (by simp)))
 have S5:=ae.mk (q7.far b5 (q7.off (by simp)))
 have OB0:ae (Off A (64 * n) [B0]):=⟨R3.out.off (fun k hk=>by rw[List.mem_singleton] at hk;omega)⟩
 have IN0:ae (In Ap m K0∧∀ k∈K0,N < k∧k < B0):=⟨in0,fun k hk=>by have:=hK0 k hk;omega⟩
 have Q8:ae (∀ G,Off A (64 * n) G→Off A2 l2 G):=⟨fun G hG=>q8 G (OFX.out G hG).1⟩
 have QC:ae (m≤cp∧cp≤maxLen∧l2≤c2∧c2≤maxLen):=⟨q1,q2,q5,q6⟩
 have CB2:=ae.mk ((uf api (M:Nat) T5.out (RF.out _ R5.out).2 (show 64 * M≤c - 64 * M by omega) (by omega) (by omega) OF.out.2).mono fun e w' h=>MF HW.out (.inr rfl) (RF.out _ R5.out).2 OF.out.2 (show 64 * M≤c - 64 * M by omega) (by omega) h)
 clear CB in0 hK0 q1 q2 q3 q4 q5 q6 q7 q8 q9 q10 b5 b35 JB3 T3 D3 B3 R3 OF RF
 go_wp2_with fail
 refine CB2.out.mono ?_
 generalize (w4.alloc (.cells #[.int .i64 0,.int .i64 v0.gen,.bool v0.has,.slice Ap m cp,.slice none 0 0,.int .i64 0] 185))=w5 at *
 rintro e w6 ⟨Aq,mq,cq,A3,l3,c3,rfl,q1,q2,q3,q4,q5,q6,q7,q8,q9,q10⟩
 simp only[hvl]
 rw[hv1] at q3 q7 ⊢
 clear hv1
 obtain⟨K1,in1,hK1⟩:=DU q3 q4
 obtain⟨B1,hB1⟩:∃ q,w6.heap.size=q:=⟨_,rfl⟩
 have sz6:=q10.size
 have b7:Bar [] w6 (w6.alloc (.cells #[.int .i64 (M:Nat),.int .i64 v1.gen,.bool v1.has,.slice Aq mq cq,.slice none 0 0,.int .i64 0] 185)):=barOf ((Below.refl _ _).alloc (Nat.le_refl _) _) []
 have b57:Bar [t] w5 (w6.alloc (.cells #[.int .i64 (M:Nat),.int .i64 v1.gen,.bool v1.has,.slice Aq mq cq,.slice none 0 0,.int .i64 0] 185)):=q10.trans b7 (by simp)
 have HO7:=ae.mk (Blk.new_at w6 185 #[.int .i64 (M:Nat),.int .i64 v1.gen,.bool v1.has,.slice Aq mq cq,.slice none 0 0,.int .i64 0] B1 hB1.symm)
 have T7:=ae.mk (ftab_bar q9 b7 (by simp))
 have HZ7:=ae.mk (HZ5.out.bar b57 (by simp;omega))
 have JB7:=ae.mk (JB5.out.bar b57 (by simp;omega))
 have D7:=ae.mk (D5.out.keep b57 (fun k hk hm=>by rw[List.mem_singleton] at hm;subst hm;exact htF hk))
 have B7:=ae.mk (B5.out.trans b57 (by simp))
 have P7:=ae.mk (P5.out.far b57 (IN0.out.1.off (fun k hk hm=>by rw[List.mem_singleton] at hm;have:=IN0.out.2 k hk;omega)))
 have S7:=ae.mk (S5.out.far b57 (Q8.out _ O2.out))
 have P8:=ae.mk (q3.far b7 (q3.off (by simp)))
 have S8:=ae.mk (q7.far b7 (q7.off (by simp)))
 have IN1:ae (In Aq mq K1∧∀ k∈K1,N < k∧B0 < k∧k < B1):=⟨in1,fun k hk=>by have:=hK1 k hk;omega⟩
 have Q9:ae (∀ G,Off A (64 * n) G→Off A3 l3 G):=⟨fun G hG=>q8 G (OFX.out G hG).2⟩
 have QD:ae (mq≤cq∧cq≤maxLen∧l3≤c3∧c3≤maxLen):=⟨q1,q2,q5,q6⟩
 have sz7:(w6.alloc (.cells #[.int .i64 (M:Nat),.int .i64 v1.gen,.bool v1.has,.slice Aq mq cq,.slice none 0 0,.int .i64 0] 185)).heap.size=B1+1:=by simp[hB1]
 have hB01:B0 < B1:=by omega
 have hNB0:N < B0:=by omega
 clear CB2 in1 hK1 q1 q2 q3 q4 q5 q6 q7 q8 q9 q10 b7 b57 HZ5 JB5 T5 D5 B5 R5 P5 S5 sz5 OFX
 have h01:=HZ7.out.cell 1;have h02:=HZ7.out.cell 2
 have h11:=HO7.out.cell 1;have h12:=HO7.out.cell 2
 go_upto_region 10 with(fail)
 generalize (w6.alloc (.cells #[.int .i64 (M:Nat),.int .i64 v1.gen,.bool v1.has,.slice Aq mq cq,.slice none 0 0,.int .i64 0] 185))=wb at *
 obtain⟨p0,hp0⟩:∃ q,v0.has=q:=⟨_,rfl⟩
 obtain⟨p1,hp1⟩:∃ q,v1.has=q:=⟨_,rfl⟩
 have h02':wb.cell? ⟨B0,2,none⟩=some (.bool p0):=by rw[← hp0];exact h02
 have h12':wb.cell? ⟨B1,2,none⟩=some (.bool p1):=by rw[← hp1];exact h12
 clear h02 h12
 have h02:=h02';have h12:=h12'
 clear h02' h12'
 have h01':wb.cell? ⟨B0,1,none⟩=some (.int .i64 v0.gen):=h01
 have h11':wb.cell? ⟨B1,1,none⟩=some (.int .i64 v1.gen):=h11
 clear h01 h11
 have h01:=h01';have h11:=h11'
 clear h01' h11'
 cases p1 with
 | false =>
  have hnow:nowV s=v0:=by rw[HNW.out,if_neg (by rw[hp1];simp)]
  have Ta:=T7
  have HBa:=ae.mk (show Blk wb B0 185 (hcs 0 v0.gen v0.has Ap m cp (.slice none 0 0) 0) from HZ7.out)
  have JBa:=JB7;have Da:=D7;have Ba:=B7;have Pa:=P7;have Sa:=S7
  have sza:wb.heap.size≤wb.heap.size:=Nat.le_refl _
  clear T7 JB7 D7 B7 P7 P8 S7 S8 HZ7 HO7
  go_upto_region 12 with(fail)
  clear h01 h02 h11 h12
  have OX:Off A2 l2 [t,B0]:=Q8.out _ (vW (F:=[t]) (G:=[B0]) O2.out OB0.out)
  have hhalf:v0.half=0:=BK0.out.2.2.1
  have TXT:Rd wb A2 l2 (textJ s v0.half v0.pos):=by rw[hhalf];exact Sa.out
  have CF:=ae.mk (iq api HW.out Ta.out HBa.out (by omega) BK0.out.2.1 BK0.out.1 TXT QC.out.2.2.1 QC.out.2.2.2 OX)
  have HNV:ae (openJ s=recsJ s (hn s) v0):=⟨by rw[HOP.out,hnow]⟩
  clear OX TXT HOP hnow
  go_wp2_with fail
  refine CF.out.mono ?_
  rintro e wc ⟨rfl,vr,Kr,u1,u2,u3,u4,u5⟩
  obtain⟨e1,e2,e3,e4,e5⟩:=ja (s:=s) (hn s) v0
  have CO:=lH HW.out (hn s) v0 BK0.out.1
  rw[← HNV.out] at u2 u3 e1 e2 e3 e4 e5 CO
  obtain⟨V,hV⟩:∃ V,openJ s=V:=⟨_,rfl⟩
  rw[hV] at u2 u3 e1 e2 e3 e4 e5 CO
  have szc:=u5.size
  have JBc:=JBa.out.bar u5 (by simp;omega)
  have Pc:=Pa.out.far u5 (IN0.out.1.off (fun k hk hm=>by simp only[List.mem_cons,List.not_mem_nil,or_false] at hm;have:=IN0.out.2 k hk;omega))
  have hKr:∀ k∈Kr,B1 < k∧k < wc.heap.size:=fun k hk=>by have:=u4 k hk;omega
  have hvo:∀ g∈vr.ownBlock.toList,g∈Kr:=u3.choose_spec.2.1
  have OFP:Off Ap m vr.ownBlock.toList:=IN0.out.1.off (fun k hk hm=>by have:=hKr k (hvo k hm);have:=IN0.out.2 k hk;omega)
  obtain⟨rq,hrq⟩:∃ q,hn s - V.pos=q:=⟨_,rfl⟩
  rw[hrq] at u2
  have hN8:N < wc.heap.size:=JBc.lt
  have hbj:Bar [N] wc ((((((wc.setCell ⟨N,2,none⟩ (.int .i64 0)).setCell ⟨N,3,none⟩ (.int .i64 V.gen)).setCell ⟨N,4,none⟩ (.bool v0.has)).setCell ⟨N,5,none⟩ (.slice Ap m cp)).setCell ⟨N,6,none⟩ vr).setCell ⟨N,7,none⟩ (.int .i64 (rq:Nat))):=((((((Bar.refl [N] wc).setCell (by simp) _).setCell (by simp) _).setCell (by simp) _).setCell (by simp) _).setCell (by simp) _).setCell (by simp) _
  have hjx:=(((((JBc.set_ 2 (.int .i64 0)).set_ 3 (.int .i64 V.gen)).set_ 4 (.bool v0.has)).set_ 5 (.slice Ap m cp)).set_ 6 vr).set_ 7 (.int .i64 (rq:Nat))
  have hje:((((((#[Value.pointer (some ⟨t,0,none⟩),.pointer (some ⟨d,0,none⟩),.int .i64 0,.int .i64 0,.bool false,.slice none 0 0,.slice none 0 0,.int .i64 0,.bool false]:Array Value).setIfInBounds 2 (.int .i64 0)).setIfInBounds 3 (.int .i64 V.gen)).setIfInBounds 4 (.bool v0.has)).setIfInBounds 5 (.slice Ap m cp)).setIfInBounds 6 vr).setIfInBounds 7 (.int .i64 (rq:Nat))=jc t d ((V.half * (n / 2):Nat):Int) V.gen V.has Ap m cp vr ((rq:Nat):Int) V.dead:=by
   rw[e1,hhalf,e3,e5,BK0.out.2.2.2,HHM.out.2]
   simp[jc]
  rw[hje] at hjx
  have nF:∀ k∈F,k≠N:=fun k hk e=>by have:=HFN.out k hk;omega
  have nB:∀ k∈F,k∉[t,B0]:=fun k hk hm=>by
   simp only[List.mem_cons,List.not_mem_nil,or_false] at hm
   rcases hm with e|e
   ·subst e;exact htF hk
   ·have:=HFN.out k hk;omega
  have hpM:V.pos≤M:=by have:=CO.pos;rw[HHM.out.2] at this;exact this
  have dNP:Disj K0 [N]:=fun k hk hm=>by rw[List.mem_singleton] at hm;have:=IN0.out.2 k hk;omega
  have dNR:Disj Kr [N]:=fun k hk hm=>by rw[List.mem_singleton] at hm;have:=hKr k hk;omega
  have PG:=ae.mk (qX (w0:=w) (j:=N) (K:=K0++Kr) (ftab_bar u1 hbj (by simp;omega)) ((Da.out.keep u5 nB).keep hbj (fun k hk hm=>by rw[List.mem_singleton] at hm;exact nF k hk hm)) hjx QC.out.1 QC.out.2.1 (by rw[e4];exact Pc.far hbj (IN0.out.1.off dNP)) (IN0.out.1.mono (fun k hk=>by simp[hk])) OFP ((u3.keep hbj dNR).mono (fun k hk=>by simp[hk])) (fun k hk=>by
   have hs:=hbj.size
   rcases List.mem_append.1 hk with hk|hk
   ·have:=IN0.out.2 k hk;omega
   ·have:=hKr k hk;omega) (by omega) htF (by omega) (by rw[hN];exact HFN.out) CO (by have:=HHM.out;omega) (fun _=>by have:=HHM.out;omega) ((Ba.out.trans u5 (fun k hk=>by
    simp only[List.mem_cons,List.not_mem_nil,or_false] at hk
    rcases hk with e|e
    ·exact .inl (by simp[e])
    ·exact .inr (by omega))).trans hbj (fun k hk=>by rw[List.mem_singleton] at hk;exact .inr (by omega))) hV)
  have j2':∃ u,wc.cell? ⟨N,2,none⟩=some u:=⟨_,JBc.cell 2⟩
  have j3':∃ u,wc.cell? ⟨N,3,none⟩=some u:=⟨_,JBc.cell 3⟩
  have j4':∃ u,wc.cell? ⟨N,4,none⟩=some u:=⟨_,JBc.cell 4⟩
  have j5':∃ u,wc.cell? ⟨N,5,none⟩=some u:=⟨_,JBc.cell 5⟩
  have j6':∃ u,wc.cell? ⟨N,6,none⟩=some u:=⟨_,JBc.cell 6⟩
  have j7':∃ u,wc.cell? ⟨N,7,none⟩=some u:=⟨_,JBc.cell 7⟩
  have z2:=JBc.frozen 2;have z3:=JBc.frozen 3;have z4:=JBc.frozen 4;have z5:=JBc.frozen 5;have z6:=JBc.frozen 6;have z7:=JBc.frozen 7
  obtain⟨Av,cv,hvr⟩:=u3.shape
  subst hvr
  have n0:wc.cell? ⟨B0,0,none⟩=some (.int .i64 0):=u2.cell 0
  have n1:wc.cell? ⟨B0,1,none⟩=some (.int .i64 V.gen):=u2.cell 1
  have n2:wc.cell? ⟨B0,2,none⟩=some (.bool v0.has):=u2.cell 2
  have n3:wc.cell? ⟨B0,3,none⟩=some (.slice Ap m cp):=u2.cell 3
  have n4:wc.cell? ⟨B0,4,none⟩=some (.slice Av V.recs.length cv):=u2.cell 4
  have n5:wc.cell? ⟨B0,5,none⟩=some (.int .i64 (rq:Nat)):=u2.cell 5
  clear CF u1 u2 u3 u4 u5 e1 e2 e3 e4 e5 CO hV JBc Pc hKr hvo OFP hrq hbj hjx hje nF nB hpM dNP dNR Ta HBa JBa Da Ba Pa Sa HW HHM HV O2 O2N OB0 IN0 IN1 Q8 Q9 QC QD BK0 BK1 HNW HNV HFN hhalf hp0 hp1
  obtain⟨x2,j2⟩:=j2';obtain⟨x3,j3⟩:=j3';obtain⟨x4,j4⟩:=j4';obtain⟨x5,j5⟩:=j5';obtain⟨x6,j6⟩:=j6';obtain⟨x7,j7⟩:=j7'
  go_wp2
  go_ret
  exact PG.out
 | true =>
  cases p0 with
  | false =>
   have hnow:nowV s=v1:=by rw[HNW.out,if_pos ⟨hp1,.inl hp0⟩]
   have PX:=put6 HZ7.out (.int .i64 (M:Nat)) (.int .i64 v1.gen) (.bool true) (.slice Aq mq cq) (.slice none 0 0) (.int .i64 0)
   have nt0:t∉[B0]:=by simp;omega
   have Ta:=ae.mk (ftab_bar T7.out PX.2 nt0)
   have HBa:=ae.mk (show Blk _ B0 185 (hcs (M:Nat) v1.gen true Aq mq cq (.slice none 0 0) 0) from PX.1)
   have JBa:=ae.mk (JB7.out.bar PX.2 (by simp;omega))
   have Da:=ae.mk (D7.out.keep PX.2 (fun k hk hm=>by rw[List.mem_singleton] at hm;have:=HFN.out k hk;omega))
   have Ba:=ae.mk (B7.out.trans PX.2 (fun k hk=>by rw[List.mem_singleton] at hk;exact .inr (by omega)))
   have Pa:=ae.mk (P8.out.far PX.2 (IN1.out.1.off (fun k hk hm=>by rw[List.mem_singleton] at hm;have:=IN1.out.2 k hk;omega)))
   have Sa:=ae.mk (S8.out.far PX.2 (Q9.out _ OB0.out))
   have sza:=PX.2.size
   have g0:=HZ7.out.frozen 0;have g1:=HZ7.out.frozen 1;have g2:=HZ7.out.frozen 2;have g3:=HZ7.out.frozen 3;have g4:=HZ7.out.frozen 4;have g5:=HZ7.out.frozen 5
   have k0:=HZ7.out.cell 0;have k1:=HZ7.out.cell 1;have k2:=HZ7.out.cell 2;have k3:=HZ7.out.cell 3;have k4:=HZ7.out.cell 4;have k5:=HZ7.out.cell 5
   have i0:=HO7.out.cell 0;have i1:=HO7.out.cell 1;have i2:wb.cell? ⟨B1,2,none⟩=some (.bool true):=h12;have i3:=HO7.out.cell 3;have i4:=HO7.out.cell 4;have i5:=HO7.out.cell 5
   clear PX T7 JB7 D7 B7 P7 P8 S7 S8 HZ7 HO7
   go_upto_region 12 with(fail)
   clear h01 h02 h11 h12 g0 g1 g2 g3 g4 g5 k0 k1 k2 k3 k4 k5 i0 i1 i2 i3 i4 i5
   generalize ((((((wb.setCell ⟨B0,0,none⟩ (.int .i64 (M:Nat))).setCell ⟨B0,1,none⟩ (.int .i64 v1.gen)).setCell ⟨B0,2,none⟩ (.bool true)).setCell ⟨B0,3,none⟩ (.slice Aq mq cq)).setCell ⟨B0,4,none⟩ (.slice none 0 0)).setCell ⟨B0,5,none⟩ (.int .i64 0))=wa at *
   have OX:Off A3 l3 [t,B0]:=Q9.out _ (vW (F:=[t]) (G:=[B0]) O2.out OB0.out)
   have hhalf:v1.half=1:=BK1.out.2.2.1
   have TXT:Rd wa A3 l3 (textJ s v1.half v1.pos):=by rw[hhalf];exact Sa.out
   have CF:=ae.mk (iq api HW.out Ta.out HBa.out (by omega) BK1.out.2.1 BK1.out.1 TXT QD.out.2.2.1 QD.out.2.2.2 OX)
   have HNV:ae (openJ s=recsJ s (hn s) v1):=⟨by rw[HOP.out,hnow]⟩
   clear OX TXT HOP hnow
   go_wp2_with fail
   refine CF.out.mono ?_
   rintro e wc ⟨rfl,vr,Kr,u1,u2,u3,u4,u5⟩
   obtain⟨e1,e2,e3,e4,e5⟩:=ja (s:=s) (hn s) v1
   have CO:=lH HW.out (hn s) v1 BK1.out.1
   rw[← HNV.out] at u2 u3 e1 e2 e3 e4 e5 CO
   obtain⟨V,hV⟩:∃ V,openJ s=V:=⟨_,rfl⟩
   rw[hV] at u2 u3 e1 e2 e3 e4 e5 CO
   have szc:=u5.size
   have JBc:=JBa.out.bar u5 (by simp;omega)
   have Pc:=Pa.out.far u5 (IN1.out.1.off (fun k hk hm=>by simp only[List.mem_cons,List.not_mem_nil,or_false] at hm;have:=IN1.out.2 k hk;omega))
   have hKr:∀ k∈Kr,B1 < k∧k < wc.heap.size:=fun k hk=>by have:=u4 k hk;omega
   have hvo:∀ g∈vr.ownBlock.toList,g∈Kr:=u3.choose_spec.2.1
   have OFP:Off Aq mq vr.ownBlock.toList:=IN1.out.1.off (fun k hk hm=>by have:=hKr k (hvo k hm);have:=IN1.out.2 k hk;omega)
   obtain⟨rq,hrq⟩:∃ q,hn s - V.pos=q:=⟨_,rfl⟩
   rw[hrq] at u2
   have hN8:N < wc.heap.size:=JBc.lt
   have hbj:Bar [N] wc ((((((wc.setCell ⟨N,2,none⟩ (.int .i64 (M:Nat))).setCell ⟨N,3,none⟩ (.int .i64 V.gen)).setCell ⟨N,4,none⟩ (.bool true)).setCell ⟨N,5,none⟩ (.slice Aq mq cq)).setCell ⟨N,6,none⟩ vr).setCell ⟨N,7,none⟩ (.int .i64 (rq:Nat))):=((((((Bar.refl [N] wc).setCell (by simp) _).setCell (by simp) _).setCell (by simp) _).setCell (by simp) _).setCell (by simp) _).setCell (by simp) _
   have hjx:=(((((JBc.set_ 2 (.int .i64 (M:Nat))).set_ 3 (.int .i64 V.gen)).set_ 4 (.bool true)).set_ 5 (.slice Aq mq cq)).set_ 6 vr).set_ 7 (.int .i64 (rq:Nat))
   have hje:((((((#[Value.pointer (some ⟨t,0,none⟩),.pointer (some ⟨d,0,none⟩),.int .i64 0,.int .i64 0,.bool false,.slice none 0 0,.slice none 0 0,.int .i64 0,.bool false]:Array Value).setIfInBounds 2 (.int .i64 (M:Nat))).setIfInBounds 3 (.int .i64 V.gen)).setIfInBounds 4 (.bool true)).setIfInBounds 5 (.slice Aq mq cq)).setIfInBounds 6 vr).setIfInBounds 7 (.int .i64 (rq:Nat))=jc t d ((V.half * (n / 2):Nat):Int) V.gen V.has Aq mq cq vr ((rq:Nat):Int) V.dead:=by
    rw[e1,hhalf,e3,e5,BK1.out.2.2.2,HHM.out.2,hp1]
    simp[jc]
   rw[hje] at hjx
   have nF:∀ k∈F,k≠N:=fun k hk e=>by have:=HFN.out k hk;omega
   have nB:∀ k∈F,k∉[t,B0]:=fun k hk hm=>by
    simp only[List.mem_cons,List.not_mem_nil,or_false] at hm
    rcases hm with e|e
    ·subst e;exact htF hk
    ·have:=HFN.out k hk;omega
   have hpM:V.pos≤M:=by have:=CO.pos;rw[HHM.out.2] at this;exact this
   have dNP:Disj K1 [N]:=fun k hk hm=>by rw[List.mem_singleton] at hm;have:=IN1.out.2 k hk;omega
   have dNR:Disj Kr [N]:=fun k hk hm=>by rw[List.mem_singleton] at hm;have:=hKr k hk;omega
   have PG:=ae.mk (qX (w0:=w) (j:=N) (K:=K1++Kr) (ftab_bar u1 hbj (by simp;omega)) ((Da.out.keep u5 nB).keep hbj (fun k hk hm=>by rw[List.mem_singleton] at hm;exact nF k hk hm)) hjx QD.out.1 QD.out.2.1 (by rw[e4];exact Pc.far hbj (IN1.out.1.off dNP)) (IN1.out.1.mono (fun k hk=>by simp[hk])) OFP ((u3.keep hbj dNR).mono (fun k hk=>by simp[hk])) (fun k hk=>by
    have hs:=hbj.size
    rcases List.mem_append.1 hk with hk|hk
    ·have:=IN1.out.2 k hk;omega
    ·have:=hKr k hk;omega) (by omega) htF (by omega) (by rw[hN];exact HFN.out) CO (by have:=HHM.out;omega) (fun _=>by have:=HHM.out;omega) ((Ba.out.trans u5 (fun k hk=>by
     simp only[List.mem_cons,List.not_mem_nil,or_false] at hk
     rcases hk with e|e
     ·exact .inl (by simp[e])
     ·exact .inr (by omega))).trans hbj (fun k hk=>by rw[List.mem_singleton] at hk;exact .inr (by omega))) hV)
   have j2':∃ u,wc.cell? ⟨N,2,none⟩=some u:=⟨_,JBc.cell 2⟩
   have j3':∃ u,wc.cell? ⟨N,3,none⟩=some u:=⟨_,JBc.cell 3⟩
   have j4':∃ u,wc.cell? ⟨N,4,none⟩=some u:=⟨_,JBc.cell 4⟩
   have j5':∃ u,wc.cell? ⟨N,5,none⟩=some u:=⟨_,JBc.cell 5⟩
   have j6':∃ u,wc.cell? ⟨N,6,none⟩=some u:=⟨_,JBc.cell 6⟩
   have j7':∃ u,wc.cell? ⟨N,7,none⟩=some u:=⟨_,JBc.cell 7⟩
   have z2:=JBc.frozen 2;have z3:=JBc.frozen 3;have z4:=JBc.frozen 4;have z5:=JBc.frozen 5;have z6:=JBc.frozen 6;have z7:=JBc.frozen 7
   obtain⟨Av,cv,hvr⟩:=u3.shape
   subst hvr
   have n0:wc.cell? ⟨B0,0,none⟩=some (.int .i64 (M:Nat)):=u2.cell 0
   have n1:wc.cell? ⟨B0,1,none⟩=some (.int .i64 V.gen):=u2.cell 1
   have n2:wc.cell? ⟨B0,2,none⟩=some (.bool true):=u2.cell 2
   have n3:wc.cell? ⟨B0,3,none⟩=some (.slice Aq mq cq):=u2.cell 3
   have n4:wc.cell? ⟨B0,4,none⟩=some (.slice Av V.recs.length cv):=u2.cell 4
   have n5:wc.cell? ⟨B0,5,none⟩=some (.int .i64 (rq:Nat)):=u2.cell 5
   clear CF u1 u2 u3 u4 u5 e1 e2 e3 e4 e5 CO hV JBc Pc hKr hvo OFP hrq hbj hjx hje nF nB hpM dNP dNR Ta HBa JBa Da Ba Pa Sa HW HHM HV O2 O2N OB0 IN0 IN1 Q8 Q9 QC QD BK0 BK1 HNW HNV HFN hhalf hp0 hp1
   obtain⟨x2,j2⟩:=j2';obtain⟨x3,j3⟩:=j3';obtain⟨x4,j4⟩:=j4';obtain⟨x5,j5⟩:=j5';obtain⟨x6,j6⟩:=j6';obtain⟨x7,j7⟩:=j7'
   go_wp2
   go_ret
   exact PG.out
  | true =>
   by_cases hg:v0.gen < v1.gen
   ·have hnow:nowV s=v1:=by rw[HNW.out,if_pos ⟨hp1,.inr hg⟩]
    have PX:=put6 HZ7.out (.int .i64 (M:Nat)) (.int .i64 v1.gen) (.bool true) (.slice Aq mq cq) (.slice none 0 0) (.int .i64 0)
    have nt0:t∉[B0]:=by simp;omega
    have Ta:=ae.mk (ftab_bar T7.out PX.2 nt0)
    have HBa:=ae.mk (show Blk _ B0 185 (hcs (M:Nat) v1.gen true Aq mq cq (.slice none 0 0) 0) from PX.1)
    have JBa:=ae.mk (JB7.out.bar PX.2 (by simp;omega))
    have Da:=ae.mk (D7.out.keep PX.2 (fun k hk hm=>by rw[List.mem_singleton] at hm;have:=HFN.out k hk;omega))
    have Ba:=ae.mk (B7.out.trans PX.2 (fun k hk=>by rw[List.mem_singleton] at hk;exact .inr (by omega)))
    have Pa:=ae.mk (P8.out.far PX.2 (IN1.out.1.off (fun k hk hm=>by rw[List.mem_singleton] at hm;have:=IN1.out.2 k hk;omega)))
    have Sa:=ae.mk (S8.out.far PX.2 (Q9.out _ OB0.out))
    have sza:=PX.2.size
    have g0:=HZ7.out.frozen 0;have g1:=HZ7.out.frozen 1;have g2:=HZ7.out.frozen 2;have g3:=HZ7.out.frozen 3;have g4:=HZ7.out.frozen 4;have g5:=HZ7.out.frozen 5
    have k0:=HZ7.out.cell 0;have k1:=HZ7.out.cell 1;have k2:=HZ7.out.cell 2;have k3:=HZ7.out.cell 3;have k4:=HZ7.out.cell 4;have k5:=HZ7.out.cell 5
    have i0:=HO7.out.cell 0;have i1:=HO7.out.cell 1;have i2:wb.cell? ⟨B1,2,none⟩=some (.bool true):=h12;have i3:=HO7.out.cell 3;have i4:=HO7.out.cell 4;have i5:=HO7.out.cell 5
    clear PX T7 JB7 D7 B7 P7 P8 S7 S8 HZ7 HO7
    go_upto_region 12 with(fail)
    clear h01 h02 h11 h12 g0 g1 g2 g3 g4 g5 k0 k1 k2 k3 k4 k5 i0 i1 i2 i3 i4 i5
    generalize ((((((wb.setCell ⟨B0,0,none⟩ (.int .i64 (M:Nat))).setCell ⟨B0,1,none⟩ (.int .i64 v1.gen)).setCell ⟨B0,2,none⟩ (.bool true)).setCell ⟨B0,3,none⟩ (.slice Aq mq cq)).setCell ⟨B0,4,none⟩ (.slice none 0 0)).setCell ⟨B0,5,none⟩ (.int .i64 0))=wa at *
    have OX:Off A3 l3 [t,B0]:=Q9.out _ (vW (F:=[t]) (G:=[B0]) O2.out OB0.out)
    have hhalf:v1.half=1:=BK1.out.2.2.1
    have TXT:Rd wa A3 l3 (textJ s v1.half v1.pos):=by rw[hhalf];exact Sa.out
    have CF:=ae.mk (iq api HW.out Ta.out HBa.out (by omega) BK1.out.2.1 BK1.out.1 TXT QD.out.2.2.1 QD.out.2.2.2 OX)
    have HNV:ae (openJ s=recsJ s (hn s) v1):=⟨by rw[HOP.out,hnow]⟩
    clear OX TXT HOP hnow
    go_wp2_with fail
    refine CF.out.mono ?_
    rintro e wc ⟨rfl,vr,Kr,u1,u2,u3,u4,u5⟩
    obtain⟨e1,e2,e3,e4,e5⟩:=ja (s:=s) (hn s) v1
    have CO:=lH HW.out (hn s) v1 BK1.out.1
    rw[← HNV.out] at u2 u3 e1 e2 e3 e4 e5 CO
    obtain⟨V,hV⟩:∃ V,openJ s=V:=⟨_,rfl⟩
    rw[hV] at u2 u3 e1 e2 e3 e4 e5 CO
    have szc:=u5.size
    have JBc:=JBa.out.bar u5 (by simp;omega)
    have Pc:=Pa.out.far u5 (IN1.out.1.off (fun k hk hm=>by simp only[List.mem_cons,List.not_mem_nil,or_false] at hm;have:=IN1.out.2 k hk;omega))
    have hKr:∀ k∈Kr,B1 < k∧k < wc.heap.size:=fun k hk=>by have:=u4 k hk;omega
    have hvo:∀ g∈vr.ownBlock.toList,g∈Kr:=u3.choose_spec.2.1
    have OFP:Off Aq mq vr.ownBlock.toList:=IN1.out.1.off (fun k hk hm=>by have:=hKr k (hvo k hm);have:=IN1.out.2 k hk;omega)
    obtain⟨rq,hrq⟩:∃ q,hn s - V.pos=q:=⟨_,rfl⟩
    rw[hrq] at u2
    have hN8:N < wc.heap.size:=JBc.lt
    have hbj:Bar [N] wc ((((((wc.setCell ⟨N,2,none⟩ (.int .i64 (M:Nat))).setCell ⟨N,3,none⟩ (.int .i64 V.gen)).setCell ⟨N,4,none⟩ (.bool true)).setCell ⟨N,5,none⟩ (.slice Aq mq cq)).setCell ⟨N,6,none⟩ vr).setCell ⟨N,7,none⟩ (.int .i64 (rq:Nat))):=((((((Bar.refl [N] wc).setCell (by simp) _).setCell (by simp) _).setCell (by simp) _).setCell (by simp) _).setCell (by simp) _).setCell (by simp) _
    have hjx:=(((((JBc.set_ 2 (.int .i64 (M:Nat))).set_ 3 (.int .i64 V.gen)).set_ 4 (.bool true)).set_ 5 (.slice Aq mq cq)).set_ 6 vr).set_ 7 (.int .i64 (rq:Nat))
    have hje:((((((#[Value.pointer (some ⟨t,0,none⟩),.pointer (some ⟨d,0,none⟩),.int .i64 0,.int .i64 0,.bool false,.slice none 0 0,.slice none 0 0,.int .i64 0,.bool false]:Array Value).setIfInBounds 2 (.int .i64 (M:Nat))).setIfInBounds 3 (.int .i64 V.gen)).setIfInBounds 4 (.bool true)).setIfInBounds 5 (.slice Aq mq cq)).setIfInBounds 6 vr).setIfInBounds 7 (.int .i64 (rq:Nat))=jc t d ((V.half * (n / 2):Nat):Int) V.gen V.has Aq mq cq vr ((rq:Nat):Int) V.dead:=by
     rw[e1,hhalf,e3,e5,BK1.out.2.2.2,HHM.out.2,hp1]
     simp[jc]
    rw[hje] at hjx
    have nF:∀ k∈F,k≠N:=fun k hk e=>by have:=HFN.out k hk;omega
    have nB:∀ k∈F,k∉[t,B0]:=fun k hk hm=>by
     simp only[List.mem_cons,List.not_mem_nil,or_false] at hm
     rcases hm with e|e
     ·subst e;exact htF hk
     ·have:=HFN.out k hk;omega
    have hpM:V.pos≤M:=by have:=CO.pos;rw[HHM.out.2] at this;exact this
    have dNP:Disj K1 [N]:=fun k hk hm=>by rw[List.mem_singleton] at hm;have:=IN1.out.2 k hk;omega
    have dNR:Disj Kr [N]:=fun k hk hm=>by rw[List.mem_singleton] at hm;have:=hKr k hk;omega
    have PG:=ae.mk (qX (w0:=w) (j:=N) (K:=K1++Kr) (ftab_bar u1 hbj (by simp;omega)) ((Da.out.keep u5 nB).keep hbj (fun k hk hm=>by rw[List.mem_singleton] at hm;exact nF k hk hm)) hjx QD.out.1 QD.out.2.1 (by rw[e4];exact Pc.far hbj (IN1.out.1.off dNP)) (IN1.out.1.mono (fun k hk=>by simp[hk])) OFP ((u3.keep hbj dNR).mono (fun k hk=>by simp[hk])) (fun k hk=>by
     have hs:=hbj.size
     rcases List.mem_append.1 hk with hk|hk
     ·have:=IN1.out.2 k hk;omega
     ·have:=hKr k hk;omega) (by omega) htF (by omega) (by rw[hN];exact HFN.out) CO (by have:=HHM.out;omega) (fun _=>by have:=HHM.out;omega) ((Ba.out.trans u5 (fun k hk=>by
      simp only[List.mem_cons,List.not_mem_nil,or_false] at hk
      rcases hk with e|e
      ·exact .inl (by simp[e])
      ·exact .inr (by omega))).trans hbj (fun k hk=>by rw[List.mem_singleton] at hk;exact .inr (by omega))) hV)
    have j2':∃ u,wc.cell? ⟨N,2,none⟩=some u:=⟨_,JBc.cell 2⟩
    have j3':∃ u,wc.cell? ⟨N,3,none⟩=some u:=⟨_,JBc.cell 3⟩
    have j4':∃ u,wc.cell? ⟨N,4,none⟩=some u:=⟨_,JBc.cell 4⟩
    have j5':∃ u,wc.cell? ⟨N,5,none⟩=some u:=⟨_,JBc.cell 5⟩
    have j6':∃ u,wc.cell? ⟨N,6,none⟩=some u:=⟨_,JBc.cell 6⟩
    have j7':∃ u,wc.cell? ⟨N,7,none⟩=some u:=⟨_,JBc.cell 7⟩
    have z2:=JBc.frozen 2;have z3:=JBc.frozen 3;have z4:=JBc.frozen 4;have z5:=JBc.frozen 5;have z6:=JBc.frozen 6;have z7:=JBc.frozen 7
    obtain⟨Av,cv,hvr⟩:=u3.shape
    subst hvr
    have n0:wc.cell? ⟨B0,0,none⟩=some (.int .i64 (M:Nat)):=u2.cell 0
    have n1:wc.cell? ⟨B0,1,none⟩=some (.int .i64 V.gen):=u2.cell 1
    have n2:wc.cell? ⟨B0,2,none⟩=some (.bool true):=u2.cell 2
    have n3:wc.cell? ⟨B0,3,none⟩=some (.slice Aq mq cq):=u2.cell 3
    have n4:wc.cell? ⟨B0,4,none⟩=some (.slice Av V.recs.length cv):=u2.cell 4
    have n5:wc.cell? ⟨B0,5,none⟩=some (.int .i64 (rq:Nat)):=u2.cell 5
    clear CF u1 u2 u3 u4 u5 e1 e2 e3 e4 e5 CO hV JBc Pc hKr hvo OFP hrq hbj hjx hje nF nB hpM dNP dNR Ta HBa JBa Da Ba Pa Sa HW HHM HV O2 O2N OB0 IN0 IN1 Q8 Q9 QC QD BK0 BK1 HNW HNV HFN hhalf hp0 hp1
    obtain⟨x2,j2⟩:=j2';obtain⟨x3,j3⟩:=j3';obtain⟨x4,j4⟩:=j4';obtain⟨x5,j5⟩:=j5';obtain⟨x6,j6⟩:=j6';obtain⟨x7,j7⟩:=j7'
    go_wp2
    go_ret
    exact PG.out
   ·have hnow:nowV s=v0:=by rw[HNW.out,if_neg (by rintro ⟨-,h|h⟩;rw[hp0] at h;cases h;exact hg h)]
    have Ta:=T7
    have HBa:=ae.mk (show Blk wb B0 185 (hcs 0 v0.gen v0.has Ap m cp (.slice none 0 0) 0) from HZ7.out)
    have JBa:=JB7;have Da:=D7;have Ba:=B7;have Pa:=P7;have Sa:=S7
    have sza:wb.heap.size≤wb.heap.size:=Nat.le_refl _
    clear T7 JB7 D7 B7 P7 P8 S7 S8 HZ7 HO7
    go_upto_region 12 with(fail)
    clear h01 h02 h11 h12
    have OX:Off A2 l2 [t,B0]:=Q8.out _ (vW (F:=[t]) (G:=[B0]) O2.out OB0.out)
    have hhalf:v0.half=0:=BK0.out.2.2.1
    have TXT:Rd wb A2 l2 (textJ s v0.half v0.pos):=by rw[hhalf];exact Sa.out
    have CF:=ae.mk (iq api HW.out Ta.out HBa.out (by omega) BK0.out.2.1 BK0.out.1 TXT QC.out.2.2.1 QC.out.2.2.2 OX)
    have HNV:ae (openJ s=recsJ s (hn s) v0):=⟨by rw[HOP.out,hnow]⟩
    clear OX TXT HOP hnow
    go_wp2_with fail
    refine CF.out.mono ?_
    rintro e wc ⟨rfl,vr,Kr,u1,u2,u3,u4,u5⟩
    obtain⟨e1,e2,e3,e4,e5⟩:=ja (s:=s) (hn s) v0
    have CO:=lH HW.out (hn s) v0 BK0.out.1
    rw[← HNV.out] at u2 u3 e1 e2 e3 e4 e5 CO
    obtain⟨V,hV⟩:∃ V,openJ s=V:=⟨_,rfl⟩
    rw[hV] at u2 u3 e1 e2 e3 e4 e5 CO
    have szc:=u5.size
    have JBc:=JBa.out.bar u5 (by simp;omega)
    have Pc:=Pa.out.far u5 (IN0.out.1.off (fun k hk hm=>by simp only[List.mem_cons,List.not_mem_nil,or_false] at hm;have:=IN0.out.2 k hk;omega))
    have hKr:∀ k∈Kr,B1 < k∧k < wc.heap.size:=fun k hk=>by have:=u4 k hk;omega
    have hvo:∀ g∈vr.ownBlock.toList,g∈Kr:=u3.choose_spec.2.1
    have OFP:Off Ap m vr.ownBlock.toList:=IN0.out.1.off (fun k hk hm=>by have:=hKr k (hvo k hm);have:=IN0.out.2 k hk;omega)
    obtain⟨rq,hrq⟩:∃ q,hn s - V.pos=q:=⟨_,rfl⟩
    rw[hrq] at u2
    have hN8:N < wc.heap.size:=JBc.lt
    have hbj:Bar [N] wc ((((((wc.setCell ⟨N,2,none⟩ (.int .i64 0)).setCell ⟨N,3,none⟩ (.int .i64 V.gen)).setCell ⟨N,4,none⟩ (.bool v0.has)).setCell ⟨N,5,none⟩ (.slice Ap m cp)).setCell ⟨N,6,none⟩ vr).setCell ⟨N,7,none⟩ (.int .i64 (rq:Nat))):=((((((Bar.refl [N] wc).setCell (by simp) _).setCell (by simp) _).setCell (by simp) _).setCell (by simp) _).setCell (by simp) _).setCell (by simp) _
    have hjx:=(((((JBc.set_ 2 (.int .i64 0)).set_ 3 (.int .i64 V.gen)).set_ 4 (.bool v0.has)).set_ 5 (.slice Ap m cp)).set_ 6 vr).set_ 7 (.int .i64 (rq:Nat))
    have hje:((((((#[Value.pointer (some ⟨t,0,none⟩),.pointer (some ⟨d,0,none⟩),.int .i64 0,.int .i64 0,.bool false,.slice none 0 0,.slice none 0 0,.int .i64 0,.bool false]:Array Value).setIfInBounds 2 (.int .i64 0)).setIfInBounds 3 (.int .i64 V.gen)).setIfInBounds 4 (.bool v0.has)).setIfInBounds 5 (.slice Ap m cp)).setIfInBounds 6 vr).setIfInBounds 7 (.int .i64 (rq:Nat))=jc t d ((V.half * (n / 2):Nat):Int) V.gen V.has Ap m cp vr ((rq:Nat):Int) V.dead:=by
     rw[e1,hhalf,e3,e5,BK0.out.2.2.2,HHM.out.2]
     simp[jc]
    rw[hje] at hjx
    have nF:∀ k∈F,k≠N:=fun k hk e=>by have:=HFN.out k hk;omega
    have nB:∀ k∈F,k∉[t,B0]:=fun k hk hm=>by
     simp only[List.mem_cons,List.not_mem_nil,or_false] at hm
     rcases hm with e|e
     ·subst e;exact htF hk
     ·have:=HFN.out k hk;omega
    have hpM:V.pos≤M:=by have:=CO.pos;rw[HHM.out.2] at this;exact this
    have dNP:Disj K0 [N]:=fun k hk hm=>by rw[List.mem_singleton] at hm;have:=IN0.out.2 k hk;omega
    have dNR:Disj Kr [N]:=fun k hk hm=>by rw[List.mem_singleton] at hm;have:=hKr k hk;omega
    have PG:=ae.mk (qX (w0:=w) (j:=N) (K:=K0++Kr) (ftab_bar u1 hbj (by simp;omega)) ((Da.out.keep u5 nB).keep hbj (fun k hk hm=>by rw[List.mem_singleton] at hm;exact nF k hk hm)) hjx QC.out.1 QC.out.2.1 (by rw[e4];exact Pc.far hbj (IN0.out.1.off dNP)) (IN0.out.1.mono (fun k hk=>by simp[hk])) OFP ((u3.keep hbj dNR).mono (fun k hk=>by simp[hk])) (fun k hk=>by
     have hs:=hbj.size
     rcases List.mem_append.1 hk with hk|hk
     ·have:=IN0.out.2 k hk;omega
     ·have:=hKr k hk;omega) (by omega) htF (by omega) (by rw[hN];exact HFN.out) CO (by have:=HHM.out;omega) (fun _=>by have:=HHM.out;omega) ((Ba.out.trans u5 (fun k hk=>by
      simp only[List.mem_cons,List.not_mem_nil,or_false] at hk
      rcases hk with e|e
      ·exact .inl (by simp[e])
      ·exact .inr (by omega))).trans hbj (fun k hk=>by rw[List.mem_singleton] at hk;exact .inr (by omega))) hV)
    have j2':∃ u,wc.cell? ⟨N,2,none⟩=some u:=⟨_,JBc.cell 2⟩
    have j3':∃ u,wc.cell? ⟨N,3,none⟩=some u:=⟨_,JBc.cell 3⟩
    have j4':∃ u,wc.cell? ⟨N,4,none⟩=some u:=⟨_,JBc.cell 4⟩
    have j5':∃ u,wc.cell? ⟨N,5,none⟩=some u:=⟨_,JBc.cell 5⟩
    have j6':∃ u,wc.cell? ⟨N,6,none⟩=some u:=⟨_,JBc.cell 6⟩
    have j7':∃ u,wc.cell? ⟨N,7,none⟩=some u:=⟨_,JBc.cell 7⟩
    have z2:=JBc.frozen 2;have z3:=JBc.frozen 3;have z4:=JBc.frozen 4;have z5:=JBc.frozen 5;have z6:=JBc.frozen 6;have z7:=JBc.frozen 7
    obtain⟨Av,cv,hvr⟩:=u3.shape
    subst hvr
    have n0:wc.cell? ⟨B0,0,none⟩=some (.int .i64 0):=u2.cell 0
    have n1:wc.cell? ⟨B0,1,none⟩=some (.int .i64 V.gen):=u2.cell 1
    have n2:wc.cell? ⟨B0,2,none⟩=some (.bool v0.has):=u2.cell 2
    have n3:wc.cell? ⟨B0,3,none⟩=some (.slice Ap m cp):=u2.cell 3
    have n4:wc.cell? ⟨B0,4,none⟩=some (.slice Av V.recs.length cv):=u2.cell 4
    have n5:wc.cell? ⟨B0,5,none⟩=some (.int .i64 (rq:Nat)):=u2.cell 5
    clear CF u1 u2 u3 u4 u5 e1 e2 e3 e4 e5 CO hV JBc Pc hKr hvo OFP hrq hbj hjx hje nF nB hpM dNP dNR Ta HBa JBa Da Ba Pa Sa HW HHM HV O2 O2N OB0 IN0 IN1 Q8 Q9 QC QD BK0 BK1 HNW HNV HFN hhalf hp0 hp1
    obtain⟨x2,j2⟩:=j2';obtain⟨x3,j3⟩:=j3';obtain⟨x4,j4⟩:=j4';obtain⟨x5,j5⟩:=j5';obtain⟨x6,j6⟩:=j6';obtain⟨x7,j7⟩:=j7'
    go_wp2
    go_ret
    exact PG.out
theorem zn (api:dS) {w:World}{H:List Nat}{t d n:Nat}{s:DS}(sd:Sd w H t d n s):Calls Tryz.prog 46 #[.pointer (some ⟨t,0,none⟩),.pointer (some ⟨d,0,none⟩)] w (gY Cj w H t d n s):=by
 cases hd:s.down with
 | true=>exact H9 sd hd
 | false=>exact QI api sd hd
end Journal
end Go.Proofs.YtlkeieoecfkkeaaGreat
