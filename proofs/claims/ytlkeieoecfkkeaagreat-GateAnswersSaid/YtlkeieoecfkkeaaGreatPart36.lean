/-
  Parts laid together: JOpenRead.
-/
import Derived.Test.YtlkeieoecfkkeaaGreatPart28
import Derived.Test.YtlkeieoecfkkeaaGreatPart31
import Derived.Test.YtlkeieoecfkkeaaGreatPart17
import Derived.Test.YtlkeieoecfkkeaaGreatPart3
set_option maxRecDepth 100000
set_option maxHeartbeats 1000000
namespace Go.Proofs.YtlkeieoecfkkeaaGreat
namespace Journal
open Go.RowKit Sha Disk Go.Proofs.YtlkeieoecfkkeaaGreat.Frame
def allD (s:DS) (n:Nat):List Int:=cat (rowOf s.now) n
def Md (s:DS) (n:Nat) (w:World) (e:Ending) (w':World):Prop:=∃ A c,e=.returned (.tuple #[.slice A (64 * n) c,.int .i64 0])∧64 * n≤c∧c≤maxLen∧Rd w' A (64 * n) (allD s n)∧(∀ F:List Nat,(∀ k∈F,k < w.heap.size)→Off A (64 * n) F)∧Below w.heap.size w w'
theorem Hu {s:DS}(hd:s.down=true) (i:Int):oI s i=(13,[]):=by unfold oI;rw[if_pos hd]
theorem Hz {w:World}{F:List Nat}{d n:Nat}{s:DS}(h:Dk w F d n s) (hd:s.down=true) :
  Calls Tryz.prog 79 #[.pointer (some ⟨d,0,none⟩)] w fun e w'=>e=.returned (.tuple #[.slice none 0 0,.int .i64 13])∧Below w.heap.size w w':=by
 obtain⟨N,hN⟩:∃ N,w.heap.size=N:=⟨_,rfl⟩
 have h1:=h.1.n1
 have hn8:=h.1.n2
 have cL:=ae.mk (jm h)
 obtain⟨w1,hmk,own,bel⟩:=wJ w (64 * n) (by omega)
 have hmk':(Instr.makeSlice 22 (.int .i64 0) (.int .i64 ((n:Int) * 64))).run Tryz.prog w=.ok (.slice (some ⟨w.heap.size,0,none⟩) 0 (64 * n)) w1:=by
  have e:((64 * n:Nat):Int)=(n:Int) * 64:=by omega
  rw[← e];exact hmk
 have R0:=ae.mk (h.keep (barOf bel []) (fun _ _=>by simp))
 have B1:=ae.mk bel
 have O1:=ae.mk own
 have RD:=Hu hd
 have hn1:(0:Int) < (n:Int):=by omega
 rw[hN] at hmk'
 clear h hmk own bel
 go_enter Tryz.func79,Tryz.ntmps79
 go_wp2_with fail
 refine cL.out.mono ?_
 rintro e w' ⟨rfl,rfl⟩
 go_wp2_with fail
 have cL2:=ae.mk (jm R0.out)
 refine cL2.out.mono ?_
 rintro e w' ⟨rfl,rfl⟩
 clear cL cL2
 go_wp2_with fail
 go_loopw [14] (fun i wr=>i=.int .i64 0∧ae (Dk wr F d n s)∧ae (Below w.heap.size w wr)) (fun _ _=>0)
 case atStart=>exact⟨rfl,R0,B1⟩
 case round =>
  obtain⟨rfl,R2,B2⟩:=hrel
  have CR:=Jh 0 R2.out
  rw[RD 0] at CR
  have CR2:=ae.mk CR
  clear CR
  go_wp2_with fail
  refine CR2.out.mono ?_
  rintro e w2 ⟨A,c,rfl,-,-,-,-,b2⟩
  have B3:=ae.mk (B2.out.trans (b2.mono B2.out.size))
  clear CR2 b2
  go_wp2
  go_ret2
  exact⟨rfl,B3.out⟩
theorem QG {w:World}{F:List Nat}{d n:Nat}{s:DS}(h:Dk w F d n s) (hd:s.down=false) :
  Calls Tryz.prog 79 #[.pointer (some ⟨d,0,none⟩)] w (Md s n w):=by
 obtain⟨N,hN⟩:∃ N,w.heap.size=N:=⟨_,rfl⟩
 have h1:=h.1.n1
 have hn8:=h.1.n2
 have hwf:=h.1
 have cL:=ae.mk (jm h)
 obtain⟨w1,hmk,own,bel⟩:=wJ w (64 * n) (by omega)
 have hmk':(Instr.makeSlice 22 (.int .i64 0) (.int .i64 ((n:Int) * 64))).run Tryz.prog w=.ok (.slice (some ⟨w.heap.size,0,none⟩) 0 (64 * n)) w1:=by
  have e:((64 * n:Nat):Int)=(n:Int) * 64:=by omega
  rw[← e];exact hmk
 have R0:=ae.mk (h.keep (barOf bel []) (fun _ _=>by simp))
 have B1:=ae.mk bel
 have O1:=ae.mk own
 have HF:ae (∀ k∈F,k < N):=⟨fun k hk=>by rw[← hN];exact h.lts k hk⟩
 have HT:ae (∀ k:Nat,k < n→oI s (k:Nat)=(0,rowOf s.now k)∧(rowOf s.now k).length=64∧cat (rowOf s.now) (k+1)=cat (rowOf s.now) k++rowOf s.now k):=⟨fun k hk=>⟨Qx hwf hd hk,((hwf.secs k hk).1).1,rfl⟩⟩
 have HBY:ae (Bytes (cat (rowOf s.now) n)):=⟨by
  have:∀ k,k≤n→Bytes (cat (rowOf s.now) k):=fun k=>by
   induction k with
   | zero=>intro _ z hz;simp[cat] at hz
   | succ k ih=>intro hk;exact(ih (by omega)).append ((hwf.secs k (by omega)).1).2
  exact this n (Nat.le_refl _)⟩
 have PE:ae (∀ u w',w'.ownsRow N 5 1 u (64 * n) (ints .u8 (cat (rowOf s.now) n))→Below N w w'→Md s n w (.returned (.tuple #[u,.int .i64 0])) w'):=⟨fun u w' ho hb=>by
  obtain⟨A,c,rfl,k1,k2,k3⟩:=aO ho HBY.out
  exact⟨A,c,rfl,k1,k2,k3,fun F hF=>eH ho (fun q hq hm=>by
   have:=(ho.lt q (by simpa using hq)).1
   have:=hF q hm
   omega),by rw[hN];exact hb⟩⟩
 rw[hN] at hmk' own
 clear h hmk own bel hwf
 go_enter Tryz.func79,Tryz.ntmps79
 go_wp2_with fail
 refine cL.out.mono ?_
 rintro e w' ⟨rfl,rfl⟩
 go_wp2_with fail
 have cL2:=ae.mk (jm R0.out)
 refine cL2.out.mono ?_
 rintro e w' ⟨rfl,rfl⟩
 clear cL cL2
 go_wp2_with fail
 rw[hN] at O1 B1
 go_loopw [4,14] (fun vv i wr=>∃ (k:Nat) (u:Value),k≤n∧u=vv∧i=.int .i64 (k:Nat)∧ae (wr.ownsRow N 5 1 u (64 * k) (ints .u8 (cat (rowOf s.now) k)))∧ae (Dk wr F d n s)∧ae (Below N w wr)) (fun _ i _=>n - (lenI i).toNat)
 case atStart=>exact⟨0,_,by omega,rfl,rfl,O1,R0,B1⟩
 case round =>
  obtain⟨k,u,hk,rfl,rfl,O,R2,B2⟩:=hrel
  clear hmk' O1 R0 B1
  by_cases hkn:k < n
  ·have hkn':(k:Int) < (n:Int):=by omega
   obtain⟨t1,t2,t3⟩:=HT.out k hkn
   have CR:=Jh (k:Nat) R2.out
   rw[t1] at CR
   have CR2:=ae.mk CR
   clear CR t1
   go_wp2_with fail
   refine CR2.out.mono ?_
   rintro e w2 ⟨A2,c2,rfl,r2,-,-,-,b2⟩
   have hN2:N≤wr.heap.size:=by rw[← hN];have:=B2.out.size;omega
   have O3:=ae.mk (mg O.out (barOf b2 []) (by simp))
   have R3:=ae.mk r2
   have D3:=ae.mk (R2.out.keep (barOf b2 []) (fun _ _=>by simp))
   have B3:=ae.mk (B2.out.trans (b2.mono hN2))
   have hN3:N≤w2.heap.size:=by have:=b2.size;omega
   simp only at R3 ⊢
   rw[t2] at R3 ⊢
   have T3:=ae.mk t3
   clear CR2 r2 b2 O R2 B2 t2 t3
   generalize rowOf s.now k=xs at *
   go_wp2_with ((with_reducible refine sel 28 ?_);refine ai rfl (.tmp 26) (.tmp 27) 22 rfl N 5 Tryz.underlying22 ax u (64 * k) _ rfl O3.out A2 64 c2 xs rfl R3.out (by omega) hN3 ?_;intro v7 w7 o7 g7;have B7:=ae.mk (B3.out.trans (own_below O3.out g7 hN3));have D7:=ae.mk (D3.out.keep (Bar.grownRow g7) (fun k hk hk2=>by have:=HF.out k hk;have:=(O3.out.lt k (by simpa using hk2)).1;omega));clear g7)
   go_roundw
   case rel =>
    refine⟨k+1,_,by omega,rfl,by go_num,⟨?_⟩,D7,B7⟩
    have:=o7.out
    rw[← af,← T3.out] at this
    exact this
   case measure=>simp only[lenI];omega
  ·have hkn':¬ (k:Int) < (n:Int):=by omega
   obtain rfl:k=n:=by omega
   have PG:=ae.mk (PE.out _ _ O.out B2.out)
   clear PE
   go_wp2
   go_ret2
   exact PG.out
end Journal
end Go.Proofs.YtlkeieoecfkkeaaGreat
