/-
  Parts laid together: FrameLay FrameLift.
-/
import Derived.Test.YtlkeieoecfkkeaaGreatPart6
import Derived.Test.YtlkeieoecfkkeaaGreatPart9
import Derived.Lib.SmallJoins
import Derived.Lib.QuietBelow
import Derived.StillTailTactics
set_option maxRecDepth 100000
set_option maxHeartbeats 1000000
namespace Go.Proofs.YtlkeieoecfkkeaaGreat
namespace Frame
open Go.RowKit Sha Wire
def row1 (b:List Int) (i:Nat):List Int:=mk i :: ((padF b).drop (63 * i)).take 63
def layM (b:List Int) (S m:Nat):List Int:=cat (row1 b) m++List.replicate (64 * (S - m)) 0
theorem EG (b:List Int) (i:Nat) (h:i < secs b.length):(row1 b i).length=64:=by
 unfold row1;rw[List.length_cons,List.length_take,List.length_drop,wF];omega
theorem Qy (b:List Int) {S m:Nat}(hS:secs b.length=S) (h:m≤S):(layM b S m).length=64 * S:=by
 unfold layM;rw[List.length_append,List.length_replicate,jX (c:=64) m (fun j hj=>EG b j (by omega))];omega
theorem Qz (b:List Int) {S:Nat}(hS:secs b.length=S):layM b S S=laid b:=by
 unfold layM;rw[Nat.sub_self,Nat.mul_zero,List.replicate_zero,List.append_nil,BZ,hS];rfl
theorem LY (b:List Int) (S:Nat):layM b S 0=List.replicate (64 * S) 0:=by unfold layM;simp[cat]
theorem LZ (b:List Int) {S m:Nat}(hS:secs b.length=S) (h:m < S):splice ((layM b S m).set (64 * m) (mk m)) (64 * m+1) ((b.drop (63 * m)).take 63)=layM b S (m+1):=by
 have hC:(cat (row1 b) m).length=64 * m:=jX (c:=64) m (fun j hj=>EG b j (by omega))
 have h63:63 * m < b.length:=by unfold secs at hS;omega
 have hxs:((b.drop (63 * m)).take 63).length=min 63 (b.length - 63 * m):=by rw[List.length_take,List.length_drop]
 obtain⟨xs,hx⟩:∃ xs,(b.drop (63 * m)).take 63=xs:=⟨_,rfl⟩
 have hrow:row1 b m=mk m :: (xs++List.replicate (63 - xs.length) 0):=by
  unfold row1 padF
  congr 1
  rw[hS,List.drop_append_of_le_length (by omega),List.take_append,hx,List.take_replicate,List.length_drop]
  rw[hx] at hxs
  congr 2
  unfold secs at hS
  omega
 rw[hx] at hxs ⊢
 unfold layM
 rw[show 64 * (S - m)=(64 * (S - (m+1))+63)+1 by omega,List.replicate_succ,List.set_append_right _ _ (by omega),hC,Nat.sub_self,List.set_cons_zero]
 unfold splice
 rw[cat,hrow]
 generalize cat (row1 b) m=C at *
 have e1:(C++mk m :: List.replicate (64 * (S - (m+1))+63) 0).take (64 * m+1)=C++[mk m]:=by
  rw[List.take_append,List.take_of_length_le (by omega),hC,show 64 * m+1 - 64 * m=1 by omega];rfl
 have e2:(C++mk m :: List.replicate (64 * (S - (m+1))+63) 0).drop (64 * m+1+xs.length)=List.replicate (63 - xs.length) 0++List.replicate (64 * (S - (m+1))) 0:=by
  rw[List.drop_append,List.drop_of_length_le (by omega),List.nil_append,hC,show 64 * m+1+xs.length - 64 * m=xs.length+1 by omega,List.drop_succ_cons,List.drop_replicate,List.replicate_append_replicate]
  congr 1
  omega
 rw[e1,e2]
 simp
def UZ (b:List Int) (w:World) (e:Ending) (w':World):Prop:=∃ M n,e=.returned (.slice (some ⟨M,0,none⟩) n n)∧n=64 * secs b.length∧w.heap.size≤M∧Rd w' (some ⟨M,0,none⟩) n (laid b)∧Below w.heap.size w w'
theorem U3 (A:Option Addr) (n c S:Nat) (b:List Int) (w:World) (hr:Rd w A n b) (hc:n≤c) (hn:n≤100000) (hS:secs b.length=S) :
  Calls Tryz.prog 253 #[.slice A n c,.int .i64 S] w (UZ b w):=by
 obtain⟨N,hN⟩:∃ N,w.heap.size=N:=⟨_,rfl⟩
 have hlen:=hr.1
 have hS9:S≤2000:=by unfold secs at hS;omega
 have HR:=ae.mk hr
 have HS:=ae.mk hS
 obtain⟨w1,hmk,k1,b1⟩:=Ro w (64 * S) (by omega)
 rw[hN] at k1 b1 hmk
 have hW:wrap64 ((S:Int) * 64)=(S:Int) * 64:=by unfold wrap64;omega
 rw[show ((64 * S:Nat):Int)=(S:Int) * 64 by omega] at hmk
 rw[← LY b S] at k1
 have K1:=ae.mk k1;have B1:=ae.mk b1
 have hl1:N < w1.heap.size:=k1.lt
 clear hr hS k1 b1
 go_enter Tryz.func253,Tryz.ntmps253
 go_wp2
 go_loopw [6,7,12] (fun _i _s j wr=>∃ m:Nat,m≤S∧j=.int .i64 m∧ae (Blk wr N 5 (arr .u8 (layM b S m)))∧ae (Below N w wr)) (fun _ _ j _=>S - (Go.RowKit.intOf j).toNat)
 case atStart=>exact⟨0,by omega,rfl,K1,B1⟩
 case round =>
  clear K1 B1 hmk hl1
  obtain⟨m,hm,rfl,K,B⟩:=hrel
  by_cases hmS:m < S
  ·have hmS':(m:Int) < S:=by omega
   have c1:=ae.mk (uD N 0 (64 * S) (64 * S) m wr (by omega) (Nat.le_refl _) (by omega))
   have c2:=ae.mk (FD m wr)
   have hll:=Qy b HS.out (show m≤S by omega)
   have x0:=K.out.at_ (64 * m) (by omega)
   have z0:=K.out.frozen (64 * m)
   go_wp2_with fail
   refine c1.out.mono ?_
   rintro e w' ⟨rfl,rfl⟩
   rw[Nat.zero_add]
   clear c1
   go_wp2_with fail
   refine c2.out.mono ?_
   rintro e w' ⟨rfl,rfl⟩
   clear c2
   have hb2:Bar [N] wr (wr.setCell ⟨N,64 * m,none⟩ (.int .u8 (mk m))):=(Bar.refl _ _).setCell (by simp) _
   have k2:=K.out.set_ (64 * m) (.int .u8 (mk m))
   rw[bi] at k2
   have B2:=ae.mk (B.out.trans (hb2.below (by rw[← hN];exact B.out.size) (by simp)))
   have R2:ae (Rd (wr.setCell ⟨N,64 * m,none⟩ (.int .u8 (mk m))) A n b):=⟨HR.out.below (by rw[hN];exact B2.out)⟩
   have K2:=ae.mk k2
   clear hb2 k2
   go_upto_region 7 with(fail)
   clear x0 z0 K B
   generalize wr.setCell ⟨N,64 * m,none⟩ (.int .u8 (mk m))=w2 at *
   have h63:63 * m≤n:=by have:=HS.out;unfold secs at this;omega
   obtain⟨A3,hs3,r3,-⟩:=jh R2.out hc (63 * m) h63 ((m:Int) * 63) (by omega)
   have hs4:=gV N (64 * m) 64 (64 * S - 64 * m) 1 (by omega) (by omega) 1 rfl
   have W3:IntKind.i64.wrap ((m:Int) * 63)=(m:Int) * 63:=by simp only[IntKind.wrap_i64];omega
   have R3:=ae.mk (r3.upto (m:=min 63 (n - 63 * m)) (by omega))
   clear r3
   refine wp_region_still_tail 6 (by kernel_rfl) (by kernel_rfl) ?_
   simp only[List.take_succ_cons,List.take_zero,List.drop_succ_cons,List.drop_zero]
   repeat still_step
   refine wpStill_nil ?_
   change wpList _ _ _ _ _ w2.drew
   have hxl:((b.drop (63 * m)).take (min 63 (n - 63 * m)))=(b.drop (63 * m)).take 63:=by
    rcases Nat.le_total 63 (n - 63 * m) with h|h
    ·rw[Nat.min_eq_left h]
    ·rw[Nat.min_eq_right h,List.take_of_length_le (by rw[List.length_drop];omega),List.take_of_length_le (by rw[List.length_drop];omega)]
   rw[hxl] at R3
   have hxl2:((b.drop (63 * m)).take 63).length=min 63 (n - 63 * m):=by rw[List.length_take,List.length_drop,hlen]
   have HX:=ae.mk hxl2
   have hst:=LZ b HS.out hmS
   have HSt:=ae.mk hst
   have hll2:((layM b S m).set (64 * m) (mk m)).length=64 * S:=by rw[List.length_set];exact hll
   clear hxl hxl2 hst hs3 hs4 W3 hll
   generalize (b.drop (63 * m)).take 63=xs at *
   generalize (layM b S m).set (64 * m) (mk m)=row at *
   refine aC rfl (.tmp 23) (.tmp 27) 22 22 rfl 5 Tryz.underlying22 (by kernel_rfl) _ _ _ _ _ _ rfl rfl N (64 * m+1) (ints .u8 row) 5 K2.out (ints .u8 xs) (by rw[ints_len,HX.out];exact Nat.min_comm _ _) (fun h0=>⟨rfl,Vu R3.out.drew h0⟩) (by rw[ints_len,ints_len,HX.out,hll2];omega) (ay _ _) ?_
   intro w3 HG HB
   have K3:ae (Blk w3 N 5 (arr .u8 (layM b S (m+1)))):=⟨by
    have:=HG.out
    rw[Dn,HSt.out] at this
    exact this⟩
   have B3:=ae.mk (B2.out.drew.trans (HB.below (by rw[← hN];exact B2.out.size) (by simp)))
   clear HG HB K2 B2 R2 R3 HX HSt hll2
   go_wp2
   go_roundw
   case rel=>exact⟨m+1,by omega,by go_num,K3,B3⟩
   case measure=>simp[Go.RowKit.intOf];omega
  ·obtain rfl:m=S:=by omega
   have hmS':¬ (m:Int) < m:=by omega
   have hl:=Qz b HS.out
   rw[hl] at K
   have hbl:=lu b
   have R:=ae.mk (Rd.blk K.out (ul b HR.out.2.1) (by rw[hbl,HS.out]))
   clear hl hbl
   go_wp2
   go_ret
   exact⟨N,64 * m,rfl,by rw[HS.out],by omega,R.out,by rw[hN];exact B.out⟩
theorem WX {w:World}{g o n:Nat}{xs:List Int}(r:Rd w (some ⟨g,o,none⟩) n xs) (l k:Nat) (h:l+k≤n):Rd w (some ⟨g,o+l,none⟩) k ((xs.drop l).take k):=by
 refine⟨by have:=r.1;rw[List.length_take,List.length_drop];omega,(r.2.1.drop _).take _,.inr ⟨g,o+l,rfl,fun i hi=>?_⟩⟩
 rw[bY hi,jQ,Nat.add_assoc]
 exact N8 r (l+i) (by omega)
def lF (b:List Int) (S:Nat):Bool:=decide (64 * S≤b.length∧∀ i,i < S→at_ b (64 * i)=mk i)
def lG (b:List Int) (S:Nat) (w:World) (e:Ending) (w':World):Prop :=
 (lF b S=true∧∃ A n c,n=63 * S∧e=.returned (.tuple #[.slice A n c,.bool true])∧n≤c∧c≤9223372036854775807∧Rd w' A n (allF b S)∧(∀ F:List Nat,(∀ k∈F,k < w.heap.size)→Off A n F)∧Below w.heap.size w w') ∨
 (lF b S=false∧e=.returned (.tuple #[.slice none 0 0,.bool false])∧Below w.heap.size w w')
theorem wJ (w:World) (n:Nat) (hn:n≤16777216):∃ w',(Instr.makeSlice 22 (.int .i64 0) (.int .i64 (n:Int))).run Tryz.prog w=.ok (.slice (some ⟨w.heap.size,0,none⟩) 0 n) w'∧w'.ownsRow w.heap.size 5 1 (.slice (some ⟨w.heap.size,0,none⟩) 0 n) 0 []∧Below w.heap.size w w':=by
 obtain⟨iu,hi,hz0,hz1,hz2⟩:=info_parts ax
 obtain⟨w',hm,own,gr⟩:=run_make_own (P:=Tryz.prog) w w.heap.size 22 5 iu _ 1 Tryz.underlying22 hi hz0 hz1 .i64 .i64 n (by rw[hz2];omega) (by unfold maxLen;omega) (Nat.le_refl _)
 exact⟨w',hm,own,⟨gr.os,gr.tape,gr.output,gr.size,fun k hk=>gr.block k hk (by simp)⟩⟩
theorem EH (A:Option Addr) (n c S:Nat) (b:List Int) (w:World) (hr:Rd w A n b) (hc:n≤c) (hn:n≤1000000) (hS1:1≤S) (hS9:S≤2000) :
  Calls Tryz.prog 155 #[.slice A n c,.int .i64 S] w (lG b S w):=by
 obtain⟨N,hN⟩:∃ N,w.heap.size=N:=⟨_,rfl⟩
 have hlen:=hr.1
 have W1:wrap64 ((S:Int) * 64)=(S:Int) * 64:=by unfold wrap64;omega
 by_cases hns:n < 64 * S
 ·have hns':(n:Int) < (S:Int) * 64:=by omega
  have PF:ae (lG b S w (.returned (.tuple #[.slice none 0 0,.bool false])) w):=⟨.inr ⟨by unfold lF;rw[decide_eq_false_iff_not];rintro ⟨h,-⟩;omega,rfl,Below.refl _ _⟩⟩
  clear hr hlen
  go_enter Tryz.func155,Tryz.ntmps155
  go_wp2
  go_ret2
  exact PF.out
 ·have hns':¬ (n:Int) < (S:Int) * 64:=by omega
  have W2:wrap64 ((S:Int) * 63)=(S:Int) * 63:=by unfold wrap64;omega
  obtain⟨w1,hmk,o1,b1⟩:=wJ w (63 * S) (by omega)
  rw[show ((63 * S:Nat):Int)=(S:Int) * 63 by omega] at hmk
  rw[hN] at hmk o1 b1
  obtain⟨g,o,rfl,hcell⟩:=hr.2.2.resolve_left (by omega)
  have HR:=ae.mk hr
  have O1:=ae.mk o1;have B1:=ae.mk b1
  have PF:ae (∀ w',¬ (∀ i,i < S→at_ b (64 * i)=mk i)→Below N w w'→lG b S w (.returned (.tuple #[.slice none 0 0,.bool false])) w') :=
   ⟨fun w' h1 h2=>.inr ⟨by unfold lF;rw[decide_eq_false_iff_not];rintro ⟨-,h⟩;exact h1 h,rfl,hN.symm▸h2⟩⟩
  have PT:ae (∀ v w',(∀ i,i < S→at_ b (64 * i)=mk i)→w'.ownsRow N 5 1 v (63 * S) (ints .u8 (allF b S))→Below N w w'→lG b S w (.returned (.tuple #[v,.bool true])) w'):=⟨fun v w' h1 h2 h3=>by
   obtain⟨Av,cv,rfl,k1,k2,k3⟩:=aO h2 (GV HR.out.2.1 S)
   refine .inl ⟨by unfold lF;rw[decide_eq_true_iff];exact⟨by omega,h1⟩,Av,63 * S,cv,rfl,rfl,k1,k2,k3,fun F hF=>?_,by rw[hN];exact h3⟩
   exact eH h2 (fun k hk hk2=>by have:=(h2.lt k (by simpa using hk)).1;have:=hF k hk2;omega)⟩
  clear hr hcell o1 b1
  go_enter Tryz.func155,Tryz.ntmps155
  go_wp2
  go_loopw [6,7,8,18] (fun v _i _s j wr=>∃ m:Nat,m≤S∧j=.int .i64 m∧ae (∀ i,i < m→at_ b (64 * i)=mk i)∧ae (wr.ownsRow N 5 1 v (63 * m) (ints .u8 (allF b m)))∧ae (Below N w wr)) (fun _ _ _ j _=>S - (Go.RowKit.intOf j).toNat)
  case atStart=>exact⟨0,by omega,rfl,⟨fun i hi=>by omega⟩,O1,B1⟩
  case round =>
   clear O1 B1 hmk
   obtain⟨m,hm,rfl,M,O,B⟩:=hrel
   by_cases hmS:m < S
   ·have hmS':(m:Int) < S:=by omega
    have c1:=ae.mk (uD g o n c m wr (by omega) hc (by omega))
    have c2:=ae.mk fun w=>FD m w
    have r1:Rd wr (some ⟨g,o,none⟩) n b:=HR.out.below (by rw[hN];exact B.out)
    have x0:=N8 r1 (64 * m) (by omega)
    have r3:=WX r1 (64 * m+1) 63 (by omega)
    rw[← Nat.add_assoc] at r3
    have hs4:=gV g (o+64 * m) 64 (c - 64 * m) 1 (by omega) (by omega) 1 rfl
    have R3:=ae.mk r3
    clear r1 r3
    by_cases hmk:at_ b (64 * m)=mk m
    ·have M2:ae (∀ i,i < m+1→at_ b (64 * i)=mk i):=⟨fun i hi=>by
      by_cases h:i=m
      ·subst h;exact hmk
      ·exact M.out i (by omega)⟩
     rw[hmk] at x0
     clear hmk M
     go_wp2_with fail
     refine c1.out.mono ?_
     rintro e w' ⟨rfl,rfl⟩
     clear c1
     go_wp2
     go_quiet ((first|(go_at_call 195;exact Calls.quiet_of_same (iL (c2.out _)))))
     have O2:ae ((wr.drewN nq).ownsRow N 5 1 u6 (63 * m) (ints .u8 (allF b m))):=⟨O.out⟩
     have B2:ae (Below N w (wr.drewN nq)):=⟨below_drewN B.out _⟩
     have R4:ae (Rd (wr.drewN nq) (some ⟨g,o+64 * m+1,none⟩) 63 ((b.drop (64 * m+1)).take 63)):=⟨R3.out⟩
     clear O B R3 x0
     generalize wr.drewN nq=w2 at *
     go_wp2_with ((with_reducible refine sel 33 ?_);refine ak rfl (.tmp 30) (.tmp 32) 22 rfl N 5 Tryz.underlying22 ax _ (63 * m) _ rfl O2.out (some ⟨g,o+64 * m+1,none⟩) 63 _ _ rfl R4.out (by omega) (by rw[← hN];exact B2.out.size) ?_;intro v7 w7 o7 g7 a7;have B7:=ae.mk (B2.out.trans (own_below O2.out g7 (by rw[← hN];exact B2.out.size)));clear g7 a7)
     go_roundw
     case rel =>
      refine⟨m+1,by omega,by go_num,M2,⟨?_⟩,B7⟩
      have:=o7.out
      rw[← af] at this
      exact this
     case measure=>simp[Go.RowKit.intOf];omega
    ·have PF2:ae (∀ w',Below N w w'→lG b S w (.returned (.tuple #[.slice none 0 0,.bool false])) w'):=⟨fun w' h=>PF.out w' (fun k=>hmk (k m hmS)) h⟩
     have hmk2:(at_ b (64 * m) == mk m)=false:=by simpa using hmk
     generalize at_ b (64 * m)=y at *
     generalize mk m=z at *
     clear PF
     go_wp2_with fail
     refine c1.out.mono ?_
     rintro e w' ⟨rfl,rfl⟩
     clear c1
     go_wp2
     go_quiet ((first|(go_at_call 195;exact Calls.quiet_of_same (iL (c2.out _)))))
     have PG:=ae.mk (PF2.out _ (below_drewN B.out nq))
     clear PF2 B O R3
     generalize wr.drewN nq=w2 at *
     go_wp2
     go_ret2
     exact PG.out
   ·obtain rfl:m=S:=by omega
    have hmS':¬ (m:Int) < m:=by omega
    have PG:=ae.mk (PT.out _ _ M.out O.out B.out)
    obtain⟨A6,c6,rfl⟩:=aY O.out
    clear PT PF O
    go_wp2
    go_ret2
    exact PG.out
end Frame
end Go.Proofs.YtlkeieoecfkkeaaGreat
