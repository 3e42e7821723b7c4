/-
  Parts laid together: Chunk.
-/
import Derived.Test.YtlkeieoecfkkeaaGreatPart6
import Derived.RangeFuncNested
import Derived.RangeFuncBound
import Derived.RangeFuncCalls
import Derived.RangeFuncLeaves
import Derived.RangeFuncBox
import Derived.Shelf.Abstract
import Derived.Shelf.RegionOpen
import Derived.OwnWalkIn
import Derived.TacticsInMore
import Derived.LoopNIn
import Derived.LoopIn
set_option maxRecDepth 100000
set_option maxHeartbeats 2000000
namespace Go.Proofs.YtlkeieoecfkkeaaGreat
namespace Sha
open Go.RowKit
attribute [local go_sem] Oper.semAt_some
def Two (x y:Nat) (w w':World):Prop:=(∀ v,w.cell? ⟨x,0,none⟩=some v→w'.cell? ⟨x,0,none⟩=some v)∧∀ v,w.cell? ⟨y,0,none⟩=some v→w'.cell? ⟨y,0,none⟩=some v
theorem Wn {x y:Nat}{A B C:World}(h:Two x y A B) (k:Two x y B C):Two x y A C:=⟨fun v hv=>k.1 v (h.1 v hv),fun v hv=>k.2 v (h.2 v hv)⟩
theorem XK {x y:Nat}(W:World) (l:Nat) (o o':Obj) (h:W.heap[l]?=some o) (ho:o.isCells=false):Two x y W (W.putObj l o') :=
 ⟨fun _ hv=>cell_kept hv (grownBy_putObj' W l o') (fun r e=>by cases e;exact⟨_,h,ho⟩),fun _ hv=>cell_kept hv (grownBy_putObj' W l o') (fun r e=>by cases e;exact⟨_,h,ho⟩)⟩
def ups (k:Nat) (h:0 < k) (m:Nat):List (Fin k):=(List.range m).map fun j=>⟨j % k,Nat.mod_lt _ h⟩
theorem Qd {k:Nat}(h:0 < k) (m:Nat):ups k h (m+1)=ups k h m++[⟨m % k,Nat.mod_lt _ h⟩]:=by simp[ups,List.range_succ]
theorem Uy {k:Nat}(h:0 < k) (m:Nat):(ups k h m).length=m:=by simp[ups]
theorem JU {k:Nat}(h:0 < k) (m:Nat) (hm:m≤k):(ups k h m).map (·.1)=List.range m:=by
 apply List.ext_getElem
 ·simp[ups]
 ·intro i h1 h2
  have:i < m:=by simpa [ups] using h1
  simp[ups,Nat.mod_eq_of_lt (show i < k by omega)]
theorem yB (g o n c l h m:Nat) (h1:l≤h) (h2:h≤m) (h3:m≤c) (hl:l < m) (li hi mi:Int) (e1:li=l) (e2:hi=h) (e3:mi=m) (w':World) :
  (Instr.slice 22 (.slice (some ⟨g,o,none⟩) n c) (some (.int .i64 li)) (some (.int .i64 hi)) (some (.int .i64 mi))).run Tryz.prog w'=.ok (.slice (some ⟨g,o+l,none⟩) (h - l) (m - l)) w':=by
 subst e1 e2 e3
 rw[run_slice_lhm w' 22 (some ⟨g,o,none⟩) n c rP .i64 .i64 .i64 l h m (by omega) (by omega) (by omega) (by omega),kL]
 have hcl:¬ m=l:=by omega
 have ea:(⟨g,o,none⟩:Addr).add l=⟨g,o+l,none⟩:=by cases l<;>simp[Addr.add]
 simp[Result.andThen,sliced,hcl,ea]
theorem JW (A:Option Addr) (n c:Nat) (w:World):Calls Tryz.prog 268 #[.slice A n c,.int .i64 64] w fun e w' =>
  e=.returned (.func (.func 280) #[] #[.pointer (some ⟨w.heap.size,0,none⟩),.pointer (some ⟨w.heap.size+1,0,none⟩)])∧w'=(w.alloc (.cells #[.slice A n c] 22)).alloc (.cells #[.int .i64 64] 3):=by
 go_enter Tryz.func268,Tryz.ntmps268
 go_wp2
 go_ret
 exact⟨rfl,rfl⟩
theorem JX (n:Nat) (hn:1≤n) (l xs xn g o k c:Nat) (hk0:0 < k) (hk:64 * k≤c) (hk9:k≤100000) (J Jx:List (Fin k)→World→Prop) (W:World) (hJa:AbidesFrom W.heap.size J)
    (hY:∀ pre x W1,J pre W1→pre.length < k→YieldAt Fence.wide (n - 1) Tryz.prog l #[.slice (some ⟨g,o+64 * x.1,none⟩) 64 64] W1 fun e W' =>
      (e=.returned (.bool true)∧J (pre++[x]) W'∧Two xs xn W1 W')∨(e=.returned (.bool false)∧Jx (pre++[x]) W'))
    (hs:W.cell? ⟨xs,0,none⟩=some (.slice (some ⟨g,o,none⟩) (64 * k) c)) (hm:W.cell? ⟨xn,0,none⟩=some (.int .i64 64)) (h0:J [] W) :
    CallsIn Fence.wide n Tryz.prog 280 #[.func (.yield l) #[] #[],.pointer (some ⟨xs,0,none⟩),.pointer (some ⟨xn,0,none⟩)] W fun e W'=>(∃ v,e=.returned v) ∧
      ((∃ ys:List (Fin k),ys=ups k hk0 k∧J ys W')∨(∃ pre:List (Fin k),(∃ m,m≤k∧pre=ups k hk0 m)∧Jx pre W')):=by
  refine callsIn_of_wp Tryz.func280 rfl trivial ?_ rfl
  simp only[Tryz.ntmps280,List.size_toArray,List.length_cons,List.length_nil,Nat.reduceAdd,Nat.reduceSub,Array.replicate_succ,Array.replicate_zero,List.push_toArray,List.append_toArray,List.nil_append,List.cons_append]
  gi_wp2
  gi_loopw [4,5] (fun i _e wr=>∃ m:Nat,m≤k∧i=.int .i64 (64 * (m:Int))∧J (ups k hk0 m) wr∧wr.cell? ⟨xs,0,none⟩=some (.slice (some ⟨g,o,none⟩) (64 * k) c)∧wr.cell? ⟨xn,0,none⟩=some (.int .i64 64))
    (fun i _ _=>64 * k - (Go.RowKit.intOf i).toNat)
  case atStart=>exact⟨0,Nat.zero_le _,rfl,h0,hs,hm⟩
  case round =>
    obtain⟨m,hmk,rfl,hJ,cs,cn⟩:=hrel
    by_cases hlt:m < k
    · have hJ2:J (ups k hk0 m) wr.drew:=hJa _ _ _ none hJ ⟨rfl,rfl,rfl,Nat.le_refl _,fun _ _ _=>rfl⟩ (by simp)
      obtain⟨fn,tmps,assign,body,hy,hR⟩:=hY _ ⟨m % k,Nat.mod_lt _ hk0⟩ wr.drew hJ2 (by rw[Uy];exact hlt)
      dsimp only at hy
      rw[Nat.mod_eq_of_lt hlt] at hy
      have s1:=fun w'=>gV g o (64 * k) c (64 * m) (by omega) (by omega) (64 * (m:Int)) (by omega) w'
      have s2:=fun w'=>yB g o (64 * k) c (64 * m) (64 * m+64) (64 * m+64) (by omega) (by omega) (by omega) (by omega) (64 * (m:Int)) (64 * (m:Int)+64) (64 * (m:Int)+64) (by omega) (by omega) (by omega) w'
      rw[show 64 * m+64 - 64 * m=64 by omega] at s2
      have hmx:Tryz.prog.follows .mixedOrders=true:=by kernel_rfl
      have cs2:wr.drew.cell? ⟨xs,0,none⟩=some (.slice (some ⟨g,o,none⟩) (64 * k) c):=cs
      have cn2:wr.drew.cell? ⟨xn,0,none⟩=some (.int .i64 64):=cn
      have e1:=Qd hk0 m
      gi_wp2
      gi_region_o
      gi_wp2
      refine hR.mono ?_
      rintro e W3 (⟨rfl,hJ3,hk3⟩|⟨rfl,hJx3⟩)
      · have cs3:=hk3.1 _ cs2
        have cn3:=hk3.2 _ cn2
        gi_wp2
        go_roundw
        case rel=>exact⟨m+1,by omega,by go_num,by rw[e1];exact hJ3,cs3,cn3⟩
        case measure=>simp[Go.RowKit.intOf];omega
      · gi_wp2
        refine bodyPost_ret (results_none rfl _ _ _) rfl ?_
        exact⟨⟨_,rfl⟩,.inr ⟨_,⟨m+1,by omega,e1.symm⟩,hJx3⟩⟩
    · obtain rfl:m=k:=by omega
      gi_wp2
      go_end0
      exact⟨⟨_,rfl⟩,.inl ⟨_,rfl,hJ⟩⟩
end Sha
end Go.Proofs.YtlkeieoecfkkeaaGreat
