/-
  Parts laid together: Chunk JWrite JStore.
-/
import Derived.Test.YtlkeieoecfkkeaaGreatPart8
import Derived.RangeFuncNested
import Derived.RangeFuncBound
import Derived.RangeFuncCalls
import Derived.RangeFuncLeaves
import Derived.RangeFuncBox
import Derived.Shelf.Abstract
import Derived.Shelf.RegionOpen
import Derived.OwnWalkIn
import Derived.TacticsInMore
import Derived.LoopNIn
import Derived.LoopIn
import Derived.Test.YtlkeieoecfkkeaaGreatPart5
import Derived.Test.YtlkeieoecfkkeaaGreatPart19
namespace Go.Proofs.YtlkeieoecfkkeaaGreat.Sha
open Go.RowKit
attribute [local go_sem] Oper.semAt_some
end Go.Proofs.YtlkeieoecfkkeaaGreat.Sha
namespace Go.Proofs.YtlkeieoecfkkeaaGreat.Journal
open Go.RowKit Go.Proofs.YtlkeieoecfkkeaaGreat.Sha Go.Proofs.YtlkeieoecfkkeaaGreat.Disk Go.Proofs.YtlkeieoecfkkeaaGreat.Frame
attribute [local go_sem] Oper.semAt_some
def WI (w:World) (F:List Nat) (d n:Nat) (z res:Int) (s:DS) (W:World):Prop :=
 Dk W F d n s∧Bar F w W∧W.cell? ⟨w.heap.size,0,none⟩=some (.pointer (some ⟨d,0,none⟩))∧W.cell? ⟨w.heap.size+1,0,none⟩=some (.int .i64 z)∧W.frozen? ⟨w.heap.size+1,0,none⟩=false ∧
  W.cell? ⟨w.heap.size+1+1,0,none⟩=some (.int .i64 res)∧W.frozen? ⟨w.heap.size+1+1,0,none⟩=false
theorem wi_step {w W W':World}{F:List Nat}{d n:Nat}{z res:Int}{s s':DS}(h:WI w F d n z res s W) (hF:∀ k∈F,k < w.heap.size) (k1:Dk W' F d n s') (k2:Bar F W W'):WI w F d n z res s' W':=by
 obtain⟨h1,h2,h3,h4,h5,h6,h7⟩:=h
 have hb:∀ j v,W.cell? ⟨w.heap.size+j,0,none⟩=some v→W'.cell? ⟨w.heap.size+j,0,none⟩=some v∧W'.frozen? ⟨w.heap.size+j,0,none⟩=W.frozen? ⟨w.heap.size+j,0,none⟩:=fun j v hv=>by
  have e:=k2.block (w.heap.size+j) (World.block_lt_of_cell? _ _ hv) (fun hm=>by have:=hF _ hm;omega)
  exact⟨(World.cell?_of_block e).trans hv,by unfold World.frozen?;simp only;rw[e]⟩
 exact⟨k1,h2.trans k2 (fun x hx=>.inl hx),(hb 0 _ h3).1,(hb 1 _ h4).1,(hb 1 _ h4).2.trans h5,(hb (1+1) _ h6).1,(hb (1+1) _ h6).2.trans h7⟩
theorem rd_head {w:World}{A:Option Addr}{n:Nat}{xs:List Int}(r:Rd w A n xs) (m:Nat) (hm:m≤n):Rd w A m (xs.take m):=by
 obtain⟨r1,r2,r3⟩:=r
 refine⟨by rw[List.length_take];omega,r2.take _,?_⟩
 rcases r3 with h|⟨b,o,rfl,hc⟩
 ·exact .inl (by omega)
 ·exact .inr ⟨b,o,rfl,fun i hi=>by rw[at_take hi];exact hc i (by omega)⟩
end Go.Proofs.YtlkeieoecfkkeaaGreat.Journal
