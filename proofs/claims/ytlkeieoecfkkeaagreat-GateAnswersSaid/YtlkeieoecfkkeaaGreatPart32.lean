/-
  Parts laid together: BytesEq.
-/
import Derived.Test.YtlkeieoecfkkeaaGreatPart6
import Derived.Laws.BytesArg
import Derived.Lib.Bytes
set_option maxRecDepth 100000
set_option maxHeartbeats 1000000
namespace Go.Proofs.YtlkeieoecfkkeaaGreat
namespace Sha
open Go.RowKit
theorem qU {w:World}{A:Option Addr}{n:Nat}{xs:List Int}(r:Rd w A n xs) (c:Nat) (w':World) (h:w=w'):(convert 22 9 (.slice A n c)).run Tryz.prog w'=.ok (.string (strOfNums xs)) w':=by
 subst h
 obtain⟨h1,h2,h3⟩:=r
 rcases h3 with h3|⟨b,o,rfl,hc⟩
 ·subst h3
  obtain rfl:xs=[]:=List.eq_nil_of_length_eq_zero h1
  cases A with
  | none=>exact run_convert_bytes_nil w _ _ Tryz.underlying22 Tryz.underlying5 0 c _ Tryz.underlying9
  | some a =>
   obtain⟨b,o,s⟩:=a
   have hl:(loadCells ⟨b,o,s⟩ 0).run Tryz.prog w=.ok (([]:List Int).map (Value.int .u8)).toArray w:=run_loadCells_list (P:=Tryz.prog) w ⟨b,o,s⟩ [] (fun j v hj=>by simp at hj)
   rw[run_convert_bytes_string w _ _ _ _ 0 c Tryz.underlying22 Tryz.underlying5 Tryz.underlying9,run_bytesToString w _ 0 c [] hl]
   rfl
 ·exact run_convert_bytes_arg w _ _ Tryz.underlying22 Tryz.underlying5 b o n c xs h1 hc _ Tryz.underlying9
theorem L6 {xs ys:List Int}(hx:Bytes xs) (hy:Bytes ys):((strOfNums xs).toList == (strOfNums ys).toList)=sameB xs ys:=by
 rw[Lib.strOfNums_toList,Lib.strOfNums_toList]
 have hi:Lib.bytesOf xs=Lib.bytesOf ys ↔ xs=ys:=by
  constructor
  ·intro h1
   unfold Lib.bytesOf at h1
   induction xs generalizing ys with
   | nil =>
    cases ys with
    | nil=>rfl
    | cons y ys=>simp at h1
   | cons x xs ih =>
    cases ys with
    | nil=>simp at h1
    | cons y ys =>
     rw[List.map_cons,List.map_cons,List.cons.injEq] at h1
     have hx0:=hx x (by simp)
     have hy0:=hy y (by simp)
     have h2:=congrArg UInt8.toNat h1.1
     simp only[UInt8.toNat_ofNat'] at h2
     have e:x=y:=by omega
     rw[e,ih (fun z hz=>hx z (by simp[hz])) (fun z hz=>hy z (by simp[hz])) h1.2]
  ·intro h;rw[h]
 unfold sameB
 rw[Bool.eq_iff_iff,beq_iff_eq,decide_eq_true_iff]
 exact hi
theorem Ho (A B:Option Addr) (n m c d:Nat) (xs ys:List Int) (w:World) (ha:Rd w A n xs) (hb:Rd w B m ys) :
  Calls Tryz.prog 125 #[.slice A n c,.slice B m d] w fun e w'=>e=.returned (.bool (sameB xs ys))∧w=w':=by
 have q1:=qU ha c w rfl
 have q2:=qU hb d w rfl
 have hi:=ae.mk (L6 ha.2.1 hb.2.1)
 clear ha hb
 go_enter Tryz.func125,Tryz.ntmps125
 go_wp2
 go_ret
 exact⟨by rw[← hi.out];rfl,rfl⟩
end Sha
end Go.Proofs.YtlkeieoecfkkeaaGreat
