/-
  Parts laid together: Strs Bytes RwsRow.
-/
import Derived.Test.YtlkeieoecfkkeaaGreatPart6
import Derived.Laws.BytesArg
import Derived.Lib.SlBytesConst
import Derived.Lib.Bytes
set_option maxRecDepth 100000
set_option maxHeartbeats 400000
namespace Go.Proofs.YtlkeieoecfkkeaaGreat
namespace Sha
open Go.RowKit
theorem lS {w:World}{A:Option Addr}{n cap:Nat}{xs:List Int}(r:Rd w A n xs) :
  (convert 22 9 (.slice A n cap)).run Tryz.prog w=.ok (.string (strOfNums xs)) w:=by
 obtain⟨h1,h2,h3⟩:=r
 by_cases h0:n=0
 ·subst h0
  obtain rfl:xs=[]:=List.eq_nil_of_length_eq_zero h1
  cases A with
  | none=>exact run_convert_bytes_nil w _ _ Tryz.underlying22 Tryz.underlying5 0 cap _ Tryz.underlying9
  | some a =>
   have hl:(loadCells a 0).run Tryz.prog w=.ok (([]:List Int).map (Value.int .u8)).toArray w:=by simp[loadCells,loadCellsFrom]
   rw[run_convert_bytes_string w _ _ 5 _ 0 cap Tryz.underlying22 Tryz.underlying5 Tryz.underlying9,run_bytesToString w _ 0 cap [] hl]
   simp[strOfNums,ByteArray.empty,ByteArray.emptyWithCapacity]
   rfl
 ·rcases h3 with h3|⟨b,o,rfl,hc⟩
  ·exact absurd h3 h0
  ·exact run_convert_bytes_arg w _ _ Tryz.underlying22 Tryz.underlying5 b o n cap xs h1 hc _ Tryz.underlying9
theorem lT {xs ys:List Int}(hx:Bytes xs) (hy:Bytes ys) (h:(strOfNums xs).toList=(strOfNums ys).toList):xs=ys:=by
 have h1:(xs.map fun n=>UInt8.ofNat n.toNat)=ys.map fun n=>UInt8.ofNat n.toNat:=by
  rw[Lib.strOfNums_toList,Lib.strOfNums_toList] at h
  exact h
 have hl:xs.length=ys.length:=by simpa using congrArg List.length h1
 apply List.ext_getElem hl
 intro i a b
 have h2:UInt8.ofNat (xs[i]).toNat=UInt8.ofNat (ys[i]).toNat:=by
  have:=congrArg (fun l=>l[i]?) h1
  simpa [a,b] using this
 have bx:=hx xs[i] (List.getElem_mem a)
 have byy:=hy ys[i] (List.getElem_mem b)
 have h3:=congrArg UInt8.toNat h2
 simp only[UInt8.toNat_ofNat'] at h3
 omega
theorem nM (A B:Option Addr) (n m c d:Nat) (xs:List Int) (w:World) (ha:Rd w A n xs) (hb:Rd w B m xs) :
  Calls Tryz.prog 10 #[.slice A n c,.slice B m d] w fun e w'=>e=.returned (.bool true)∧w=w':=by
 have c1:=lS (cap:=c) ha
 have c2:=lS (cap:=d) hb
 generalize strOfNums xs=s at *
 clear ha hb
 go_enter Tryz.func10,Tryz.ntmps10
 go_wp2
 go_ret
 exact⟨rfl,rfl⟩
theorem Oi (A B:Option Addr) (n m c d:Nat) (xs ys:List Int) (w:World) (ha:Rd w A n xs) (hb:Rd w B m ys) :
  Calls Tryz.prog 10 #[.slice A n c,.slice B m d] w fun e w'=>e=.returned (.bool (sameB xs ys))∧w=w':=by
 by_cases he:xs=ys
 ·subst he
  rw[mF]
  exact nM A B n m c d xs w ha hb
 ·have hs:sameB xs ys=false:=by unfold sameB;simpa using he
  rw[hs]
  have hne:((strOfNums xs).toList == (strOfNums ys).toList)=false:=by
   rw[beq_eq_false_iff_ne]
   exact fun h=>he (lT ha.2.1 hb.2.1 h)
  have c1:=lS (cap:=c) ha
  have c2:=lS (cap:=d) hb
  generalize strOfNums xs=s at *
  generalize strOfNums ys=s2 at *
  clear ha hb he hs
  go_enter Tryz.func10,Tryz.ntmps10
  go_wp2
  go_ret
  exact⟨rfl,rfl⟩
theorem Rws.row {w:World}{A:Option Addr}{n:Nat}{X:Nat→List Int}(h:Rws w A n X) (i:Nat) (hi:i < n):∃ b o a l c,A=some ⟨b,o,none⟩∧w.cell? ⟨b,o+i,none⟩=some (.slice a l c)∧Rd w a l (X i):=by
 rcases h with h|⟨b,o,rfl,hc⟩
 ·omega
 ·obtain⟨a,l,c,h1,-,-,h4⟩:=hc i hi
  exact⟨b,o,a,l,c,rfl,h1,h4⟩
end Sha
end Go.Proofs.YtlkeieoecfkkeaaGreat
