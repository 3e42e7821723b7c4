/-
  Parts laid together: StrClone.
-/
import Derived.Test.YtidjkhpekhpffaaGreatPart8
import Derived.Lib.BufferWrite
import Derived.Lib.UnsafeStr
namespace Go.Proofs.YtidjkhpekhpffaaGreat.Sha
open Go.RowKit
set_option maxRecDepth 100000 in
set_option maxHeartbeats 1000000 in
theorem lclone_any (s:ByteArray) (h:s.size=32) (w:World):Calls Tryz.prog 267 #[.string s] w fun e w'=>e=.returned (.string s)∧Below w.heap.size w w':=by
 obtain⟨w2,hmk,k2,b2⟩:=make_blk w 32 (by omega)
 rw[show ((32:Nat):Int)=32 from rfl] at hmk
 have hl:s.data.toList.length=32:=by rw[← Lib.size_eq];exact h
 have hcp:=Lib.run_copy_row_string (P:=Tryz.prog) w2 44 9 3 5 w.heap.size 0 32 32 s (arr .u8 (List.replicate 32 0)) 5 Tryz.underlying44 (by kernel_rfl) k2 (by omega) (by simp[arr,ints];omega)
 obtain⟨Y,hY⟩:∃ Y,((arr .u8 (List.replicate 32 0)).toList.take 0++Lib.byteCells s.data.toList++(arr .u8 (List.replicate 32 0)).toList.drop (0+s.size)).toArray=Y:=⟨_,rfl⟩
 rw[hY,h] at hcp
 have hYl:Y.toList=Lib.byteCells s.data.toList:=by rw[← hY,h];simp[arr,ints]
 have hYs:Y.size=32:=by rw[← Array.length_toList,hYl,Lib.byteCells_length,hl]
 have k3:=k2.row Y
 have hne:s.data.toList≠[]:=fun e=>by rw[e] at hl;cases hl
 have hUS:=Lib.run_unsafeString_row (P:=Tryz.prog) (w2.setRow w.heap.size Y) 332 3 9 5 Tryz.underlying332 (by kernel_rfl) w.heap.size Y.size (by unfold World.shape?;rw[show (w2.setRow w.heap.size Y).heap[w.heap.size]?=_ from k3]) s.data.toList hne (by omega) (by omega)
  (fun j x hx=>Lib.cells_of_row k3 Y.size j _ (by rw[List.take_of_length_le (by rw[Array.length_toList];exact Nat.le_refl _),hYl];simp[Lib.byteCells,hx]))
 rw[hl,show ((32:Nat):Int)=32 from rfl] at hUS
 have bs:Below w.heap.size w2 (w2.setRow w.heap.size Y):=⟨rfl,rfl,rfl,by simp,fun k hk=>setRow_other _ _ _ _ (by omega)⟩
 have b3:Below w.heap.size w ((w2.setRow w.heap.size Y).freeze ⟨w.heap.size,0,none⟩ 32):=Lib.below_freeze (b2.trans bs) (Nat.le_refl _) _
 clear bs
 clear k2 b2 hY hYl hYs k3 hne hl
 go_enter Tryz.func267,Tryz.ntmps267
 go_wp2
 go_ret
 exact⟨rfl,b3⟩
theorem clone32_any (xs:List Int) (h:xs.length=32) (w:World):Calls Tryz.prog 240 #[.string (strOfNums xs)] w fun e w'=>e=.returned (.string (strOfNums xs))∧Below w.heap.size w w':=by
 have C:=Kept.mk (lclone_any (strOfNums xs) (by rw[strOfNums_size,h]))
 go_enter Tryz.func240,Tryz.ntmps240
 go_wp2_with fail
 refine(C.out _).mono ?_
 rintro e w1 ⟨rfl,b1⟩
 go_wp2
 go_ret
 exact⟨rfl,b1⟩
end Go.Proofs.YtidjkhpekhpffaaGreat.Sha
