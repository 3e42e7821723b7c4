/-
  Parts laid together: DiskIter.
-/
import Derived.Test.YtkbehjdglgpgjaaGreatPart6
import Derived.Shelf.SlIterI.Sorted
import Derived.Shelf.SortM.Plain
import Derived.Shelf.SortM.SortNone

namespace Go.Proofs.YtkbehjdglgpgjaaGreat.Disk
open Go.RowKit Go.Proofs.YtkbehjdglgpgjaaGreat.Sha Go.Maps Go.Sort Go.Shelf

theorem bears_of {P : Program} {f : FuncId} {B G : Func} (hf : P.funcs[f]? = some G) (hn : (G.name == "runtime.NumGoroutine") = false) (h : G = { B with name := G.name }) : Bears P f B := ⟨G.name, hn, hf.trans (congrArg some h)⟩
--LAYINGS
def keys_ren : Ren :=
  { f := fun x => match x with
      | 7 => 43
      | 10 => 64
      | n => n
    t := fun x => match x with
      | 23 => 75
      | 26 => 3
      | 3 => 105
      | 28 => 102
      | 0 => 0
      | 27 => 101
      | 33 => 107
      | 4 => 4
      | n => n
    g := fun n => n }
theorem keys_lay : SlLaysZI.n7 Tryz.prog keys_ren :=
  { mixed := by kernel_rfl,
     f7 := bears_of Tryz.func43 (by kernel_rfl) (by kernel_rfl),
     f10 := bears_of Tryz.func64 (by kernel_rfl) (by kernel_rfl),
     t0 := Tryz.underlying0,
     a0 := Tryz.isAgg0,
     z0 := Tryz.sizeOf0,
     v0 := Tryz.zeroValue0,
     t4 := Tryz.underlying4,
     a4 := Tryz.isAgg4,
     z4 := Tryz.sizeOf4,
     v4 := Tryz.zeroValue4,
     t23 := Tryz.underlying75,
     a23 := Tryz.isAgg75,
     z23 := Tryz.sizeOf75,
     v23 := Tryz.zeroValue75,
     t26 := Tryz.underlying3,
     a26 := Tryz.isAgg3,
     z26 := Tryz.sizeOf3,
     v26 := Tryz.zeroValue3,
     t27 := Tryz.underlying101,
     a27 := Tryz.isAgg101,
     z27 := Tryz.sizeOf101,
     v27 := Tryz.zeroValue101,
     t28 := Tryz.underlying102,
     a28 := Tryz.isAgg102,
     z28 := Tryz.sizeOf102,
     v28 := Tryz.zeroValue102,
     t33 := Tryz.underlying107,
     a33 := Tryz.isAgg107,
     z33 := Tryz.sizeOf107,
     v33 := Tryz.zeroValue107 }
def sorted_ren : Ren :=
  { f := fun x => match x with
      | 6 => 42
      | 8 => 62
      | 9 => 63
      | 11 => 82
      | 13 => 84
      | 12 => 83
      | 23 => 112
      | 24 => 113
      | 14 => 103
      | 15 => 104
      | 16 => 105
      | 17 => 106
      | 18 => 107
      | 19 => 108
      | 20 => 109
      | 21 => 110
      | 22 => 111
      | 25 => 124
      | 26 => 125
      | 27 => 126
      | 28 => 127
      | 29 => 128
      | 30 => 129
      | 31 => 134
      | n => n
    t := fun x => match x with
      | 26 => 3
      | 28 => 102
      | 24 => 48
      | 0 => 0
      | 3 => 3
      | 37 => 132
      | 48 => 61
      | 50 => 131
      | 4 => 4
      | 40 => 162
      | 39 => 161
      | 45 => 166
      | 5 => 5
      | 9 => 9
      | 51 => 178
      | 55 => 182
      | 57 => 189
      | 58 => 190
      | 33 => 107
      | n => n
    g := fun n => n }
theorem sorted_lay : SlLaysZI.n6 Tryz.prog sorted_ren :=
  { mixed := by kernel_rfl,
     f6 := bears_of Tryz.func42 (by kernel_rfl) (by kernel_rfl),
     f8 := bears_of Tryz.func62 (by kernel_rfl) (by kernel_rfl),
     f11 := bears_of Tryz.func82 (by kernel_rfl) (by kernel_rfl),
     t0 := Tryz.underlying0,
     a0 := Tryz.isAgg0,
     z0 := Tryz.sizeOf0,
     v0 := Tryz.zeroValue0,
     t24 := Tryz.underlying48,
     a24 := Tryz.isAgg48,
     z24 := Tryz.sizeOf48,
     v24 := Tryz.zeroValue48,
     t26 := Tryz.underlying3,
     a26 := Tryz.isAgg3,
     z26 := Tryz.sizeOf3,
     v26 := Tryz.zeroValue3,
     t28 := Tryz.underlying102,
     a28 := Tryz.isAgg102,
     z28 := Tryz.sizeOf102,
     v28 := Tryz.zeroValue102,
     i26 := by kernel_rfl }
def sort_ren : Ren :=
  { f := fun x => match x with
      | 5 => 63
      | 8 => 84
      | 7 => 83
      | 19 => 112
      | 20 => 113
      | 10 => 103
      | 11 => 104
      | 12 => 105
      | 13 => 106
      | 14 => 107
      | 15 => 108
      | 16 => 109
      | 17 => 110
      | 18 => 111
      | 30 => 124
      | 31 => 125
      | 32 => 126
      | 33 => 127
      | 34 => 128
      | 35 => 129
      | 40 => 134
      | n => n
    t := fun x => match x with
      | 23 => 48
      | 25 => 3
      | 3 => 3
      | 32 => 132
      | 22 => 48
      | 0 => 0
      | 44 => 61
      | 46 => 131
      | 4 => 4
      | 36 => 162
      | 35 => 161
      | 41 => 166
      | 5 => 5
      | 9 => 9
      | 53 => 178
      | 57 => 182
      | 63 => 189
      | 64 => 190
      | n => n
    g := fun n => n }
theorem sort_lay : SlLaysM.n5 Tryz.prog sort_ren :=
  { mixed := by kernel_rfl,
     f5 := bears_of Tryz.func63 (by kernel_rfl) (by kernel_rfl),
     f7 := bears_of Tryz.func83 (by kernel_rfl) (by kernel_rfl),
     f8 := Tryz.func84.trans (congrArg some (by kernel_rfl)),
     f10 := bears_of Tryz.func103 (by kernel_rfl) (by kernel_rfl),
     f11 := bears_of Tryz.func104 (by kernel_rfl) (by kernel_rfl),
     f12 := bears_of Tryz.func105 (by kernel_rfl) (by kernel_rfl),
     f13 := bears_of Tryz.func106 (by kernel_rfl) (by kernel_rfl),
     f14 := bears_of Tryz.func107 (by kernel_rfl) (by kernel_rfl),
     f15 := bears_of Tryz.func108 (by kernel_rfl) (by kernel_rfl),
     f16 := bears_of Tryz.func109 (by kernel_rfl) (by kernel_rfl),
     f17 := bears_of Tryz.func110 (by kernel_rfl) (by kernel_rfl),
     f18 := bears_of Tryz.func111 (by kernel_rfl) (by kernel_rfl),
     f19 := Tryz.func112.trans (congrArg some (by kernel_rfl)),
     f20 := Tryz.func113.trans (congrArg some (by kernel_rfl)),
     f30 := bears_of Tryz.func124 (by kernel_rfl) (by kernel_rfl),
     f31 := Tryz.func125.trans (congrArg some (by kernel_rfl)),
     f32 := Tryz.func126.trans (congrArg some (by kernel_rfl)),
     f33 := bears_of Tryz.func127 (by kernel_rfl) (by kernel_rfl),
     f34 := bears_of Tryz.func128 (by kernel_rfl) (by kernel_rfl),
     f35 := bears_of Tryz.func129 (by kernel_rfl) (by kernel_rfl),
     f40 := bears_of Tryz.func134 (by kernel_rfl) (by kernel_rfl),
     t0 := Tryz.underlying0,
     a0 := Tryz.isAgg0,
     z0 := Tryz.sizeOf0,
     v0 := Tryz.zeroValue0,
     t3 := Tryz.underlying3,
     a3 := Tryz.isAgg3,
     z3 := Tryz.sizeOf3,
     v3 := Tryz.zeroValue3,
     t4 := Tryz.underlying4,
     a4 := Tryz.isAgg4,
     z4 := Tryz.sizeOf4,
     v4 := Tryz.zeroValue4,
     t5 := Tryz.underlying5,
     a5 := Tryz.isAgg5,
     z5 := Tryz.sizeOf5,
     v5 := Tryz.zeroValue5,
     t9 := Tryz.underlying9,
     a9 := Tryz.isAgg9,
     z9 := Tryz.sizeOf9,
     v9 := Tryz.zeroValue9,
     t22 := Tryz.underlying48,
     a22 := Tryz.isAgg48,
     z22 := Tryz.sizeOf48,
     v22 := Tryz.zeroValue48,
     t23 := Tryz.underlying48,
     a23 := Tryz.isAgg48,
     z23 := Tryz.sizeOf48,
     v23 := Tryz.zeroValue48,
     t25 := Tryz.underlying3,
     a25 := Tryz.isAgg3,
     z25 := Tryz.sizeOf3,
     v25 := Tryz.zeroValue3,
     t32 := Tryz.underlying132,
     a32 := Tryz.isAgg132,
     z32 := Tryz.sizeOf132,
     v32 := Tryz.zeroValue132,
     t35 := Tryz.underlying161,
     a35 := Tryz.isAgg161,
     z35 := Tryz.sizeOf161,
     v35 := Tryz.zeroValue161,
     t36 := Tryz.underlying162,
     a36 := Tryz.isAgg162,
     z36 := Tryz.sizeOf162,
     v36 := Tryz.zeroValue162,
     t41 := Tryz.underlying166,
     a41 := Tryz.isAgg166,
     z41 := Tryz.sizeOf166,
     v41 := Tryz.zeroValue166,
     t44 := Tryz.underlying61,
     a44 := Tryz.isAgg61,
     z44 := Tryz.sizeOf61,
     v44 := Tryz.zeroValue61,
     t46 := Tryz.underlying131,
     a46 := Tryz.isAgg131,
     z46 := Tryz.sizeOf131,
     v46 := Tryz.zeroValue131,
     t53 := Tryz.underlying178,
     a53 := Tryz.isAgg178,
     z53 := Tryz.sizeOf178,
     v53 := Tryz.zeroValue178,
     t57 := Tryz.underlying182,
     a57 := Tryz.isAgg182,
     z57 := Tryz.sizeOf182,
     v57 := Tryz.zeroValue182,
     t63 := Tryz.underlying189,
     a63 := Tryz.isAgg189,
     z63 := Tryz.sizeOf189,
     v63 := Tryz.zeroValue189,
     t64 := Tryz.underlying190,
     a64 := Tryz.isAgg190,
     z64 := Tryz.sizeOf190,
     v64 := Tryz.zeroValue190 }
--END
theorem sorts_in (m : Nat) : AnyZI.SortsIn Tryz.prog sorted_ren Fence.wide m :=
  ⟨fun blk off cap ss W hH hblk hsz => callsIn_wide.2 (AnyM.slices_Sort_int sort_lay blk off cap ss W hH hblk hsz),
   fun p cap W => callsIn_wide.2 (AnyM.slices_Sort_int_none sort_lay p cap W)⟩
theorem keys_any (g : Nat) (w : World) : Calls Tryz.prog 43 #[.map (some g)] w fun e w' => e = .returned (.func (.func 64) #[] #[.pointer (some ⟨w.heap.size, 0, none⟩)]) ∧ w' = w.alloc (.cells #[.map (some g)] 75) :=
  (callsIn_wide (n := 6)).1 (AnyZI.keys_in keys_lay Fence.wide 6 trivial rfl (some g) w)
set_option maxHeartbeats 1000000 in
theorem sorted_any (w : World) (g Bm : Nat) (p : List Nat) (L : List (List Int)) (h : Mp w g p L) (hr : p.Pairwise (· < ·)) (hl : p.length ≤ 9000) (hc : w.cell? ⟨Bm, 0, none⟩ = some (.map (some g))) :
    Calls Tryz.prog 42 #[.func (.func 64) #[] #[.pointer (some ⟨Bm, 0, none⟩)]] w fun e w' => ∃ v, e = .returned v ∧ w'.ownsRow w.heap.size 3 1 v p.length (ints .i64 (p.map fun (i : Nat) => (i : Int))) ∧ Below w.heap.size w w' := by
  obtain ⟨D, own, hnd, h3, h4, h5, h6⟩ := h
  have hseq : SeqGives Fence.wide 4 Tryz.prog 64 #[.pointer (some ⟨Bm, 0, none⟩)] encZ (fun ss => ss.Perm (intKeys D)) (Maps.size D) w :=
    AnyZI.keys_gives (ρ := keys_ren) { keys_lay with } Fence.wide _ trivial rfl (by omega) Bm g _ D _ (World.block_lt_of_cell? _ _ hc) hc own
  have cS := AnyZI.sorted_in sorted_lay Fence.wide 7 trivial trivial trivial trivial rfl (by omega) (sorts_in _) (enters_of Tryz.func63 (by kernel_rfl) rfl) 64 #[.pointer (some ⟨Bm, 0, none⟩)] trivial (enters_of Tryz.func64 (by kernel_rfl) rfl) _ _ (by unfold maxLen; omega) (by omega) _ hseq
  refine ((callsIn_wide (n := 7)).1 cS).mono ?_
  rintro e w' ⟨v, ss, rfl, hS, hrow, -, hb⟩
  have hk := mp_keys own hr h3 h4 hS
  have hlen : ss.length = p.length := by
    have := congrArg List.length hk
    simpa using this
  rw [hk, hlen] at hrow
  exact ⟨v, rfl, hrow, hb⟩
end Go.Proofs.YtkbehjdglgpgjaaGreat.Disk
