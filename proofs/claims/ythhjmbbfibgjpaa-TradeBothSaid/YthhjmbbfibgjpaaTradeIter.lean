/-
  slices.Sorted(maps.Keys(m)) over a map of ints to rows of trades, by the library's contracts: what they ask of the program, laid out by name; what comes: the IDs, rising.
-/
import Derived.Test.YthhjmbbfibgjpaaTradeMap
import Derived.Shelf.SlIterI.Sorted
import Derived.Shelf.SortM.Plain
import Derived.Shelf.SortM.SortNone
namespace Go.Proofs.Ythhjmbbfibgjpaa.Trade
open Go.RowKit Go.Proofs.Ythhjmbbfibgjpaa.Sha Go.Maps Go.Sort Go.Shelf

theorem bears_of {P : Program} {f : FuncId} {B G : Func} (hf : P.funcs[f]? = some G) (hn : (G.name == "runtime.NumGoroutine") = false) (h : G = { B with name := G.name }) : Bears P f B := ⟨G.name, hn, hf.trans (congrArg some h)⟩
--LAYINGS
def keys_ren : Ren :=
  { f := fun x => match x with
      | 7 => 30
      | 10 => 39
      | n => n
    t := fun x => match x with
      | 23 => 58
      | 26 => 3
      | 3 => 39
      | 28 => 62
      | 0 => 0
      | 27 => 61
      | 33 => 50
      | 4 => 4
      | n => n
    g := fun n => n }
theorem keys_lay : SlLaysZI.n7 Try.prog keys_ren :=
  { mixed := by kernel_rfl,
     f7 := bears_of Try.func30 (by kernel_rfl) (by kernel_rfl),
     f10 := bears_of Try.func39 (by kernel_rfl) (by kernel_rfl),
     t0 := Try.underlying0,
     a0 := Try.isAgg0,
     z0 := Try.sizeOf0,
     v0 := Try.zeroValue0,
     t4 := Try.underlying4,
     a4 := Try.isAgg4,
     z4 := Try.sizeOf4,
     v4 := Try.zeroValue4,
     t23 := Try.underlying58,
     a23 := Try.isAgg58,
     z23 := Try.sizeOf58,
     v23 := Try.zeroValue58,
     t26 := Try.underlying3,
     a26 := Try.isAgg3,
     z26 := Try.sizeOf3,
     v26 := Try.zeroValue3,
     t27 := Try.underlying61,
     a27 := Try.isAgg61,
     z27 := Try.sizeOf61,
     v27 := Try.zeroValue61,
     t28 := Try.underlying62,
     a28 := Try.isAgg62,
     z28 := Try.sizeOf62,
     v28 := Try.zeroValue62,
     t33 := Try.underlying50,
     a33 := Try.isAgg50,
     z33 := Try.sizeOf50,
     v33 := Try.zeroValue50 }
def sorted_ren : Ren :=
  { f := fun x => match x with
      | 6 => 29
      | 8 => 37
      | 9 => 38
      | 11 => 42
      | 13 => 44
      | 12 => 43
      | 23 => 55
      | 24 => 56
      | 14 => 46
      | 15 => 47
      | 16 => 48
      | 17 => 49
      | 18 => 50
      | 19 => 51
      | 20 => 52
      | 21 => 53
      | 22 => 54
      | 25 => 57
      | 26 => 58
      | 27 => 59
      | 28 => 60
      | 29 => 61
      | 30 => 62
      | 31 => 63
      | n => n
    t := fun x => match x with
      | 26 => 3
      | 28 => 62
      | 24 => 38
      | 0 => 0
      | 3 => 3
      | 37 => 49
      | 48 => 85
      | 50 => 87
      | 4 => 4
      | 40 => 78
      | 39 => 77
      | 45 => 82
      | 5 => 5
      | 9 => 9
      | 51 => 88
      | 55 => 92
      | 57 => 94
      | 58 => 95
      | 33 => 50
      | n => n
    g := fun n => n }
theorem sorted_lay : SlLaysZI.n6 Try.prog sorted_ren :=
  { mixed := by kernel_rfl,
     f6 := bears_of Try.func29 (by kernel_rfl) (by kernel_rfl),
     f8 := bears_of Try.func37 (by kernel_rfl) (by kernel_rfl),
     f11 := bears_of Try.func42 (by kernel_rfl) (by kernel_rfl),
     t0 := Try.underlying0,
     a0 := Try.isAgg0,
     z0 := Try.sizeOf0,
     v0 := Try.zeroValue0,
     t24 := Try.underlying38,
     a24 := Try.isAgg38,
     z24 := Try.sizeOf38,
     v24 := Try.zeroValue38,
     t26 := Try.underlying3,
     a26 := Try.isAgg3,
     z26 := Try.sizeOf3,
     v26 := Try.zeroValue3,
     t28 := Try.underlying62,
     a28 := Try.isAgg62,
     z28 := Try.sizeOf62,
     v28 := Try.zeroValue62,
     i26 := by kernel_rfl }
def sort_ren : Ren :=
  { f := fun x => match x with
      | 5 => 38
      | 8 => 44
      | 7 => 43
      | 19 => 55
      | 20 => 56
      | 10 => 46
      | 11 => 47
      | 12 => 48
      | 13 => 49
      | 14 => 50
      | 15 => 51
      | 16 => 52
      | 17 => 53
      | 18 => 54
      | 30 => 57
      | 31 => 58
      | 32 => 59
      | 33 => 60
      | 34 => 61
      | 35 => 62
      | 40 => 63
      | n => n
    t := fun x => match x with
      | 23 => 38
      | 25 => 3
      | 3 => 3
      | 32 => 49
      | 22 => 38
      | 0 => 0
      | 44 => 85
      | 46 => 87
      | 4 => 4
      | 36 => 78
      | 35 => 77
      | 41 => 82
      | 5 => 5
      | 9 => 9
      | 53 => 88
      | 57 => 92
      | 63 => 94
      | 64 => 95
      | n => n
    g := fun n => n }
theorem sort_lay : SlLaysM.n5 Try.prog sort_ren :=
  { mixed := by kernel_rfl,
     f5 := bears_of Try.func38 (by kernel_rfl) (by kernel_rfl),
     f7 := bears_of Try.func43 (by kernel_rfl) (by kernel_rfl),
     f8 := Try.func44.trans (congrArg some (by kernel_rfl)),
     f10 := bears_of Try.func46 (by kernel_rfl) (by kernel_rfl),
     f11 := bears_of Try.func47 (by kernel_rfl) (by kernel_rfl),
     f12 := bears_of Try.func48 (by kernel_rfl) (by kernel_rfl),
     f13 := bears_of Try.func49 (by kernel_rfl) (by kernel_rfl),
     f14 := bears_of Try.func50 (by kernel_rfl) (by kernel_rfl),
     f15 := bears_of Try.func51 (by kernel_rfl) (by kernel_rfl),
     f16 := bears_of Try.func52 (by kernel_rfl) (by kernel_rfl),
     f17 := bears_of Try.func53 (by kernel_rfl) (by kernel_rfl),
     f18 := bears_of Try.func54 (by kernel_rfl) (by kernel_rfl),
     f19 := Try.func55.trans (congrArg some (by kernel_rfl)),
     f20 := Try.func56.trans (congrArg some (by kernel_rfl)),
     f30 := bears_of Try.func57 (by kernel_rfl) (by kernel_rfl),
     f31 := Try.func58.trans (congrArg some (by kernel_rfl)),
     f32 := Try.func59.trans (congrArg some (by kernel_rfl)),
     f33 := bears_of Try.func60 (by kernel_rfl) (by kernel_rfl),
     f34 := bears_of Try.func61 (by kernel_rfl) (by kernel_rfl),
     f35 := bears_of Try.func62 (by kernel_rfl) (by kernel_rfl),
     f40 := bears_of Try.func63 (by kernel_rfl) (by kernel_rfl),
     t0 := Try.underlying0,
     a0 := Try.isAgg0,
     z0 := Try.sizeOf0,
     v0 := Try.zeroValue0,
     t3 := Try.underlying3,
     a3 := Try.isAgg3,
     z3 := Try.sizeOf3,
     v3 := Try.zeroValue3,
     t4 := Try.underlying4,
     a4 := Try.isAgg4,
     z4 := Try.sizeOf4,
     v4 := Try.zeroValue4,
     t5 := Try.underlying5,
     a5 := Try.isAgg5,
     z5 := Try.sizeOf5,
     v5 := Try.zeroValue5,
     t9 := Try.underlying9,
     a9 := Try.isAgg9,
     z9 := Try.sizeOf9,
     v9 := Try.zeroValue9,
     t22 := Try.underlying38,
     a22 := Try.isAgg38,
     z22 := Try.sizeOf38,
     v22 := Try.zeroValue38,
     t23 := Try.underlying38,
     a23 := Try.isAgg38,
     z23 := Try.sizeOf38,
     v23 := Try.zeroValue38,
     t25 := Try.underlying3,
     a25 := Try.isAgg3,
     z25 := Try.sizeOf3,
     v25 := Try.zeroValue3,
     t32 := Try.underlying49,
     a32 := Try.isAgg49,
     z32 := Try.sizeOf49,
     v32 := Try.zeroValue49,
     t35 := Try.underlying77,
     a35 := Try.isAgg77,
     z35 := Try.sizeOf77,
     v35 := Try.zeroValue77,
     t36 := Try.underlying78,
     a36 := Try.isAgg78,
     z36 := Try.sizeOf78,
     v36 := Try.zeroValue78,
     t41 := Try.underlying82,
     a41 := Try.isAgg82,
     z41 := Try.sizeOf82,
     v41 := Try.zeroValue82,
     t44 := Try.underlying85,
     a44 := Try.isAgg85,
     z44 := Try.sizeOf85,
     v44 := Try.zeroValue85,
     t46 := Try.underlying87,
     a46 := Try.isAgg87,
     z46 := Try.sizeOf87,
     v46 := Try.zeroValue87,
     t53 := Try.underlying88,
     a53 := Try.isAgg88,
     z53 := Try.sizeOf88,
     v53 := Try.zeroValue88,
     t57 := Try.underlying92,
     a57 := Try.isAgg92,
     z57 := Try.sizeOf92,
     v57 := Try.zeroValue92,
     t63 := Try.underlying94,
     a63 := Try.isAgg94,
     z63 := Try.sizeOf94,
     v63 := Try.zeroValue94,
     t64 := Try.underlying95,
     a64 := Try.isAgg95,
     z64 := Try.sizeOf95,
     v64 := Try.zeroValue95 }
--END
theorem sorts_in (m : Nat) : AnyZI.SortsIn Try.prog sorted_ren Fence.wide m :=
  ⟨fun blk off cap ss W hH hblk hsz => callsIn_wide.2 (AnyM.slices_Sort_int sort_lay blk off cap ss W hH hblk hsz),
   fun p cap W => callsIn_wide.2 (AnyM.slices_Sort_int_none sort_lay p cap W)⟩
theorem keys_any (g : Nat) (w : World) : Calls Try.prog 30 #[.map (some g)] w fun e w' => e = .returned (.func (.func 39) #[] #[.pointer (some ⟨w.heap.size, 0, none⟩)]) ∧ w' = w.alloc (.cells #[.map (some g)] 58) :=
  (callsIn_wide (n := 6)).1 (AnyZI.keys_in keys_lay Fence.wide 6 trivial rfl (some g) w)
set_option maxHeartbeats 1000000 in
theorem sorted_any (w : World) (N g Bm : Nat) (l : List TV) (h : Mt N w g l) (hl : l.length ≤ 9000) (hc : w.cell? ⟨Bm, 0, none⟩ = some (.map (some g))) :
    Calls Try.prog 29 #[.func (.func 39) #[] #[.pointer (some ⟨Bm, 0, none⟩)]] w fun e w' => ∃ v, e = .returned v ∧ w'.ownsRow w.heap.size 3 1 v (ids l).length (ints .i64 (ids l)) ∧ Below w.heap.size w w' := by
  obtain ⟨D, H, own, h2, -, h4, -⟩ := h
  have hln := ids_len l
  have hseq : SeqGives Fence.wide 4 Try.prog 39 #[.pointer (some ⟨Bm, 0, none⟩)] encZ (fun ss => ss.Perm (intKeys D)) (Maps.size D) w :=
    AnyZI.keys_gives (ρ := keys_ren) { keys_lay with } Fence.wide _ trivial rfl (by omega) Bm g _ D _ (World.block_lt_of_cell? _ _ hc) hc own
  have cS := AnyZI.sorted_in sorted_lay Fence.wide 7 trivial trivial trivial trivial rfl (by omega) (sorts_in _) (enters_of Try.func38 (by kernel_rfl) rfl) 39 #[.pointer (some ⟨Bm, 0, none⟩)] trivial (enters_of Try.func39 (by kernel_rfl) rfl) _ _ (by unfold maxLen; omega) (by omega) _ hseq
  refine ((callsIn_wide (n := 7)).1 cS).mono ?_
  rintro e w' ⟨v, ss, rfl, hS, hrow, -, hb⟩
  have hk := mt_keys own h2 hS
  have hlen : ss.length = (ids l).length := by
    have := congrArg List.length hk
    simpa using this
  rw [hk, hlen] at hrow
  exact ⟨v, rfl, hrow, hb⟩
end Go.Proofs.Ythhjmbbfibgjpaa.Trade
