/-
  slices.Sorted(maps.Keys(m)) over a map of ints to sectors, by the library's contracts: what they ask of the program, laid out by name; what comes: what is pending, rising.
-/
import Derived.Test.YtgjmnefninmoiaaDiskMap
import Derived.Shelf.SlIterI.Sorted
import Derived.Shelf.SortM.Plain
import Derived.Shelf.SortM.SortNone
namespace Go.Proofs.Ytgjmnefninmoiaa.Disk
open Go.RowKit Go.Proofs.Ytgjmnefninmoiaa.Sha Go.Maps Go.Sort Go.Shelf

theorem bears_of {P : Program} {f : FuncId} {B G : Func} (hf : P.funcs[f]? = some G) (hn : (G.name == "runtime.NumGoroutine") = false) (h : G = { B with name := G.name }) : Bears P f B := ⟨G.name, hn, hf.trans (congrArg some h)⟩
--LAYINGS
def keys_ren : Ren :=
  { f := fun x => match x with
      | 7 => 33
      | 10 => 38
      | n => n
    t := fun x => match x with
      | 23 => 55
      | 26 => 3
      | 3 => 65
      | 28 => 69
      | 0 => 0
      | 27 => 68
      | 33 => 63
      | 4 => 4
      | n => n
    g := fun n => n }
theorem keys_lay : SlLaysZI.n7 Try.prog keys_ren :=
  { mixed := by kernel_rfl,
     f7 := bears_of Try.func33 (by kernel_rfl) (by kernel_rfl),
     f10 := bears_of Try.func38 (by kernel_rfl) (by kernel_rfl),
     t0 := Try.underlying0,
     a0 := Try.isAgg0,
     z0 := Try.sizeOf0,
     v0 := Try.zeroValue0,
     t4 := Try.underlying4,
     a4 := Try.isAgg4,
     z4 := Try.sizeOf4,
     v4 := Try.zeroValue4,
     t23 := Try.underlying55,
     a23 := Try.isAgg55,
     z23 := Try.sizeOf55,
     v23 := Try.zeroValue55,
     t26 := Try.underlying3,
     a26 := Try.isAgg3,
     z26 := Try.sizeOf3,
     v26 := Try.zeroValue3,
     t27 := Try.underlying68,
     a27 := Try.isAgg68,
     z27 := Try.sizeOf68,
     v27 := Try.zeroValue68,
     t28 := Try.underlying69,
     a28 := Try.isAgg69,
     z28 := Try.sizeOf69,
     v28 := Try.zeroValue69,
     t33 := Try.underlying63,
     a33 := Try.isAgg63,
     z33 := Try.sizeOf63,
     v33 := Try.zeroValue63 }
def sorted_ren : Ren :=
  { f := fun x => match x with
      | 6 => 32
      | 8 => 36
      | 9 => 37
      | 11 => 42
      | 13 => 44
      | 12 => 43
      | 23 => 54
      | 24 => 55
      | 14 => 45
      | 15 => 46
      | 16 => 47
      | 17 => 48
      | 18 => 49
      | 19 => 50
      | 20 => 51
      | 21 => 52
      | 22 => 53
      | 25 => 56
      | 26 => 57
      | 27 => 58
      | 28 => 59
      | 29 => 60
      | 30 => 61
      | 31 => 62
      | n => n
    t := fun x => match x with
      | 26 => 3
      | 28 => 69
      | 24 => 46
      | 0 => 0
      | 3 => 3
      | 37 => 81
      | 48 => 58
      | 50 => 92
      | 4 => 4
      | 40 => 84
      | 39 => 83
      | 45 => 88
      | 5 => 5
      | 9 => 9
      | 51 => 93
      | 55 => 97
      | 57 => 99
      | 58 => 100
      | 33 => 63
      | n => n
    g := fun n => n }
theorem sorted_lay : SlLaysZI.n6 Try.prog sorted_ren :=
  { mixed := by kernel_rfl,
     f6 := bears_of Try.func32 (by kernel_rfl) (by kernel_rfl),
     f8 := bears_of Try.func36 (by kernel_rfl) (by kernel_rfl),
     f11 := bears_of Try.func42 (by kernel_rfl) (by kernel_rfl),
     t0 := Try.underlying0,
     a0 := Try.isAgg0,
     z0 := Try.sizeOf0,
     v0 := Try.zeroValue0,
     t24 := Try.underlying46,
     a24 := Try.isAgg46,
     z24 := Try.sizeOf46,
     v24 := Try.zeroValue46,
     t26 := Try.underlying3,
     a26 := Try.isAgg3,
     z26 := Try.sizeOf3,
     v26 := Try.zeroValue3,
     t28 := Try.underlying69,
     a28 := Try.isAgg69,
     z28 := Try.sizeOf69,
     v28 := Try.zeroValue69,
     i26 := by kernel_rfl }
def sort_ren : Ren :=
  { f := fun x => match x with
      | 5 => 37
      | 8 => 44
      | 7 => 43
      | 19 => 54
      | 20 => 55
      | 10 => 45
      | 11 => 46
      | 12 => 47
      | 13 => 48
      | 14 => 49
      | 15 => 50
      | 16 => 51
      | 17 => 52
      | 18 => 53
      | 30 => 56
      | 31 => 57
      | 32 => 58
      | 33 => 59
      | 34 => 60
      | 35 => 61
      | 40 => 62
      | n => n
    t := fun x => match x with
      | 23 => 46
      | 25 => 3
      | 3 => 3
      | 32 => 81
      | 22 => 46
      | 0 => 0
      | 44 => 58
      | 46 => 92
      | 4 => 4
      | 36 => 84
      | 35 => 83
      | 41 => 88
      | 5 => 5
      | 9 => 9
      | 53 => 93
      | 57 => 97
      | 63 => 99
      | 64 => 100
      | n => n
    g := fun n => n }
theorem sort_lay : SlLaysM.n5 Try.prog sort_ren :=
  { mixed := by kernel_rfl,
     f5 := bears_of Try.func37 (by kernel_rfl) (by kernel_rfl),
     f7 := bears_of Try.func43 (by kernel_rfl) (by kernel_rfl),
     f8 := Try.func44.trans (congrArg some (by kernel_rfl)),
     f10 := bears_of Try.func45 (by kernel_rfl) (by kernel_rfl),
     f11 := bears_of Try.func46 (by kernel_rfl) (by kernel_rfl),
     f12 := bears_of Try.func47 (by kernel_rfl) (by kernel_rfl),
     f13 := bears_of Try.func48 (by kernel_rfl) (by kernel_rfl),
     f14 := bears_of Try.func49 (by kernel_rfl) (by kernel_rfl),
     f15 := bears_of Try.func50 (by kernel_rfl) (by kernel_rfl),
     f16 := bears_of Try.func51 (by kernel_rfl) (by kernel_rfl),
     f17 := bears_of Try.func52 (by kernel_rfl) (by kernel_rfl),
     f18 := bears_of Try.func53 (by kernel_rfl) (by kernel_rfl),
     f19 := Try.func54.trans (congrArg some (by kernel_rfl)),
     f20 := Try.func55.trans (congrArg some (by kernel_rfl)),
     f30 := bears_of Try.func56 (by kernel_rfl) (by kernel_rfl),
     f31 := Try.func57.trans (congrArg some (by kernel_rfl)),
     f32 := Try.func58.trans (congrArg some (by kernel_rfl)),
     f33 := bears_of Try.func59 (by kernel_rfl) (by kernel_rfl),
     f34 := bears_of Try.func60 (by kernel_rfl) (by kernel_rfl),
     f35 := bears_of Try.func61 (by kernel_rfl) (by kernel_rfl),
     f40 := bears_of Try.func62 (by kernel_rfl) (by kernel_rfl),
     t0 := Try.underlying0,
     a0 := Try.isAgg0,
     z0 := Try.sizeOf0,
     v0 := Try.zeroValue0,
     t3 := Try.underlying3,
     a3 := Try.isAgg3,
     z3 := Try.sizeOf3,
     v3 := Try.zeroValue3,
     t4 := Try.underlying4,
     a4 := Try.isAgg4,
     z4 := Try.sizeOf4,
     v4 := Try.zeroValue4,
     t5 := Try.underlying5,
     a5 := Try.isAgg5,
     z5 := Try.sizeOf5,
     v5 := Try.zeroValue5,
     t9 := Try.underlying9,
     a9 := Try.isAgg9,
     z9 := Try.sizeOf9,
     v9 := Try.zeroValue9,
     t22 := Try.underlying46,
     a22 := Try.isAgg46,
     z22 := Try.sizeOf46,
     v22 := Try.zeroValue46,
     t23 := Try.underlying46,
     a23 := Try.isAgg46,
     z23 := Try.sizeOf46,
     v23 := Try.zeroValue46,
     t25 := Try.underlying3,
     a25 := Try.isAgg3,
     z25 := Try.sizeOf3,
     v25 := Try.zeroValue3,
     t32 := Try.underlying81,
     a32 := Try.isAgg81,
     z32 := Try.sizeOf81,
     v32 := Try.zeroValue81,
     t35 := Try.underlying83,
     a35 := Try.isAgg83,
     z35 := Try.sizeOf83,
     v35 := Try.zeroValue83,
     t36 := Try.underlying84,
     a36 := Try.isAgg84,
     z36 := Try.sizeOf84,
     v36 := Try.zeroValue84,
     t41 := Try.underlying88,
     a41 := Try.isAgg88,
     z41 := Try.sizeOf88,
     v41 := Try.zeroValue88,
     t44 := Try.underlying58,
     a44 := Try.isAgg58,
     z44 := Try.sizeOf58,
     v44 := Try.zeroValue58,
     t46 := Try.underlying92,
     a46 := Try.isAgg92,
     z46 := Try.sizeOf92,
     v46 := Try.zeroValue92,
     t53 := Try.underlying93,
     a53 := Try.isAgg93,
     z53 := Try.sizeOf93,
     v53 := Try.zeroValue93,
     t57 := Try.underlying97,
     a57 := Try.isAgg97,
     z57 := Try.sizeOf97,
     v57 := Try.zeroValue97,
     t63 := Try.underlying99,
     a63 := Try.isAgg99,
     z63 := Try.sizeOf99,
     v63 := Try.zeroValue99,
     t64 := Try.underlying100,
     a64 := Try.isAgg100,
     z64 := Try.sizeOf100,
     v64 := Try.zeroValue100 }
--END
theorem sorts_in (m : Nat) : AnyZI.SortsIn Try.prog sorted_ren Fence.wide m :=
  ⟨fun blk off cap ss W hH hblk hsz => callsIn_wide.2 (AnyM.slices_Sort_int sort_lay blk off cap ss W hH hblk hsz),
   fun p cap W => callsIn_wide.2 (AnyM.slices_Sort_int_none sort_lay p cap W)⟩
theorem keys_any (g : Nat) (w : World) : Calls Try.prog 33 #[.map (some g)] w fun e w' => e = .returned (.func (.func 38) #[] #[.pointer (some ⟨w.heap.size, 0, none⟩)]) ∧ w' = w.alloc (.cells #[.map (some g)] 55) :=
  (callsIn_wide (n := 6)).1 (AnyZI.keys_in keys_lay Fence.wide 6 trivial rfl (some g) w)
set_option maxHeartbeats 1000000 in
theorem sorted_any (w : World) (g Bm : Nat) (p : List Nat) (L : List (List Int)) (h : Mp w g p L) (hr : p.Pairwise (· < ·)) (hl : p.length ≤ 9000) (hc : w.cell? ⟨Bm, 0, none⟩ = some (.map (some g))) :
    Calls Try.prog 32 #[.func (.func 38) #[] #[.pointer (some ⟨Bm, 0, none⟩)]] w fun e w' => ∃ v, e = .returned v ∧ w'.ownsRow w.heap.size 3 1 v p.length (ints .i64 (p.map fun (i : Nat) => (i : Int))) ∧ Below w.heap.size w w' := by
  obtain ⟨D, own, hnd, h3, h4, h5, h6⟩ := h
  have hseq : SeqGives Fence.wide 4 Try.prog 38 #[.pointer (some ⟨Bm, 0, none⟩)] encZ (fun ss => ss.Perm (intKeys D)) (Maps.size D) w :=
    AnyZI.keys_gives (ρ := keys_ren) { keys_lay with } Fence.wide _ trivial rfl (by omega) Bm g _ D _ (World.block_lt_of_cell? _ _ hc) hc own
  have cS := AnyZI.sorted_in sorted_lay Fence.wide 7 trivial trivial trivial trivial rfl (by omega) (sorts_in _) (enters_of Try.func37 (by kernel_rfl) rfl) 38 #[.pointer (some ⟨Bm, 0, none⟩)] trivial (enters_of Try.func38 (by kernel_rfl) rfl) _ _ (by unfold maxLen; omega) (by omega) _ hseq
  refine ((callsIn_wide (n := 7)).1 cS).mono ?_
  rintro e w' ⟨v, ss, rfl, hS, hrow, -, hb⟩
  have hk := mp_keys own hr h3 h4 hS
  have hlen : ss.length = p.length := by
    have := congrArg List.length hk
    simpa using this
  rw [hk, hlen] at hrow
  exact ⟨v, rfl, hrow, hb⟩
end Go.Proofs.Ytgjmnefninmoiaa.Disk
