/-
  Parts laid together: DiskIter Ints IntRows DiskCrash DiskFus.
-/
import Derived.Test.YtjlhnhkjgcbnnaaGreatPart5
import Derived.Shelf.SlIterI.Sorted
import Derived.Shelf.SortM.Plain
import Derived.Shelf.SortM.SortNone
import Derived.Test.YtjlhnhkjgcbnnaaGreatPart1
import Derived.Laws.Slices
import Derived.Maps.AppendAt
import Derived.StillTailTactics

/-
  slices.Sorted(maps.Keys(m)) over a map of ints to sectors, by the library's contracts: what they ask of the program, laid out by name; what comes: what is pending, rising.
-/




namespace Go.Proofs.YtjlhnhkjgcbnnaaGreat.Disk
open Go.RowKit Go.Proofs.YtjlhnhkjgcbnnaaGreat.Sha Go.Maps Go.Sort Go.Shelf

theorem bears_of {P : Program} {f : FuncId} {B G : Func} (hf : P.funcs[f]? = some G) (hn : (G.name == "runtime.NumGoroutine") = false) (h : G = { B with name := G.name }) : Bears P f B := ⟨G.name, hn, hf.trans (congrArg some h)⟩
--LAYINGS
def keys_ren : Ren :=
  { f := fun x => match x with
      | 7 => 45
      | 10 => 65
      | n => n
    t := fun x => match x with
      | 23 => 81
      | 26 => 3
      | 3 => 107
      | 28 => 104
      | 0 => 0
      | 27 => 103
      | 33 => 109
      | 4 => 4
      | n => n
    g := fun n => n }
theorem keys_lay : SlLaysZI.n7 Tryz.prog keys_ren :=
  { mixed := by kernel_rfl,
     f7 := bears_of Tryz.func45 (by kernel_rfl) (by kernel_rfl),
     f10 := bears_of Tryz.func65 (by kernel_rfl) (by kernel_rfl),
     t0 := Tryz.underlying0,
     a0 := Tryz.isAgg0,
     z0 := Tryz.sizeOf0,
     v0 := Tryz.zeroValue0,
     t4 := Tryz.underlying4,
     a4 := Tryz.isAgg4,
     z4 := Tryz.sizeOf4,
     v4 := Tryz.zeroValue4,
     t23 := Tryz.underlying81,
     a23 := Tryz.isAgg81,
     z23 := Tryz.sizeOf81,
     v23 := Tryz.zeroValue81,
     t26 := Tryz.underlying3,
     a26 := Tryz.isAgg3,
     z26 := Tryz.sizeOf3,
     v26 := Tryz.zeroValue3,
     t27 := Tryz.underlying103,
     a27 := Tryz.isAgg103,
     z27 := Tryz.sizeOf103,
     v27 := Tryz.zeroValue103,
     t28 := Tryz.underlying104,
     a28 := Tryz.isAgg104,
     z28 := Tryz.sizeOf104,
     v28 := Tryz.zeroValue104,
     t33 := Tryz.underlying109,
     a33 := Tryz.isAgg109,
     z33 := Tryz.sizeOf109,
     v33 := Tryz.zeroValue109 }
def sorted_ren : Ren :=
  { f := fun x => match x with
      | 6 => 44
      | 8 => 63
      | 9 => 64
      | 11 => 83
      | 13 => 85
      | 12 => 84
      | 23 => 113
      | 24 => 114
      | 14 => 104
      | 15 => 105
      | 16 => 106
      | 17 => 107
      | 18 => 108
      | 19 => 109
      | 20 => 110
      | 21 => 111
      | 22 => 112
      | 25 => 125
      | 26 => 126
      | 27 => 127
      | 28 => 128
      | 29 => 129
      | 30 => 130
      | 31 => 135
      | n => n
    t := fun x => match x with
      | 26 => 3
      | 28 => 104
      | 24 => 48
      | 0 => 0
      | 3 => 3
      | 37 => 138
      | 48 => 67
      | 50 => 137
      | 4 => 4
      | 40 => 163
      | 39 => 162
      | 45 => 167
      | 5 => 5
      | 9 => 9
      | 51 => 179
      | 55 => 183
      | 57 => 190
      | 58 => 191
      | 33 => 109
      | n => n
    g := fun n => n }
theorem sorted_lay : SlLaysZI.n6 Tryz.prog sorted_ren :=
  { mixed := by kernel_rfl,
     f6 := bears_of Tryz.func44 (by kernel_rfl) (by kernel_rfl),
     f8 := bears_of Tryz.func63 (by kernel_rfl) (by kernel_rfl),
     f11 := bears_of Tryz.func83 (by kernel_rfl) (by kernel_rfl),
     t0 := Tryz.underlying0,
     a0 := Tryz.isAgg0,
     z0 := Tryz.sizeOf0,
     v0 := Tryz.zeroValue0,
     t24 := Tryz.underlying48,
     a24 := Tryz.isAgg48,
     z24 := Tryz.sizeOf48,
     v24 := Tryz.zeroValue48,
     t26 := Tryz.underlying3,
     a26 := Tryz.isAgg3,
     z26 := Tryz.sizeOf3,
     v26 := Tryz.zeroValue3,
     t28 := Tryz.underlying104,
     a28 := Tryz.isAgg104,
     z28 := Tryz.sizeOf104,
     v28 := Tryz.zeroValue104,
     i26 := by kernel_rfl }
def sort_ren : Ren :=
  { f := fun x => match x with
      | 5 => 64
      | 8 => 85
      | 7 => 84
      | 19 => 113
      | 20 => 114
      | 10 => 104
      | 11 => 105
      | 12 => 106
      | 13 => 107
      | 14 => 108
      | 15 => 109
      | 16 => 110
      | 17 => 111
      | 18 => 112
      | 30 => 125
      | 31 => 126
      | 32 => 127
      | 33 => 128
      | 34 => 129
      | 35 => 130
      | 40 => 135
      | n => n
    t := fun x => match x with
      | 23 => 48
      | 25 => 3
      | 3 => 3
      | 32 => 138
      | 22 => 48
      | 0 => 0
      | 44 => 67
      | 46 => 137
      | 4 => 4
      | 36 => 163
      | 35 => 162
      | 41 => 167
      | 5 => 5
      | 9 => 9
      | 53 => 179
      | 57 => 183
      | 63 => 190
      | 64 => 191
      | n => n
    g := fun n => n }
theorem sort_lay : SlLaysM.n5 Tryz.prog sort_ren :=
  { mixed := by kernel_rfl,
     f5 := bears_of Tryz.func64 (by kernel_rfl) (by kernel_rfl),
     f7 := bears_of Tryz.func84 (by kernel_rfl) (by kernel_rfl),
     f8 := Tryz.func85.trans (congrArg some (by kernel_rfl)),
     f10 := bears_of Tryz.func104 (by kernel_rfl) (by kernel_rfl),
     f11 := bears_of Tryz.func105 (by kernel_rfl) (by kernel_rfl),
     f12 := bears_of Tryz.func106 (by kernel_rfl) (by kernel_rfl),
     f13 := bears_of Tryz.func107 (by kernel_rfl) (by kernel_rfl),
     f14 := bears_of Tryz.func108 (by kernel_rfl) (by kernel_rfl),
     f15 := bears_of Tryz.func109 (by kernel_rfl) (by kernel_rfl),
     f16 := bears_of Tryz.func110 (by kernel_rfl) (by kernel_rfl),
     f17 := bears_of Tryz.func111 (by kernel_rfl) (by kernel_rfl),
     f18 := bears_of Tryz.func112 (by kernel_rfl) (by kernel_rfl),
     f19 := Tryz.func113.trans (congrArg some (by kernel_rfl)),
     f20 := Tryz.func114.trans (congrArg some (by kernel_rfl)),
     f30 := bears_of Tryz.func125 (by kernel_rfl) (by kernel_rfl),
     f31 := Tryz.func126.trans (congrArg some (by kernel_rfl)),
     f32 := Tryz.func127.trans (congrArg some (by kernel_rfl)),
     f33 := bears_of Tryz.func128 (by kernel_rfl) (by kernel_rfl),
     f34 := bears_of Tryz.func129 (by kernel_rfl) (by kernel_rfl),
     f35 := bears_of Tryz.func130 (by kernel_rfl) (by kernel_rfl),
     f40 := bears_of Tryz.func135 (by kernel_rfl) (by kernel_rfl),
     t0 := Tryz.underlying0,
     a0 := Tryz.isAgg0,
     z0 := Tryz.sizeOf0,
     v0 := Tryz.zeroValue0,
     t3 := Tryz.underlying3,
     a3 := Tryz.isAgg3,
     z3 := Tryz.sizeOf3,
     v3 := Tryz.zeroValue3,
     t4 := Tryz.underlying4,
     a4 := Tryz.isAgg4,
     z4 := Tryz.sizeOf4,
     v4 := Tryz.zeroValue4,
     t5 := Tryz.underlying5,
     a5 := Tryz.isAgg5,
     z5 := Tryz.sizeOf5,
     v5 := Tryz.zeroValue5,
     t9 := Tryz.underlying9,
     a9 := Tryz.isAgg9,
     z9 := Tryz.sizeOf9,
     v9 := Tryz.zeroValue9,
     t22 := Tryz.underlying48,
     a22 := Tryz.isAgg48,
     z22 := Tryz.sizeOf48,
     v22 := Tryz.zeroValue48,
     t23 := Tryz.underlying48,
     a23 := Tryz.isAgg48,
     z23 := Tryz.sizeOf48,
     v23 := Tryz.zeroValue48,
     t25 := Tryz.underlying3,
     a25 := Tryz.isAgg3,
     z25 := Tryz.sizeOf3,
     v25 := Tryz.zeroValue3,
     t32 := Tryz.underlying138,
     a32 := Tryz.isAgg138,
     z32 := Tryz.sizeOf138,
     v32 := Tryz.zeroValue138,
     t35 := Tryz.underlying162,
     a35 := Tryz.isAgg162,
     z35 := Tryz.sizeOf162,
     v35 := Tryz.zeroValue162,
     t36 := Tryz.underlying163,
     a36 := Tryz.isAgg163,
     z36 := Tryz.sizeOf163,
     v36 := Tryz.zeroValue163,
     t41 := Tryz.underlying167,
     a41 := Tryz.isAgg167,
     z41 := Tryz.sizeOf167,
     v41 := Tryz.zeroValue167,
     t44 := Tryz.underlying67,
     a44 := Tryz.isAgg67,
     z44 := Tryz.sizeOf67,
     v44 := Tryz.zeroValue67,
     t46 := Tryz.underlying137,
     a46 := Tryz.isAgg137,
     z46 := Tryz.sizeOf137,
     v46 := Tryz.zeroValue137,
     t53 := Tryz.underlying179,
     a53 := Tryz.isAgg179,
     z53 := Tryz.sizeOf179,
     v53 := Tryz.zeroValue179,
     t57 := Tryz.underlying183,
     a57 := Tryz.isAgg183,
     z57 := Tryz.sizeOf183,
     v57 := Tryz.zeroValue183,
     t63 := Tryz.underlying190,
     a63 := Tryz.isAgg190,
     z63 := Tryz.sizeOf190,
     v63 := Tryz.zeroValue190,
     t64 := Tryz.underlying191,
     a64 := Tryz.isAgg191,
     z64 := Tryz.sizeOf191,
     v64 := Tryz.zeroValue191 }
--END
theorem sorts_in (m : Nat) : AnyZI.SortsIn Tryz.prog sorted_ren Fence.wide m :=
  ⟨fun blk off cap ss W hH hblk hsz => callsIn_wide.2 (AnyM.slices_Sort_int sort_lay blk off cap ss W hH hblk hsz),
   fun p cap W => callsIn_wide.2 (AnyM.slices_Sort_int_none sort_lay p cap W)⟩
theorem keys_any (g : Nat) (w : World) : Calls Tryz.prog 45 #[.map (some g)] w fun e w' => e = .returned (.func (.func 65) #[] #[.pointer (some ⟨w.heap.size, 0, none⟩)]) ∧ w' = w.alloc (.cells #[.map (some g)] 81) :=
  (callsIn_wide (n := 6)).1 (AnyZI.keys_in keys_lay Fence.wide 6 trivial rfl (some g) w)
set_option maxHeartbeats 1000000 in
theorem sorted_any (w : World) (g Bm : Nat) (p : List Nat) (L : List (List Int)) (h : Mp w g p L) (hr : p.Pairwise (· < ·)) (hl : p.length ≤ 9000) (hc : w.cell? ⟨Bm, 0, none⟩ = some (.map (some g))) :
    Calls Tryz.prog 44 #[.func (.func 65) #[] #[.pointer (some ⟨Bm, 0, none⟩)]] w fun e w' => ∃ v, e = .returned v ∧ w'.ownsRow w.heap.size 3 1 v p.length (ints .i64 (p.map fun (i : Nat) => (i : Int))) ∧ Below w.heap.size w w' := by
  obtain ⟨D, own, hnd, h3, h4, h5, h6⟩ := h
  have hseq : SeqGives Fence.wide 4 Tryz.prog 65 #[.pointer (some ⟨Bm, 0, none⟩)] encZ (fun ss => ss.Perm (intKeys D)) (Maps.size D) w :=
    AnyZI.keys_gives (ρ := keys_ren) { keys_lay with } Fence.wide _ trivial rfl (by omega) Bm g _ D _ (World.block_lt_of_cell? _ _ hc) hc own
  have cS := AnyZI.sorted_in sorted_lay Fence.wide 7 trivial trivial trivial trivial rfl (by omega) (sorts_in _) (enters_of Tryz.func64 (by kernel_rfl) rfl) 65 #[.pointer (some ⟨Bm, 0, none⟩)] trivial (enters_of Tryz.func65 (by kernel_rfl) rfl) _ _ (by unfold maxLen; omega) (by omega) _ hseq
  refine ((callsIn_wide (n := 7)).1 cS).mono ?_
  rintro e w' ⟨v, ss, rfl, hS, hrow, -, hb⟩
  have hk := mp_keys own hr h3 h4 hS
  have hlen : ss.length = p.length := by
    have := congrArg List.length hk
    simpa using this
  rw [hk, hlen] at hrow
  exact ⟨v, rfl, hrow, hb⟩
end Go.Proofs.YtjlhnhkjgcbnnaaGreat.Disk

/-
  Rows of whole numbers that are read.
-/

namespace Go.Proofs.YtjlhnhkjgcbnnaaGreat.Sha
open Go.RowKit

/-- a slice of ints in memory, to be read: they are xs -/
def Ri (w : World) (A : Option Addr) (n : Nat) (xs : List Int) : Prop :=
  xs.length = n ∧ (n = 0 ∨ ∃ b o, A = some ⟨b, o, none⟩ ∧ ∀ i, i < n → w.cell? ⟨b, o + i, none⟩ = some (.int .i64 (at_ xs i)))
theorem Ri.bar {w w' : World} {A : Option Addr} {n : Nat} {xs : List Int} {l : List Nat} (r : Ri w A n xs) (b : Bar l w w') (hl : ∀ x ∈ l, w.heap.size ≤ x ∨ ∀ o, A ≠ some ⟨x, o, none⟩) : Ri w' A n xs := by
  obtain ⟨h1, h3⟩ := r
  refine ⟨h1, h3.imp id ?_⟩
  rintro ⟨bb, o, rfl, hc⟩
  refine ⟨bb, o, rfl, fun i hi => ?_⟩
  have hlt : bb < w.heap.size := World.block_lt_of_cell? _ _ (hc i hi)
  rw [← hc i hi]
  refine World.cell?_of_block (w := w) (b.block bb hlt (fun hm => ?_))
  rcases hl bb hm with h | h
  · omega
  · exact h o rfl
theorem Ri.below {w w' : World} {A : Option Addr} {n : Nat} {xs : List Int} (r : Ri w A n xs) (b : Below w.heap.size w w') : Ri w' A n xs := r.bar (l := []) (barOf b []) (by simp)
/-- behind changes from B on a row below B is as it was -/
theorem Ri.upto {w w' : World} {A : Option Addr} {n : Nat} {xs : List Int} {B : Nat} (r : Ri w A n xs) (b : Below B w w') (hB : n = 0 ∨ ∀ g o, A = some ⟨g, o, none⟩ → g < B) : Ri w' A n xs := by
  obtain ⟨h1, h3⟩ := r
  refine ⟨h1, ?_⟩
  rcases hB with h | h
  · exact .inl h
  · refine h3.imp id ?_
    rintro ⟨bb, o, rfl, hc⟩
    exact ⟨bb, o, rfl, fun i hi => by rw [← hc i hi]; exact World.cell?_of_block (w := w) (b.block bb (h bb o rfl))⟩
theorem Ri.blk {w : World} {M n : Nat} {T : TypeId} {xs : List Int} (h : Blk w M T (arr .i64 xs)) (hn : xs.length = n) : Ri w (some ⟨M, 0, none⟩) n xs :=
  ⟨hn, .inr ⟨M, 0, rfl, fun i hi => by rw [Nat.zero_add]; exact h.at_ i (by omega)⟩⟩
/-- a row of the law's argument -/
theorem ri_of_row {W : World} {a : Option Addr} {len cap : Nat} {zs : List Int} (h : (a = none ∧ len = 0 ∧ cap = 0 ∧ zs = []) ∨ ∃ x, a = some x ∧ len ≤ cap ∧ cap ≤ maxLen ∧ zs.length = cap ∧ (∀ i, i < zs.length → W.cell? (x.add i) = some (.int .i64 (zs.getD i 0))) ∧ ∀ n ∈ zs, (Lit.int .i64 n).wf = true) :
    Ri W a len (zs.take len) := by
  rcases h with ⟨rfl, rfl, rfl, rfl⟩ | ⟨x, rfl, hl, hm, hz, hcell, -⟩
  · exact ⟨rfl, .inl rfl⟩
  · refine ⟨by simp; omega, ?_⟩
    by_cases h0 : len = 0
    · exact .inl h0
    · refine .inr ?_
      obtain ⟨b, off, spot⟩ := x
      have hspot : spot = none := by
        have hc := hcell 0 (by omega)
        simpa [Addr.add] using World.cell?_spot hc
      subst hspot
      refine ⟨b, off, rfl, fun i hi => ?_⟩
      have := hcell i (by omega)
      have e : (⟨b, off, none⟩ : Addr).add i = ⟨b, off + i, none⟩ := by cases i <;> simp [Addr.add]
      rw [e] at this
      rw [this]
      unfold at_
      simp [List.getD_eq_getElem?_getD, hi]
theorem row_cap64 {W : World} {a : Option Addr} {len cap : Nat} {zs : List Int} (h : (a = none ∧ len = 0 ∧ cap = 0 ∧ zs = []) ∨ ∃ x, a = some x ∧ len ≤ cap ∧ cap ≤ maxLen ∧ zs.length = cap ∧ (∀ i, i < zs.length → W.cell? (x.add i) = some (.int .i64 (zs.getD i 0))) ∧ ∀ n ∈ zs, (Lit.int .i64 n).wf = true) :
    len ≤ cap ∧ cap ≤ 9223372036854775807 := by
  rcases h with ⟨-, rfl, rfl, -⟩ | ⟨x, -, hl, hm, -⟩
  · omega
  · unfold maxLen at hm; omega
theorem info_int : (Tryz.prog.info? 3).map (fun i => (i.zero, i.size, i.bytes)) = some (some (.int .i64 0), 1, 8) := by kernel_rfl
/-- make([]int, n): a new row of noughts -/
theorem make_ints (w : World) (n : Nat) (hn : n ≤ 400) : ∃ w', (Instr.makeSlice 48 (.int .i64 (n : Int)) (.int .i64 (n : Int))).run Tryz.prog w = .ok (.slice (some ⟨w.heap.size, 0, none⟩) n n) w' ∧ Blk w' w.heap.size 3 (arr .i64 (List.replicate n 0)) ∧ Below w.heap.size w w' := by
  obtain ⟨iu, hi, hz0, hz1, hz2⟩ := info_parts info_int
  obtain ⟨w', hm, own, gr⟩ := run_makeSlice_full (P := Tryz.prog) w w.heap.size 48 3 iu _ 1 Tryz.underlying48 hi hz0 hz1 .i64 .i64 n (by omega) (by rw [hz2]; omega) (by unfold maxLen; omega) (Nat.le_refl _)
  refine ⟨w', hm, ?_, ⟨gr.os, gr.tape, gr.output, gr.size, fun k hk => gr.block k hk (by simp)⟩⟩
  have e : (madeCells (Value.int .i64 0).cells (n * 1)).toList = ints .i64 (List.replicate n 0) := by
    rw [show (Value.int .i64 0).cells = #[.int .i64 0] from rfl, toList_madeCells_one, Nat.mul_one]
    simp [ints]
  rw [e] at own
  rcases own.2 with ⟨h0, -⟩ | ⟨g, cap, cur, hv, -, hh, h1, -, hs, ht⟩
  · cases h0
  · have hv2 : w.heap.size = g ∧ n = cap := by
      have := hv
      simp only [Value.slice.injEq, Option.some.injEq, Addr.mk.injEq] at this
      omega
    obtain ⟨hg, rfl⟩ := hv2
    rw [hg]
    have : cur = arr .i64 (List.replicate n 0) := by
      apply Array.toList_inj.1
      rw [List.take_of_length_le (by simp; omega)] at ht
      rw [ht]
      rfl
    rw [← this]
    exact hh
theorem make8 (w : World) : ∃ w', (Instr.makeSlice 48 (.int .i64 8) (.int .i64 8)).run Tryz.prog w = .ok (.slice (some ⟨w.heap.size, 0, none⟩) 8 8) w' ∧ Blk w' w.heap.size 3 (arr .i64 (List.replicate 8 0)) ∧ Below w.heap.size w w' := make_ints w 8 (by omega)
end Go.Proofs.YtjlhnhkjgcbnnaaGreat.Sha

/-
  Rows of whole numbers: pieces of them, appends of them at a step of a region.
-/



namespace Go.Proofs.YtjlhnhkjgcbnnaaGreat.Sha
open Go.RowKit

/-- at a step of a region: a row of ints that is read goes behind what the call made -/
theorem step_append_ri {P : Program} {w : World} {ops : Array Oper} {o : Oper} {a : Act} {K : Act → World → Prop} {Q : Exit → Act → World → Prop} {E : Prop} (hgd : o.guard = none) (s x : Operand) (t : TypeId)
    (ho : o.op = .call { callee := .builtin .append, args := #[s, x], argTypes := #[t, t] })
    (base : Nat) (e : TypeId) (ht : P.underlying t = some (.slice e)) (hi : (P.info? e).map (fun i => (i.zero, i.size, i.bytes)) = some (some (.int .i64 0), 1, 8))
    (v : Value) (n : Nat) (xs : List Value) (hs : a.eval s = v) (hown : w.ownsRow base e 1 v n xs)
    (A : Option Addr) (m c : Nat) (news : List Int) (hx : a.eval x = .slice A m c) (hr : Ri w A m news)
    (hsmall : n + m ≤ 4294967296) (hbase : base ≤ w.heap.size)
    (h : ∀ v' w', Kept (w'.ownsRow base e 1 v' (n + m) (xs ++ ints .i64 news)) → w.grownBy w' v.ownBlock → Below base w w' → (v'.ownBlock = v.ownBlock ∨ v'.ownBlock = some w.heap.size) → K (a.put o.dst v') w') :
    if Region.wanted o (yielded ops a.tmps) = true then Oper.wp P o a w K Q else E := by
  have hw : Region.wanted o (yielded ops a.tmps) = true := by simp [Region.wanted, hgd]
  rw [if_pos hw]
  obtain ⟨iu, hi, hz0, hz1, hz2⟩ := info_parts hi
  obtain ⟨h1, h3⟩ := hr
  cases A with
  | none =>
    have h0 : m = 0 := by
      rcases h3 with h3 | ⟨_, _, h4, _⟩
      · exact h3
      · cases h4
    subst h0
    obtain rfl : news = [] := List.eq_nil_of_length_eq_zero h1
    have hrun := run_append_nil_any (P := P) w base t o.type e iu 1 ht hi v n xs hown c
    unfold Oper.wp
    simp [execOp, ho, resolve, invoke, builtin, hs, hx, hrun, Result.andThen]
    exact h v w ⟨by simpa [ints] using hown⟩ (World.grownBy.refl _ _) (Below.refl _ _) (.inl rfl)
  | some ad =>
    have hc : ∀ j u, (ints .i64 news)[j]? = some u → w.cell? (ad.add j) = some u := by
      intro j u hj
      have hjl : j < news.length := by have := (List.getElem?_eq_some_iff.1 hj).1; rwa [ints_len] at this
      rcases h3 with h3 | ⟨b, o', h4, hc⟩
      · omega
      · injection h4 with h4
        subst h4
        rw [Sha.ints_at _ _ _ hjl] at hj
        rw [← hj, show (⟨b, o', none⟩ : Addr).add j = ⟨b, o' + j, none⟩ by cases j <;> simp [Addr.add]]
        exact hc j (by omega)
    obtain ⟨v', w', hr, h2, h3, -, h5⟩ := run_append_own_at (P := P) w base t o.type e iu (.int .i64 0) 1 8 ht hi hz0 hz1 hz2 rfl (by omega) v n xs hown ad m c (ints .i64 news) (by rw [ints_len, h1]; omega) hc (ints_one _ _) (by unfold maxLen; omega) (by omega) hbase
    unfold Oper.wp execOp
    simp only [ho, resolve, invoke, builtin, Sem.run_bind, Sem.run_pure, Result.andThen_ok, List.map_toArray, List.map_cons, List.map_nil, hs, hx, hr]
    exact h v' w' ⟨h2⟩ h3 (own_below hown h3 hbase) h5
theorem Ri.piece {w : World} {A : Option Addr} {n c : Nat} {xs : List Int} (r : Ri w A n xs) (hc : n ≤ c) (l h : Nat) (h1 : l ≤ h) (h2 : h ≤ n) :
    Ri w (if c = l then A else A.map (·.add (l * 1))) (h - l) ((xs.take h).drop l) := by
  obtain ⟨r1, r3⟩ := r
  have e1 : ((xs.take h).drop l).length = h - l := by simp [List.length_drop, List.length_take, r1]; omega
  by_cases h0 : h - l = 0
  · rw [h0] at e1 ⊢
    exact ⟨e1, .inl rfl⟩
  · have hcl : ¬ c = l := by omega
    rw [if_neg hcl, Nat.mul_one]
    obtain ⟨b, o, rfl, hcell⟩ := r3.resolve_left (by omega)
    have ea : (⟨b, o, none⟩ : Addr).add l = ⟨b, o + l, none⟩ := by cases l <;> simp [Addr.add]
    simp only [Option.map_some, ea]
    refine ⟨e1, .inr ⟨b, o + l, rfl, fun i hi => ?_⟩⟩
    have := hcell (l + i) (by omega)
    rw [Nat.add_assoc, this, at_drop, at_take (by omega)]
theorem elem_int : Tryz.prog.elem 48 = 3 := by kernel_rfl
theorem und_int : Tryz.prog.underlying 48 = some (.slice (Tryz.prog.elem 48)) := by rw [elem_int]; exact Tryz.underlying48
theorem size_int (w : World) : (sizeOf (Tryz.prog.elem 48)).run Tryz.prog w = .ok 1 w := by
  obtain ⟨iu, hi, _, hz1, _⟩ := info_parts info_int
  rw [elem_int]
  simp [sizeOf, typeInfo, hi, hz1]
theorem islice_l {w : World} {A : Option Addr} {n c : Nat} {xs : List Int} (r : Ri w A n xs) (hc : n ≤ c) (l : Nat) (h1 : l ≤ n) (li : Int) (e1 : li = l) :
    ∃ A', (∀ w', (Instr.slice 48 (.slice A n c) (some (.int .i64 li)) none none).run Tryz.prog w' = .ok (.slice A' (n - l) (c - l)) w') ∧ Ri w A' (n - l) (xs.drop l) := by
  have hp := r.piece hc l n h1 (Nat.le_refl _)
  rw [show xs.take n = xs from List.take_of_length_le (by rw [r.1]; exact Nat.le_refl _)] at hp
  refine ⟨_, fun w' => ?_, hp⟩
  subst e1
  rw [run_slice_l w' 48 A n c und_int .i64 l (by omega) (by omega), size_int]
  rfl
theorem islice_h {w : World} {A : Option Addr} {n c : Nat} {xs : List Int} (r : Ri w A n xs) (hc : n ≤ c) (h : Nat) (h2 : h ≤ n) (hi : Int) (e2 : hi = h) :
    ∃ A', (∀ w', (Instr.slice 48 (.slice A n c) none (some (.int .i64 hi)) none).run Tryz.prog w' = .ok (.slice A' h c) w') ∧ Ri w A' h (xs.take h) := by
  have hp := r.piece hc 0 h (Nat.zero_le _) h2
  rw [List.drop_zero, Nat.sub_zero] at hp
  refine ⟨_, fun w' => ?_, hp⟩
  subst e2
  rw [run_slice_h w' 48 A n c und_int .i64 h (by omega) (by omega), size_int]
  rfl
theorem own_ri {w : World} {b : Nat} {A : Option Addr} {n c : Nat} {xs : List Int} (h : w.ownsRow b 3 1 (.slice A n c) n (ints .i64 xs)) : n ≤ c ∧ c ≤ 9223372036854775807 ∧ Ri w A n xs := by
  have hl : xs.length = n := by have := h.1; rw [ints_len] at this; omega
  have h0 := h
  rcases h.2 with ⟨hv, h1⟩ | ⟨g, cap, cur, hv, -, -, h1, h2, -⟩
  · injection hv with hA hn hc
    subst hA hc
    exact ⟨by omega, by omega, hl, .inl (by omega)⟩
  · injection hv with hA hn hc
    subst hA hc
    unfold maxLen at h2
    refine ⟨h1, by omega, hl, .inr ⟨g, 0, rfl, fun i hi => ?_⟩⟩
    rw [Nat.zero_add, World.ownsRow.cellAt h0 i (by omega)]
    exact Sha.ints_at _ _ _ (by omega)
theorem own_base {w : World} {b size : Nat} {e : TypeId} {v : Value} {n : Nat} {xs : List Value} (h : w.ownsRow b e size v n xs) : w.ownsRow 0 e size v n xs := by
  refine ⟨h.1, h.2.imp id ?_⟩
  rintro ⟨g, cap, cur, hv, _, r⟩
  exact ⟨g, cap, cur, hv, Nat.zero_le _, r⟩
end Go.Proofs.YtjlhnhkjgcbnnaaGreat.Sha

/-
  Package disk: Crash.
-/






namespace Go.Proofs.YtjlhnhkjgcbnnaaGreat.Disk
open Go.RowKit Go.Proofs.YtjlhnhkjgcbnnaaGreat.Sha

theorem at_nats (p : List Nat) (k : Nat) (h : k < p.length) : at_ (p.map fun (i : Nat) => (i : Int)) k = (p.getD k 0 : Nat) := by
  simp [at_, List.getD_eq_getElem?_getD, h]
/-- what Crash goes through, sector by sector: the first lists of n sectors each -/
structure Walk (n : Nat) (s : DS) (p : List Nat) (bs : List Bool) (Z : List (List Int) × List (List Int)) (k : Nat) (P L : List (List Int)) : Prop where
  a : P.length = n
  b : L.length = n
  secs : ∀ i, i < n → Sec (rowOf P i) ∧ Sec (rowOf L i)
  go : crashGo bs k (p.drop k) (P, L) = Z
  rest : ∀ q, k ≤ q → q < p.length → rowOf L (p.getD q 0) = rowOf s.last (p.getD q 0)
theorem getD_lt {p : List Nat} {i j : Nat} (hr : p.Pairwise (· < ·)) (hij : i < j) (hj : j < p.length) : p.getD i 0 < p.getD j 0 := by
  rw [List.pairwise_iff_getElem] at hr
  have := hr i j (by omega) hj hij
  simpa [List.getD_eq_getElem?_getD, hj, show i < p.length by omega] using this
theorem Walk.step {n : Nat} {s : DS} {p : List Nat} {bs : List Bool} {Z : List (List Int) × List (List Int)} {k : Nat} {P L : List (List Int)} (h : Walk n s p bs Z k P L) (hk : k < p.length) (hr : p.Pairwise (· < ·)) (hp : ∀ i ∈ p, i < n) :
    (bs.getD k false = true → Walk n s p bs Z (k + 1) P (L.set (p.getD k 0) (rowOf P (p.getD k 0)))) ∧ (bs.getD k false ≠ true → Walk n s p bs Z (k + 1) (P.set (p.getD k 0) (rowOf L (p.getD k 0))) L) := by
  have hin : p.getD k 0 < n := hp _ (by rw [List.getD_eq_getElem?_getD, List.getElem?_eq_getElem hk]; exact List.getElem_mem hk)
  have hdr : p.drop k = p.getD k 0 :: p.drop (k + 1) := by
    rw [List.drop_eq_getElem_cons hk]
    congr 1
    simp [hk]
  have hgo := h.go
  rw [hdr, crashGo_cons] at hgo
  generalize hi : p.getD k 0 = i at *
  constructor
  · intro hb
    refine ⟨h.a, by simpa using h.b, fun j hj => ?_, by rw [← hgo]; unfold crash1; rw [if_pos hb], fun q hq hql => ?_⟩
    · refine ⟨(h.secs j hj).1, ?_⟩
      rw [rowOf_set _ _ _ _ (by rw [h.b]; exact hj)]
      split
      · rename_i e; subst e; exact (h.secs i hj).1
      · exact (h.secs j hj).2
    · have hlt := getD_lt hr (show k < q by omega) hql
      have hqn : p.getD q 0 < n := hp _ (by rw [List.getD_eq_getElem?_getD, List.getElem?_eq_getElem hql]; exact List.getElem_mem hql)
      rw [rowOf_set _ _ _ _ (by rw [h.b]; exact hqn), if_neg (by omega)]
      exact h.rest q (by omega) hql
  · intro hb
    refine ⟨by simpa using h.a, h.b, fun j hj => ?_, by rw [← hgo]; unfold crash1; rw [if_neg hb], fun q hq hql => h.rest q (by omega) hql⟩
    refine ⟨?_, (h.secs j hj).2⟩
    rw [rowOf_set _ _ _ _ (by rw [h.a]; exact hj)]
    split
    · rename_i e; subst e; exact (h.secs i hj).2
    · exact (h.secs j hj).1
set_option maxRecDepth 100000 in
set_option maxHeartbeats 2000000 in
theorem ccrash_any {w : World} {F : List Nat} {d n : Nat} {s : DS} {A : Option Addr} {m c : Nat} {bs : List Bool} (h : Dk w F d n s) (r : Rb w A m bs) (hO : Off A m F) :
    Calls Tryz.prog 16 #[.pointer (some ⟨d, 0, none⟩), .slice A m c] w fun e w' => e = .returned (.tuple #[]) ∧ ∃ F', Dk w' F' d n (crashD s bs) ∧ Fp F F' w w' := by
  have hwf := h.1
  have WC := Kept.mk (wf_crash hwf bs)
  have hpl := cpend_len hwf
  have hn2 := hwf.n2
  have HR := Kept.mk hwf.rise
  have HP := Kept.mk hwf.pend
  obtain ⟨h0, gw, cw, gm, f, h1, h2, h3, h4, hF⟩ := h
  obtain ⟨p, hpp⟩ : ∃ p, s.pend = p := ⟨_, rfl⟩
  have W0 : Kept (Walk n s p bs (crashGo bs 0 s.pend (s.now, s.last)) 0 s.now s.last) := ⟨h0.now, h0.last, h0.secs, by rw [hpp]; rfl, fun _ _ _ => rfl⟩
  rw [hpp] at h3 hpl HR HP
  have FIN : Kept (∀ P L, Walk n s p bs (crashGo bs 0 s.pend (s.now, s.last)) p.length P L → crashD s bs = ⟨P, L, [], -1, false⟩) := ⟨fun P L hw => by
    have := hw.go
    rw [List.drop_length] at this
    unfold crashD
    rw [← this]
    rfl⟩
  generalize crashGo bs 0 s.pend (s.now, s.last) = Z at *
  have c1 := (h1.cell 1).trans (dk_1 _ _ _ _)
  obtain ⟨N, hN⟩ : ∃ N, w.heap.size = N := ⟨_, rfl⟩
  have a1 : Below N w (w.alloc (.cells #[.map (some gm)] 81)) := (Below.refl _ _).alloc (by omega) _
  have hbm : (w.alloc (.cells #[.map (some gm)] 81)).cell? ⟨N, 0, none⟩ = some (.map (some gm)) := by
    rw [(Blk.new_at w 81 #[.map (some gm)] N hN.symm).cell 0]; rfl
  have CK := Kept.mk (keys_any gm w)
  have a1b : Bar [] w (w.alloc (.cells #[.map (some gm)] 81)) := (Bar.refl [] w).alloc _
  have CS := Kept.mk (sorted_any _ gm N p s.last (h3.bar a1b (by simp)) HR.out (by omega) hbm)
  have n1 : gw ≠ d := by obtain ⟨cs', k', -⟩ := h2; exact blk_ne k' h1 (by decide)
  have n2 : gm ≠ gw := by obtain ⟨cs', k', -⟩ := h2; exact h3.ne k'
  have n3 : gm ≠ d := h3.ne h1
  have GL := Kept.mk h2.lt
  have NE := Kept.mk (And.intro n1 (And.intro n2 n3))
  have H1 := Kept.mk h1; have H2 := Kept.mk h2; have H3 := Kept.mk h3; have RB := Kept.mk r; have OF := Kept.mk hO; have HF := Kept.mk hF
  have A1 := Kept.mk a1b
  have HM := Kept.mk r.1
  have HN := Kept.mk hN
  clear h0 h1 h2 h3 h4 n1 n2 n3 r hO hF a1 hbm a1b hwf hpp hN
  go_enter Tryz.func16, Tryz.ntmps16
  go_wp2_with fail
  refine CK.out.mono ?_
  rintro e w' ⟨rfl, rfl⟩
  rw [HN.out]
  clear CK
  generalize w.alloc (.cells #[.map (some gm)] 81) = w1 at *
  go_wp2_with fail
  refine CS.out.mono ?_
  rintro e w2 ⟨v, rfl, own, b2⟩
  have B02 : Kept (Bar [] w w2) := ⟨A1.out.trans (barOf b2 []) (by simp)⟩
  obtain ⟨V, cp, rfl⟩ := own_shape own
  obtain ⟨-, -, ri⟩ := own_ri own
  have RI := Kept.mk ri
  replace H1 := Kept.mk (H1.out.bar B02.out (by simp))
  replace H2 := Kept.mk (H2.out.bar B02.out (by simp))
  replace H3 := Kept.mk (H3.out.bar B02.out (by simp))
  replace RB := Kept.mk (RB.out.bar B02.out (by simp))
  have VN : Kept (∀ o, V ≠ some ⟨gw, o, none⟩) := ⟨fun o ho => by
    subst ho
    rcases own.2 with ⟨hv, -⟩ | ⟨g, cap, cur, hv, hg, -⟩
    · cases hv
    · injection hv with hv; injection hv with hv; injection hv with hv
      have := GL.out; have := A1.out.size; omega⟩
  have AN : Kept (∀ o, m ≠ 0 → A ≠ some ⟨gw, o, none⟩) := ⟨fun o hm ho => by
    subst ho
    rcases OF.out with h | ⟨g, o', h, hg⟩
    · exact hm h
    · injection h with h; injection h with h
      subst h
      exact hg (by rw [HF.out]; simp)⟩
  clear own b2 ri CS A1
  go_wp2
  go_loopw [13] (fun j wr => ∃ (k : Nat) (P L : List (List Int)), k ≤ p.length ∧ j = .int .i64 k ∧ Kept (Walk n s p bs Z k P L) ∧ Kept (Sx wr gw P) ∧ Kept (Bar [gw] w2 wr)) (fun j _ => p.length - (Go.RowKit.intOf j).toNat)
  case atStart => exact ⟨0, s.now, s.last, by omega, rfl, W0, H2, ⟨Bar.refl _ _⟩⟩
  case round =>
    clear W0 H2
    obtain ⟨k, P, L, hk, rfl, W, SX, BW⟩ := hrel
    have BD : Kept (Bar [gw] w2 wr.drew) := ⟨BW.out.drew⟩
    by_cases hkn : k < p.length
    · have hkn' : (k : Int) < p.length := by omega
      obtain ⟨vb, vo, rfl, hv⟩ := (RI.out.bar BW.out (by simpa using .inr VN.out)).2.resolve_left (by omega)
      have xk := hv k hkn
      rw [at_nats p k hkn] at xk
      obtain ⟨i, hi⟩ : ∃ i, p.getD k 0 = i := ⟨_, rfl⟩
      rw [hi] at xk
      have him : i ∈ p := by rw [← hi, List.getD_eq_getElem?_getD, List.getElem?_eq_getElem hkn]; exact List.getElem_mem hkn
      have hin := HP.out i him
      have hin' : (i : Int) < n := by omega
      clear hv FIN
      by_cases hkm : k < m
      · have hkm' : (k : Int) < m := by omega
        obtain ⟨ab, ao, rfl, ha⟩ := (RB.out.bar BW.out (by simpa using .inr fun o => AN.out o (by omega))).2.resolve_left (by omega)
        have xb := ha k hkm
        clear ha
        cases hkeep : bs.getD k false with
        | true =>
          rw [hkeep] at xb
          have WS := Kept.mk ((W.out.step hkn HR.out HP.out).1 hkeep)
          clear W BD
          go_wp2
          go_roundw
          case rel => exact ⟨k + 1, _, _, by omega, by go_num, WS, SX, BW⟩
          case measure => simp [Go.RowKit.intOf]; omega
        | false =>
          rw [hkeep] at xb
          have WS := (W.out.step hkn HR.out HP.out).2 (by rw [hkeep]; decide)
          have hrs := W.out.rest k (Nat.le_refl _) hkn
          rw [hi] at hrs WS
          have hL64 := (W.out.secs i hin).2.1
          rw [hrs] at WS hL64
          clear hrs
          replace WS := Kept.mk WS
          have H1d := H1.out.bar BD.out (by simpa using NE.out.1.symm)
          have H3d := H3.out.bar BD.out (by simpa using NE.out.2.1)
          have c0 := (H1d.cell 0).trans (dk_0 _ _ _ _)
          have c1 := (H1d.cell 1).trans (dk_1 _ _ _ _)
          have hlk := H3d.at_ i (by omega) him
          obtain ⟨w4, hst, k4, b4⟩ := (SX.out.bar (Bar.refl [] wr).drew (by simp)).store i (by rw [W.out.a]; exact hin) (rowOf s.last i) hL64
          have K4 := Kept.mk k4
          have B4 : Kept (Bar [gw] w2 w4) := ⟨BD.out.trans b4 (by simp)⟩
          clear H1d H3d k4 b4 W SX BW BD hL64
          generalize rowOf s.last i = x at *
          go_wp2
          refine wp_region_still_tail 12 (by kernel_rfl) (by kernel_rfl) ?_
          simp only [List.take_succ_cons, List.take_zero, List.drop_succ_cons, List.drop_zero]
          repeat still_step
          refine wpStill_nil ?_
          change wpList _ _ _ _ _ wr.drew
          go_wp2_with ((with_reducible refine selS 107 (.tmp 40) (.tmp 39) ?_); refine wpList_storeAt rfl 107 (.tmp 40) (.tmp 39) rfl _ _ rfl rfl hst ?_)
          go_roundw
          case rel => exact ⟨k + 1, _, _, by omega, by go_num, WS, K4, B4⟩
          case measure => simp [Go.RowKit.intOf]; omega
      · have hkm' : ¬ (k : Int) < m := by omega
        have hkeep : bs.getD k false = false := by
          rw [List.getD_eq_getElem?_getD, List.getElem?_eq_none (by rw [HM.out]; omega)]; rfl
        have WS := (W.out.step hkn HR.out HP.out).2 (by rw [hkeep]; decide)
        have hrs := W.out.rest k (Nat.le_refl _) hkn
        rw [hi] at hrs WS
        have hL64 := (W.out.secs i hin).2.1
        rw [hrs] at WS hL64
        clear hrs
        replace WS := Kept.mk WS
        have H1d := H1.out.bar BD.out (by simpa using NE.out.1.symm)
        have H3d := H3.out.bar BD.out (by simpa using NE.out.2.1)
        have c0 := (H1d.cell 0).trans (dk_0 _ _ _ _)
        have c1 := (H1d.cell 1).trans (dk_1 _ _ _ _)
        have hlk := H3d.at_ i (by omega) him
        obtain ⟨w4, hst, k4, b4⟩ := (SX.out.bar (Bar.refl [] wr).drew (by simp)).store i (by rw [W.out.a]; exact hin) (rowOf s.last i) hL64
        have K4 := Kept.mk k4
        have B4 : Kept (Bar [gw] w2 w4) := ⟨BD.out.trans b4 (by simp)⟩
        clear H1d H3d k4 b4 W SX BW BD hL64
        generalize rowOf s.last i = x at *
        go_wp2
        refine wp_region_still_tail 12 (by kernel_rfl) (by kernel_rfl) ?_
        simp only [List.take_succ_cons, List.take_zero, List.drop_succ_cons, List.drop_zero]
        repeat still_step
        refine wpStill_nil ?_
        change wpList _ _ _ _ _ wr.drew
        go_wp2_with ((with_reducible refine selS 107 (.tmp 40) (.tmp 39) ?_); refine wpList_storeAt rfl 107 (.tmp 40) (.tmp 39) rfl _ _ rfl rfl hst ?_)
        go_roundw
        case rel => exact ⟨k + 1, _, _, by omega, by go_num, WS, K4, B4⟩
        case measure => simp [Go.RowKit.intOf]; omega
    · have hkn' : ¬ (k : Int) < p.length := by omega
      obtain rfl : k = p.length := by omega
      have HZ := FIN.out P L W.out
      have H1d := H1.out.bar BW.out (by simpa using NE.out.1.symm)
      have H3d := H3.out.bar BW.out (by simpa using NE.out.2.1)
      have c1 := (H1d.cell 1).trans (dk_1 _ _ _ _)
      obtain ⟨w3, hcl, k3, b3⟩ := H3d.clear L
      have H1e := H1d.bar b3 (by simpa using NE.out.2.2.symm)
      have SXe := SX.out.bar b3 (by simpa using NE.out.2.1.symm)
      have c2 := (H1e.cell 2).trans (dk_2 _ _ _ _)
      have z2 := H1e.frozen 2
      have H1f := H1e.set_ 2 (.int .i64 (-1))
      have b4 : Bar [d] w3 (w3.setCell ⟨d, 2, none⟩ (.int .i64 (-1))) := (Bar.refl _ _).setCell (by simp) _
      have CB := Kept.mk (bstore_any ⟨d, 3, none⟩ false _ _ (H1f.cell 3) (H1f.frozen 3))
      have RES : Kept (Dk ((w3.setCell ⟨d, 2, none⟩ (.int .i64 (-1))).drew.setCell ⟨d, 3, none⟩ (.int .u32 (u01 false))) F d n (crashD s bs) ∧ Fp F F w ((w3.setCell ⟨d, 2, none⟩ (.int .i64 (-1))).drew.setCell ⟨d, 3, none⟩ (.int .u32 (u01 false)))) := by
        have b5 : Bar [d] w3 ((w3.setCell ⟨d, 2, none⟩ (.int .i64 (-1))).drew.setCell ⟨d, 3, none⟩ (.int .u32 (u01 false))) := b4.drew.setCell (by simp) _
        have wc := WC.out
        rw [HZ] at wc ⊢
        refine ⟨⟨wc, gw, cw, gm, -1, H1f.drew.set_ 3 (.int .u32 (u01 false)), SXe.bar b5 (by simpa using NE.out.1), k3.bar b5 (by simpa using NE.out.2.2), rfl, HF.out⟩, ?_, fun k hk => .inl hk⟩
        rw [HF.out]
        exact (((B02.out.mono (l' := d :: gw :: gm :: []) (by simp)).trans BW.out (by simp)).trans b3 (by simp)).trans b5 (by simp)
      clear H1 H3 H1d H3d H1e SXe k3 b3 b4 H1f W SX BW BD WC HZ FIN NE HF OF AN VN RI RB
      go_wp2_with fail
      refine CB.out.mono ?_
      rintro e w' ⟨rfl, rfl⟩
      go_wp2
      go_end0
      exact ⟨rfl, F, RES.out⟩
end Go.Proofs.YtjlhnhkjgcbnnaaGreat.Disk

/-
  Package disk: Fuse.
-/

namespace Go.Proofs.YtjlhnhkjgcbnnaaGreat.Disk
open Go.RowKit Go.Proofs.YtjlhnhkjgcbnnaaGreat.Sha

set_option maxHeartbeats 400000 in
theorem cfuse_any {w : World} {F : List Nat} {d n : Nat} {s : DS} (f : Int) (h : Dk w F d n s) (hf : f ≤ 9223372036854775807) : Calls Tryz.prog 18 #[.pointer (some ⟨d, 0, none⟩), .int .i64 f] w fun e w' => e = .returned (.tuple #[]) ∧ ∃ F', Dk w' F' d n (fuseD s f) ∧ Fp F F' w w' := by
  obtain ⟨h0, gw, cw, gm, f0, h1, h2, h3, h4, rfl⟩ := h
  have z2 := h1.frozen 2
  have c2 := (h1.cell 2).trans (dk_2 _ _ _ _)
  have R := Kept.mk (Dk.turn (t := fuseD s f) (f := f) (F := d :: gw :: gm :: []) rfl ⟨_, h1⟩ h2 h3 (wf_fuse h0 f hf) rfl rfl rfl (h1.set_ 2 (.int .i64 f)) rfl ((Bar.refl [d] w).setCell (by simp) _))
  clear h0 h1 h2 h3 h4
  go_enter Tryz.func18, Tryz.ntmps18
  go_wp2
  go_end0
  exact ⟨rfl, _, R.out⟩
end Go.Proofs.YtjlhnhkjgcbnnaaGreat.Disk
