/-
  A hash in memory; one block worked into it.
-/
import Derived.Test.YtblhfbpokfegnaaShaRnd
import Derived.Lib.QuietBelow
namespace Go.Proofs.Ytblhfbpokfegnaa.Sha
open Go.RowKit

/-- an element of an array that is a value -/
theorem index_arr {P : Program} {T e : TypeId} {N : Nat} {k k' : IntKind} {l : List Int} (hT : P.underlying T = some (.array N e)) (hE : P.underlying e = some (.int k')) (hi : (P.info? e).map (·.size) = some 1) (hl : l.length = N) (i : Nat) (h : i < N) (w : World) :
    (Instr.index T (.agg (arr k l)) (.int .i64 (i : Int))).run P w = .ok (.int k (at_ l i)) w := by
  have ha := arr_at k l i (by omega)
  cases hq : P.info? e with
  | none => simp [hq] at hi
  | some j =>
    have hs : j.size = 1 := by simpa [hq] using hi
    have hagg : (isAgg e).run P w = .ok false w := by
      unfold isAgg
      rw [Sem.run_bind, run_underlying hE w]
      rfl
    simp [Instr.index, asIntOf, run_underlying hT, h, sizeOf, typeInfo, hq, hs, part, hagg, ha, Result.andThen]

/-- a hash's cells: its table, the state, the rest, the count -/
def hcl (tp : Nat) (s r : List Int) (n : Int) : List Value := [.pointer (some ⟨tp, 0, none⟩)] ++ (ints .u32 s ++ (ints .u8 r ++ [.int .u64 n]))
def hcells (tp : Nat) (s r : List Int) (n : Int) : Array Value := (hcl tp s r n).toArray
section
variable (tp : Nat) (s r : List Int) (n : Int)
theorem hc_len (hs : s.length = 8) (hr : r.length = 64) : (hcl tp s r n).length = 74 := by simp [hcl, ints_len, hs, hr]
theorem hc_0 : (hcells tp s r n)[0]? = some (.pointer (some ⟨tp, 0, none⟩)) := by simp [hcells, hcl]
theorem hc_state (hs : s.length = 8) (i : Nat) (hi : i < 8) : (hcells tp s r n)[1 + i]? = some (.int .u32 (at_ s i)) := by
  rw [hcells, List.getElem?_toArray, hcl, List.getElem?_append_right (by simp), List.getElem?_append_left (by simp [ints_len, hs]; omega)]
  simpa using ints_at .u32 s i (by omega)
theorem hc_rest (hs : s.length = 8) (hr : r.length = 64) (i : Nat) (hi : i < 64) : (hcells tp s r n)[9 + i]? = some (.int .u8 (at_ r i)) := by
  rw [hcells, List.getElem?_toArray, hcl, List.getElem?_append_right (show 1 ≤ 9 + i by omega), List.getElem?_append_right (by simp [ints_len, hs]; try omega), List.getElem?_append_left (by simp [ints_len, hs, hr]; try omega)]
  have := ints_at .u8 r i (by omega)
  simpa [ints_len, hs, show 9 + i - 1 - 8 = i by omega] using this
theorem hc_size (hs : s.length = 8) (hr : r.length = 64) : (hcells tp s r n)[73]? = some (.int .u64 n) := by
  rw [hcells, List.getElem?_toArray, hcl, List.getElem?_append_right (by simp), List.getElem?_append_right (by simp [ints_len, hs]), List.getElem?_append_right (by simp [ints_len, hs, hr])]
  simp [ints_len, hs, hr]
theorem hc_set (hs : s.length = 8) (i : Nat) (hi : i < 8) (x : Int) : (hcells tp s r n).setIfInBounds (1 + i) (.int .u32 x) = hcells tp (s.set i x) r n := by
  rw [hcells, List.setIfInBounds_toArray, hcl, List.set_append_right _ _ (by simp), List.set_append_left _ _ (by simp [ints_len, hs]; omega)]
  simp [hcells, hcl, ints_set, Nat.add_sub_cancel_left]
theorem hc_setn (hs : s.length = 8) (hr : r.length = 64) (x : Int) : (hcells tp s r n).setIfInBounds 73 (.int .u64 x) = hcells tp s r x := by
  rw [hcells, List.setIfInBounds_toArray, hcl, List.set_append_right _ _ (by simp), List.set_append_right _ _ (by simp [ints_len, hs]), List.set_append_right _ _ (by simp [ints_len, hs, hr])]
  simp [hcells, hcl, ints_len, hs, hr]
end

/-- the sum of two lists of eight, as far as k -/
def addTo (s v : List Int) (k : Nat) : List Int := (List.range 8).map fun i => if i < k then (at_ s i + at_ v i) % 4294967296 else at_ s i
theorem addTo_len (s v : List Int) (k : Nat) : (addTo s v k).length = 8 := by simp [addTo]
theorem addTo_at (s v : List Int) (k i : Nat) (h : i < 8) : at_ (addTo s v k) i = if i < k then (at_ s i + at_ v i) % 4294967296 else at_ s i := at_range _ _ _ h
theorem addTo_0 (s v : List Int) (h : s.length = 8) : addTo s v 0 = s := by
  apply at_ext
  · rw [addTo_len, h]
  · intro i hi
    rw [addTo_len] at hi
    rw [addTo_at _ _ _ _ hi]; simp
theorem addTo_8 (s v : S8) : addTo s.toL v.toL 8 = (s.add v).toL := by
  apply at_ext
  · rw [addTo_len]; rfl
  · intro i hi
    rw [addTo_len] at hi
    rw [addTo_at _ _ _ _ hi, if_pos hi, S8.add_at _ _ _ hi]
theorem addTo_set (s v : List Int) (k : Nat) : (addTo s v k).set k ((at_ s k + at_ v k) % 4294967296) = addTo s v (k + 1) := by
  apply at_ext
  · rw [List.length_set, addTo_len, addTo_len]
  · intro i hi
    rw [List.length_set, addTo_len] at hi
    rw [at_set _ _ _ _ (by rw [addTo_len]; exact hi), addTo_at _ _ _ _ hi, addTo_at _ _ _ _ hi]
    by_cases h : k = i
    · subst h; simp
    · rw [if_neg h]
      by_cases h2 : i < k
      · rw [if_pos h2, if_pos (by omega)]
      · rw [if_neg h2, if_neg (by omega)]

set_option maxRecDepth 100000 in
set_option maxHeartbeats 400000 in
theorem mix_any (hb tb bb bo cap : Nat) (s : S8) (hs : s.ok) (r : List Int) (n : Int) (b : List Int) (w : World) (hbl : b.length = 64) (hby : Bytes b) (hcap : 64 ≤ cap)
    (hm : Made w tb) (hh : Blk w hb 70 (hcells tb s.toL r n)) (hc : ∀ i, i < 64 → w.cell? ⟨bb, bo + i, none⟩ = some (.int .u8 (at_ b i))) :
    Calls Try.prog 33 #[.pointer (some ⟨hb, 0, none⟩), .slice (some ⟨bb, bo, none⟩) 64 cap] w
      fun e w' => e = .returned (.tuple #[]) ∧ Blk w' hb 70 (hcells tb (mixed s b).toL r n) ∧ Bar [hb] w w' := by
  have c0 := Lib.hid fun w' h => spread_any bb bo cap b w' hbl hby hcap h
  have Hc := Lib.hid hc
  have Hm := Lib.hid hm
  have Hh := Lib.hid hh
  have Hs := Lib.hid hs
  clear hc hm hh hs hbl hby hcap
  go_enter Try.func33, Try.ntmps33
  go_wp2_with fail
  refine (c0.out _ Hc.out).mono ?_
  rintro e w1 ⟨rfl, hb1⟩
  simp only []
  go_step
  go_step
  go_step
  go_step
  refine wpList_store_row rfl 63 (.tmp 4) (.tmp 8) rfl w1.heap.size (arr .u32 (sched b)) rfl rfl 63 _ (heap_alloc_new _ _) (by rw [arr_size, sched_len]; kernel_rfl) (by rw [arr_size, sched_len]; rfl) (all_oneCell_toArray (ints_one _ _)) ?_
  obtain ⟨M, hM⟩ : ∃ M, w1.heap.size = M := ⟨_, rfl⟩
  have hMw : w.heap.size ≤ M := by rw [← hM]; exact hb1.size
  have k1 : Blk ((w1.alloc (.cells (List.replicate 64 (Value.int .u32 0)).toArray 63)).setRow w1.heap.size (arr .u32 (sched b))) w1.heap.size 63 (arr .u32 (sched b)) := (Blk.new _ _ _).row _
  have b2 : Below w.heap.size w ((w1.alloc (.cells (List.replicate 64 (Value.int .u32 0)).toArray 63)).setRow w1.heap.size (arr .u32 (sched b))) := below_setRow (hb1.alloc hb1.size _) hb1.size _
  change wpList _ _ _ _ _ ((w1.alloc (.cells (List.replicate 64 (Value.int .u32 0)).toArray 63)).setRow w1.heap.size (arr .u32 (sched b)))
  generalize (w1.alloc (.cells (List.replicate 64 (Value.int .u32 0)).toArray 63)).setRow w1.heap.size (arr .u32 (sched b)) = w2 at *
  rw [hM] at k1 ⊢
  have k2 : Blk w2 hb 70 (hcells tb s.toL r n) := Hh.out.below b2 Hh.out.lt
  have m2 : Made w2 tb := Hm.out.below b2 Hm.out.lt
  have e0' := (k2.cell 0).trans (hc_0 _ _ _ _)
  have e0 : w2.cell? ⟨hb, 1, none⟩ = some (.int .u32 s.a) := (k2.cell 1).trans (hc_state _ _ _ _ rfl 0 (by omega))
  have e1 : w2.cell? ⟨hb, 2, none⟩ = some (.int .u32 s.b) := (k2.cell 2).trans (hc_state _ _ _ _ rfl 1 (by omega))
  have e2 : w2.cell? ⟨hb, 3, none⟩ = some (.int .u32 s.c) := (k2.cell 3).trans (hc_state _ _ _ _ rfl 2 (by omega))
  have e3 : w2.cell? ⟨hb, 4, none⟩ = some (.int .u32 s.d) := (k2.cell 4).trans (hc_state _ _ _ _ rfl 3 (by omega))
  have e4 : w2.cell? ⟨hb, 5, none⟩ = some (.int .u32 s.e) := (k2.cell 5).trans (hc_state _ _ _ _ rfl 4 (by omega))
  have e5 : w2.cell? ⟨hb, 6, none⟩ = some (.int .u32 s.f) := (k2.cell 6).trans (hc_state _ _ _ _ rfl 5 (by omega))
  have e6 : w2.cell? ⟨hb, 7, none⟩ = some (.int .u32 s.g) := (k2.cell 7).trans (hc_state _ _ _ _ rfl 6 (by omega))
  have e7 : w2.cell? ⟨hb, 8, none⟩ = some (.int .u32 s.h) := (k2.cell 8).trans (hc_state _ _ _ _ rfl 7 (by omega))
  have q0 := cell_regrown e0'
  have q1 := cell_regrown e0
  have q2 := cell_regrown e1
  have q3 := cell_regrown e2
  have q4 := cell_regrown e3
  have q5 := cell_regrown e4
  have q6 := cell_regrown e5
  have q7 := cell_regrown e6
  have q8 := cell_regrown e7
  have cM : ∀ d os, Calls Try.prog 32 #[.pointer (some ⟨tb, 0, none⟩)] (Go.Sort.grow (redrawn w2 d) os) fun e w'' => e = .returned (.pointer (some ⟨tb, 0, none⟩)) ∧ ∃ p : Regrown, w'' = Go.Sort.grow (redrawn w2 p.d) p.os := fun d os =>
    Calls.regrown_of ((made_again tb _ (m2.below (below_regrown w2 d os) m2.lt)).mono fun _ _ ⟨a, b⟩ => ⟨a, b ▸ Below.refl _ _⟩)
  have cR : ∀ d os, Calls Try.prog 43 #[.agg #[.int .u32 s.a, .int .u32 s.b, .int .u32 s.c, .int .u32 s.d, .int .u32 s.e, .int .u32 s.f, .int .u32 s.g, .int .u32 s.h], .pointer (some ⟨tb, 3, none⟩), .pointer (some ⟨M, 0, none⟩)] (Go.Sort.grow (redrawn w2 d) os)
      fun e w'' => e = .returned (.agg (arr .u32 (rnds s (at_ (sched b)) 64).toL)) ∧ ∃ p : Regrown, w'' = Go.Sort.grow (redrawn w2 p.d) p.os := fun d os =>
    Calls.regrown_of (rounds_any s Hs.out (at_ (sched b)) (sched32 b) tb M 0 _
      (fun i hi => ((below_regrown w2 d os).cell (p := ⟨tb, 3 + i, none⟩) m2.lt).trans ((m2.cell (3 + i)).trans (by rw [tbl_word _ _ _ _ _ _ hi, if_pos hi])))
      (fun i hi => ((below_regrown w2 d os).cell (p := ⟨M, 0 + i, none⟩) k1.lt).trans (by rw [Nat.zero_add]; exact k1.at_ i (by rw [sched_len]; exact hi))))
  have K2 := Lib.hid k2
  clear k1 k2 m2 hM e0' e0 e1 e2 e3 e4 e5 e6 e7
  replace cM := Lib.hid cM
  replace cR := Lib.hid cR
  go_wp2
  refine wp_region_quiet_below (by kernel_rfl) (by kernel_rfl) ?_
  repeat (quiet_step (first | exact cM.out _ _ | exact cR.out _ _))
  refine wpQuiet_nil ?_
  intro _ hw'
  obtain ⟨⟨dq, osq⟩, hw''⟩ := hw'
  subst hw''
  have b3 := below_regrown w2 dq osq
  have k3 := K2.out.below b3 K2.out.lt
  replace b3 := barOf (b2.trans (b3.mono b2.size)) [hb]
  clear q0 q1 q2 q3 q4 q5 q6 q7 q8 cM cR b2 K2
  simp only []
  generalize Go.Sort.grow (redrawn w2 dq) osq = w3 at *
  obtain ⟨V, hV⟩ : ∃ V, rnds s (at_ (sched b)) 64 = V := ⟨_, rfl⟩
  have HV := Kept.mk hV
  rw [hV]
  clear hV
  go_wp2
  go_loopw [21] (fun i wr => ∃ k : Nat, k ≤ 8 ∧ i = .int .i64 k ∧ Hid (Blk wr hb 70 (hcells tb (addTo s.toL V.toL k) r n)) ∧ Bar [hb] w wr) (fun i _ => 8 - (intOf i).toNat)
  case atStart => exact ⟨0, by omega, rfl, by rw [addTo_0 _ _ rfl]; exact k3, b3⟩
  case round =>
    clear k3 b3
    obtain ⟨k, hk, rfl, h1, b1⟩ := hrel
    by_cases hlt : k < 8
    · have k8 : (k : Int) < 8 := by omega
      have hc0 := (h1.out.cell (1 + k)).trans (hc_state _ _ _ _ (addTo_len _ _ _) k hlt)
      rw [addTo_at _ _ _ _ hlt, if_neg (by omega)] at hc0
      have hz0 := h1.out.frozen (1 + k)
      have hix := index_arr (P := Try.prog) (k := .u32) Try.underlying64 Try.underlying36 (by kernel_rfl) (show V.toL.length = 8 from rfl) k hlt wr
      have e := addTo_set s.toL V.toL k
      generalize at_ s.toL k = x at *
      generalize at_ V.toL k = y at *
      have E := Kept.mk e
      clear e
      go_wp2
      refine wp_region_still_tail 11 (by kernel_rfl) (by kernel_rfl) ?_
      simp only [List.take_succ_cons, List.take_zero, List.drop_succ_cons, List.drop_zero]
      repeat still_step
      rw [IntKind.wrap_u32]
      refine wpStill_nil ?_
      change wpList _ _ _ _ _ wr.drew
      go_wp2
      go_roundw
      case rel =>
        refine ⟨k + 1, by omega, by go_num, ?_, (b1.setCell (by simp) _).drew⟩
        have := h1.out.set_ (1 + k) (.int .u32 ((x + y) % 4294967296))
        rw [hc_set _ _ _ _ (addTo_len _ _ _) _ hlt, E.out] at this
        exact this.drew
      case measure => simp [intOf]; omega
    · have ek : k = 8 := by omega
      have h2 := h1.out
      rw [ek, addTo_8] at h2
      clear ek
      go_wp2
      go_end0
      exact ⟨rfl, by unfold mixed; rw [HV.out]; exact h2, b1⟩
end Go.Proofs.Ytblhfbpokfegnaa.Sha
