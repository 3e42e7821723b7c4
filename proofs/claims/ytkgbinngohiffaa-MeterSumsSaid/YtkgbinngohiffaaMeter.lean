/-
  Package meter: a Meter in memory, its functions.
-/
import Derived.Test.YtkgbinngohiffaaMem
import Derived.Test.YtkgbinngohiffaaPtr
import Derived.LoopN
import Derived.Lib.Builder
namespace Go.Proofs.Ytkgbinngohiffaa.Meter
open Go.RowKit Go.Proofs.Ytkgbinngohiffaa.Sha

/-- a Meter at block m: its one cell points to a row of eight numbers -/
def Me (w : World) (m : Nat) (cs : List Int) : Prop := cs.length = 8 ∧ ∃ r, Blk w m 46 #[.pointer (some ⟨r, 0, none⟩)] ∧ Blk w r 49 (arr .i64 cs)
theorem Me.lt {w : World} {m : Nat} {cs : List Int} (h : Me w m cs) : m < w.heap.size := by
  obtain ⟨-, r, h1, -⟩ := h
  exact h1.lt
/-- two Meters share nothing: a row is no Meter -/
theorem Me.other {w w' : World} {m n : Nat} {cs ds : List Int} (h : Me w m cs) (k : Me w n ds) (hne : m ≠ n) (b : Bar [n] w w') : Me w' m cs := by
  obtain ⟨h0, r, h1, h2⟩ := h
  obtain ⟨-, s, k1, -⟩ := k
  refine ⟨h0, r, h1.bar b (by simpa using hne), h2.bar b ?_⟩
  have := blk_ne h2 k1 (by decide)
  simpa using this
theorem Me.below {w w' : World} {m : Nat} {cs : List Int} (h : Me w m cs) (b : Below w.heap.size w w') : Me w' m cs := by
  obtain ⟨h0, r, h1, h2⟩ := h
  exact ⟨h0, r, h1.below b h1.lt, h2.below b h2.lt⟩
theorem bar_below {l : List Nat} {w w' : World} (h : Bar l w w') (B : Nat) (hB : B ≤ w.heap.size) (hl : ∀ x ∈ l, B ≤ x) : Below B w w' := h.below hB hl
/-- the row behind the pointer, seen as unsafe.Pointer and back -/
theorem from_unsafe (r : Nat) (w : World) (l : List Int) (h : Blk w r 49 (arr .i64 l)) (hl : l.length = 8) : (convert 42 38 (.pointer (some ⟨r, 0, none⟩))).run Try.prog w = .ok (.pointer (some ⟨r, 0, none⟩)) w := by
  obtain ⟨j, hj⟩ := Option.isSome_iff_exists.1 (show (Try.prog.info? 49).isSome = true by kernel_rfl)
  refine Lib.run_from_unsafe (u := 49) (e := 49) (cells := 8) w ⟨r, 0, none⟩ Try.underlying42 Try.underlying38 hj ?_ (by kernel_rfl)
  unfold Blk at h
  simp [World.shape?, h, arr_size, hl]
theorem to_unsafe (r : Nat) (w : World) (l : List Int) (h : Blk w r 49 (arr .i64 l)) (hl : l.length = 8) : (convert 38 42 (.pointer (some ⟨r, 0, none⟩))).run Try.prog w = .ok (.pointer (some ⟨r, 0, none⟩)) w :=
  run_convert_to_unsafe Try.underlying38 Try.underlying42 (by kernel_rfl) (h.at_ 0 (by omega))

set_option maxRecDepth 100000 in
set_option maxHeartbeats 400000 in
theorem load_any (m r : Nat) (w : World) (l : List Int) (hl : l.length = 8) (hc : w.cell? ⟨m, 0, none⟩ = some (.pointer (some ⟨r, 0, none⟩))) (hr : Blk w r 49 (arr .i64 l)) :
    Calls Try.prog 21 #[.pointer (some ⟨m, 0, none⟩)] w fun e w' => e = .returned (.pointer (some ⟨r, 0, none⟩)) ∧ w = w' := by
  have hl := run_call_loadp (P := Try.prog) Try.func24 (by kernel_rfl) (by kernel_rfl) (by kernel_rfl) (by kernel_rfl) hc
  have hcv := from_unsafe r w l hr (by assumption)
  go_enter Try.func21, Try.ntmps21
  go_wp2
  go_ret
  exact ⟨rfl, rfl⟩

set_option maxRecDepth 100000 in
set_option maxHeartbeats 400000 in
theorem store_any (m r : Nat) (w : World) (u : Value) (l : List Int) (hl : l.length = 8) (hc : w.cell? ⟨m, 0, none⟩ = some u) (hz : w.frozen? ⟨m, 0, none⟩ = false) (hr : Blk w r 49 (arr .i64 l)) :
    Calls Try.prog 15 #[.pointer (some ⟨m, 0, none⟩), .pointer (some ⟨r, 0, none⟩)] w fun e w' => e = .returned (.tuple #[]) ∧ w' = w.setCell ⟨m, 0, none⟩ (.pointer (some ⟨r, 0, none⟩)) := by
  have hst := run_call_storep (P := Try.prog) Try.func22 (by kernel_rfl) (by kernel_rfl) (by kernel_rfl) (by kernel_rfl) (y := some ⟨r, 0, none⟩) hc hz
  have hcv := to_unsafe r w l hr hl
  go_enter Try.func15, Try.ntmps15
  go_wp2
  go_end0
  exact ⟨rfl, rfl⟩

set_option maxRecDepth 100000 in
set_option maxHeartbeats 400000 in
theorem cas_any (m r s : Nat) (w : World) (l k : List Int) (hl : l.length = 8) (hk : k.length = 8) (hc : w.cell? ⟨m, 0, none⟩ = some (.pointer (some ⟨r, 0, none⟩))) (hz : w.frozen? ⟨m, 0, none⟩ = false) (hr : Blk w r 49 (arr .i64 l)) (hs : Blk w s 49 (arr .i64 k)) :
    Calls Try.prog 23 #[.pointer (some ⟨m, 0, none⟩), .pointer (some ⟨r, 0, none⟩), .pointer (some ⟨s, 0, none⟩)] w fun e w' => e = .returned (.bool true) ∧ w' = w.setCell ⟨m, 0, none⟩ (.pointer (some ⟨s, 0, none⟩)) := by
  have hst := run_call_casp (P := Try.prog) Try.func25 (by kernel_rfl) (by kernel_rfl) (by kernel_rfl) (by kernel_rfl) (y := some ⟨s, 0, none⟩) hc hz
  have hcv := to_unsafe r w l hr hl
  have hcv2 := to_unsafe s w k hs hk
  go_enter Try.func23, Try.ntmps23
  go_wp2
  go_ret
  exact ⟨rfl, rfl⟩

/-- is there a counter k? -/
def inK (k : Int) : Bool := decide (0 ≤ k ∧ k < 8)
theorem inK_yes {k : Int} (h0 : 0 ≤ k) (h8 : k < 8) : inK k = true := by simp [inK, h0, h8]
theorem inK_low {k : Int} (h0 : k < 0) : inK k = false := by unfold inK; rw [decide_eq_false_iff_not]; omega
theorem inK_high {k : Int} (h8 : 8 ≤ k) : inK k = false := by unfold inK; rw [decide_eq_false_iff_not]; omega
theorem inK_is {k : Int} (h : inK k = true) : ∃ i : Nat, k = i ∧ i < 8 := by
  unfold inK at h
  rw [decide_eq_true_iff] at h
  exact ⟨k.toNat, by omega, by omega⟩
theorem counter_any (k : Int) (w : World) : Calls Try.prog 16 #[.int .i64 k] w fun e w' => e = .returned (.bool (inK k)) ∧ w = w' := by
  by_cases h0 : k < 0
  · rw [inK_low h0]
    have h0' : ¬ 0 ≤ k := by omega
    go_enter Try.func16, Try.ntmps16
    go_wp2
    go_ret
    exact ⟨rfl, rfl⟩
  · have h0' : 0 ≤ k := by omega
    by_cases h8 : k < 8
    · rw [inK_yes h0' h8]
      go_enter Try.func16, Try.ntmps16
      go_wp2
      go_ret
      exact ⟨rfl, rfl⟩
    · rw [inK_high (by omega)]
      go_enter Try.func16, Try.ntmps16
      go_wp2
      go_ret
      exact ⟨rfl, rfl⟩

/-- whole numbers run round, as Go's int64 does -/
def r64 (x : Int) : Int := wrap64 x
theorem r64_add (x y : Int) : r64 (r64 x + y) = r64 (x + y) := by unfold r64 wrap64; omega
theorem r64_add' (x y : Int) : r64 (x + r64 y) = r64 (x + y) := by unfold r64 wrap64; omega
theorem r64_r64 (x : Int) : r64 (r64 x) = r64 x := by unfold r64 wrap64; omega

theorem enters {P : Program} {f : FuncId} {fn : Func} (hf : P.funcs[f]? = some fn) (hname : (fn.name == "runtime.NumGoroutine") = false) (hb : fn.body.isSome = true) (args : Array Value) (w : World) :
    (callFunc f args).run P w = .ok (.enter f args) w := by
  obtain ⟨c, hc⟩ := Option.isSome_iff_exists.1 hb
  have h1 : fn.name ≠ "runtime.NumGoroutine" := by simpa using hname
  simp [callFunc, hf, h1, hc]
/-- what is handed to change: a function that asks one cell alone -/
def Next (K : FuncId) (nb : Nat) (n : Int) (g : Int → Int) : Prop :=
  (∀ args w, (callFunc K args).run Try.prog w = .ok (.enter K args) w) ∧ ∀ (w : World) (x : Int), w.cell? ⟨nb, 0, none⟩ = some (.int .i64 n) → Calls Try.prog K #[.int .i64 x, .pointer (some ⟨nb, 0, none⟩)] w fun e w' => e = .returned (.int .i64 (g x)) ∧ w = w'
set_option maxHeartbeats 400000 in
theorem next_add (nb : Nat) (n : Int) : Next 18 nb n fun x => r64 (x + n) := by
  refine ⟨enters Try.func18 (by kernel_rfl) (by kernel_rfl), ?_⟩
  intro w x hc
  go_enter Try.func18, Try.ntmps18
  go_wp2
  go_ret
  exact ⟨rfl, rfl⟩
set_option maxHeartbeats 400000 in
theorem next_swap (nb : Nat) (n : Int) : Next 19 nb n fun _ => n := by
  refine ⟨enters Try.func19 (by kernel_rfl) (by kernel_rfl), ?_⟩
  intro w x hc
  go_enter Try.func19, Try.ntmps19
  go_wp2
  go_ret
  exact ⟨rfl, rfl⟩
/-- the greater one -/
def gr (x n : Int) : Int := if x < n then n else x
set_option maxHeartbeats 400000 in
theorem next_most (nb : Nat) (n : Int) : Next 20 nb n fun x => gr x n := by
  refine ⟨enters Try.func20 (by kernel_rfl) (by kernel_rfl), ?_⟩
  intro w x hc
  by_cases h : x < n
  · simp only [show gr x n = n from if_pos h]
    go_enter Try.func20, Try.ntmps20
    go_wp2
    go_ret
    exact ⟨rfl, rfl⟩
  · simp only [show gr x n = x from if_neg h]
    go_enter Try.func20, Try.ntmps20
    go_wp2
    go_ret
    exact ⟨rfl, rfl⟩
end Go.Proofs.Ytkgbinngohiffaa.Meter
