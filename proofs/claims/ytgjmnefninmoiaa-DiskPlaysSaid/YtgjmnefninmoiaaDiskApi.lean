/-
  Chapter 6's laws over what package disk does, whatever it looks like inside: its calls as contracts over a predicate of its own; the chapter's example.
-/
import Derived.Test.YtgjmnefninmoiaaDiskSpec
import Derived.Test.YtgjmnefninmoiaaBytes
import Derived.Test.YtgjmnefninmoiaaBools
namespace Go.Proofs.Ytgjmnefninmoiaa.Disk
open Go.RowKit Go.Proofs.Ytgjmnefninmoiaa.Sha

/-- a row that may be written: new, and none of the disk's -/
def Mine (w : World) (A : Option Addr) (n B : Nat) (F : List Nat) : Prop := n = 0 ∨ ∃ g o, A = some ⟨g, o, none⟩ ∧ B ≤ g ∧ g ∉ F ∧ ∀ i, i < n → w.frozen? ⟨g, o + i, none⟩ = false
def CNewPost (Dk : World → List Nat → Nat → Nat → DS → Prop) (w : World) (n : Nat) (e : Ending) (w' : World) : Prop := ∃ d F, e = .returned (.tuple #[.pointer (some ⟨d, 0, none⟩), .int .i64 0]) ∧ Dk w' F d n (newD n) ∧ Fp [] F w w'
def StepPost (D : World → List Nat → DS → Prop) (w : World) (F : List Nat) (r : Int × DS) (e : Ending) (w' : World) : Prop := e = .returned (.int .i64 r.1) ∧ ∃ F', D w' F' r.2 ∧ Fp F F' w w'
def ReadPost (D : World → List Nat → Prop) (w : World) (F : List Nat) (r : Int × List Int) (e : Ending) (w' : World) : Prop := ∃ A c F', e = .returned (.tuple #[.slice A r.2.length c, .int .i64 r.1]) ∧ Rd w' A r.2.length r.2 ∧ Mine w' A r.2.length w.heap.size F' ∧ r.2.length ≤ c ∧ c ≤ 9223372036854775807 ∧ D w' F' ∧ Fp F F' w w'
/-- the calls of package disk -/
structure DiskApi (Dk : World → List Nat → Nat → Nat → DS → Prop) : Prop where
  wf : ∀ {w F d n s}, Dk w F d n s → WF n s
  lts : ∀ {w F d n s}, Dk w F d n s → ∀ k ∈ F, k < w.heap.size
  keep : ∀ {w w' F G d n s}, Dk w F d n s → Bar G w w' → Disj F G → Dk w' F d n s
  bad : ∀ (w : World) (n : Int), ¬ (1 ≤ n ∧ n ≤ 8192) → Calls Try.prog 10 #[.int .i64 n] w fun e w' => e = .returned (.tuple #[.pointer none, .int .i64 1]) ∧ Below w.heap.size w w'
  new : ∀ (w : World) (n : Nat), 1 ≤ n → n ≤ 8192 → Calls Try.prog 10 #[.int .i64 n] w (CNewPost Dk w n)
  write : ∀ {w F d n s} (i : Int) {A l c xs}, Dk w F d n s → Rd w A l xs → Off A l F → l ≤ c → c ≤ 9223372036854775807 → Calls Try.prog 12 #[.pointer (some ⟨d, 0, none⟩), .int .i64 i, .slice A l c] w (StepPost (fun w' F' s' => Dk w' F' d n s') w F (writeD s i xs))
  read : ∀ {w F d n s} (i : Int), Dk w F d n s → Calls Try.prog 15 #[.pointer (some ⟨d, 0, none⟩), .int .i64 i] w (ReadPost (fun w' F' => Dk w' F' d n s) w F (readD s i))
  sync : ∀ {w F d n s}, Dk w F d n s → Calls Try.prog 18 #[.pointer (some ⟨d, 0, none⟩)] w (StepPost (fun w' F' s' => Dk w' F' d n s') w F (syncD s))
  fuse : ∀ {w F d n s} (f : Int), Dk w F d n s → f ≤ 9223372036854775807 → Calls Try.prog 20 #[.pointer (some ⟨d, 0, none⟩), .int .i64 f] w fun e w' => e = .returned (.tuple #[]) ∧ ∃ F', Dk w' F' d n (fuseD s f) ∧ Fp F F' w w'
  crash : ∀ {w F d n s A m c bs}, Dk w F d n s → Rb w A m bs → Off A m F → m ≤ c → c ≤ 9223372036854775807 → Calls Try.prog 22 #[.pointer (some ⟨d, 0, none⟩), .slice A m c] w fun e w' => e = .returned (.tuple #[]) ∧ ∃ F', Dk w' F' d n (crashD s bs) ∧ Fp F F' w w'
  pending : ∀ {w F d n s}, Dk w F d n s → Calls Try.prog 24 #[.pointer (some ⟨d, 0, none⟩)] w fun e w' => e = .returned (.int .i64 (s.pend.length : Nat)) ∧ Below w.heap.size w w'
  down : ∀ {w F d n s}, Dk w F d n s → Calls Try.prog 26 #[.pointer (some ⟨d, 0, none⟩)] w fun e w' => e = .returned (.bool s.down) ∧ Below w.heap.size w w'
  len : ∀ {w F d n s}, Dk w F d n s → Calls Try.prog 27 #[.pointer (some ⟨d, 0, none⟩)] w fun e w' => e = .returned (.int .i64 (n : Nat)) ∧ Below w.heap.size w w'

section
variable {Dk : World → List Nat → Nat → Nat → DS → Prop}
theorem DiskApi.below (api : DiskApi Dk) {w w' : World} {F : List Nat} {d n : Nat} {s : DS} (h : Kept (Dk w F d n s)) (b : Below w.heap.size w w') : Kept (Dk w' F d n s) := ⟨api.keep h.out (barOf b []) (fun _ _ => by simp)⟩
/-- a law that holds: it answers true, and what was there ahead is as it was -/
def Holds (w : World) (e : Ending) (w' : World) : Prop := e = .returned (.bool true) ∧ Below w.heap.size w w'
theorem step_fp {w w1 w2 : World} {F F' : List Nat} (B : Kept (Below w.heap.size w w1)) (f : Fp F F' w1 w2) (hF : Kept (∀ k ∈ F, w.heap.size ≤ k)) : Kept (Below w.heap.size w w2) ∧ Kept (∀ k ∈ F', w.heap.size ≤ k) :=
  ⟨⟨B.out.trans (f.below hF.out B.out.size)⟩, ⟨f.least hF.out B.out.size⟩⟩
theorem step_below {w w1 w2 : World} (B : Kept (Below w.heap.size w w1)) (b : Below w1.heap.size w1 w2) : Kept (Below w.heap.size w w2) := ⟨B.out.trans (b.mono B.out.size)⟩
theorem none_least (B : Nat) : Kept (∀ k ∈ ([] : List Nat), B ≤ k) := ⟨by simp⟩
theorem mk64 (w : World) : ∃ w', (Instr.makeSlice 36 (.int .i64 64) (.int .i64 64)).run Try.prog w = .ok (.slice (some ⟨w.heap.size, 0, none⟩) 64 64) w' ∧ Rd w' (some ⟨w.heap.size, 0, none⟩) 64 zeros64 ∧ Blk w' w.heap.size 5 (arr .u8 zeros64) ∧ Below w.heap.size w w' := by
  obtain ⟨w', h1, h2, h3⟩ := make_blk w 64 (by omega)
  exact ⟨w', h1, Rd.blk h2 sec_zeros.2 rfl, h2, h3⟩
theorem new_off {F : List Nat} {g n o : Nat} (h : ∀ k ∈ F, k < g) : Off (some ⟨g, o, none⟩) n F := .inr ⟨g, o, rfl, fun hk => by have := h g hk; omega⟩

set_option maxRecDepth 100000 in
set_option maxHeartbeats 1000000 in
theorem first_any (api : DiskApi Dk) (w : World) : Calls Try.prog 8 #[] w (Holds w) := by
  go_enter Try.func8, Try.ntmps8
  go_wp2_with fail
  refine (api.new w 2 (by omega) (by omega)).mono ?_
  rintro e w1 ⟨d, F, rfl, dk, fp⟩
  have D := Kept.mk dk
  obtain ⟨B, L⟩ := step_fp (w := w) ⟨Below.refl _ _⟩ fp (none_least _)
  clear dk fp
  go_wp2_with fail
  refine (api.fuse 0 D.out (by omega)).mono ?_
  rintro e w2 ⟨rfl, F2, dk, fp⟩
  replace D := Kept.mk dk
  obtain ⟨B, L⟩ := step_fp B fp L
  clear dk fp
  obtain ⟨w3, hmk, r3, -, b3⟩ := mk64 w2
  have hoff := Kept.mk (new_off (n := 64) (o := 0) (api.lts D.out))
  replace D := api.below D b3
  replace B := step_below B b3
  have R := Kept.mk r3
  clear r3 b3
  go_wp2_with fail
  refine (api.write 0 D.out R.out hoff.out (by omega) (by omega)).mono ?_
  rintro e w4 ⟨rfl, F4, dk, fp⟩
  replace D := Kept.mk dk
  obtain ⟨B, L⟩ := step_fp B fp L
  clear dk fp hoff R hmk
  rw [show (writeD (fuseD (newD 2) 0) 0 zeros64).1 = 13 from by decide]
  go_wp2_with fail
  refine (api.down D.out).mono ?_
  rintro e w5 ⟨rfl, b5⟩
  replace D := api.below D b5
  replace B := step_below B b5
  clear b5
  rw [show (writeD (fuseD (newD 2) 0) 0 zeros64).2.down = true from by decide]
  go_wp2_with fail
  refine (api.len D.out).mono ?_
  rintro e w6 ⟨rfl, b6⟩
  replace B := step_below B b6
  go_wp2
  go_ret
  exact ⟨rfl, B.out⟩
end
end Go.Proofs.Ytgjmnefninmoiaa.Disk
