/-
  The table of package sha is made by who asks first (sync.Once), and found made from then on.
-/
import Derived.Test.YtblhfbpokfegnaaShaTab
import Derived.Tactics
import Derived.Tactics2
import Derived.Defers
import Derived.Laws.Pointers
import Derived.Laws.LoneSync
import Derived.RegionTactic
import Derived.RegionCalls
import Derived.ChangeAlike
import Derived.Laws.NewBlocks
namespace Go.Proofs.Ytblhfbpokfegnaa.Sha
open Go.RowKit

theorem disable (w : World) : (callFunc 63 #[]).run Try.prog w = .ok (.value (.tuple #[])) w := run_call_mark0 Try.func63 (by kernel_rfl) (by kernel_rfl) (by kernel_rfl) .disable (by kernel_rfl) w
theorem enable (w : World) : (callFunc 65 #[]).run Try.prog w = .ok (.value (.tuple #[])) w := run_call_mark0 Try.func65 (by kernel_rfl) (by kernel_rfl) (by kernel_rfl) .enable (by kernel_rfl) w
theorem acquire (a : Addr) (w : World) : (callFunc 66 #[.pointer (some a)]).run Try.prog w = .ok (.value (.tuple #[])) w := run_call_marked Try.func66 (by kernel_rfl) (by kernel_rfl) (by kernel_rfl) .acquire (by kernel_rfl) a w
theorem releaseMerge (a : Addr) (w : World) : (callFunc 68 #[.pointer (some a)]).run Try.prog w = .ok (.value (.tuple #[])) w := run_call_marked Try.func68 (by kernel_rfl) (by kernel_rfl) (by kernel_rfl) .releaseMerge (by kernel_rfl) a w

set_option maxHeartbeats 400000 in
theorem load_any (a : Addr) (d : Int) (w : World) (hc : w.cell? a = some (.int .u32 d)) :
    Calls Try.prog 45 #[.pointer (some a)] w fun e w' => e = .returned (.bool (d != 0)) ∧ w = w' := by
  have hl := run_call_load (P := Try.prog) Try.func53 (by kernel_rfl) (by kernel_rfl) (by kernel_rfl) .u32 (by kernel_rfl) hc
  go_enter Try.func45, Try.ntmps45
  go_wp2
  go_ret
  exact ⟨rfl, rfl⟩
theorem load_no (a : Addr) (w : World) (hc : w.cell? a = some (.int .u32 0)) :
    Calls Try.prog 45 #[.pointer (some a)] w fun e w' => e = .returned (.bool false) ∧ w = w' := load_any a 0 w hc
theorem load_yes (a : Addr) (w : World) (hc : w.cell? a = some (.int .u32 1)) :
    Calls Try.prog 45 #[.pointer (some a)] w fun e w' => e = .returned (.bool true) ∧ w = w' := load_any a 1 w hc

theorem store_deferred (a : Addr) (x : Value) (u : FrameMode) (w : World) (hc : w.cell? a = some x) (hz : w.frozen? a = false) :
    CallsD Try.prog 56 #[.pointer (some a), .bool true] u w fun e u' w' => u' = u ∧ (e = .returned (.tuple #[]) ∧ w' = w.drew.setCell a (.int .u32 1)) := by
  have hc' : w.drew.cell? a = some x := by go_simp
  have hz' : w.drew.frozen? a = false := by go_simp
  have hst := run_call_store (P := Try.prog) Try.func61 (by kernel_rfl) (by kernel_rfl) (by kernel_rfl) (by kernel_rfl) (k := .u32) (y := 1) hc' hz'
  go_enter_d Try.func56, Try.ntmps56
  go_wp2
  go_region_calls
  all_goals (go_end0; exact ⟨rfl, rfl⟩)

set_option maxRecDepth 100000 in
set_option maxHeartbeats 400000 in
theorem iunlock (a : Addr) (w : World) (hc : w.cell? a = some (.int .i32 1)) (hz : w.frozen? a = false) :
    Calls Try.prog 60 #[.pointer (some a)] w fun e w' => e = .returned (.tuple #[]) ∧ w' = w.setCell a (.int .i32 0) := by
  have hd := disable
  have he := enable
  have hr := releaseMerge
  have hadd := run_call_add (P := Try.prog) Try.func69 (by kernel_rfl) (by kernel_rfl) (by kernel_rfl) .i32 (by kernel_rfl) (y := -1) (s := 0) hc hz (by simp [go_sem]; rfl)
  have hcv := run_convert_to_unsafe (P := Try.prog) (src := 102) (dst := 106) Try.underlying102 Try.underlying106 (by kernel_rfl) hc
  go_enter Try.func60, Try.ntmps60
  go_wp2
  go_end0
  exact ⟨rfl, rfl⟩

set_option maxRecDepth 100000 in
set_option maxHeartbeats 400000 in
theorem ilock (a : Addr) (w : World) (hc : w.cell? a = some (.int .i32 0)) (hz : w.frozen? a = false) :
    Calls Try.prog 59 #[.pointer (some a)] w fun e w' => e = .returned (.tuple #[]) ∧ w' = w.setCell a (.int .i32 1) := by
  have hd := disable
  have he := enable
  have ha := acquire
  have hcas := run_call_cas_hit (P := Try.prog) Try.func64 (by kernel_rfl) (by kernel_rfl) (by kernel_rfl) .i32 (by kernel_rfl) (y := 1) hc hz
  have hc' : (w.setCell a (.int .i32 1)).cell? a = some (.int .i32 1) := World.cell?_setCell_same w a _ hc
  have hcv := run_convert_to_unsafe (P := Try.prog) (src := 102) (dst := 106) Try.underlying102 Try.underlying106 (by kernel_rfl) hc'
  go_enter Try.func59, Try.ntmps59
  go_wp2
  first | go_end0 | (simp only [Exit.inBlock, Exit.then]; refine bodyPost_ret (results_none rfl _ _ _) rfl ?_) | refine bodyPost_ret (results_none rfl _ _ _) rfl ?_
  exact ⟨rfl, rfl⟩

set_option maxRecDepth 100000 in
set_option maxHeartbeats 400000 in
theorem lock (t : Nat) (w : World) (hc : w.cell? ⟨t, 1, none⟩ = some (.int .i32 0)) (hz : w.frozen? ⟨t, 1, none⟩ = false) :
    Calls Try.prog 54 #[.pointer (some ⟨t, 1, none⟩)] w fun e w' => e = .returned (.tuple #[]) ∧ w' = w.setCell ⟨t, 1, none⟩ (.int .i32 1) := by
  have c := Lib.hid (ilock _ _ hc hz)
  go_enter Try.func54, Try.ntmps54
  go_wp2_with fail
  refine c.out.mono ?_
  rintro e w' ⟨rfl, rfl⟩
  go_wp2
  go_end0
  exact ⟨rfl, rfl⟩

set_option maxRecDepth 100000 in
set_option maxHeartbeats 400000 in
theorem unlock_deferred (t : Nat) (u : FrameMode) (w : World) (hc : w.cell? ⟨t, 1, none⟩ = some (.int .i32 1)) (hz : w.frozen? ⟨t, 1, none⟩ = false) :
    CallsD Try.prog 55 #[.pointer (some ⟨t, 1, none⟩)] u w fun e u' w' => u' = u ∧ (e = .returned (.tuple #[]) ∧ w' = w.setCell ⟨t, 1, none⟩ (.int .i32 0)) := by
  have c := Lib.hid (iunlock _ _ hc hz)
  go_enter_d Try.func55, Try.ntmps55
  go_wp2_with fail
  refine c.out.mono ?_
  rintro e w' ⟨rfl, rfl⟩
  go_wp2
  go_end0
  exact ⟨rfl, rfl⟩

/-- a table to which nobody has come; one that is made -/
def Fresh (w : World) (t : Nat) : Prop := Blk w t 66 (tbl (.int .u32 0) (.int .i32 0) (.int .u32 0) 0 0)
def Made (w : World) (t : Nat) : Prop := Blk w t 66 (tbl (.int .u32 1) (.int .i32 0) (.int .u32 0) 64 8)
def Tab (w : World) (t : Nat) : Prop := Fresh w t ∨ Made w t

set_option maxRecDepth 100000 in
set_option maxHeartbeats 1600000 in
theorem slow_any (t : Nat) (w : World) (ht : Fresh w t) :
    Calls Try.prog 46 #[.pointer (some ⟨t, 0, none⟩), .func (.func 41) #[.pointer (some ⟨t, 0, none⟩)] #[]] w fun e w' => e = .returned (.tuple #[]) ∧ Made w' t ∧ Bar [t] w w' := by
  have k1 := ht.set_ 1 (.int .i32 1)
  rw [tbl_set1] at k1
  have b1 : Bar [t] w (w.setCell ⟨t, 1, none⟩ (.int .i32 1)) := (Bar.refl _ _).setCell (by simp) _
  have c1 := Lib.hid (lock t w ((ht.cell 1).trans (tbl_1 _ _ _ _ _)) (ht.frozen 1))
  have H := Lib.hid ht
  clear ht
  go_enter_defers Try.func46, Try.ntmps46
  go_wp2_with fail
  refine c1.out.mono ?_
  rintro e w' ⟨rfl, rfl⟩
  have c2 := Lib.hid (load_no ⟨t, 0, none⟩ (w.setCell ⟨t, 1, none⟩ (.int .i32 1)) ((k1.cell 0).trans (tbl_0 _ _ _ _ _)))
  have c3 := Lib.hid (reckon_any t _ _ _ _ k1)
  clear c1
  generalize w.setCell ⟨t, 1, none⟩ (.int .i32 1) = w1 at *
  have K1 := Lib.hid k1
  clear k1
  go_wp2_with fail
  refine c2.out.mono ?_
  rintro e w' ⟨rfl, rfl⟩
  go_wp2_with fail
  refine c3.out.mono ?_
  rintro e w2 ⟨rfl, k2, b2⟩
  have K2 := Lib.hid k2
  clear k2
  go_wp2
  change Leaves _ _ _ _ _ _ _
  refine leaves_cons (f := 56) (args := #[.pointer (some ⟨t, 0, none⟩), .bool true]) (by simp) (by simp [go_sem]) ?_
  refine (store_deferred ⟨t, 0, none⟩ (.int .u32 0) .returning _ ((K2.out.cell 0).trans (tbl_0 _ _ _ _ _)) (K2.out.frozen 0)).mono ?_
  rintro e u' w'' ⟨rfl, rfl, rfl⟩
  have k3 := K2.out.drew.set_ 0 (.int .u32 1)
  rw [tbl_set0] at k3
  have b3 := (b2.drew.setCell (p := ⟨t, 0, none⟩) (by simp) (.int .u32 1))
  refine leaves_cons (f := 55) (args := #[.pointer (some ⟨t, 1, none⟩)]) (by simp [settle]) (by simp [go_sem]) ?_
  refine (unlock_deferred t _ _ ((k3.cell 1).trans (tbl_1 _ _ _ _ _)) (k3.frozen 1)).mono ?_
  rintro e u' w'' ⟨rfl, rfl, rfl⟩
  have k4 := k3.set_ 1 (.int .i32 0)
  rw [tbl_set1] at k4
  have b4 := b3.setCell (p := ⟨t, 1, none⟩) (by simp) (.int .i32 0)
  have b5 := b1.trans b4 (by simp)
  simp [Leaves, settle, results, Try.results46]
  exact ⟨k4, b5⟩

set_option maxRecDepth 100000 in
set_option maxHeartbeats 400000 in
theorem do_first (t : Nat) (w : World) (ht : Fresh w t) :
    Calls Try.prog 40 #[.pointer (some ⟨t, 0, none⟩), .func (.func 41) #[.pointer (some ⟨t, 0, none⟩)] #[]] w fun e w' => e = .returned (.tuple #[]) ∧ Made w' t ∧ Bar [t] w w' := by
  have c2 := Lib.hid (load_no ⟨t, 0, none⟩ w ((ht.cell 0).trans (tbl_0 _ _ _ _ _)))
  have c3 := Lib.hid (slow_any t w ht)
  clear ht
  go_enter Try.func40, Try.ntmps40
  go_wp2_with fail
  refine c2.out.mono ?_
  rintro e w' ⟨rfl, rfl⟩
  go_wp2_with fail
  refine c3.out.mono ?_
  rintro e w' ⟨rfl, k, b⟩
  go_wp2
  go_end0
  exact ⟨rfl, k, b⟩

set_option maxRecDepth 100000 in
set_option maxHeartbeats 400000 in
theorem do_done (t : Nat) (fv : Value) (w : World) (ht : Made w t) :
    Calls Try.prog 40 #[.pointer (some ⟨t, 0, none⟩), fv] w fun e w' => e = .returned (.tuple #[]) ∧ w = w' := by
  have c2 := Lib.hid (load_yes ⟨t, 0, none⟩ w ((ht.cell 0).trans (tbl_0 _ _ _ _ _)))
  clear ht
  go_enter Try.func40, Try.ntmps40
  go_wp2_with fail
  refine c2.out.mono ?_
  rintro e w' ⟨rfl, rfl⟩
  go_wp2
  go_end0
  exact ⟨rfl, rfl⟩

set_option maxRecDepth 100000 in
set_option maxHeartbeats 400000 in
theorem made_again (t : Nat) (w : World) (ht : Made w t) :
    Calls Try.prog 32 #[.pointer (some ⟨t, 0, none⟩)] w fun e w' => e = .returned (.pointer (some ⟨t, 0, none⟩)) ∧ w = w' := by
  have hmf : ∀ (fn : Fn) (first cap : Array Value) (w : World), (Instr.makeFunc fn first cap).run Try.prog w = .ok (.func fn first cap) w := fun _ _ _ _ => rfl
  have c2 := Lib.hid fun fv => (do_done t fv w ht)
  clear ht
  go_enter Try.func32, Try.ntmps32
  go_wp2_with fail
  refine (c2.out _).mono ?_
  rintro e w' ⟨rfl, rfl⟩
  go_wp2
  go_ret
  exact ⟨rfl, rfl⟩

set_option maxRecDepth 100000 in
set_option maxHeartbeats 400000 in
theorem made_any (t : Nat) (w : World) (ht : Tab w t) :
    Calls Try.prog 32 #[.pointer (some ⟨t, 0, none⟩)] w fun e w' => e = .returned (.pointer (some ⟨t, 0, none⟩)) ∧ Made w' t ∧ Bar [t] w w' := by
  rcases ht with ht | ht
  · have hmf : ∀ (fn : Fn) (first cap : Array Value) (w : World), (Instr.makeFunc fn first cap).run Try.prog w = .ok (.func fn first cap) w := fun _ _ _ _ => rfl
    have c2 := Lib.hid (do_first t w ht)
    clear ht
    go_enter Try.func32, Try.ntmps32
    go_wp2_with fail
    refine c2.out.mono ?_
    rintro e w' ⟨rfl, k, b⟩
    go_wp2
    go_ret
    exact ⟨rfl, k, b⟩
  · exact (made_again t w ht).mono fun _ _ ⟨he, hw⟩ => ⟨he, hw ▸ ht, hw ▸ Bar.refl _ _⟩
end Go.Proofs.Ytblhfbpokfegnaa.Sha
