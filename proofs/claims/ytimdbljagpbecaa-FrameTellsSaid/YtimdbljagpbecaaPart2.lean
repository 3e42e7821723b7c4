/-
  Parts laid together: ShaOnce FramePost FrameFace Bytes Slices WireMem WireFits WireREnc WireREnc2 ShaLits ShaRef Copy ShaRHash FrameRef ByteRows.
-/
import Derived.Test.YtimdbljagpbecaaPart1
import Derived.Tactics
import Derived.Tactics2
import Derived.Defers
import Derived.Laws.Pointers
import Derived.Laws.LoneSync
import Derived.RegionTactic
import Derived.RegionCalls
import Derived.ChangeAlike
import Derived.Laws.NewBlocks
import Derived.Laws.BytesArg
import Derived.Lib.SlBytesConst
import Derived.Lib.Bytes
import Derived.Laws.Slices
import Derived.Deep.RegionHeld3
import Derived.Deep.AppendLies
import Derived.Laws.BitsAllLaws
import Derived.Deep.QuietTactic
import Derived.BigQuiet
import Derived.Great.BuildSlice
import Derived.Maps.AppendAt

/-
  The table of package sha is made by who asks first (sync.Once), and found made from then on.
-/










namespace Go.Proofs.Ytimdbljagpbecaa.Sha
open Go.RowKit

theorem disable (w : World) : (callFunc 81 #[]).run Try.prog w = .ok (.value (.tuple #[])) w := run_call_mark0 Try.func81 (by kernel_rfl) (by kernel_rfl) (by kernel_rfl) .disable (by kernel_rfl) w
theorem enable (w : World) : (callFunc 83 #[]).run Try.prog w = .ok (.value (.tuple #[])) w := run_call_mark0 Try.func83 (by kernel_rfl) (by kernel_rfl) (by kernel_rfl) .enable (by kernel_rfl) w
theorem acquire (a : Addr) (w : World) : (callFunc 84 #[.pointer (some a)]).run Try.prog w = .ok (.value (.tuple #[])) w := run_call_marked Try.func84 (by kernel_rfl) (by kernel_rfl) (by kernel_rfl) .acquire (by kernel_rfl) a w
theorem releaseMerge (a : Addr) (w : World) : (callFunc 86 #[.pointer (some a)]).run Try.prog w = .ok (.value (.tuple #[])) w := run_call_marked Try.func86 (by kernel_rfl) (by kernel_rfl) (by kernel_rfl) .releaseMerge (by kernel_rfl) a w

set_option maxHeartbeats 400000 in
theorem load_any (a : Addr) (d : Int) (w : World) (hc : w.cell? a = some (.int .u32 d)) :
    Calls Try.prog 63 #[.pointer (some a)] w fun e w' => e = .returned (.bool (d != 0)) ∧ w = w' := by
  have hl := run_call_load (P := Try.prog) Try.func71 (by kernel_rfl) (by kernel_rfl) (by kernel_rfl) .u32 (by kernel_rfl) hc
  go_enter Try.func63, Try.ntmps63
  go_wp2
  go_ret
  exact ⟨rfl, rfl⟩
theorem load_no (a : Addr) (w : World) (hc : w.cell? a = some (.int .u32 0)) :
    Calls Try.prog 63 #[.pointer (some a)] w fun e w' => e = .returned (.bool false) ∧ w = w' := load_any a 0 w hc
theorem load_yes (a : Addr) (w : World) (hc : w.cell? a = some (.int .u32 1)) :
    Calls Try.prog 63 #[.pointer (some a)] w fun e w' => e = .returned (.bool true) ∧ w = w' := load_any a 1 w hc

theorem store_deferred (a : Addr) (x : Value) (u : FrameMode) (w : World) (hc : w.cell? a = some x) (hz : w.frozen? a = false) :
    CallsD Try.prog 74 #[.pointer (some a), .bool true] u w fun e u' w' => u' = u ∧ (e = .returned (.tuple #[]) ∧ w' = w.drew.setCell a (.int .u32 1)) := by
  have hc' : w.drew.cell? a = some x := by go_simp
  have hz' : w.drew.frozen? a = false := by go_simp
  have hst := run_call_store (P := Try.prog) Try.func79 (by kernel_rfl) (by kernel_rfl) (by kernel_rfl) (by kernel_rfl) (k := .u32) (y := 1) hc' hz'
  go_enter_d Try.func74, Try.ntmps74
  go_wp2
  go_region_calls
  all_goals (go_end0; exact ⟨rfl, rfl⟩)

set_option maxRecDepth 100000 in
set_option maxHeartbeats 400000 in
theorem iunlock (a : Addr) (w : World) (hc : w.cell? a = some (.int .i32 1)) (hz : w.frozen? a = false) :
    Calls Try.prog 78 #[.pointer (some a)] w fun e w' => e = .returned (.tuple #[]) ∧ w' = w.setCell a (.int .i32 0) := by
  have hd := disable
  have he := enable
  have hr := releaseMerge
  have hadd := run_call_add (P := Try.prog) Try.func87 (by kernel_rfl) (by kernel_rfl) (by kernel_rfl) .i32 (by kernel_rfl) (y := -1) (s := 0) hc hz (by simp [go_sem]; rfl)
  have hcv := run_convert_to_unsafe (P := Try.prog) (src := 124) (dst := 128) Try.underlying124 Try.underlying128 (by kernel_rfl) hc
  go_enter Try.func78, Try.ntmps78
  go_wp2
  go_end0
  exact ⟨rfl, rfl⟩

set_option maxRecDepth 100000 in
set_option maxHeartbeats 400000 in
theorem ilock (a : Addr) (w : World) (hc : w.cell? a = some (.int .i32 0)) (hz : w.frozen? a = false) :
    Calls Try.prog 77 #[.pointer (some a)] w fun e w' => e = .returned (.tuple #[]) ∧ w' = w.setCell a (.int .i32 1) := by
  have hd := disable
  have he := enable
  have ha := acquire
  have hcas := run_call_cas_hit (P := Try.prog) Try.func82 (by kernel_rfl) (by kernel_rfl) (by kernel_rfl) .i32 (by kernel_rfl) (y := 1) hc hz
  have hc' : (w.setCell a (.int .i32 1)).cell? a = some (.int .i32 1) := World.cell?_setCell_same w a _ hc
  have hcv := run_convert_to_unsafe (P := Try.prog) (src := 124) (dst := 128) Try.underlying124 Try.underlying128 (by kernel_rfl) hc'
  go_enter Try.func77, Try.ntmps77
  go_wp2
  first | go_end0 | (simp only [Exit.inBlock, Exit.then]; refine bodyPost_ret (results_none rfl _ _ _) rfl ?_) | refine bodyPost_ret (results_none rfl _ _ _) rfl ?_
  exact ⟨rfl, rfl⟩

set_option maxRecDepth 100000 in
set_option maxHeartbeats 400000 in
theorem lock (t : Nat) (w : World) (hc : w.cell? ⟨t, 1, none⟩ = some (.int .i32 0)) (hz : w.frozen? ⟨t, 1, none⟩ = false) :
    Calls Try.prog 72 #[.pointer (some ⟨t, 1, none⟩)] w fun e w' => e = .returned (.tuple #[]) ∧ w' = w.setCell ⟨t, 1, none⟩ (.int .i32 1) := by
  have c := Lib.hid (ilock _ _ hc hz)
  go_enter Try.func72, Try.ntmps72
  go_wp2_with fail
  refine c.out.mono ?_
  rintro e w' ⟨rfl, rfl⟩
  go_wp2
  go_end0
  exact ⟨rfl, rfl⟩

set_option maxRecDepth 100000 in
set_option maxHeartbeats 400000 in
theorem unlock_deferred (t : Nat) (u : FrameMode) (w : World) (hc : w.cell? ⟨t, 1, none⟩ = some (.int .i32 1)) (hz : w.frozen? ⟨t, 1, none⟩ = false) :
    CallsD Try.prog 73 #[.pointer (some ⟨t, 1, none⟩)] u w fun e u' w' => u' = u ∧ (e = .returned (.tuple #[]) ∧ w' = w.setCell ⟨t, 1, none⟩ (.int .i32 0)) := by
  have c := Lib.hid (iunlock _ _ hc hz)
  go_enter_d Try.func73, Try.ntmps73
  go_wp2_with fail
  refine c.out.mono ?_
  rintro e w' ⟨rfl, rfl⟩
  go_wp2
  go_end0
  exact ⟨rfl, rfl⟩

/-- a table to which nobody has come; one that is made -/
def Fresh (w : World) (t : Nat) : Prop := Blk w t 63 (tbl (.int .u32 0) (.int .i32 0) (.int .u32 0) 0 0)
def Made (w : World) (t : Nat) : Prop := Blk w t 63 (tbl (.int .u32 1) (.int .i32 0) (.int .u32 0) 64 8)
def Tab (w : World) (t : Nat) : Prop := Fresh w t ∨ Made w t

set_option maxRecDepth 100000 in
set_option maxHeartbeats 1600000 in
theorem slow_any (t : Nat) (w : World) (ht : Fresh w t) :
    Calls Try.prog 64 #[.pointer (some ⟨t, 0, none⟩), .func (.func 59) #[.pointer (some ⟨t, 0, none⟩)] #[]] w fun e w' => e = .returned (.tuple #[]) ∧ Made w' t ∧ Bar [t] w w' := by
  have k1 := ht.set_ 1 (.int .i32 1)
  rw [tbl_set1] at k1
  have b1 : Bar [t] w (w.setCell ⟨t, 1, none⟩ (.int .i32 1)) := (Bar.refl _ _).setCell (by simp) _
  have c1 := Lib.hid (lock t w ((ht.cell 1).trans (tbl_1 _ _ _ _ _)) (ht.frozen 1))
  have H := Lib.hid ht
  clear ht
  go_enter_defers Try.func64, Try.ntmps64
  go_wp2_with fail
  refine c1.out.mono ?_
  rintro e w' ⟨rfl, rfl⟩
  have c2 := Lib.hid (load_no ⟨t, 0, none⟩ (w.setCell ⟨t, 1, none⟩ (.int .i32 1)) ((k1.cell 0).trans (tbl_0 _ _ _ _ _)))
  have c3 := Lib.hid (reckon_any t _ _ _ _ k1)
  clear c1
  generalize w.setCell ⟨t, 1, none⟩ (.int .i32 1) = w1 at *
  have K1 := Lib.hid k1
  clear k1
  go_wp2_with fail
  refine c2.out.mono ?_
  rintro e w' ⟨rfl, rfl⟩
  go_wp2_with fail
  refine c3.out.mono ?_
  rintro e w2 ⟨rfl, k2, b2⟩
  have K2 := Lib.hid k2
  clear k2
  go_wp2
  change Leaves _ _ _ _ _ _ _
  refine leaves_cons (f := 74) (args := #[.pointer (some ⟨t, 0, none⟩), .bool true]) (by simp) (by simp [go_sem]) ?_
  refine (store_deferred ⟨t, 0, none⟩ (.int .u32 0) .returning _ ((K2.out.cell 0).trans (tbl_0 _ _ _ _ _)) (K2.out.frozen 0)).mono ?_
  rintro e u' w'' ⟨rfl, rfl, rfl⟩
  have k3 := K2.out.drew.set_ 0 (.int .u32 1)
  rw [tbl_set0] at k3
  have b3 := (b2.drew.setCell (p := ⟨t, 0, none⟩) (by simp) (.int .u32 1))
  refine leaves_cons (f := 73) (args := #[.pointer (some ⟨t, 1, none⟩)]) (by simp [settle]) (by simp [go_sem]) ?_
  refine (unlock_deferred t _ _ ((k3.cell 1).trans (tbl_1 _ _ _ _ _)) (k3.frozen 1)).mono ?_
  rintro e u' w'' ⟨rfl, rfl, rfl⟩
  have k4 := k3.set_ 1 (.int .i32 0)
  rw [tbl_set1] at k4
  have b4 := b3.setCell (p := ⟨t, 1, none⟩) (by simp) (.int .i32 0)
  have b5 := b1.trans b4 (by simp)
  simp [Leaves, settle, results, Try.results64]
  exact ⟨k4, b5⟩

set_option maxRecDepth 100000 in
set_option maxHeartbeats 400000 in
theorem do_first (t : Nat) (w : World) (ht : Fresh w t) :
    Calls Try.prog 58 #[.pointer (some ⟨t, 0, none⟩), .func (.func 59) #[.pointer (some ⟨t, 0, none⟩)] #[]] w fun e w' => e = .returned (.tuple #[]) ∧ Made w' t ∧ Bar [t] w w' := by
  have c2 := Lib.hid (load_no ⟨t, 0, none⟩ w ((ht.cell 0).trans (tbl_0 _ _ _ _ _)))
  have c3 := Lib.hid (slow_any t w ht)
  clear ht
  go_enter Try.func58, Try.ntmps58
  go_wp2_with fail
  refine c2.out.mono ?_
  rintro e w' ⟨rfl, rfl⟩
  go_wp2_with fail
  refine c3.out.mono ?_
  rintro e w' ⟨rfl, k, b⟩
  go_wp2
  go_end0
  exact ⟨rfl, k, b⟩

set_option maxRecDepth 100000 in
set_option maxHeartbeats 400000 in
theorem do_done (t : Nat) (fv : Value) (w : World) (ht : Made w t) :
    Calls Try.prog 58 #[.pointer (some ⟨t, 0, none⟩), fv] w fun e w' => e = .returned (.tuple #[]) ∧ w = w' := by
  have c2 := Lib.hid (load_yes ⟨t, 0, none⟩ w ((ht.cell 0).trans (tbl_0 _ _ _ _ _)))
  clear ht
  go_enter Try.func58, Try.ntmps58
  go_wp2_with fail
  refine c2.out.mono ?_
  rintro e w' ⟨rfl, rfl⟩
  go_wp2
  go_end0
  exact ⟨rfl, rfl⟩

set_option maxRecDepth 100000 in
set_option maxHeartbeats 400000 in
theorem made_again (t : Nat) (w : World) (ht : Made w t) :
    Calls Try.prog 49 #[.pointer (some ⟨t, 0, none⟩)] w fun e w' => e = .returned (.pointer (some ⟨t, 0, none⟩)) ∧ w = w' := by
  have hmf : ∀ (fn : Fn) (first cap : Array Value) (w : World), (Instr.makeFunc fn first cap).run Try.prog w = .ok (.func fn first cap) w := fun _ _ _ _ => rfl
  have c2 := Lib.hid fun fv => (do_done t fv w ht)
  clear ht
  go_enter Try.func49, Try.ntmps49
  go_wp2_with fail
  refine (c2.out _).mono ?_
  rintro e w' ⟨rfl, rfl⟩
  go_wp2
  go_ret
  exact ⟨rfl, rfl⟩

set_option maxRecDepth 100000 in
set_option maxHeartbeats 400000 in
theorem made_any (t : Nat) (w : World) (ht : Tab w t) :
    Calls Try.prog 49 #[.pointer (some ⟨t, 0, none⟩)] w fun e w' => e = .returned (.pointer (some ⟨t, 0, none⟩)) ∧ Made w' t ∧ Bar [t] w w' := by
  rcases ht with ht | ht
  · have hmf : ∀ (fn : Fn) (first cap : Array Value) (w : World), (Instr.makeFunc fn first cap).run Try.prog w = .ok (.func fn first cap) w := fun _ _ _ _ => rfl
    have c2 := Lib.hid (do_first t w ht)
    clear ht
    go_enter Try.func49, Try.ntmps49
    go_wp2_with fail
    refine c2.out.mono ?_
    rintro e w' ⟨rfl, k, b⟩
    go_wp2
    go_ret
    exact ⟨rfl, k, b⟩
  · exact (made_again t w ht).mono fun _ _ ⟨he, hw⟩ => ⟨he, hw ▸ ht, hw ▸ Bar.refl _ _⟩
end Go.Proofs.Ytimdbljagpbecaa.Sha

/-
  What calls of package frame leave behind.
-/


namespace Go.Proofs.Ytimdbljagpbecaa.Frame
open Go.RowKit Go.Proofs.Ytimdbljagpbecaa.Sha Go.Proofs.Ytimdbljagpbecaa.Wire

/-- a frame, its body in memory -/
def Fr (w : World) (A : Option Addr) (n : Nat) (f : FV) : Prop := Rd w A n f.body
def frv (f : FV) (A : Option Addr) (n c : Nat) : Value := .agg #[.int .i64 f.kind, .int .i64 f.gen, .int .i64 f.seq, .slice A n c]

def PutPost (t : Nat) (f : FV) (w : World) (x : Ending) (w' : World) : Prop := ∃ A n c, x = .returned (.tuple #[.slice A n c, .int .i64 (putF f).1]) ∧ n ≤ c ∧ c ≤ maxLen ∧ Rd w' A n (putF f).2 ∧ (∀ F : List Nat, (∀ k ∈ F, k < w.heap.size) → Off A n F) ∧ Tab w' t ∧ Bar [t] w w'
def GetPost (t : Nat) (g : FV × Int × Int) (w : World) (x : Ending) (w' : World) : Prop := ∃ A n c, x = .returned (.tuple #[frv g.1 A n c, .int .i64 g.2.1, .int .i64 g.2.2]) ∧ n ≤ c ∧ c ≤ maxLen ∧ Rd w' A n g.1.body ∧ (∀ F : List Nat, (∀ k ∈ F, k < w.heap.size) → Off A n F) ∧ Tab w' t ∧ Bar [t] w w'
theorem ftab_lt {w : World} {t : Nat} (h : Tab w t) : t < w.heap.size := by
  rcases h with h | h <;> exact Blk.lt h
theorem ftab_below {w w' : World} {t B : Nat} (h : Tab w t) (b : Below B w w') (hB : t < B) : Tab w' t := by
  rcases h with h | h
  · exact .inl (Blk.below h b hB)
  · exact .inr (Blk.below h b hB)
theorem ftab_bar {w w' : World} {t : Nat} {l : List Nat} (h : Tab w t) (b : Bar l w w') (hl : t ∉ l) : Tab w' t := by
  rcases h with h | h
  · exact .inl (Blk.bar h b hl)
  · exact .inr (Blk.bar h b hl)
end Go.Proofs.Ytimdbljagpbecaa.Frame

/-
  The contracts that package frame's calls must meet.
-/

namespace Go.Proofs.Ytimdbljagpbecaa.Frame
open Go.RowKit Go.Proofs.Ytimdbljagpbecaa.Sha Go.Proofs.Ytimdbljagpbecaa.Wire

structure FrameApi : Prop where
  sectors : ∀ (n : Int) (w : World), Calls Try.prog 13 #[.int .i64 n] w fun e w' => e = .returned (.int .i64 (sectorsF n)) ∧ w = w'
  put : ∀ {w : World} {t : Nat} {f : FV} {A : Option Addr} {n c : Nat}, Tab w t → Rd w A n f.body → n ≤ c → c ≤ maxLen → n ≤ 100000 → Off A n [t] → Calls Try.prog 9 #[.pointer (some ⟨t, 0, none⟩), frv f A n c] w (PutPost t f w)
  get : ∀ {w : World} {t : Nat} {b : List Int} {A : Option Addr} {n c : Nat}, Tab w t → Rd w A n b → n ≤ c → c ≤ maxLen → n ≤ 100000 → Off A n [t] → Calls Try.prog 15 #[.pointer (some ⟨t, 0, none⟩), .slice A n c] w (GetPost t (getF b) w)
end Go.Proofs.Ytimdbljagpbecaa.Frame

/-
  Two lists of bytes held against each other by the document's own Bytes.
-/




namespace Go.Proofs.Ytimdbljagpbecaa.Sha
open Go.RowKit

theorem conv_same {w : World} {A : Option Addr} {n cap : Nat} {xs : List Int} (r : Rd w A n xs) :
    (convert 22 9 (.slice A n cap)).run Try.prog w = .ok (.string (strOfNums xs)) w := by
  obtain ⟨h1, h2, h3⟩ := r
  by_cases h0 : n = 0
  · subst h0
    obtain rfl : xs = [] := List.eq_nil_of_length_eq_zero h1
    cases A with
    | none => exact run_convert_bytes_nil w _ _ Try.underlying22 Try.underlying5 0 cap _ Try.underlying9
    | some a =>
      have hl : (loadCells a 0).run Try.prog w = .ok (([] : List Int).map (Value.int .u8)).toArray w := by simp [loadCells, loadCellsFrom]
      rw [run_convert_bytes_string w _ _ 5 _ 0 cap Try.underlying22 Try.underlying5 Try.underlying9, run_bytesToString w _ 0 cap [] hl]
      simp [strOfNums, ByteArray.empty, ByteArray.emptyWithCapacity]
      rfl
  · rcases h3 with h3 | ⟨b, o, rfl, hc⟩
    · exact absurd h3 h0
    · exact run_convert_bytes_arg w _ _ Try.underlying22 Try.underlying5 b o n cap xs h1 hc _ Try.underlying9
set_option maxRecDepth 100000 in
set_option maxHeartbeats 400000 in
theorem bytes_same (A B : Option Addr) (n m c d : Nat) (xs : List Int) (w : World) (ha : Rd w A n xs) (hb : Rd w B m xs) :
    Calls Try.prog 12 #[.slice A n c, .slice B m d] w fun e w' => e = .returned (.bool true) ∧ w = w' := by
  have c1 := conv_same (cap := c) ha
  have c2 := conv_same (cap := d) hb
  generalize strOfNums xs = s at *
  clear ha hb
  go_enter Try.func12, Try.ntmps12
  go_wp2
  go_ret
  exact ⟨rfl, rfl⟩
theorem strOfNums_inj {xs ys : List Int} (hx : Bytes xs) (hy : Bytes ys) (h : (strOfNums xs).toList = (strOfNums ys).toList) : xs = ys := by
  have h1 : (xs.map fun n => UInt8.ofNat n.toNat) = ys.map fun n => UInt8.ofNat n.toNat := by
    rw [Lib.strOfNums_toList, Lib.strOfNums_toList] at h
    exact h
  have hl : xs.length = ys.length := by simpa using congrArg List.length h1
  apply List.ext_getElem hl
  intro i a b
  have h2 : UInt8.ofNat (xs[i]).toNat = UInt8.ofNat (ys[i]).toNat := by
    have := congrArg (fun l => l[i]?) h1
    simpa [a, b] using this
  have bx := hx xs[i] (List.getElem_mem a)
  have byy := hy ys[i] (List.getElem_mem b)
  have h3 := congrArg UInt8.toNat h2
  simp only [UInt8.toNat_ofNat'] at h3
  omega
set_option maxRecDepth 100000 in
set_option maxHeartbeats 400000 in
theorem bytes_any (A B : Option Addr) (n m c d : Nat) (xs ys : List Int) (w : World) (ha : Rd w A n xs) (hb : Rd w B m ys) :
    Calls Try.prog 12 #[.slice A n c, .slice B m d] w fun e w' => e = .returned (.bool (sameB xs ys)) ∧ w = w' := by
  by_cases he : xs = ys
  · subst he
    rw [sameB_self]
    exact bytes_same A B n m c d xs w ha hb
  · have hs : sameB xs ys = false := by unfold sameB; simpa using he
    rw [hs]
    have hne : ((strOfNums xs).toList == (strOfNums ys).toList) = false := by
      rw [beq_eq_false_iff_ne]
      exact fun h => he (strOfNums_inj ha.2.1 hb.2.1 h)
    have c1 := conv_same (cap := c) ha
    have c2 := conv_same (cap := d) hb
    generalize strOfNums xs = s at *
    generalize strOfNums ys = s2 at *
    clear ha hb he hs
    go_enter Try.func12, Try.ntmps12
    go_wp2
    go_ret
    exact ⟨rfl, rfl⟩
end Go.Proofs.Ytimdbljagpbecaa.Sha

/-
  Pieces of a row of bytes: s[l:h], s[l:], s[:h].
-/


namespace Go.Proofs.Ytimdbljagpbecaa.Sha
open Go.RowKit

theorem Rd.piece {w : World} {A : Option Addr} {n c : Nat} {xs : List Int} (r : Rd w A n xs) (hc : n ≤ c) (l h : Nat) (h1 : l ≤ h) (h2 : h ≤ n) :
    Rd w (if c = l then A else A.map (·.add (l * 1))) (h - l) ((xs.take h).drop l) ∧ ∀ F, Off A n F → Off (if c = l then A else A.map (·.add (l * 1))) (h - l) F := by
  obtain ⟨r1, r2, r3⟩ := r
  have e1 : ((xs.take h).drop l).length = h - l := by simp [List.length_drop, List.length_take, r1]; omega
  have e2 : Bytes ((xs.take h).drop l) := (Bytes.take r2 h).drop l
  by_cases h0 : h - l = 0
  · rw [h0] at e1 ⊢
    exact ⟨⟨e1, e2, .inl rfl⟩, fun F _ => .inl rfl⟩
  · have hcl : ¬ c = l := by omega
    rw [if_neg hcl, Nat.mul_one]
    obtain ⟨b, o, rfl, hcell⟩ := r3.resolve_left (by omega)
    have ea : (⟨b, o, none⟩ : Addr).add l = ⟨b, o + l, none⟩ := by cases l <;> simp [Addr.add]
    simp only [Option.map_some, ea]
    refine ⟨⟨e1, e2, .inr ⟨b, o + l, rfl, fun i hi => ?_⟩⟩, fun F hF => .inr ?_⟩
    · have := hcell (l + i) (by omega)
      rw [Nat.add_assoc, this, at_drop, at_take (by omega)]
    · rcases hF with hF | ⟨g, o', hA, hg⟩
      · omega
      · injection hA with hA
        injection hA with hA _
        subst hA
        exact ⟨b, o + l, rfl, hg⟩

theorem elem_u8 : Try.prog.elem 22 = 5 := by kernel_rfl
theorem und_u8 : Try.prog.underlying 22 = some (.slice (Try.prog.elem 22)) := by rw [elem_u8]; exact Try.underlying22
theorem size_u8 (w : World) : (sizeOf (Try.prog.elem 22)).run Try.prog w = .ok 1 w := by
  obtain ⟨iu, hi, _, hz1, _⟩ := info_parts info_u8
  rw [elem_u8]
  simp [sizeOf, typeInfo, hi, hz1]

theorem slice_lh {w : World} {A : Option Addr} {n c : Nat} {xs : List Int} (r : Rd w A n xs) (hc : n ≤ c) (l h : Nat) (h1 : l ≤ h) (h2 : h ≤ n) (li hi : Int) (e1 : li = l) (e2 : hi = h) :
    ∃ A', (∀ w', (Instr.slice 22 (.slice A n c) (some (.int .i64 li)) (some (.int .i64 hi)) none).run Try.prog w' = .ok (.slice A' (h - l) (c - l)) w') ∧ Rd w A' (h - l) ((xs.take h).drop l) ∧ ∀ F, Off A n F → Off A' (h - l) F := by
  refine ⟨_, fun w' => ?_, r.piece hc l h h1 h2⟩
  subst e1 e2
  rw [run_slice_lh w' 22 A n c und_u8 .i64 .i64 l h (by omega) (by omega) (by omega), size_u8]
  rfl
theorem slice_l {w : World} {A : Option Addr} {n c : Nat} {xs : List Int} (r : Rd w A n xs) (hc : n ≤ c) (l : Nat) (h1 : l ≤ n) (li : Int) (e1 : li = l) :
    ∃ A', (∀ w', (Instr.slice 22 (.slice A n c) (some (.int .i64 li)) none none).run Try.prog w' = .ok (.slice A' (n - l) (c - l)) w') ∧ Rd w A' (n - l) (xs.drop l) ∧ ∀ F, Off A n F → Off A' (n - l) F := by
  have hp := r.piece hc l n h1 (Nat.le_refl _)
  rw [show xs.take n = xs from List.take_of_length_le (by rw [r.1]; exact Nat.le_refl _)] at hp
  refine ⟨_, fun w' => ?_, hp⟩
  subst e1
  rw [run_slice_l w' 22 A n c und_u8 .i64 l (by omega) (by omega), size_u8]
  rfl
theorem slice_h {w : World} {A : Option Addr} {n c : Nat} {xs : List Int} (r : Rd w A n xs) (hc : n ≤ c) (h : Nat) (h2 : h ≤ n) (hi : Int) (e2 : hi = h) :
    ∃ A', (∀ w', (Instr.slice 22 (.slice A n c) none (some (.int .i64 hi)) none).run Try.prog w' = .ok (.slice A' h c) w') ∧ Rd w A' h (xs.take h) ∧ ∀ F, Off A n F → Off A' h F := by
  have hp := r.piece hc 0 h (Nat.zero_le _) h2
  rw [List.drop_zero, Nat.sub_zero] at hp
  refine ⟨_, fun w' => ?_, hp⟩
  subst e2
  rw [run_slice_h w' 22 A n c und_u8 .i64 h (by omega) (by omega), size_u8]
  rfl
end Go.Proofs.Ytimdbljagpbecaa.Sha

/-
  Enc and Dec in memory, of package wire or the document's own (T says which).
-/






namespace Go.Proofs.Ytimdbljagpbecaa.Wire
open Go.RowKit Go.Proofs.Ytimdbljagpbecaa.Sha

theorem shr_fits (n s : Int) (h1 : 1 ≤ s) (h8 : s ≤ 8) (h0 : 0 ≤ n) (hm : n ≤ 4611686018427387904) : (n / 2 ^ (8 * s).toNat == 0) = fits n s := by
  obtain ⟨k, rfl⟩ : ∃ k : Nat, s = k := ⟨s.toNat, by omega⟩
  obtain ⟨m, rfl⟩ : ∃ m : Nat, n = m := ⟨n.toNat, by omega⟩
  have e : (8 * (k : Int)).toNat = 8 * k := by omega
  rw [e]
  have h2 : ((m : Int) / 2 ^ (8 * k)) = ((m / 256 ^ k : Nat) : Int) := by
    rw [← shr_byte]; push_cast; rfl
  rw [h2]
  unfold fits
  by_cases h : m < 256 ^ k
  · rw [Nat.div_eq_of_lt h]
    have h3 : (m : Int) < 256 ^ (k : Int).toNat := by
      have := Int.ofNat_lt.2 h
      rw [Int.natCast_pow] at this
      exact this
    rw [decide_eq_true (show 1 ≤ (k : Int) ∧ (k : Int) ≤ 8 ∧ 0 ≤ (m : Int) ∧ (m : Int) ≤ 4611686018427387904 ∧ (m : Int) < 256 ^ (k : Int).toNat from ⟨h1, h8, h0, hm, h3⟩)]
    rfl
  · have h4 : 0 < m / 256 ^ k := Nat.div_pos (by omega) (Nat.pow_pos (by omega))
    have h3 : ¬ (m : Int) < 256 ^ (k : Int).toNat := by
      intro hc
      apply h
      apply Int.ofNat_lt.1
      rw [Int.natCast_pow]
      exact hc
    rw [decide_eq_false (show ¬ (1 ≤ (k : Int) ∧ (k : Int) ≤ 8 ∧ 0 ≤ (m : Int) ∧ (m : Int) ≤ 4611686018427387904 ∧ (m : Int) < 256 ^ (k : Int).toNat) from fun hc => h3 hc.2.2.2.2)]
    generalize m / 256 ^ k = q at h4 ⊢
    exact beq_eq_false_iff_ne.2 (by omega)
/-- an Enc at block e: what was written, the first error; its blocks -/
def En (T : TypeId) (w : World) (F : List Nat) (e : Nat) (st : St) : Prop := ∃ v, Blk w e T #[v, .int .i64 st.1] ∧ w.ownsRow 0 5 1 v st.2.length (ints .u8 st.2) ∧ F = e :: v.ownBlock.toList
theorem En.lt {T : TypeId} {w : World} {F : List Nat} {e : Nat} {st : St} (h : En T w F e st) : ∀ k ∈ F, k < w.heap.size := by
  obtain ⟨v, h1, h2, rfl⟩ := h
  intro k hk
  rcases List.mem_cons.1 hk with rfl | hk
  · exact h1.lt
  · exact own_lt h2 k hk
theorem En.keep {T : TypeId} {w w' : World} {F G : List Nat} {e : Nat} {st : St} (h : En T w F e st) (b : Bar G w w') (d : Disj F G) : En T w' F e st := by
  obtain ⟨v, h1, h2, rfl⟩ := h
  exact ⟨v, h1.bar b (d _ (List.mem_cons_self ..)), own_keep h2 b (fun g hg => d g (List.mem_cons_of_mem _ hg)), rfl⟩
theorem En.below {T : TypeId} {w w' : World} {F : List Nat} {e : Nat} {st : St} (h : En T w F e st) (b : Below w.heap.size w w') : En T w' F e st := h.keep (barOf b []) (fun _ _ => by simp)

/-- what was grown is stored where it was read -/
theorem en_store {T : TypeId} (hT : 5 ≠ T) {wr wm w1 : World} {e : Nat} {v v' : Value} {err : Int} {n : Nat} {ys : List Int} (hb : Blk wr e T #[v, .int .i64 err]) (hm : Bar [] wr wm) (hg : wm.grownBy w1 v.ownBlock) (hfar : v.ownBlock ≠ some e)
    (ho : w1.ownsRow 0 5 1 v' n (ints .u8 ys)) (hat : v'.ownBlock = v.ownBlock ∨ ∃ g, v'.ownBlock = some g ∧ wr.heap.size ≤ g) :
    En T (w1.setCell ⟨e, 0, none⟩ v') (e :: v'.ownBlock.toList) e (err, ys) ∧ Fp (e :: v.ownBlock.toList) (e :: v'.ownBlock.toList) wr (w1.setCell ⟨e, 0, none⟩ v') := by
  obtain rfl : n = ys.length := by have := ho.1; rw [ints_len] at this; omega
  have b1 : Blk w1 e T #[v, .int .i64 err] := (hb.bar hm (by simp)).grown hg (Ne.symm hfar)
  have hne : v'.ownBlock ≠ some e := own_far ho b1 hT
  refine ⟨⟨v', b1.set_ 0 _, own_keep ho ((Bar.refl [e] w1).setCell (by simp) _) (fun g hg2 hm2 => hne ?_), rfl⟩, ?_, ?_⟩
  · simp at hm2 hg2; rw [hg2, hm2]
  · refine Bar.setCell ?_ (.inl (by simp)) _
    exact (hm.mono (l' := e :: v.ownBlock.toList) (by simp)).grown hg (fun k hk => .inl (by simp [hk]))
  · intro k hk
    rcases List.mem_cons.1 hk with rfl | hk
    · exact .inl (List.mem_cons_self ..)
    · rcases hat with hat | ⟨g, hat, hge⟩
      · rw [hat] at hk; exact .inl (List.mem_cons_of_mem _ hk)
      · rw [hat] at hk; simp at hk; subst hk; exact .inr hge
theorem byte_is (n j : Nat) : IntKind.u8.wrap ((n : Int) / 2 ^ (8 * (j : Int)).toNat) = ((n / 256 ^ j % 256 : Nat) : Int) := by
  rw [IntKind.wrap_u8, show (8 * (j : Int)).toNat = 8 * j by omega, ← shr_byte, Int.natCast_emod, Int.natCast_ediv, Int.natCast_pow]
  rfl
theorem val_step (xs : List Int) (k : Nat) (hk : k < xs.length) : val (xs.take (k + 1)) = val (xs.take k) * 256 + (at_ xs k).toNat := by
  rw [List.take_succ_eq_append_getElem hk, val, valA_append]
  simp only [valA]
  rw [show at_ xs k = xs[k] by simp [at_, hk]]
  rfl
theorem val_take_lt (xs : List Int) (hb : Bytes xs) (k : Nat) (hk : k ≤ xs.length) : val (xs.take k) < 256 ^ k := by
  have := val_lt (xs.take k) (hb.take k)
  rwa [List.length_take, Nat.min_eq_left hk] at this
/-- a byte more, as the program reckons it -/
theorem or_step (v : Nat) (x : Int) (hx : 0 ≤ x ∧ x ≤ 255) (hv : v < 72057594037927936) : bits .or .u64 ((v : Int) * 256) x = ((v * 256 + x.toNat : Nat) : Int) := by
  rw [u64_or _ _ (by omega) (by omega) (by omega) (by omega)]
  congr 1
  rw [show ((v : Int) * 256).toNat = v * 256 by omega]
  exact nat_join 8 (v * 256) x.toNat (by omega) (by omega)

/-- a Dec at block d: what is left, the first error; it reads out of the blocks G -/
def De (T : TypeId) (w : World) (d : Nat) (G : List Nat) (st : St) : Prop :=
  (∀ k ∈ G, k < w.heap.size) ∧ ∃ A c, Blk w d T #[.slice A st.2.length c, .int .i64 st.1] ∧ Rd w A st.2.length st.2 ∧ st.2.length ≤ c ∧ c ≤ 9223372036854775807 ∧ ∀ F : List Nat, Disj G F → Off A st.2.length F
theorem De.lt {T : TypeId} {w : World} {d : Nat} {G : List Nat} {st : St} (h : De T w d G st) : d < w.heap.size := by
  obtain ⟨-, A, c, h1, -⟩ := h
  exact h1.lt
theorem De.lts {T : TypeId} {w : World} {d : Nat} {G : List Nat} {st : St} (h : De T w d G st) : ∀ k ∈ d :: G, k < w.heap.size := fun k hk => by
  rcases List.mem_cons.1 hk with rfl | hk
  · exact h.lt
  · exact h.1 k hk
theorem De.bytes {T : TypeId} {w : World} {d : Nat} {G : List Nat} {st : St} (h : De T w d G st) : Bytes st.2 := by
  obtain ⟨-, A, c, h1, h2, -⟩ := h
  exact h2.2.1
theorem De.keep {T : TypeId} {w w' : World} {d : Nat} {G : List Nat} {st : St} {F : List Nat} (h : De T w d G st) (b : Bar F w w') (hd : d ∉ F) (hg : Disj G F) : De T w' d G st := by
  obtain ⟨h0, A, c, h1, h2, h3, h4, h5⟩ := h
  exact ⟨fun k hk => Nat.lt_of_lt_of_le (h0 k hk) b.size, A, c, h1.bar b hd, h2.far b (h5 F hg), h3, h4, h5⟩
theorem De.below {T : TypeId} {w w' : World} {d : Nat} {G : List Nat} {st : St} (h : De T w d G st) (b : Below w.heap.size w w') : De T w' d G st := h.keep (barOf b []) (by simp) (fun _ _ => by simp)
/-- what is left and the error stored anew -/
theorem De.set {T : TypeId} {w w' : World} {d : Nat} {G : List Nat} {st' : St} {A : Option Addr} {n c : Nat} (hG : ∀ k ∈ G, k < w.heap.size) (hd : d ∉ G) (hn : n = st'.2.length) (hb : Blk w' d T #[.slice A n c, .int .i64 st'.1]) (hbar : Bar [d] w w') (hr : Rd w A n st'.2) (hc : n ≤ c) (hm : c ≤ 9223372036854775807) (ho : ∀ F : List Nat, Disj G F → Off A n F) : De T w' d G st' := by
  subst hn
  exact ⟨fun k hk => Nat.lt_of_lt_of_le (hG k hk) hbar.size, A, c, hb, hr.far hbar (ho _ (fun k hk => by simp; rintro rfl; exact hd hk)), hc, hm, ho⟩

theorem decNum_yes (xs : List Int) (s : Nat) (h1 : 1 ≤ s) (h8 : s ≤ 8) (h : s ≤ xs.length ∧ val (xs.take s) ≤ 4611686018427387904) : decNum (0, xs) s = (((val (xs.take s) : Nat) : Int), (0, xs.drop s)) := by
  unfold decNum
  simp only [if_true, Int.toNat_natCast]
  rw [if_pos (by omega), if_pos h]
theorem decNum_no (xs : List Int) (s : Nat) (h1 : 1 ≤ s) (h8 : s ≤ 8) (h : ¬ (s ≤ xs.length ∧ val (xs.take s) ≤ 4611686018427387904)) : decNum (0, xs) s = (0, (2, xs)) := by
  unfold decNum
  simp only [if_true, Int.toNat_natCast]
  rw [if_pos (by omega), if_neg h]
/-- the block that an argument's bytes lie in -/
theorem arg_block {w : World} {A : Option Addr} {n : Nat} {xs : List Int} (r : Rd w A n xs) : ∃ G : List Nat, (∀ k ∈ G, k < w.heap.size) ∧ ∀ F : List Nat, Disj G F → Off A n F := by
  rcases r.2.2 with h0 | ⟨b, o, rfl, hc⟩
  · exact ⟨[], by simp, fun F _ => .inl h0⟩
  · by_cases h0 : n = 0
    · exact ⟨[], by simp, fun F _ => .inl h0⟩
    · exact ⟨[b], by
        intro k hk
        rw [List.mem_singleton] at hk
        subst hk
        exact World.block_lt_of_cell? _ _ (hc 0 (by omega)), fun F hF => .inr ⟨b, o, rfl, hF b (by simp)⟩⟩
theorem cell_bar {w w' : World} {l : List Nat} {b i : Nat} {v : Value} (h : w.cell? ⟨b, i, none⟩ = some v) (k : Bar l w w') (hb : b ∉ l) : w'.cell? ⟨b, i, none⟩ = some v := by
  rw [← h]; exact World.cell?_of_block (k.block b (World.block_lt_of_cell? _ _ h) hb)
end Go.Proofs.Ytimdbljagpbecaa.Wire

/-
  'size == 8 || n < 1<<uint(8*size)', as the document reckons it.
-/


namespace Go.Proofs.Ytimdbljagpbecaa.Wire
open Go.RowKit Go.Proofs.Ytimdbljagpbecaa.Sha

/-- what the law reckons: does it go? -/
theorem fits_code (n s : Int) (h1 : 1 ≤ s) (h8 : s < 8) (h0 : 0 ≤ n) (hm : n ≤ 4611686018427387904) : decide (n < 2 ^ (8 * s).toNat) = fits n s := by
  obtain ⟨k, rfl⟩ : ∃ k : Nat, s = k := ⟨s.toNat, by omega⟩
  rw [show (8 * (k : Int)).toNat = 8 * k by omega]
  unfold fits
  apply decide_eq_decide.2
  have e : (2 : Int) ^ (8 * k) = 256 ^ (k : Int).toNat := by
    rw [Int.toNat_natCast, Int.pow_mul]; rfl
  rw [e]
  exact ⟨fun h => ⟨h1, by omega, h0, hm, h⟩, fun h => h.2.2.2.2⟩
theorem errs_cases (n s : Int) : (1 ≤ s ∧ s ≤ 8 ∧ 0 ≤ n ∧ n ≤ 4611686018427387904 ∧ IntKind.u64.wrap (8 * s) = 8 * s ∧ IntKind.i64.wrap (8 * s) = 8 * s ∧ Kept ((s == 8 || decide (n < wrap64 (2 ^ (8 * s).toNat))) = fits n s)) ∨
      (fits n s = false ∧ (decide (1 ≤ s) = false ∨ (1 ≤ s ∧ decide (s ≤ 8) = false) ∨ (1 ≤ s ∧ s ≤ 8 ∧ decide (0 ≤ n) = false) ∨ (1 ≤ s ∧ s ≤ 8 ∧ 0 ≤ n ∧ decide (n ≤ 4611686018427387904) = false))) := by
    by_cases h1 : 1 ≤ s
    · by_cases h8 : s ≤ 8
      · by_cases h0 : 0 ≤ n
        · by_cases hm : n ≤ 4611686018427387904
          · refine .inl ⟨h1, h8, h0, hm, by rw [IntKind.wrap_u64]; omega, by rw [IntKind.wrap_i64]; omega, ⟨?_⟩⟩
            by_cases h : s = 8
            · subst h
              have hf : fits n 8 = true := decide_eq_true ⟨by omega, by omega, h0, hm, by
                have : (256 : Int) ^ (8 : Int).toNat = 18446744073709551616 := by decide +kernel
                rw [this]; omega⟩
              rw [hf]; rfl
            · rw [← fits_code n s h1 (by omega) h0 hm, beq_eq_false_iff_ne.2 h, Bool.false_or]
              have hk : s = 1 ∨ s = 2 ∨ s = 3 ∨ s = 4 ∨ s = 5 ∨ s = 6 ∨ s = 7 := by omega
              have hw : wrap64 (2 ^ (8 * s).toNat) = 2 ^ (8 * s).toNat := by
                rcases hk with rfl | rfl | rfl | rfl | rfl | rfl | rfl <;> decide +kernel
              rw [hw]
          · exact .inr ⟨decide_eq_false (fun hc => hm hc.2.2.2.1), .inr (.inr (.inr ⟨h1, h8, h0, decide_eq_false hm⟩))⟩
        · exact .inr ⟨decide_eq_false (fun hc => h0 hc.2.2.1), .inr (.inr (.inl ⟨h1, h8, decide_eq_false h0⟩))⟩
      · exact .inr ⟨decide_eq_false (fun hc => h8 hc.2.1), .inr (.inl ⟨h1, decide_eq_false h8⟩)⟩
    · exact .inr ⟨decide_eq_false (fun hc => h1 hc.1), .inl (decide_eq_false h1)⟩
end Go.Proofs.Ytimdbljagpbecaa.Wire

/-
  The document's own Enc.
-/




namespace Go.Proofs.Ytimdbljagpbecaa.Wire
open Go.RowKit Go.Proofs.Ytimdbljagpbecaa.Sha

set_option maxRecDepth 100000 in
set_option maxHeartbeats 1000000 in
theorem rfits_any (n s : Int) (w : World) : Calls Try.prog 38 #[.int .i64 n, .int .i64 s] w fun e w' => e = .returned (.bool (fits n s)) ∧ w = w' := by
  rcases errs_cases n s with ⟨h1, h8, h0, hm, hu, hi, HQ⟩ | ⟨hf, hc⟩
  · by_cases h9 : s = 8
    · subst h9
      have hf : fits n 8 = true := by rw [← HQ.out]; rfl
      rw [hf]
      clear HQ hf
      go_enter Try.func38, Try.ntmps38
      go_wp2
      go_ret
      exact ⟨rfl, rfl⟩
    · go_enter Try.func38, Try.ntmps38
      go_wp2
      go_ret
      exact ⟨by rw [← HQ.out]; rfl, rfl⟩
  · rw [hf]
    clear hf
    rcases hc with hc | ⟨hc1, hc⟩ | ⟨hc1, hc2, hc⟩ | ⟨hc1, hc2, hc3, hc⟩
    all_goals
      go_enter Try.func38, Try.ntmps38
      go_wp2
      go_ret
      exact ⟨rfl, rfl⟩

def PutPost (n s : Nat) (w : World) (e : Ending) (w' : World) : Prop := ∃ g c, e = .returned (.slice (some ⟨g, 0, none⟩) s c) ∧ w.heap.size ≤ g ∧ Rd w' (some ⟨g, 0, none⟩) s (be n s) ∧ Below w.heap.size w w'

set_option maxRecDepth 100000 in
set_option maxHeartbeats 1000000 in
theorem rput_any (n s : Nat) (w : World) (h1 : 1 ≤ s) (hs : s ≤ 8) : Calls Try.prog 53 #[.int .i64 n, .int .i64 s] w (PutPost n s w) := by
  go_enter Try.func53, Try.ntmps53
  go_wp2
  go_loopw [5, 6] (fun v i wr => ∃ (k : Nat) (cur : List Int) (u : Value), k ≤ s ∧ u = v ∧ i = .int .i64 ((k : Int) - 1) ∧ Kept (cur ++ be n k = be n s) ∧ Kept (wr.ownsRow w.heap.size 5 1 u cur.length (ints .u8 cur)) ∧ Kept (Below w.heap.size w wr)) (fun _ i _ => (intOf i + 1).toNat)
  case atStart => exact ⟨s, [], _, by omega, rfl, by go_num, ⟨rfl⟩, ⟨World.ownsRow_nil _ _ _ _⟩, ⟨Below.refl _ _⟩⟩
  case round =>
    obtain ⟨k, cur, v, hk, rfl, rfl, HC, OW, BW⟩ := hrel
    have hsz : cur.length + k = s := by
      have := congrArg List.length HC.out
      simpa only [List.length_append, be_len] using this
    by_cases h0 : k = 0
    · subst h0
      have hc := HC.out
      simp only [be, List.append_nil] at hc
      subst hc
      rw [be_len] at OW
      obtain ⟨g, cap, rfl, hg, -⟩ := OW.out.form (by omega)
      obtain ⟨A7, c7, e7, -, -, r7⟩ := own_rd OW.out (be_bytes n s)
      injection e7 with e7 _ e8
      subst e7 e8
      have R7 := Kept.mk r7
      clear r7 HC OW
      go_wp2
      go_ret
      exact ⟨g, cap, rfl, hg, R7.out, BW.out⟩
    · obtain ⟨j, rfl⟩ : ∃ j, k = j + 1 := ⟨k - 1, by omega⟩
      obtain ⟨b, hbb⟩ : ∃ b : Int, ((n / 256 ^ j % 256 : Nat) : Int) = b := ⟨_, rfl⟩
      have hb0 : 0 ≤ b ∧ b ≤ 255 := by
        have : n / 256 ^ j % 256 < 256 := Nat.mod_lt _ (by omega)
        omega
      have hB := byte_is n j
      have hm : IntKind.i64.wrap (8 * (j : Int)) = 8 * j := by rw [IntKind.wrap_i64]; omega
      have hu : IntKind.u64.wrap (8 * (j : Int)) = 8 * j := by rw [IntKind.wrap_u64]; omega
      rw [hbb] at hB
      have hB2 : IntKind.u8.wrap ((n : Int) / 2 ^ (8 * j)) = b := by rw [← hB, show (8 * (j : Int)).toNat = 8 * j by omega]
      have hbe : be n (j + 1) = b :: be n j := by rw [be, hbb]
      have HBE := Kept.mk hbe
      clear hbb hbe
      go_wp2_with ((with_reducible refine sel 21 ?_); refine wpList_append_rd rfl (.tmp 13) (.tmp 20) 22 rfl w.heap.size 5 Try.underlying22 info_u8 v cur.length _ rfl (OW.out.alloc _) (some ⟨wr.heap.size, 0, none⟩) 1 1 [b] rfl (rd_one wr b hb0) (by omega) (by have := BW.out.size; simp; omega) ?_; intro v7 w7 o7 g7; have B7 := Kept.mk ((BW.out.alloc BW.out.size (.cells #[.int .u8 b] 5)).trans (own_below (OW.out.alloc (.cells #[.int .u8 b] 5)) g7 (by have := BW.out.size; simp; omega))); rw [← ints_append] at o7; have O7 := Kept.mk o7.out; clear o7 g7)
      go_roundw
      case rel =>
        refine ⟨j, cur ++ [b], v7, by omega, rfl, by go_num, ⟨?_⟩, ⟨?_⟩, B7⟩
        · have := HC.out
          rw [HBE.out] at this
          rw [List.append_assoc]
          exact this
        · rw [List.length_append]; exact O7.out
      case measure => simp [intOf]
end Go.Proofs.Ytimdbljagpbecaa.Wire

/-
  The document's own Enc: fail, Num, Raw, Bytes, Done.
-/

namespace Go.Proofs.Ytimdbljagpbecaa.Wire
open Go.RowKit Go.Proofs.Ytimdbljagpbecaa.Sha

def failE (st : St) (e : Int) : St := (if st.1 = 0 then e else st.1, st.2)
def rencNum (st : St) (n s : Int) : St := if fits n s = true then (st.1, st.2 ++ be n.toNat s.toNat) else failE st 1
def rencTxt (st : St) (b : List Int) : St := if b.length ≤ 65535 then (st.1, (st.2 ++ be b.length 2) ++ b) else failE st 3

set_option maxRecDepth 100000 in
set_option maxHeartbeats 1000000 in
theorem rfail_any (w : World) (F : List Nat) (e : Nat) (st : St) (err : Int) (h : En 83 w F e st) : Calls Try.prog 52 #[.pointer (some ⟨e, 0, none⟩), .int .i64 err] w fun x w' => x = .returned (.tuple #[]) ∧ En 83 w' F e (failE st err) ∧ Fp F F w w' := by
  obtain ⟨er, xs⟩ := st
  have HE := Kept.mk h
  obtain ⟨v, h1, h2, rfl⟩ := h
  have c1 : w.cell? ⟨e, 1, none⟩ = some (.int .i64 er) := h1.cell 1
  have z1 := h1.frozen 1
  have H1 := Kept.mk h1; have H2 := Kept.mk h2
  have hfar := Kept.mk (own_far h2 h1 (by decide))
  clear h1 h2
  by_cases he : er = 0
  · subst he
    go_enter Try.func52, Try.ntmps52
    go_wp2
    go_end0
    have hbar : Bar [e] w (w.setCell ⟨e, 1, none⟩ (.int .i64 err)) := (Bar.refl _ _).setCell (by simp) _
    refine ⟨rfl, ⟨v, H1.out.set_ 1 _, own_keep H2.out hbar (fun g hg hm => hfar.out ?_), rfl⟩, hbar.mono ?_, fun k hk => .inl hk⟩
    · simp at hg hm; rw [hg, hm]
    · intro x hx; simp at hx; simp [hx]
  · have HR := Kept.mk (show failE (er, xs) err = (er, xs) by unfold failE; simp [he])
    have he2 : (er == 0) = false := by simpa using he
    go_enter Try.func52, Try.ntmps52
    go_wp2
    go_end0
    rw [HR.out]
    exact ⟨rfl, HE.out, Fp.refl _ _⟩

set_option maxRecDepth 100000 in
set_option maxHeartbeats 1000000 in
theorem rraw_any (w : World) (F : List Nat) (e : Nat) (A : Option Addr) (m c : Nat) (b : List Int) (st : St) (h : En 83 w F e st) (hr : Rd w A m b) (hl : st.2.length + m ≤ 4294967296) :
    Calls Try.prog 39 #[.pointer (some ⟨e, 0, none⟩), .slice A m c] w fun x w' => x = .returned (.tuple #[]) ∧ ∃ F', En 83 w' F' e (st.1, st.2 ++ b) ∧ Fp F F' w w' := by
  obtain ⟨er, xs⟩ := st
  obtain ⟨v, hb, ho, hG⟩ := h
  have c0 : w.cell? ⟨e, 0, none⟩ = some v := hb.cell 0
  have HB := Kept.mk hb; have HO := Kept.mk ho; have HR := Kept.mk hr
  have hfar := own_far ho hb (by decide)
  simp only at hl
  clear hb ho hr
  go_enter Try.func39, Try.ntmps39
  go_wp2_with ((with_reducible refine sel 10 ?_); refine wpList_append_rda rfl (.tmp 8) (.tmp 9) 22 rfl 0 5 Try.underlying22 info_u8 v xs.length _ rfl HO.out A m c b rfl HR.out hl (by omega) ?_; intro v7 w7 o7 g7 a7; obtain ⟨A7, c7, rfl⟩ := own_shape o7.out; have d0 : w7.cell? ⟨e, 0, none⟩ = some v := (HB.out.grown g7 (Ne.symm hfar)).cell 0; have z0 : w7.frozen? ⟨e, 0, none⟩ = false := (HB.out.grown g7 (Ne.symm hfar)).frozen 0)
  go_end0
  have hst := en_store (by decide) HB.out (Bar.refl [] w) g7 hfar (ys := xs ++ b) (by
      have := o7.out
      rw [← ints_append] at this
      exact this) (by
      rcases a7 with h | h
      · exact .inl h
      · exact .inr ⟨_, h, Nat.le_refl _⟩)
  subst hG
  exact ⟨rfl, _, hst.1, hst.2⟩

set_option maxRecDepth 100000 in
set_option maxHeartbeats 1000000 in
theorem rnum_any (w : World) (F : List Nat) (e : Nat) (n s : Int) (st : St) (h : En 83 w F e st) (hl : st.2.length ≤ 2147483648) :
    Calls Try.prog 40 #[.pointer (some ⟨e, 0, none⟩), .int .i64 n, .int .i64 s] w fun x w' => x = .returned (.tuple #[]) ∧ ∃ F', En 83 w' F' e (rencNum st n s) ∧ Fp F F' w w' := by
  obtain ⟨er, xs⟩ := st
  have HE := Kept.mk h
  have cf := Kept.mk fun w => rfits_any n s w
  cases hf : fits n s with
  | false =>
    rw [hf] at cf
    have HR := Kept.mk (show rencNum (er, xs) n s = failE (er, xs) 1 by unfold rencNum; rw [hf]; simp)
    have cr := Kept.mk (rfail_any w F e (er, xs) 1 HE.out)
    clear hf h
    go_enter Try.func40, Try.ntmps40
    go_wp2_with (go_at_call 38; refine (cf.out _).mono ?_; rintro x w' ⟨rfl, rfl⟩)
    refine cr.out.mono ?_
    rintro x w' ⟨rfl, h1, h2⟩
    rw [← HR.out] at h1
    have H1 := Kept.mk h1; have H2 := Kept.mk h2
    clear h1 h2
    go_wp2
    (first | go_end0 | ((try simp only [Exit.inBlock, Exit.then]); refine bodyPost_ret (results_none rfl _ _ _) rfl ?_))
    exact ⟨rfl, _, H1.out, H2.out⟩
  | true =>
    rw [hf] at cf
    obtain ⟨-, -, h1, h8, h0⟩ := fits_be hf
    have HR := Kept.mk (show rencNum (er, xs) n s = (er, xs ++ be n.toNat s.toNat) by unfold rencNum; rw [hf]; simp)
    obtain ⟨v, hb, ho, hG⟩ := h
    have c0 : w.cell? ⟨e, 0, none⟩ = some v := hb.cell 0
    have z0 := hb.frozen 0
    obtain ⟨sz, hsz⟩ : ∃ sz : Nat, s = sz := ⟨s.toNat, by omega⟩
    obtain ⟨nn, hnn⟩ : ∃ nn : Nat, n = nn := ⟨n.toNat, by omega⟩
    subst hsz hnn
    simp only [Int.toNat_natCast] at HR
    have cp := Kept.mk fun w => rput_any nn sz w (by omega) (by omega)
    have HB := Kept.mk hb; have HO := Kept.mk ho
    have hfar := own_far ho hb (by decide)
    have hlt := hb.lt
    simp only at hl ho
    clear hb ho hf HE
    obtain ⟨iu, hi, hz0, hz1, hz2⟩ := info_parts info_u8
    go_enter Try.func40, Try.ntmps40
    go_wp2_with (go_at_call 38; refine (cf.out _).mono ?_; rintro x w' ⟨rfl, rfl⟩)
    go_region_law
      (first
        | (refine step_append_lies _ (by rfl) _ _ _ (by rfl) 0 5 iu _ 1 1 Try.underlying22 hi hz0 hz1 hz2 rfl (by omega) v xs.length (ints .u8 xs) (by rfl) HO8.out
            ⟨g8, 0, none⟩ sz c8 (ints .u8 (be nn sz)) (by rfl) (by rw [ints_len, be_len]; omega) HC8.out (ints_one _ _)
            (by omega) (by unfold maxLen; omega) (by omega) (by simp) w8.heap.size rfl ?_; intro gg cg w1 hown1 hgrow hat hlt1; have U0 := ((HB8.out.grown hgrow (Ne.symm hfar)).cell 0); have U1 := ((HB8.out.grown hgrow (Ne.symm hfar)).frozen 0))
        | (go_simp; go_at_call 53; refine (cp.out w.drew).mono ?_; rintro x w8 ⟨g8, c8, rfl, hg8, r8, b8⟩; have HB8 := Kept.mk (Blk.below HB.out.drew b8 hlt); have T0 := HB8.out.cell 0; have HO8 := Kept.mk (own_keep HO.out.drew (barOf b8 []) (by simp)); have HC8 := Kept.mk (rd_cells r8)))
    all_goals
      have hst := en_store (by decide) HB.out (barOf b8 []).drewL hgrow hfar (ys := xs ++ be nn sz) (by rw [ints_append]; exact hown1) (by
        rcases hat with h | h
        · exact .inl h.symm
        · exact .inr ⟨gg, rfl, by have := b8.size; simp at this; omega⟩)
      have HST := Kept.mk hst
      clear hst hgrow hown1 U0 U1 T0 HO8 HC8 HB8
      subst hG
      go_wp2
      go_end0
      rw [HR.out]
      exact ⟨rfl, _, HST.out.1, HST.out.2⟩
end Go.Proofs.Ytimdbljagpbecaa.Wire

/-
  The words of the table, the document's.
-/



namespace Go.Proofs.Ytimdbljagpbecaa.Sha
open Go.RowKit

set_option maxHeartbeats 400000 in
theorem rturn_any (x : Int) (k : Nat) (h1 : 1 ≤ k) (h2 : k ≤ 31) (hx : W32 x) (w : World) : Calls Try.prog 62 #[.int .u32 x, .int .u64 (k:Int)] w fun e w' => e = .returned (.int .u32 (rotr x k)) ∧ w = w' := by
  obtain ⟨hx1, hx2⟩ := hx
  go_enter Try.func62, Try.ntmps62
  go_wp2
  go_ret
  exact ⟨rfl, rfl⟩

def wordI (i : Int) : Int := if 0 ≤ i ∧ i < 64 then (kW i.toNat : Nat) else 0
def startI (i : Int) : Int := if 0 ≤ i ∧ i < 8 then (hW i.toNat : Nat) else 0

def KI : List Int := (List.range 64).map fun i => ((kW i : Nat) : Int)
def HI : List Int := (List.range 8).map fun i => ((hW i : Nat) : Int)
theorem KI_len : KI.length = 64 := by simp [KI]
theorem HI_len : HI.length = 8 := by simp [HI]
theorem KI_at (i : Nat) (h : i < 64) : at_ KI i = (kW i : Nat) := at_range _ _ _ h
theorem HI_at (i : Nat) (h : i < 8) : at_ HI i = (hW i : Nat) := at_range _ _ _ h

set_option maxRecDepth 100000 in
set_option maxHeartbeats 400000 in
theorem rstarts_any (w : World) : Calls Try.prog 55 #[] w fun e w' => e = .returned (.agg (arr .u32 HI)) ∧ Below w.heap.size w w' := by
  obtain ⟨N, hN⟩ : ∃ N, w.heap.size = N := ⟨_, rfl⟩
  go_enter Try.func55, Try.ntmps55
  go_upto_region 1 with (fail)
  apply wp_region_lit
  refine wpList_buildFlatArr rfl 61 51 8 _ rfl .u32 HI Try.underlying61 (by kernel_rfl) (by kernel_rfl) (by kernel_rfl) ?_
  refine wpList_store_row rfl 61 (.tmp 0) (.tmp 1) rfl N (arr .u32 HI) (by rw [← hN]; rfl) rfl 61 _ (Blk.new_at _ _ _ N hN.symm) (by rw [arr_size, HI_len]; kernel_rfl) (by rw [arr_size, HI_len]; rfl) (all_oneCell_toArray (ints_one _ _)) ?_
  have h3 := (Blk.new_at w 61 (List.replicate 8 (Value.int .u32 0)).toArray N hN.symm).row (arr .u32 HI)
  have b3 : Below N w ((w.alloc (.cells (List.replicate 8 (Value.int .u32 0)).toArray 61)).setRow N (arr .u32 HI)) := below_setRow ((Below.refl _ _).alloc (by omega) _) (Nat.le_refl _) _
  change wpList _ _ _ _ _ ((w.alloc (.cells (List.replicate 8 (Value.int .u32 0)).toArray 61)).setRow N (arr .u32 HI))
  generalize (w.alloc (.cells (List.replicate 8 (Value.int .u32 0)).toArray 61)).setRow N (arr .u32 HI) = w2 at *
  have H3 := Kept.mk h3
  have B3 := Kept.mk b3
  clear h3 b3
  go_wp2
  refine bodyPost_ret (v := .agg (arr .u32 HI)) (results_cell_row rfl _ _ N 61 _ (0, 0) _ rfl H3.out Try.underlying61 rfl (by rw [arr_size, HI_len]; kernel_rfl)) rfl ⟨rfl, by rw [hN]; exact B3.out⟩

set_option maxRecDepth 100000 in
set_option maxHeartbeats 400000 in
theorem rwords_any (w : World) : Calls Try.prog 54 #[] w fun e w' => e = .returned (.agg (arr .u32 KI)) ∧ Below w.heap.size w w' := by
  obtain ⟨N, hN⟩ : ∃ N, w.heap.size = N := ⟨_, rfl⟩
  go_enter Try.func54, Try.ntmps54
  go_upto_region 1 with (fail)
  apply wp_region_lit
  refine wpList_buildFlatArr rfl 60 51 64 _ rfl .u32 KI Try.underlying60 (by kernel_rfl) (by kernel_rfl) (by kernel_rfl) ?_
  refine wpList_store_row rfl 60 (.tmp 0) (.tmp 1) rfl N (arr .u32 KI) (by rw [← hN]; rfl) rfl 60 _ (Blk.new_at _ _ _ N hN.symm) (by rw [arr_size, KI_len]; kernel_rfl) (by rw [arr_size, KI_len]; rfl) (all_oneCell_toArray (ints_one _ _)) ?_
  have h3 := (Blk.new_at w 60 (List.replicate 64 (Value.int .u32 0)).toArray N hN.symm).row (arr .u32 KI)
  have b3 : Below N w ((w.alloc (.cells (List.replicate 64 (Value.int .u32 0)).toArray 60)).setRow N (arr .u32 KI)) := below_setRow ((Below.refl _ _).alloc (by omega) _) (Nat.le_refl _) _
  change wpList _ _ _ _ _ ((w.alloc (.cells (List.replicate 64 (Value.int .u32 0)).toArray 60)).setRow N (arr .u32 KI))
  generalize (w.alloc (.cells (List.replicate 64 (Value.int .u32 0)).toArray 60)).setRow N (arr .u32 KI) = w2 at *
  have H3 := Kept.mk h3
  have B3 := Kept.mk b3
  clear h3 b3
  go_wp2
  refine bodyPost_ret (v := .agg (arr .u32 KI)) (results_cell_row rfl _ _ N 60 _ (0, 0) _ rfl H3.out Try.underlying60 rfl (by rw [arr_size, KI_len]; kernel_rfl)) rfl ⟨rfl, by rw [hN]; exact B3.out⟩

end Go.Proofs.Ytimdbljagpbecaa.Sha

/-
  The document's own block of SHA-256, walked.
-/

namespace Go.Proofs.Ytimdbljagpbecaa.Sha
open Go.RowKit

theorem nxw_ref (y b x d : Int) : IntKind.u32.wrap (IntKind.u32.wrap (IntKind.u32.wrap (d + bits .xor .u32 (bits .xor .u32 (rotr x 7) (rotr x 18)) (x / 8)) + b) + bits .xor .u32 (bits .xor .u32 (rotr y 17) (rotr y 19)) (y / 1024)) = nxw y b x d := by
  unfold nxw near far
  simp only [IntKind.wrap_u32]
  omega
theorem rt (k : Nat) (x : Int) (hx : W32 x) (w : World) (h1 : 1 ≤ k) (h2 : k ≤ 31) : Calls Try.prog 62 #[.int .u32 x, .int .u64 (k : Int)] w fun e w' => e = .returned (.int .u32 (rotr x k)) ∧ w' = w := still_of (rturn_any x k h1 h2 hx w)
theorem rt7 (x : Int) (hx : W32 x) (w : World) : Calls Try.prog 62 #[.int .u32 x, .int .u64 7] w fun e w' => e = .returned (.int .u32 (rotr x 7)) ∧ w' = w := rt 7 x hx w (by omega) (by omega)
theorem rt18 (x : Int) (hx : W32 x) (w : World) : Calls Try.prog 62 #[.int .u32 x, .int .u64 18] w fun e w' => e = .returned (.int .u32 (rotr x 18)) ∧ w' = w := rt 18 x hx w (by omega) (by omega)
theorem rt17 (x : Int) (hx : W32 x) (w : World) : Calls Try.prog 62 #[.int .u32 x, .int .u64 17] w fun e w' => e = .returned (.int .u32 (rotr x 17)) ∧ w' = w := rt 17 x hx w (by omega) (by omega)
theorem rt19 (x : Int) (hx : W32 x) (w : World) : Calls Try.prog 62 #[.int .u32 x, .int .u64 19] w fun e w' => e = .returned (.int .u32 (rotr x 19)) ∧ w' = w := rt 19 x hx w (by omega) (by omega)
theorem rt6 (x : Int) (hx : W32 x) (w : World) : Calls Try.prog 62 #[.int .u32 x, .int .u64 6] w fun e w' => e = .returned (.int .u32 (rotr x 6)) ∧ w' = w := rt 6 x hx w (by omega) (by omega)
theorem rt11 (x : Int) (hx : W32 x) (w : World) : Calls Try.prog 62 #[.int .u32 x, .int .u64 11] w fun e w' => e = .returned (.int .u32 (rotr x 11)) ∧ w' = w := rt 11 x hx w (by omega) (by omega)
theorem rt25 (x : Int) (hx : W32 x) (w : World) : Calls Try.prog 62 #[.int .u32 x, .int .u64 25] w fun e w' => e = .returned (.int .u32 (rotr x 25)) ∧ w' = w := rt 25 x hx w (by omega) (by omega)
theorem rt2 (x : Int) (hx : W32 x) (w : World) : Calls Try.prog 62 #[.int .u32 x, .int .u64 2] w fun e w' => e = .returned (.int .u32 (rotr x 2)) ∧ w' = w := rt 2 x hx w (by omega) (by omega)
theorem rt13 (x : Int) (hx : W32 x) (w : World) : Calls Try.prog 62 #[.int .u32 x, .int .u64 13] w fun e w' => e = .returned (.int .u32 (rotr x 13)) ∧ w' = w := rt 13 x hx w (by omega) (by omega)
theorem rt22 (x : Int) (hx : W32 x) (w : World) : Calls Try.prog 62 #[.int .u32 x, .int .u64 22] w fun e w' => e = .returned (.int .u32 (rotr x 22)) ∧ w' = w := rt 22 x hx w (by omega) (by omega)

theorem blk8 {w : World} {M : Nat} {T : TypeId} {l : List Int} {x0 x1 x2 x3 x4 x5 x6 x7 y0 y1 y2 y3 y4 y5 y6 y7 : Int} (h : Blk w M T (arr .u32 l)) (hl : l.length = 8)
    (e0 : x0 = y0) (e1 : x1 = y1) (e2 : x2 = y2) (e3 : x3 = y3) (e4 : x4 = y4) (e5 : x5 = y5) (e6 : x6 = y6) (e7 : x7 = y7) :
    Blk ((((((((w.setCell ⟨M, 0, none⟩ (.int .u32 x0)).setCell ⟨M, 1, none⟩ (.int .u32 x1)).setCell ⟨M, 2, none⟩ (.int .u32 x2)).setCell ⟨M, 3, none⟩ (.int .u32 x3)).setCell ⟨M, 4, none⟩ (.int .u32 x4)).setCell ⟨M, 5, none⟩ (.int .u32 x5)).setCell ⟨M, 6, none⟩ (.int .u32 x6)).setCell ⟨M, 7, none⟩ (.int .u32 x7)) M T (arr .u32 [y0, y1, y2, y3, y4, y5, y6, y7]) := by
  subst e0 e1 e2 e3 e4 e5 e6 e7
  have k := ((((((((h.set_ 0 (.int .u32 x0)).set_ 1 (.int .u32 x1)).set_ 2 (.int .u32 x2)).set_ 3 (.int .u32 x3)).set_ 4 (.int .u32 x4)).set_ 5 (.int .u32 x5)).set_ 6 (.int .u32 x6)).set_ 7 (.int .u32 x7))
  simp only [arr_set] at k
  match l, hl with
  | [_, _, _, _, _, _, _, _], _ => exact k
theorem below8 {w0 w : World} {M B : Nat} (hB : B ≤ M) (v0 v1 v2 v3 v4 v5 v6 v7 : Value) (h : Below B w0 w) :
    Below B w0 ((((((((w.setCell ⟨M, 0, none⟩ v0).setCell ⟨M, 1, none⟩ v1).setCell ⟨M, 2, none⟩ v2).setCell ⟨M, 3, none⟩ v3).setCell ⟨M, 4, none⟩ v4).setCell ⟨M, 5, none⟩ v5).setCell ⟨M, 6, none⟩ v6).setCell ⟨M, 7, none⟩ v7) := by
  have q : ∀ (w1 : World) (i : Nat) (v : Value), Below B w0 w1 → Below B w0 (w1.setCell ⟨M, i, none⟩ v) := fun w1 i v hq => hq.setCell hB v
  exact q _ _ _ (q _ _ _ (q _ _ _ (q _ _ _ (q _ _ _ (q _ _ _ (q _ _ _ (q _ _ _ h)))))))

set_option maxRecDepth 100000 in
set_option maxHeartbeats 2000000 in
theorem block_any (hb kb bb bo cap : Nat) (s : S8) (hs : s.ok) (b : List Int) (w : World) (hby : Bytes b) (hne : hb ≠ kb)
    (hh : Blk w hb 61 (arr .u32 s.toL)) (hk : Blk w kb 60 (arr .u32 KI)) (hc : ∀ i, i < 64 → w.cell? ⟨bb, bo + i, none⟩ = some (.int .u8 (at_ b i))) :
    Calls Try.prog 56 #[.slice (some ⟨hb, 0, none⟩) 8 8, .slice (some ⟨kb, 0, none⟩) 64 64, .slice (some ⟨bb, bo, none⟩) 64 cap] w
      fun e w' => e = .returned (.tuple #[]) ∧ Blk w' hb 61 (arr .u32 (mixed s b).toL) ∧ Bar [hb] w w' := by
  obtain ⟨N, hN⟩ : ∃ N, w.heap.size = N := ⟨_, rfl⟩
  have hbb : bb < N := by have h := World.block_lt_of_cell? _ _ (hc 0 (by omega)); rw [hN] at h; exact h
  have hhb : hb < N := by rw [← hN]; exact hh.lt
  have hkb : kb < N := by rw [← hN]; exact hk.lt
  have Hc := Kept.mk hc
  have Hb := Kept.mk hby
  have Hh := Kept.mk hh
  have Hk := Kept.mk hk
  have Hs := Kept.mk hs
  have hne' := Kept.mk hne
  clear hc hby hh hk hs hne
  go_enter Try.func56, Try.ntmps56
  go_wp2
  go_loopw [7] (fun i wr => ∃ k : Nat, k ≤ 16 ∧ i = .int .i64 k ∧ Kept (Blk wr N 60 (arr .u32 (upto (at_ (sched b)) 64 k))) ∧ Below N w wr) (fun i _ => 16 - (intOf i).toNat)
  case atStart =>
    refine ⟨0, by omega, rfl, ⟨?_⟩, (Below.refl _ _).alloc (by omega) _⟩
    rw [zeros]; exact Blk.new_at w _ _ N hN.symm
  case round =>
    obtain ⟨k, hk, rfl, h2, hbl⟩ := hrel
    by_cases hlt : k < 16
    -- A<
    · have g0 : wr.cell? ⟨bb, bo + 4 * k, none⟩ = some (.int .u8 (at_ b (4 * k))) := (hbl.cell (p := ⟨bb, bo + 4 * k, none⟩) hbb).trans (Hc.out (4 * k) (by omega))
      have g1 : wr.cell? ⟨bb, bo + (4 * k + 1), none⟩ = some (.int .u8 (at_ b (4 * k + 1))) := (hbl.cell (p := ⟨bb, bo + (4 * k + 1), none⟩) hbb).trans (Hc.out (4 * k + 1) (by omega))
      have g2 : wr.cell? ⟨bb, bo + (4 * k + 2), none⟩ = some (.int .u8 (at_ b (4 * k + 2))) := (hbl.cell (p := ⟨bb, bo + (4 * k + 2), none⟩) hbb).trans (Hc.out (4 * k + 2) (by omega))
      have g3 : wr.cell? ⟨bb, bo + (4 * k + 3), none⟩ = some (.int .u8 (at_ b (4 * k + 3))) := (hbl.cell (p := ⟨bb, bo + (4 * k + 3), none⟩) hbb).trans (Hc.out (4 * k + 3) (by omega))
      have l0 := Hb.out.at_ (4 * k)
      have l1 := Hb.out.at_ (4 * k + 1)
      have l2 := Hb.out.at_ (4 * k + 2)
      have l3 := Hb.out.at_ (4 * k + 3)
      have Hw := sched_lo b k hlt
      have hc0 := h2.out.at_ k (by rw [upto_len]; omega)
      have hz0 := h2.out.frozen k
      unfold wordOf at Hw
      generalize at_ b (4 * k) = x0 at *
      generalize at_ b (4 * k + 1) = x1 at *
      generalize at_ b (4 * k + 2) = x2 at *
      generalize at_ b (4 * k + 3) = x3 at *
      replace Hw := Kept.mk Hw
      have k64 : (k : Int) < 64 := by omega
      have i0 : IntKind.i64.wrap (4 * (k : Int)) = 4 * (k : Int) := by rw [IntKind.wrap_i64]; omega
      have j0 : 4 * (k : Int) < 64 := by omega
      have n0 : (0 : Int) ≤ 4 * (k : Int) := by omega
      have t0 : (4 * (k : Int)).toNat = 4 * k := by omega
      have i1 : IntKind.i64.wrap (4 * (k : Int) + 1) = 4 * (k : Int) + 1 := by rw [IntKind.wrap_i64]; omega
      have j1 : 4 * (k : Int) + 1 < 64 := by omega
      have n1 : (0 : Int) ≤ 4 * (k : Int) + 1 := by omega
      have t1 : (4 * (k : Int) + 1).toNat = 4 * k + 1 := by omega
      have i2 : IntKind.i64.wrap (4 * (k : Int) + 2) = 4 * (k : Int) + 2 := by rw [IntKind.wrap_i64]; omega
      have j2 : 4 * (k : Int) + 2 < 64 := by omega
      have n2 : (0 : Int) ≤ 4 * (k : Int) + 2 := by omega
      have t2 : (4 * (k : Int) + 2).toNat = 4 * k + 2 := by omega
      have i3 : IntKind.i64.wrap (4 * (k : Int) + 3) = 4 * (k : Int) + 3 := by rw [IntKind.wrap_i64]; omega
      have j3 : 4 * (k : Int) + 3 < 64 := by omega
      have n3 : (0 : Int) ≤ 4 * (k : Int) + 3 := by omega
      have t3 : (4 * (k : Int) + 3).toNat = 4 * k + 3 := by omega
      have w0 : IntKind.u32.wrap x0 = x0 := by rw [IntKind.wrap_u32]; omega
      have w1 : IntKind.u32.wrap x1 = x1 := by rw [IntKind.wrap_u32]; omega
      have w2 : IntKind.u32.wrap x2 = x2 := by rw [IntKind.wrap_u32]; omega
      have w3 : IntKind.u32.wrap x3 = x3 := by rw [IntKind.wrap_u32]; omega
      have v0 : IntKind.u32.wrap (x0 * 16777216) = x0 * 16777216 := by rw [IntKind.wrap_u32]; omega
      have v1 : IntKind.u32.wrap (x1 * 65536) = x1 * 65536 := by rw [IntKind.wrap_u32]; omega
      have v2 : IntKind.u32.wrap (x2 * 256) = x2 * 256 := by rw [IntKind.wrap_u32]; omega
      go_wp2
      refine wp_region_still_tail 35 (by kernel_rfl) (by kernel_rfl) ?_
      simp only [List.take_succ_cons, List.take_zero, List.drop_succ_cons, List.drop_zero]
      repeat still_step
      refine wpStill_nil ?_
      change wpList _ _ _ _ _ wr.drew
      clear w0 w1 w2 w3 v0 v1 v2 i0 i1 i2 i3 j0 j1 j2 j3 n0 n1 n2 n3 t0 t1 t2 t3 g0 g1 g2 g3
      go_wp2
      go_roundw
      case rel =>
        refine ⟨k + 1, by omega, by go_num, ⟨?_⟩, (hbl.setCell (by simp) _).drew⟩
        have := h2.out.set_ k (.int .u32 (at_ (sched b) k))
        rw [arr_set, upto_set, Hw.out] at this
        exact this.drew
      case measure => simp [intOf]; omega
    -- >A
    · have ek : k = 16 := by omega
      rw [ek] at h2
      clear ek
      go_wp2
      go_loopw [8] (fun i wr => ∃ k : Nat, 16 ≤ k ∧ k ≤ 64 ∧ i = .int .i64 k ∧ Kept (Blk wr N 60 (arr .u32 (upto (at_ (sched b)) 64 k))) ∧ Below N w wr) (fun i _ => 64 - (intOf i).toNat)
      case atStart => exact ⟨16, by omega, by omega, rfl, h2, hbl⟩
      case round =>
        clear h2 hbl hk hlt
        obtain ⟨k, hk1, hk, rfl, h2, hbl⟩ := hrel
        by_cases hlt : k < 64
        -- B<
        · have hc0 := h2.out.at_ k (by rw [upto_len]; omega)
          have hz0 := h2.out.frozen k
          have c2 := h2.out.at_ (k - 2) (by rw [upto_len]; omega)
          have c7 := h2.out.at_ (k - 7) (by rw [upto_len]; omega)
          have c15 := h2.out.at_ (k - 15) (by rw [upto_len]; omega)
          have c16 := h2.out.at_ (k - 16) (by rw [upto_len]; omega)
          rw [upto_at _ _ _ _ (by omega), if_pos (by omega)] at c2 c7 c15 c16
          have Hw := sched_hi b k hk1 hlt
          have b2 := sched32 b (k - 2)
          have b7 := sched32 b (k - 7)
          have b15 := sched32 b (k - 15)
          have b16 := sched32 b (k - 16)
          generalize at_ (sched b) (k - 2) = y at *
          generalize at_ (sched b) (k - 7) = y7 at *
          generalize at_ (sched b) (k - 15) = x at *
          generalize at_ (sched b) (k - 16) = x16 at *
          replace Hw := Kept.mk Hw
          have i2 : IntKind.i64.wrap ((k : Int) - 2) = ((k - 2 : Nat) : Int) := by rw [IntKind.wrap_i64]; omega
          have i7 : IntKind.i64.wrap ((k : Int) - 7) = ((k - 7 : Nat) : Int) := by rw [IntKind.wrap_i64]; omega
          have i15 : IntKind.i64.wrap ((k : Int) - 15) = ((k - 15 : Nat) : Int) := by rw [IntKind.wrap_i64]; omega
          have i16 : IntKind.i64.wrap ((k : Int) - 16) = ((k - 16 : Nat) : Int) := by rw [IntKind.wrap_i64]; omega
          have j2 : ((k - 2 : Nat) : Int) < 64 := by omega
          have j7 : ((k - 7 : Nat) : Int) < 64 := by omega
          have j15 : ((k - 15 : Nat) : Int) < 64 := by omega
          have j16 : ((k - 16 : Nat) : Int) < 64 := by omega
          have k64 : (k : Int) < 64 := by omega
          go_wp2
          go_quiet (fail)
          replace hc0 : (wr.drewN nq).cell? ⟨N, k, none⟩ = _ := hc0
          replace hz0 : (wr.drewN nq).frozen? ⟨N, k, none⟩ = _ := hz0
          replace c7 : (wr.drewN nq).cell? ⟨N, k - 7, none⟩ = _ := c7
          replace c16 : (wr.drewN nq).cell? ⟨N, k - 16, none⟩ = _ := c16
          replace h2 : Kept (Blk (wr.drewN nq) N 60 (arr .u32 (upto (at_ (sched b)) 64 k))) := ⟨h2.out⟩
          replace hbl : Below N w (wr.drewN nq) := below_drewN hbl _
          clear c2 c15
          generalize wr.drewN nq = wq at *
          obtain ⟨b2l, b2h⟩ := id b2
          obtain ⟨b15l, b15h⟩ := id b15
          have B2 := Kept.mk b2
          have B15 := Kept.mk b15
          clear b2 b15
          go_wp2
          refine wp_region_still_tail 29 (by kernel_rfl) (by kernel_rfl) ?_
          simp only [List.take_succ_cons, List.take_zero, List.drop_succ_cons, List.drop_zero]
          repeat still_step
          still_call (rt7 _ B15.out _)
          repeat still_step
          still_call (rt18 _ B15.out _)
          repeat still_step
          still_call (rt17 _ B2.out _)
          repeat still_step
          still_call (rt19 _ B2.out _)
          repeat still_step
          rw [nxw_ref]
          refine wpStill_nil ?_
          change wpList _ _ _ _ _ wq.drew
          clear i2 i7 i15 i16 c7 c16
          go_wp2
          go_roundw
          case rel =>
            refine ⟨k + 1, by omega, by omega, by go_num, ⟨?_⟩, (hbl.setCell (by simp) _).drew⟩
            have := h2.out.set_ k (.int .u32 (at_ (sched b) k))
            rw [arr_set, upto_set, Hw.out] at this
            exact this.drew
          case measure => simp [intOf]; omega
        -- >B
        · have ek : k = 64 := by omega
          rw [ek, upto_all _ _ (sched_len b)] at h2
          clear ek
          generalize wr = w1 at *
          obtain ⟨M, hM⟩ : ∃ M, w1.heap.size = M := ⟨_, rfl⟩
          have hMN : N < M := by rw [← hM]; exact h2.out.lt
          have kz : Blk (w1.alloc (.cells #[.int .u32 0, .int .u32 0, .int .u32 0, .int .u32 0, .int .u32 0, .int .u32 0, .int .u32 0, .int .u32 0] 61)) M 61 (ints .u32 (List.replicate 8 0)).toArray := Blk.new_at _ _ _ M hM.symm
          have kh : Blk (w1.alloc (.cells #[.int .u32 0, .int .u32 0, .int .u32 0, .int .u32 0, .int .u32 0, .int .u32 0, .int .u32 0, .int .u32 0] 61)) hb 61 (arr .u32 s.toL) := (Hh.out.below hbl hhb).alloc _
          have ba : Below M w1 (w1.alloc (.cells #[.int .u32 0, .int .u32 0, .int .u32 0, .int .u32 0, .int .u32 0, .int .u32 0, .int .u32 0, .int .u32 0] 61)) := (Below.refl _ _).alloc (by omega) _
          have KZ := Kept.mk kz
          have hsrc : 0 < (ints .u32 s.toL).length → (some ⟨M, 0, none⟩ : Option Addr) = some ⟨M, 0, none⟩ ∧ ∃ ad, (some ⟨hb, 0, none⟩ : Option Addr) = some ad ∧ ∀ j v, (ints .u32 s.toL)[j]? = some v → (w1.alloc (.cells #[.int .u32 0, .int .u32 0, .int .u32 0, .int .u32 0, .int .u32 0, .int .u32 0, .int .u32 0, .int .u32 0] 61)).cell? (ad.add j) = some v := by
            intro _
            refine ⟨rfl, _, rfl, fun j v hj => ?_⟩
            have e : (⟨hb, 0, none⟩ : Addr).add j = ⟨hb, j, none⟩ := by cases j <;> simp [Addr.add]
            rw [e, kh.cell j, arr, List.getElem?_toArray, hj]
          have HSRC := Kept.mk hsrc
          have BA := Kept.mk ba
          have H2 := Kept.mk h2.out
          clear kz kh hsrc ba h2
          go_wp2_with ((with_reducible refine sel 100 ?_); refine wpList_copy_bar rfl (.tmp 98) (.tmp 99) 98 98 rfl 51 Try.underlying98 (by kernel_rfl) _ _ _ _ _ _ rfl rfl M 0 (ints .u32 (List.replicate 8 0)) 61 KZ.out (ints .u32 s.toL) (by rw [ints_len]; rfl) HSRC.out (by simp [ints_len, S8.toL]) (ints_one _ _) ?_; intro w2 HG HB; have HV := Kept.mk HG.out; have B4 := Kept.mk (BA.out.trans (HB.below (B := M) (by simp; omega) (by simp))); clear HG HB)
          have hv0 : Kept (Blk w2 M 61 (arr .u32 s.toL)) := ⟨by
            have := HV.out
            rw [show splice (ints .u32 (List.replicate 8 0)) 0 (ints .u32 s.toL) = ints .u32 s.toL by simp [splice, ints_len, S8.toL]] at this
            exact this⟩
          clear HV KZ HSRC BA
          go_loopw [12] (fun i w3 => ∃ (k : Nat) (a b' c d e f g h : Int), k ≤ 64 ∧ i = .int .i64 k ∧ Kept (rnds s (at_ (sched b)) k = ⟨a, b', c, d, e, f, g, h⟩) ∧ Kept (Blk w3 M 61 (arr .u32 (⟨a, b', c, d, e, f, g, h⟩ : S8).toL)) ∧ Below M w1 w3) (fun i _ => 64 - (intOf i).toNat)
          case atStart => exact ⟨0, s.a, s.b, s.c, s.d, s.e, s.f, s.g, s.h, by omega, rfl, ⟨rfl⟩, hv0, B4.out⟩
          case round =>
            clear hv0 B4
            obtain ⟨k, a', b', c', d', e', f', g', h', hk, rfl, hr, hv, hb4⟩ := hrel
            by_cases hlt : k < 64
            -- C<
            · obtain ⟨r1, r2, r3, r4, r5, r6, r7, r8⟩ : (⟨a', b', c', d', e', f', g', h'⟩ : S8).ok := by
                have := rnds_ok Hs.out (at_ (sched b)) k
                rwa [hr.out] at this
              have v0 : wr.cell? ⟨M, 0, none⟩ = some (.int .u32 a') := hv.out.at_ 0 (by show 0 < 8; omega)
              have v1 : wr.cell? ⟨M, 1, none⟩ = some (.int .u32 b') := hv.out.at_ 1 (by show 1 < 8; omega)
              have v2 : wr.cell? ⟨M, 2, none⟩ = some (.int .u32 c') := hv.out.at_ 2 (by show 2 < 8; omega)
              have v3 : wr.cell? ⟨M, 3, none⟩ = some (.int .u32 d') := hv.out.at_ 3 (by show 3 < 8; omega)
              have v4 : wr.cell? ⟨M, 4, none⟩ = some (.int .u32 e') := hv.out.at_ 4 (by show 4 < 8; omega)
              have v5 : wr.cell? ⟨M, 5, none⟩ = some (.int .u32 f') := hv.out.at_ 5 (by show 5 < 8; omega)
              have v6 : wr.cell? ⟨M, 6, none⟩ = some (.int .u32 g') := hv.out.at_ 6 (by show 6 < 8; omega)
              have v7 : wr.cell? ⟨M, 7, none⟩ = some (.int .u32 h') := hv.out.at_ 7 (by show 7 < 8; omega)
              have ck : wr.cell? ⟨kb, k, none⟩ = some (.int .u32 (kW k : Nat)) := by
                rw [← KI_at k hlt]
                exact ((Hk.out.below hbl hkb).below hb4 (by omega)).at_ k (by rw [KI_len]; exact hlt)
              have cw : wr.cell? ⟨N, k, none⟩ = some (.int .u32 (at_ (sched b) k)) := (H2.out.below hb4 (by omega)).at_ k (by rw [sched_len]; exact hlt)
              have k64 : (k : Int) < 64 := by omega
              have bW := sched32 b k
              have hrx := hr.out
              obtain ⟨xw, hxw⟩ : ∃ x, at_ (sched b) k = x := ⟨_, rfl⟩
              rw [hxw] at cw bW
              have Hxw := Kept.mk hxw
              clear hxw hrx
              have R1 := Kept.mk r1
              have R5 := Kept.mk r5
              obtain ⟨p1, q1⟩ := r1; obtain ⟨p2, q2⟩ := r2; obtain ⟨p3, q3⟩ := r3; obtain ⟨p4, q4⟩ := r4
              obtain ⟨p5, q5⟩ := r5; obtain ⟨p6, q6⟩ := r6; obtain ⟨p7, q7⟩ := r7; obtain ⟨p8, q8⟩ := r8
              go_wp2
              go_quiet (fail)
              replace v0 : (wr.drewN nq).cell? ⟨M, 0, none⟩ = _ := v0
              replace v1 : (wr.drewN nq).cell? ⟨M, 1, none⟩ = _ := v1
              replace v2 : (wr.drewN nq).cell? ⟨M, 2, none⟩ = _ := v2
              replace v3 : (wr.drewN nq).cell? ⟨M, 3, none⟩ = _ := v3
              replace v4 : (wr.drewN nq).cell? ⟨M, 4, none⟩ = _ := v4
              replace v5 : (wr.drewN nq).cell? ⟨M, 5, none⟩ = _ := v5
              replace v6 : (wr.drewN nq).cell? ⟨M, 6, none⟩ = _ := v6
              replace v7 : (wr.drewN nq).cell? ⟨M, 7, none⟩ = _ := v7
              replace ck : (wr.drewN nq).cell? ⟨kb, k, none⟩ = _ := ck
              replace cw : (wr.drewN nq).cell? ⟨N, k, none⟩ = _ := cw
              replace hv : Kept (Blk (wr.drewN nq) M 61 (arr .u32 (⟨a', b', c', d', e', f', g', h'⟩ : S8).toL)) := ⟨hv.out⟩
              replace hb4 : Below M w1 (wr.drewN nq) := below_drewN hb4 _
              generalize wr.drewN nq = wq at *
              go_wp2
              go_quiet ((first | (go_at_call 62; with_reducible exact Calls.quiet_of_same (rt6 _ R5.out _)) | (go_at_call 62; with_reducible exact Calls.quiet_of_same (rt11 _ R5.out _)) | (go_at_call 62; with_reducible exact Calls.quiet_of_same (rt25 _ R5.out _))))
              replace v0 : (wq.drewN nq).cell? ⟨M, 0, none⟩ = _ := v0
              replace v1 : (wq.drewN nq).cell? ⟨M, 1, none⟩ = _ := v1
              replace v2 : (wq.drewN nq).cell? ⟨M, 2, none⟩ = _ := v2
              replace v3 : (wq.drewN nq).cell? ⟨M, 3, none⟩ = _ := v3
              replace v4 : (wq.drewN nq).cell? ⟨M, 4, none⟩ = _ := v4
              replace v5 : (wq.drewN nq).cell? ⟨M, 5, none⟩ = _ := v5
              replace v6 : (wq.drewN nq).cell? ⟨M, 6, none⟩ = _ := v6
              replace v7 : (wq.drewN nq).cell? ⟨M, 7, none⟩ = _ := v7
              replace hv : Kept (Blk (wq.drewN nq) M 61 (arr .u32 (⟨a', b', c', d', e', f', g', h'⟩ : S8).toL)) := ⟨hv.out⟩
              replace hb4 : Below M w1 (wq.drewN nq) := below_drewN hb4 _
              generalize wq.drewN nq = wp at *
              clear ck cw
              go_wp2
              go_quiet ((first | (go_at_call 62; with_reducible exact Calls.quiet_of_same (rt2 _ R1.out _)) | (go_at_call 62; with_reducible exact Calls.quiet_of_same (rt13 _ R1.out _)) | (go_at_call 62; with_reducible exact Calls.quiet_of_same (rt22 _ R1.out _))))
              replace v0 : (wp.drewN nq).cell? ⟨M, 0, none⟩ = _ := v0
              replace v1 : (wp.drewN nq).cell? ⟨M, 1, none⟩ = _ := v1
              replace v2 : (wp.drewN nq).cell? ⟨M, 2, none⟩ = _ := v2
              replace v3 : (wp.drewN nq).cell? ⟨M, 3, none⟩ = _ := v3
              replace v4 : (wp.drewN nq).cell? ⟨M, 4, none⟩ = _ := v4
              replace v5 : (wp.drewN nq).cell? ⟨M, 5, none⟩ = _ := v5
              replace v6 : (wp.drewN nq).cell? ⟨M, 6, none⟩ = _ := v6
              replace v7 : (wp.drewN nq).cell? ⟨M, 7, none⟩ = _ := v7
              replace hv : Kept (Blk (wp.drewN nq) M 61 (arr .u32 (⟨a', b', c', d', e', f', g', h'⟩ : S8).toL)) := ⟨hv.out⟩
              replace hb4 : Below M w1 (wp.drewN nq) := below_drewN hb4 _
              generalize wp.drewN nq = wo at *
              have f0 := hv.out.frozen 0
              have f1 := hv.out.frozen 1
              have f2 := hv.out.frozen 2
              have f3 := hv.out.frozen 3
              have f4 := hv.out.frozen 4
              have f5 := hv.out.frozen 5
              have f6 := hv.out.frozen 6
              have f7 := hv.out.frozen 7
              go_wp2
              go_roundw
              case rel =>
                refine ⟨k + 1, _, _, _, _, _, _, _, _, by omega, by go_num, ⟨round_end hr.out rfl rfl⟩, ⟨?_⟩, below8 (Nat.le_refl _) _ _ _ _ _ _ _ _ hb4⟩
                refine blk8 hv.out rfl ?_ rfl rfl rfl ?_ rfl rfl rfl
                · rw [Hxw.out]; unfold ch maj not32 turns3; simp only []; omega
                · rw [Hxw.out]; unfold ch not32 turns3; simp only []; omega
              case measure => simp [intOf]; omega
            -- >C
            · have ek : k = 64 := by omega
              rw [ek] at hr
              clear ek
              obtain ⟨V, hV⟩ : ∃ V : S8, V = ⟨a', b', c', d', e', f', g', h'⟩ := ⟨_, rfl⟩
              rw [← hV] at hr hv
              have kh : Blk wr hb 61 (arr .u32 (addTo s.toL V.toL 0)) := by
                rw [addTo_0 _ _ rfl]
                exact (Hh.out.below hbl hhb).below hb4 (by omega)
              have bh : Bar [hb] w wr := barOf (hN ▸ hbl.trans (hb4.mono (by omega))) [hb]
              have KH := Kept.mk kh
              have BH := Kept.mk bh
              clear hV kh bh hb4 hbl
              go_wp2
              go_loopw [17] (fun i w3 => ∃ k : Nat, k ≤ 8 ∧ i = .int .i64 k ∧ Kept (Blk w3 hb 61 (arr .u32 (addTo s.toL V.toL k))) ∧ Kept (Blk w3 M 61 (arr .u32 V.toL)) ∧ Bar [hb] w w3) (fun i _ => 8 - (intOf i).toNat)
              case atStart => exact ⟨0, by omega, rfl, KH, hv, BH.out⟩
              case round =>
                clear KH hv BH hk hlt
                obtain ⟨k, hk, rfl, h1, hv, b1⟩ := hrel
                by_cases hlt : k < 8
                · have k8 : (k : Int) < 8 := by omega
                  have hc0 := h1.out.at_ k (by rw [addTo_len]; exact hlt)
                  rw [addTo_at _ _ _ _ hlt, if_neg (by omega)] at hc0
                  have hz0 := h1.out.frozen k
                  have cv := hv.out.at_ k hlt
                  have e := addTo_set s.toL V.toL k
                  generalize at_ s.toL k = x at *
                  generalize at_ V.toL k = y at *
                  have E := Kept.mk e
                  clear e
                  go_wp2
                  refine wp_region_still_tail 9 (by kernel_rfl) (by kernel_rfl) ?_
                  simp only [List.take_succ_cons, List.take_zero, List.drop_succ_cons, List.drop_zero]
                  repeat still_step
                  rw [IntKind.wrap_u32]
                  refine wpStill_nil ?_
                  change wpList _ _ _ _ _ wr.drew
                  go_wp2
                  go_roundw
                  case rel =>
                    refine ⟨k + 1, by omega, by go_num, ⟨?_⟩, ⟨(hv.out.far (by simp; omega) _).drew⟩, (b1.setCell (by simp) _).drew⟩
                    have := h1.out.set_ k (.int .u32 ((x + y) % 4294967296))
                    rw [arr_set, E.out] at this
                    exact this.drew
                  case measure => simp [intOf]; omega
                · have ek : k = 8 := by omega
                  have h2 := h1.out
                  rw [ek, addTo_8] at h2
                  clear ek h1
                  have H2' := Kept.mk h2
                  clear h2
                  go_wp2
                  go_end0
                  exact ⟨rfl, by unfold mixed; rw [hr.out]; exact H2'.out, b1⟩
end Go.Proofs.Ytimdbljagpbecaa.Sha

/-
  The document's own copy of a text.
-/

namespace Go.Proofs.Ytimdbljagpbecaa.Sha
open Go.RowKit

def CopyPost (n : Nat) (xs : List Int) (w : World) (e : Ending) (w' : World) : Prop := ∃ v, e = .returned v ∧ w'.ownsRow w.heap.size 5 1 v n (ints .u8 xs) ∧ Below w.heap.size w w'

set_option maxRecDepth 100000 in
set_option maxHeartbeats 400000 in
theorem copy_any (A : Option Addr) (n cap : Nat) (xs : List Int) (w : World) (hr : Rd w A n xs) (hn : n < 2147483648) :
    Calls Try.prog 18 #[.slice A n cap] w (CopyPost n xs w) := by
  obtain ⟨N, hN⟩ : ∃ N, w.heap.size = N := ⟨_, rfl⟩
  have HR := Kept.mk (hr.keep (l := []) ((Bar.refl [] w).alloc (.cells #[] 5)) (by simp))
  have hown := World.ownsRow_made (base := N) (e := 5) (size := 1) w #[] 0 (by omega) (by unfold maxLen; omega) rfl
  rw [hN] at hown
  have bel : Below N w (w.alloc (.cells #[] 5)) := (Below.refl _ _).alloc (by omega) _
  have Own := Kept.mk hown
  have Bel := Kept.mk bel
  clear hown bel hr
  go_enter Try.func18, Try.ntmps18
  go_wp2_with ((with_reducible refine sel 5 ?_); refine wpList_append_rd rfl (.tmp 3) (.tmp 4) 22 rfl N 5 Try.underlying22 info_u8 (.slice (some ⟨N, 0, none⟩) 0 0) 0 [] rfl Own.out A n cap xs rfl HR.out (by omega) (by simp [hN]) ?_; intro v' w' ho hg)
  go_ret
  refine ⟨v', rfl, ?_, ?_⟩
  · have := ho.out
    simpa [hN] using this
  · rw [hN]; exact Bel.out.grown hg (by simp; omega) (by intro k hk; injection hk with hk; simp at hk; omega)
end Go.Proofs.Ytimdbljagpbecaa.Sha

/-
  The document's own sum of a text.
-/




namespace Go.Proofs.Ytimdbljagpbecaa.Sha
open Go.RowKit

def RHashPost (xs : List Int) (w : World) (e : Ending) (w' : World) : Prop := ∃ M cap, e = .returned (.slice (some ⟨M, 0, none⟩) 32 cap) ∧ w.heap.size ≤ M ∧ 32 ≤ cap ∧ cap ≤ maxLen ∧ Rd w' (some ⟨M, 0, none⟩) 32 (sha xs) ∧ Below w.heap.size w w'

theorem HI_is : HI = S0.toL := rfl
theorem own_slice {w : World} {base : Nat} {e : TypeId} {v : Value} {n : Nat} {xs : List Value} (h : w.ownsRow base e 1 v n xs) (hn : 0 < n) : ∃ g cap, v = .slice (some ⟨g, 0, none⟩) n cap ∧ base ≤ g ∧ n ≤ cap ∧ cap ≤ maxLen := by
  rcases h.2 with ⟨_, h0⟩ | ⟨g, cap, cur, hv, hg, _, h1, h2, _⟩
  · omega
  · exact ⟨g, cap, hv, hg, h1, h2⟩
theorem be8_succ (m k : Nat) (h : k < 8) : (be8 m).take (8 - k) = (be8 m).take (8 - (k + 1)) ++ [((m / 256 ^ k % 256 : Nat) : Int)] := by
  have l : (be8 m).length = 8 := by simp [be8]
  rw [show 8 - k = 8 - (k + 1) + 1 by omega, List.take_succ_eq_append_getElem (by omega)]
  congr 2
  simp only [be8, List.getElem_map, List.getElem_range]
  rw [show 7 - (8 - (k + 1)) = k by omega]
theorem rd_four (w : World) (x0 x1 x2 x3 : Int) (h0 : 0 ≤ x0 ∧ x0 ≤ 255) (h1 : 0 ≤ x1 ∧ x1 ≤ 255) (h2 : 0 ≤ x2 ∧ x2 ≤ 255) (h3 : 0 ≤ x3 ∧ x3 ≤ 255) : Rd (w.alloc (.cells #[.int .u8 x0, .int .u8 x1, .int .u8 x2, .int .u8 x3] 5)) (some ⟨w.heap.size, 0, none⟩) 4 [x0, x1, x2, x3] :=
  Rd.blk (Blk.new w 5 (arr .u8 [x0, x1, x2, x3])) (by intro y hy; simp only [List.mem_cons, List.not_mem_nil, or_false] at hy; rcases hy with rfl | rfl | rfl | rfl <;> assumption) rfl
theorem blocks_succ (s : S8) (m : Nat) (l : List Int) : blocks s (m + 1) l = mixed (blocks s m l) ((l.drop (64 * m)).take 64) := by
  rw [blocks_add]; rfl

set_option maxRecDepth 100000 in
set_option maxHeartbeats 2000000 in
theorem rhash_any (A : Option Addr) (n cap : Nat) (xs : List Int) (w : World) (hr : Rd w A n xs) (hn : n < 1073741824) :
    Calls Try.prog 41 #[.slice A n cap] w (RHashPost xs w) := by
  obtain ⟨N, hN⟩ : ∃ N, w.heap.size = N := ⟨_, rfl⟩
  obtain ⟨iu, hi, hz0, hz1, hz2⟩ := info_parts info_u8
  have HI := Kept.mk hi; have Z0 := Kept.mk hz0; have Z1 := Kept.mk hz1; have Z2 := Kept.mk hz2
  clear hi hz0 hz1 hz2
  have hlen : xs.length = n := hr.1
  have HR := Kept.mk hr
  have Hlen := Kept.mk hlen
  clear hr hlen
  go_enter Try.func41, Try.ntmps41
  go_wp2_with fail
  refine (rwords_any w).mono ?_
  rintro e w1 ⟨rfl, b1⟩
  go_wp2_with fail
  refine (rstarts_any w1).mono ?_
  rintro e w2 ⟨rfl, b2⟩
  obtain ⟨K, hK⟩ : ∃ K, w2.heap.size = K := ⟨_, rfl⟩
  have hNK : N ≤ K := by have := b1.size; have := b2.size; omega
  have b3 : Below N w w2 := hN ▸ b1.trans (b2.mono b1.size)
  clear b1 b2
  have B3 := Kept.mk b3
  clear b3
  go_wp2_with (first
    | ((with_reducible refine selS 60 (.tmp 3) (.tmp 11) ?_); refine wpList_store_row rfl 60 (.tmp 3) (.tmp 11) rfl K _ rfl rfl 60 _ ((Blk.new_at _ _ _ K hK.symm).alloc _) (by rw [arr_size, KI_len]; kernel_rfl) (by rw [arr_size, KI_len]; rfl) (all_oneCell_toArray (ints_one _ _)) ?_)
    | ((with_reducible refine selS 61 (.tmp 4) (.tmp 12) ?_); refine wpList_store_row rfl 61 (.tmp 4) (.tmp 12) rfl (K + 1) _ rfl rfl 61 _ (show Blk _ (K + 1) _ _ from (bar_setRow _ K _).block (K + 1) (by simp [hK]) (by simp) |>.trans (Blk.new_at _ _ _ (K + 1) (by simp [hK]))) (by rw [arr_size, HI_len]; kernel_rfl) (by rw [arr_size, HI_len]; rfl) (all_oneCell_toArray (ints_one _ _)) ?_))
  have Hall : Kept (∀ z1 z2 : Array Value, Blk ((((w2.alloc (.cells z1 60)).alloc (.cells z2 61)).setRow K (arr .u32 KI)).setRow (K + 1) (arr .u32 Sha.HI)) K 60 (arr .u32 KI) ∧
      Blk ((((w2.alloc (.cells z1 60)).alloc (.cells z2 61)).setRow K (arr .u32 KI)).setRow (K + 1) (arr .u32 Sha.HI)) (K + 1) 61 (arr .u32 S0.toL) ∧
      Below N w ((((w2.alloc (.cells z1 60)).alloc (.cells z2 61)).setRow K (arr .u32 KI)).setRow (K + 1) (arr .u32 Sha.HI)) ∧
      ((((w2.alloc (.cells z1 60)).alloc (.cells z2 61)).setRow K (arr .u32 KI)).setRow (K + 1) (arr .u32 Sha.HI)).heap.size = K + 2) := by
    refine ⟨fun z1 z2 => ⟨?_, ?_, ?_, ?_⟩⟩
    · exact (((Blk.new_at _ _ _ K hK.symm).alloc _).row _).bar (bar_setRow _ _ _) (by simp)
    · exact ((Blk.new_at _ _ _ (K + 1) (by simp [hK])).bar (bar_setRow _ K _) (by simp)).row _
    · exact below_setRow (below_setRow ((B3.out.alloc (by omega) _).alloc (by simp; omega) _) hNK _) (by omega) _
    · simp [World.setRow, hK]
  refine (copy_any A n cap xs _ (HR.out.keep (l := []) ((barOf (hN ▸ (Hall.out _ _).2.2.1) [])) (by simp)) (by omega)).mono ?_
  rintro e w4 ⟨v, rfl, ho, b4⟩
  have b5 := (Hall.out _ _).2.2.1.trans (b4.mono (by rw [(Hall.out _ _).2.2.2]; omega))
  have kK := (Hall.out _ _).1.below b4 (by rw [(Hall.out _ _).2.2.2]; omega)
  have kH := (Hall.out _ _).2.1.below b4 (by rw [(Hall.out _ _).2.2.2]; omega)
  rw [(Hall.out _ _).2.2.2] at ho
  have s4 := b4.size
  rw [(Hall.out _ _).2.2.2] at s4
  clear b4 Hall B3 hK
  have B5 := Kept.mk b5
  have KK := Kept.mk kK
  have KH := Kept.mk kH
  have own4 := Kept.mk ho
  clear b5 kK kH ho
  go_wp2_with ((with_reducible refine sel 16 ?_); refine wpList_append_rd rfl (.tmp 14) (.tmp 15) 22 rfl (K + 2) 5 Try.underlying22 info_u8 v n (ints .u8 xs) rfl (own4.out.alloc _) _ 1 1 [128] rfl (rd_one _ _ (by omega)) (by omega) (by simp; omega) ?_; intro v5 w5 own5 hg5; have b6 := Kept.mk (((Below.refl (K + 2) w4).alloc (by omega) _).trans (own_below (own4.out.alloc _) hg5 (by simp; omega))); clear hg5 own4)
  obtain ⟨g5, c5, rfl, hg5, hc5, hm5⟩ := own_slice own5.out (by omega)
  go_loopw [5] (fun v wr => ∃ (j g c : Nat), j ≤ padn n ∧ v = .slice (some ⟨g, 0, none⟩) (n + 1 + j) c ∧ c ≤ 9223372036854775807 ∧ Kept (wr.ownsRow (K + 2) 5 1 (.slice (some ⟨g, 0, none⟩) (n + 1 + j) c) (n + 1 + j) (ints .u8 (xs ++ 128 :: List.replicate j 0)) ∧ Below (K + 2) w4 wr)) (fun v _ => n + 1 + padn n - lenOf v)
  case atStart => exact ⟨0, g5, c5, Nat.zero_le _, rfl, hm5, ⟨by have := own5.out; rw [← ints_append] at this; exact this, b6.out⟩⟩
  case round =>
    clear own5 b6 hg5 hc5 hm5
    obtain ⟨j, g, c, hj, rfl, hc, hk⟩ := hrel
    obtain ⟨q, hq⟩ : ∃ q, n + 1 + j = q := ⟨_, rfl⟩
    have Hq := Kept.mk hq
    have hq0 : 1 ≤ q := by omega
    have hqs : q < 1073741824 + 128 := by have := padn_le n; omega
    have hp : q % 64 ≠ 56 → j + 1 ≤ padn n := by unfold padn at hj ⊢; omega
    have hp2 : q % 64 = 56 → j = padn n := by unfold padn at hj ⊢; omega
    rw [hq] at hk ⊢
    obtain ⟨own6, b6⟩ := hk.out
    have own6 := Kept.mk own6
    have B6 := Kept.mk b6
    have sr := b6.size
    have HP := Kept.mk hp
    have HP2 := Kept.mk hp2
    clear hk hq b6 hp hp2
    by_cases h56 : q % 64 = 56
    · have h56' : (q : Int) % 64 = 56 := by omega
      have hjP := HP2.out h56
      have H56 := Kept.mk h56
      clear HP HP2 h56
      go_wp2
      try rw [h56']
      clear h56'
      go_loopw [5, 7] (fun v i wr => ∃ (k g c : Nat), k ≤ 8 ∧ v = .slice (some ⟨g, 0, none⟩) (q + (8 - k)) c ∧ i = .int .i64 ((k : Int) - 1) ∧ c ≤ 9223372036854775807 ∧ Kept (wr.ownsRow (K + 2) 5 1 (.slice (some ⟨g, 0, none⟩) (q + (8 - k)) c) (q + (8 - k)) (ints .u8 ((xs ++ 128 :: List.replicate j 0) ++ (be8 (n * 8)).take (8 - k))) ∧ Below (K + 2) w4 wr)) (fun _ i _ => (intOf i + 1).toNat)
      case atStart => exact ⟨8, g, c, Nat.le_refl _, rfl, rfl, hc, ⟨by simpa using own6.out, B6.out⟩⟩
      case round =>
        clear own6 B6 hc sr
        obtain ⟨k, g, c, hk, rfl, rfl, hc, hr⟩ := hrel
        obtain ⟨own6, b6⟩ := hr.out
        have own6 := Kept.mk own6
        have B6 := Kept.mk b6
        have sr := b6.size
        clear hr b6
        cases k with
        | zero =>
          rw [show ((0 : Nat) : Int) - 1 = -1 by rfl]
          have hbe : (be8 (n * 8)).take 8 = be8 (n * 8) := List.take_of_length_le (by simp [be8])
          have hall : (xs ++ 128 :: List.replicate j 0) ++ (be8 (n * 8)).take 8 = xs ++ tail xs.length := by
            rw [hbe, List.append_assoc, Hlen.out, tail, hjP]; rfl
          rw [show 8 - 0 = 8 by rfl, hall] at own6
          obtain ⟨T, hT⟩ : ∃ T, q + 8 = T := ⟨_, rfl⟩
          have hTl : (xs ++ tail xs.length).length = T := by
            rw [List.length_append, tail_len, Hlen.out, ← hT, ← Hq.out, hjP]; omega
          have hT64 : T % 64 = 0 := by have := padded_len xs; omega
          have hTs : T < 1073741824 + 256 := by omega
          have hT0 : 0 < T := by omega
          rw [hT] at own6
          rw [show q + (8 - 0) = T from hT]
          have kh := KH.out.below B6.out (by omega)
          have KH2 := Kept.mk kh
          have HTl := Kept.mk hTl
          clear hbe hall hT hTl kh hjP H56 hj
          go_wp2
          obtain ⟨all, hal⟩ : ∃ all, xs ++ tail xs.length = all := ⟨_, rfl⟩
          have hby : Bytes all := by rw [← hal]; exact HR.out.2.1.append (tail_bytes _)
          rw [hal] at own6 HTl
          have Hal := Kept.mk hal
          have HBY := Kept.mk hby
          have hcT := own_slice own6.out hT0
          have hcT2 : T ≤ c := by obtain ⟨_, _, e, _, h, _⟩ := hcT; injection e with _ _ e; omega
          clear hal hby hcT
          go_loopw [8] (fun i wr => ∃ m : Nat, 64 * m ≤ T ∧ i = .int .i64 ((64 * m : Nat) : Int) ∧ Kept (Blk wr (K + 1) 61 (arr .u32 (blocks S0 m all).toL)) ∧ Kept (wr.ownsRow (K + 2) 5 1 (.slice (some ⟨g, 0, none⟩) T c) T (ints .u8 all)) ∧ Below (K + 1) w4 wr) (fun i _ => T - (intOf i).toNat)
          case atStart => exact ⟨0, by omega, rfl, KH2, own6, B6.out.mono (by omega)⟩
          case round =>
            clear KH2 own6 B6 sr
            obtain ⟨m, hm, rfl, kh, own6, b6⟩ := hrel
            have sr := b6.size
            obtain ⟨y, hy⟩ : ∃ y, 64 * m = y := ⟨_, rfl⟩
            have Hy := Kept.mk hy
            rw [hy] at hm ⊢
            by_cases hlt : y < T
            · have hyT : y + 64 ≤ T := by omega
              have hl64 : (all.drop y).length = T - y := by rw [List.length_drop, HTl.out]
              have cb := block_any (K + 1) K g y (c - y) (blocks S0 m all) (blocks_ok S0_ok _ _) ((all.drop y).take 64) wr.drew ((HBY.out.drop _).take _) (by omega) kh.out.drew ((KK.out.below b6 (by omega)).drew)
                (fun i hi => by
                  rw [at_take hi, at_drop]
                  exact own_cell own6.out (y + i) (by omega))
              rw [← hy, ← blocks_succ, hy] at cb
              have Cb := Kept.mk cb
              have B6 := Kept.mk b6
              have x1 : IntKind.i64.wrap ((y : Int) + 64) = (y : Int) + 64 := by rw [IntKind.wrap_i64]; omega
              have x2 : (y : Int) ≤ (y : Int) + 64 := by omega
              have x3 : (y : Int) + 64 ≤ (c : Int) := by omega
              have x4 : ((y : Int) + 64).toNat = y + 64 := by omega
              have x5 : y + 64 - y = 64 := by omega
              have x6 : ¬ c = y := by omega
              clear cb b6 hy hl64
              go_wp2
              refine wp_region_still_tail 7 (by kernel_rfl) (by kernel_rfl) ?_
              simp only [List.take_succ_cons, List.take_zero, List.drop_succ_cons, List.drop_zero]
              repeat still_step
              refine wpStill_nil ?_
              change wpList _ _ _ _ _ wr.drew
              clear x1 x2 x3 x4 x5 x6
              go_wp2_with fail
              refine Cb.out.mono ?_
              rintro e w5 ⟨rfl, k5, b5⟩
              have K5 := Kept.mk k5
              have O5 := Kept.mk (own_bar own6.out.drew b5 (by simp))
              have B7 := Kept.mk (B6.out.trans ((Below.refl (K + 1) wr).drew.trans (b5.below (B := K + 1) (by show K + 1 ≤ wr.heap.size; omega) (by simp))))
              clear k5 b5 Cb
              go_wp2
              go_roundw
              case rel => exact ⟨m + 1, by have := Hy.out; omega, by have := Hy.out; go_num, K5, O5, B7.out⟩
              case measure => simp [intOf]; omega
            · have hst : blocks S0 m all = st all := by rw [st, HTl.out, show T / 64 = m by omega]
              rw [hst] at kh
              have B6 := Kept.mk b6
              clear hst hy b6
              obtain ⟨s, hs⟩ : ∃ s, st all = s := ⟨_, rfl⟩
              have hok : s.ok := by rw [← hs]; exact st_ok _
              rw [hs] at kh
              have HS := Kept.mk hs
              have HOK := Kept.mk hok
              clear hs hok own6
              go_wp2
              go_loopw [9, 10] (fun v i w3 => ∃ k : Nat, k ≤ 8 ∧ i = .int .i64 k ∧ Kept (w3.ownsRow (K + 2) 5 1 v (4 * k) (ints .u8 (outK s k))) ∧ Kept (Blk w3 (K + 1) 61 (arr .u32 s.toL)) ∧ Below (K + 1) w4 w3) (fun _ i _ => 8 - (intOf i).toNat)
              case atStart => exact ⟨0, by omega, rfl, ⟨World.ownsRow_nil _ _ _ _⟩, kh, B6.out⟩
              case round =>
                clear kh B6 sr
                obtain ⟨k, hk, rfl, ho, kh, b6⟩ := hrel
                have sr := b6.size
                have B6 := Kept.mk b6
                clear b6
                by_cases hlt8 : k < 8
                · have k8 : (k : Int) < 8 := by omega
                  have c0 := kh.out.at_ k hlt8
                  have hx := S8.at32 HOK.out k
                  have hsucc := outK_succ s k
                  generalize at_ s.toL k = x at *
                  obtain ⟨hx0, hx1⟩ := hx
                  have Hsucc := Kept.mk hsucc
                  have u0 : IntKind.u8.wrap (x / 16777216) = x / 16777216 % 256 := by rw [IntKind.wrap_u8]
                  have u1 : IntKind.u8.wrap (x / 65536) = x / 65536 % 256 := by rw [IntKind.wrap_u8]
                  have u2 : IntKind.u8.wrap (x / 256) = x / 256 % 256 := by rw [IntKind.wrap_u8]
                  have u3 : IntKind.u8.wrap x = x % 256 := by rw [IntKind.wrap_u8]
                  clear hsucc
                  have ag : u9.ownBlock ≠ some (K + 1) := fun h => by have := (ho.out.lt _ h).1; omega
                  have HIo := HI.out; have Z0o := Z0.out; have Z1o := Z1.out; have Z2o := Z2.out
                  go_wp2_with fail
                  go_region_held3 (fun w' => w'.cell? ⟨K + 1, k, none⟩ = some (.int .u32 x))
                    (first
                      | go_keep
                      | (rw [hgrow.cell_far _ (by simp; omega) (Ne.symm ag)]; assumption))
                    ((refine step_append_lies _ (by rfl) _ _ _ (by rfl) (K + 2) 5 iu _ 1 1 Try.underlying22 HIo Z0o Z1o Z2o rfl (by omega) u9 (4 * k) (ints .u8 (outK s k)) (by rfl) ((ho.out.alloc _).drew)
                        ⟨wr.heap.size, 0, none⟩ 4 4 [.int .u8 (x / 16777216 % 256), .int .u8 (x / 65536 % 256), .int .u8 (x / 256 % 256), .int .u8 (x % 256)] (by rfl) (by rfl) (World.news_of_block (cs := #[.int .u8 (x / 16777216 % 256), .int .u8 (x / 65536 % 256), .int .u8 (x / 256 % 256), .int .u8 (x % 256)]) (t := 5) (fr := (0, 0)) (heap_alloc_new wr _)) (by simp [Value.oneCell'])
                        (by omega) (by unfold maxLen; omega) (by omega) (by simp; omega) (wr.heap.size + 1) (by simp) ?_; intro gg cg w1 hown1 hgrow hat hlt1))
                  go_wp2
                  go_roundw
                  case rel =>
                    refine ⟨k + 1, by omega, by go_num, ⟨?_⟩, ⟨(kh.out.alloc _).drew.grown hgrow (Ne.symm ag)⟩, ?_⟩
                    · rw [Hsucc.out, ints_append]; exact hown1
                    · exact B6.out.trans (((Below.refl (K + 1) wr).alloc (by omega) _).drew.trans ((own_below (ho.out.alloc _).drew hgrow (by simp; omega)).mono (by omega)))
                  case measure => simp [intOf]; omega
                · have hk8 : k = 8 := by omega
                  subst hk8
                  obtain ⟨M, cap', rfl, hM, hc32, hmax⟩ := own_slice ho.out (by omega)
                  go_wp2
                  go_ret
                  have hsha : sha xs = outK s 8 := by rw [outK_8, ← HS.out, ← Hal.out]; rfl
                  refine ⟨M, cap', rfl, by have := B5.out.size; omega, hc32, hmax, ⟨sha_len _, sha_bytes _, Or.inr ⟨M, 0, rfl, ?_⟩⟩, hN ▸ (B5.out.trans (B6.out.mono (by omega)))⟩
                  intro i hi
                  rw [hsha, Nat.zero_add]
                  exact own_cell ho.out i hi
        | succ k =>
          rw [show ((k + 1 : Nat) : Int) - 1 = (k : Int) by omega]
          have e8 := be8_succ (n * 8) k (by omega)
          rw [show q + (8 - (k + 1)) = q + (7 - k) by omega, show 8 - (k + 1) = 7 - k by omega] at own6
          rw [show q + (8 - (k + 1)) = q + (7 - k) by omega]
          rw [show 8 - (k + 1) = 7 - k by omega] at e8
          have E8 := Kept.mk e8
          obtain ⟨p, hp⟩ : ∃ p, q + (7 - k) = p := ⟨_, rfl⟩
          have hp1 : p < 1073741824 + 256 := by omega
          have hp0 : 0 < p := by omega
          have HPp := Kept.mk hp
          rw [hp] at own6 ⊢
          clear e8 hp
          have hk8 : k = 0 ∨ k = 1 ∨ k = 2 ∨ k = 3 ∨ k = 4 ∨ k = 5 ∨ k = 6 ∨ k = 7 := by omega
          rcases hk8 with rfl | rfl | rfl | rfl | rfl | rfl | rfl | rfl
          · go_wp2_with ((with_reducible refine sel 40 ?_); refine wpList_append_rd rfl (.tmp 32) (.tmp 39) 22 rfl (K + 2) 5 Try.underlying22 info_u8 (.slice (some ⟨g, 0, none⟩) p c) p _ rfl (own6.out.alloc _) _ 1 1 [(n : Int) * 8 % 256] rfl (rd_one _ _ (by omega)) (by omega) (by simp; omega) ?_; intro v7 w7 own7 hg7; have b7 := Kept.mk (B6.out.trans (((Below.refl (K + 2) wr).alloc (by omega) _).trans (own_below (own6.out.alloc _) hg7 (by simp; omega)))); clear hg7)
            obtain ⟨g7, c7, rfl, hg7, hc7, hm7⟩ := own_slice own7.out (by omega)
            go_roundw
            case rel =>
              refine ⟨0, g7, c7, by omega, by rw [← HPp.out], by rfl, hm7, ⟨?_, b7.out⟩⟩
              have := own7.out
              rw [← ints_append, List.append_assoc] at this
              rw [E8.out, show q + (8 - 0) = p + 1 by rw [← HPp.out]]
              rw [show (((n * 8 / 256 ^ 0 % 256 : Nat) : Nat) : Int) = (n : Int) * 8 % 256 by rw [show (256 : Nat) ^ 0 = 1 from rfl]; omega]
              exact this
            case measure => simp [intOf]
          · go_wp2_with ((with_reducible refine sel 40 ?_); refine wpList_append_rd rfl (.tmp 32) (.tmp 39) 22 rfl (K + 2) 5 Try.underlying22 info_u8 (.slice (some ⟨g, 0, none⟩) p c) p _ rfl (own6.out.alloc _) _ 1 1 [(n : Int) * 8 / 256 % 256] rfl (rd_one _ _ (by omega)) (by omega) (by simp; omega) ?_; intro v7 w7 own7 hg7; have b7 := Kept.mk (B6.out.trans (((Below.refl (K + 2) wr).alloc (by omega) _).trans (own_below (own6.out.alloc _) hg7 (by simp; omega)))); clear hg7)
            obtain ⟨g7, c7, rfl, hg7, hc7, hm7⟩ := own_slice own7.out (by omega)
            go_roundw
            case rel =>
              refine ⟨1, g7, c7, by omega, by rw [← HPp.out], by rfl, hm7, ⟨?_, b7.out⟩⟩
              have := own7.out
              rw [← ints_append, List.append_assoc] at this
              rw [E8.out, show q + (8 - 1) = p + 1 by rw [← HPp.out]]
              rw [show (((n * 8 / 256 ^ 1 % 256 : Nat) : Nat) : Int) = (n : Int) * 8 / 256 % 256 by rw [show (256 : Nat) ^ 1 = 256 from rfl]; omega]
              exact this
            case measure => simp [intOf]
          · go_wp2_with ((with_reducible refine sel 40 ?_); refine wpList_append_rd rfl (.tmp 32) (.tmp 39) 22 rfl (K + 2) 5 Try.underlying22 info_u8 (.slice (some ⟨g, 0, none⟩) p c) p _ rfl (own6.out.alloc _) _ 1 1 [(n : Int) * 8 / 65536 % 256] rfl (rd_one _ _ (by omega)) (by omega) (by simp; omega) ?_; intro v7 w7 own7 hg7; have b7 := Kept.mk (B6.out.trans (((Below.refl (K + 2) wr).alloc (by omega) _).trans (own_below (own6.out.alloc _) hg7 (by simp; omega)))); clear hg7)
            obtain ⟨g7, c7, rfl, hg7, hc7, hm7⟩ := own_slice own7.out (by omega)
            go_roundw
            case rel =>
              refine ⟨2, g7, c7, by omega, by rw [← HPp.out], by rfl, hm7, ⟨?_, b7.out⟩⟩
              have := own7.out
              rw [← ints_append, List.append_assoc] at this
              rw [E8.out, show q + (8 - 2) = p + 1 by rw [← HPp.out]]
              rw [show (((n * 8 / 256 ^ 2 % 256 : Nat) : Nat) : Int) = (n : Int) * 8 / 65536 % 256 by rw [show (256 : Nat) ^ 2 = 65536 from rfl]; omega]
              exact this
            case measure => simp [intOf]
          · go_wp2_with ((with_reducible refine sel 40 ?_); refine wpList_append_rd rfl (.tmp 32) (.tmp 39) 22 rfl (K + 2) 5 Try.underlying22 info_u8 (.slice (some ⟨g, 0, none⟩) p c) p _ rfl (own6.out.alloc _) _ 1 1 [(n : Int) * 8 / 16777216 % 256] rfl (rd_one _ _ (by omega)) (by omega) (by simp; omega) ?_; intro v7 w7 own7 hg7; have b7 := Kept.mk (B6.out.trans (((Below.refl (K + 2) wr).alloc (by omega) _).trans (own_below (own6.out.alloc _) hg7 (by simp; omega)))); clear hg7)
            obtain ⟨g7, c7, rfl, hg7, hc7, hm7⟩ := own_slice own7.out (by omega)
            go_roundw
            case rel =>
              refine ⟨3, g7, c7, by omega, by rw [← HPp.out], by rfl, hm7, ⟨?_, b7.out⟩⟩
              have := own7.out
              rw [← ints_append, List.append_assoc] at this
              rw [E8.out, show q + (8 - 3) = p + 1 by rw [← HPp.out]]
              rw [show (((n * 8 / 256 ^ 3 % 256 : Nat) : Nat) : Int) = (n : Int) * 8 / 16777216 % 256 by rw [show (256 : Nat) ^ 3 = 16777216 from rfl]; omega]
              exact this
            case measure => simp [intOf]
          · go_wp2_with ((with_reducible refine sel 40 ?_); refine wpList_append_rd rfl (.tmp 32) (.tmp 39) 22 rfl (K + 2) 5 Try.underlying22 info_u8 (.slice (some ⟨g, 0, none⟩) p c) p _ rfl (own6.out.alloc _) _ 1 1 [(n : Int) * 8 / 4294967296] rfl (rd_one _ _ (by omega)) (by omega) (by simp; omega) ?_; intro v7 w7 own7 hg7; have b7 := Kept.mk (B6.out.trans (((Below.refl (K + 2) wr).alloc (by omega) _).trans (own_below (own6.out.alloc _) hg7 (by simp; omega)))); clear hg7)
            obtain ⟨g7, c7, rfl, hg7, hc7, hm7⟩ := own_slice own7.out (by omega)
            go_roundw
            case rel =>
              refine ⟨4, g7, c7, by omega, by rw [← HPp.out], by rfl, hm7, ⟨?_, b7.out⟩⟩
              have := own7.out
              rw [← ints_append, List.append_assoc] at this
              rw [E8.out, show q + (8 - 4) = p + 1 by rw [← HPp.out]]
              rw [show (((n * 8 / 256 ^ 4 % 256 : Nat) : Nat) : Int) = (n : Int) * 8 / 4294967296 by rw [show (256 : Nat) ^ 4 = 4294967296 from rfl]; omega]
              exact this
            case measure => simp [intOf]
          · go_wp2_with ((with_reducible refine sel 40 ?_); refine wpList_append_rd rfl (.tmp 32) (.tmp 39) 22 rfl (K + 2) 5 Try.underlying22 info_u8 (.slice (some ⟨g, 0, none⟩) p c) p _ rfl (own6.out.alloc _) _ 1 1 [(n : Int) * 8 / 1099511627776] rfl (rd_one _ _ (by omega)) (by omega) (by simp; omega) ?_; intro v7 w7 own7 hg7; have b7 := Kept.mk (B6.out.trans (((Below.refl (K + 2) wr).alloc (by omega) _).trans (own_below (own6.out.alloc _) hg7 (by simp; omega)))); clear hg7)
            obtain ⟨g7, c7, rfl, hg7, hc7, hm7⟩ := own_slice own7.out (by omega)
            go_roundw
            case rel =>
              refine ⟨5, g7, c7, by omega, by rw [← HPp.out], by rfl, hm7, ⟨?_, b7.out⟩⟩
              have := own7.out
              rw [← ints_append, List.append_assoc] at this
              rw [E8.out, show q + (8 - 5) = p + 1 by rw [← HPp.out]]
              rw [show (((n * 8 / 256 ^ 5 % 256 : Nat) : Nat) : Int) = (n : Int) * 8 / 1099511627776 by rw [show (256 : Nat) ^ 5 = 1099511627776 from rfl]; omega]
              exact this
            case measure => simp [intOf]
          · go_wp2_with ((with_reducible refine sel 40 ?_); refine wpList_append_rd rfl (.tmp 32) (.tmp 39) 22 rfl (K + 2) 5 Try.underlying22 info_u8 (.slice (some ⟨g, 0, none⟩) p c) p _ rfl (own6.out.alloc _) _ 1 1 [(n : Int) * 8 / 281474976710656] rfl (rd_one _ _ (by omega)) (by omega) (by simp; omega) ?_; intro v7 w7 own7 hg7; have b7 := Kept.mk (B6.out.trans (((Below.refl (K + 2) wr).alloc (by omega) _).trans (own_below (own6.out.alloc _) hg7 (by simp; omega)))); clear hg7)
            obtain ⟨g7, c7, rfl, hg7, hc7, hm7⟩ := own_slice own7.out (by omega)
            go_roundw
            case rel =>
              refine ⟨6, g7, c7, by omega, by rw [← HPp.out], by rfl, hm7, ⟨?_, b7.out⟩⟩
              have := own7.out
              rw [← ints_append, List.append_assoc] at this
              rw [E8.out, show q + (8 - 6) = p + 1 by rw [← HPp.out]]
              rw [show (((n * 8 / 256 ^ 6 % 256 : Nat) : Nat) : Int) = (n : Int) * 8 / 281474976710656 by rw [show (256 : Nat) ^ 6 = 281474976710656 from rfl]; omega]
              exact this
            case measure => simp [intOf]
          · go_wp2_with ((with_reducible refine sel 40 ?_); refine wpList_append_rd rfl (.tmp 32) (.tmp 39) 22 rfl (K + 2) 5 Try.underlying22 info_u8 (.slice (some ⟨g, 0, none⟩) p c) p _ rfl (own6.out.alloc _) _ 1 1 [(n : Int) * 8 / 72057594037927936] rfl (rd_one _ _ (by omega)) (by omega) (by simp; omega) ?_; intro v7 w7 own7 hg7; have b7 := Kept.mk (B6.out.trans (((Below.refl (K + 2) wr).alloc (by omega) _).trans (own_below (own6.out.alloc _) hg7 (by simp; omega)))); clear hg7)
            obtain ⟨g7, c7, rfl, hg7, hc7, hm7⟩ := own_slice own7.out (by omega)
            go_roundw
            case rel =>
              refine ⟨7, g7, c7, by omega, by rw [← HPp.out], by rfl, hm7, ⟨?_, b7.out⟩⟩
              have := own7.out
              rw [← ints_append, List.append_assoc] at this
              rw [E8.out, show q + (8 - 7) = p + 1 by rw [← HPp.out]]
              rw [show (((n * 8 / 256 ^ 7 % 256 : Nat) : Nat) : Int) = (n : Int) * 8 / 72057594037927936 by rw [show (256 : Nat) ^ 7 = 72057594037927936 from rfl]; omega]
              exact this
            case measure => simp [intOf]
    · have h56' : ¬ ((q : Int) % 64 = 56) := by omega
      go_wp2_with ((with_reducible refine sel 23 ?_); refine wpList_append_rd rfl (.tmp 21) (.tmp 22) 22 rfl (K + 2) 5 Try.underlying22 info_u8 (.slice (some ⟨g, 0, none⟩) q c) q _ rfl (own6.out.alloc _) _ 1 1 [0] rfl (rd_one _ _ (by omega)) (by omega) (by simp; omega) ?_; intro v7 w7 own7 hg7; have b7 := Kept.mk (B6.out.trans (((Below.refl (K + 2) wr).alloc (by omega) _).trans (own_below (own6.out.alloc _) hg7 (by simp; omega)))); clear hg7)
      obtain ⟨g7, c7, rfl, hg7, hc7, hm7⟩ := own_slice own7.out (by omega)
      go_roundw
      case rel =>
        refine ⟨j + 1, g7, c7, HP.out h56, by rw [← Hq.out]; rfl, hm7, ⟨?_, b7.out⟩⟩
        have := own7.out
        rw [← ints_append, List.append_assoc, List.cons_append, ← List.replicate_succ'] at this
        rw [show n + 1 + (j + 1) = q + 1 by rw [← Hq.out]; omega]
        exact this
      case measure => simp [lenOf]; have := Hq.out; have := HP.out h56; omega
end Go.Proofs.Ytimdbljagpbecaa.Sha

/-
  The document's own frame: Sectors, Text.
-/




namespace Go.Proofs.Ytimdbljagpbecaa.Frame
open Go.RowKit Go.Proofs.Ytimdbljagpbecaa.Sha Go.Proofs.Ytimdbljagpbecaa.Wire

theorem rsectors_any (n : Int) (w : World) : Calls Try.prog 14 #[.int .i64 n] w fun e w' => e = .returned (.int .i64 (sectorsF n)) ∧ w = w' := by
  by_cases h1 : n < 0
  · rw [show sectorsF n = 0 by unfold sectorsF; rw [if_pos (.inl h1)]]
    go_enter Try.func14, Try.ntmps14
    go_wp2
    go_ret
    exact ⟨rfl, rfl⟩
  · by_cases h2 : 60000 < n
    · rw [show sectorsF n = 0 by unfold sectorsF; rw [if_pos (.inr h2)]]
      go_enter Try.func14, Try.ntmps14
      go_wp2
      go_ret
      exact ⟨rfl, rfl⟩
    · have e : sectorsF n = (24 + n + 62) / 63 := by unfold sectorsF; rw [if_neg (by omega)]
      have hw1 : wrap64 (24 + n) = 24 + n := by unfold wrap64; omega
      have hw2 : wrap64 (24 + n + 62) = 24 + n + 62 := by unfold wrap64; omega
      have hq : Int.tdiv (24 + n + 62) 63 = (24 + n + 62) / 63 := Int.tdiv_eq_ediv_of_nonneg (by omega)
      have HE := Kept.mk e
      clear e
      go_enter Try.func14, Try.ntmps14
      go_wp2
      go_ret
      exact ⟨by rw [HE.out, ← hq]; rfl, rfl⟩
end Go.Proofs.Ytimdbljagpbecaa.Frame

/-
  Appends of bytes that are read, at a step of a region.
-/



namespace Go.Proofs.Ytimdbljagpbecaa.Sha
open Go.RowKit

/-- at a step of a region: a row of bytes that is read goes behind what the call made -/
theorem step_append_rd {P : Program} {w : World} {ops : Array Oper} {o : Oper} {a : Act} {K : Act → World → Prop} {Q : Exit → Act → World → Prop} {E : Prop} (hgd : o.guard = none) (s x : Operand) (t : TypeId)
    (ho : o.op = .call { callee := .builtin .append, args := #[s, x], argTypes := #[t, t] })
    (base : Nat) (e : TypeId) (ht : P.underlying t = some (.slice e)) (hi : (P.info? e).map (fun i => (i.zero, i.size, i.bytes)) = some (some (.int .u8 0), 1, 1))
    (v : Value) (n : Nat) (xs : List Value) (hs : a.eval s = v) (hown : w.ownsRow base e 1 v n xs)
    (A : Option Addr) (m c : Nat) (news : List Int) (hx : a.eval x = .slice A m c) (hr : Rd w A m news)
    (hsmall : n + m ≤ 4294967296) (hbase : base ≤ w.heap.size)
    (h : ∀ v' w', Kept (w'.ownsRow base e 1 v' (n + m) (xs ++ ints .u8 news)) → w.grownBy w' v.ownBlock → Below base w w' → (v'.ownBlock = v.ownBlock ∨ v'.ownBlock = some w.heap.size) → K (a.put o.dst v') w') :
    if Region.wanted o (yielded ops a.tmps) = true then Oper.wp P o a w K Q else E := by
  have hw : Region.wanted o (yielded ops a.tmps) = true := by simp [Region.wanted, hgd]
  rw [if_pos hw]
  obtain ⟨iu, hi, hz0, hz1, hz2⟩ := info_parts hi
  obtain ⟨h1, -, h3⟩ := hr
  cases A with
  | none =>
    have h0 : m = 0 := by
      rcases h3 with h3 | ⟨_, _, h4, _⟩
      · exact h3
      · cases h4
    subst h0
    obtain rfl : news = [] := List.eq_nil_of_length_eq_zero h1
    have hrun := run_append_nil_any (P := P) w base t o.type e iu 1 ht hi v n xs hown c
    unfold Oper.wp
    simp [execOp, ho, resolve, invoke, builtin, hs, hx, hrun, Result.andThen]
    exact h v w ⟨by simpa [ints] using hown⟩ (World.grownBy.refl _ _) (Below.refl _ _) (.inl rfl)
  | some ad =>
    have hc : ∀ j u, (ints .u8 news)[j]? = some u → w.cell? (ad.add j) = some u := by
      intro j u hj
      have hjl : j < news.length := by have := (List.getElem?_eq_some_iff.1 hj).1; rwa [ints_len] at this
      rcases h3 with h3 | ⟨b, o', h4, hc⟩
      · omega
      · injection h4 with h4
        subst h4
        rw [Sha.ints_at _ _ _ hjl] at hj
        rw [← hj, show (⟨b, o', none⟩ : Addr).add j = ⟨b, o' + j, none⟩ by cases j <;> simp [Addr.add]]
        exact hc j (by omega)
    obtain ⟨v', w', hr, h2, h3, -, h5⟩ := run_append_own_at (P := P) w base t o.type e iu (.int .u8 0) 1 1 ht hi hz0 hz1 hz2 rfl (by omega) v n xs hown ad m c (ints .u8 news) (by rw [ints_len, h1]; omega) hc (ints_one _ _) (by unfold maxLen; omega) (by omega) hbase
    unfold Oper.wp execOp
    simp only [ho, resolve, invoke, builtin, Sem.run_bind, Sem.run_pure, Result.andThen_ok, List.map_toArray, List.map_cons, List.map_nil, hs, hx, hr]
    exact h v' w' ⟨h2⟩ h3 (own_below hown h3 hbase) h5
end Go.Proofs.Ytimdbljagpbecaa.Sha
