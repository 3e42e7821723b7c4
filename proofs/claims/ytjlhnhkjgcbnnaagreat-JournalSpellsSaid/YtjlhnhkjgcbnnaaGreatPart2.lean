/-
  Parts laid together: ShaOnce FramePost FrameFace FrameCutSpec FrameOkSpec Slices SliceAt FrameCode1 Bytes WireMem FrameCells ByteRows ShaBlk ShaRnd ShaMix ShaHash ShaWr.
-/
import Derived.Test.YtjlhnhkjgcbnnaaGreatPart1
import Derived.Tactics
import Derived.Tactics2
import Derived.Defers
import Derived.Laws.Pointers
import Derived.Laws.LoneSync
import Derived.RegionTactic
import Derived.RegionCalls
import Derived.ChangeAlike
import Derived.Laws.NewBlocks
import Derived.Laws.Slices
import Derived.Laws.BytesArg
import Derived.Lib.SlBytesConst
import Derived.Lib.Bytes
import Derived.Deep.RegionHeld3
import Derived.Deep.AppendLies
import Derived.Laws.BitsAllLaws
import Derived.Maps.AppendAt
import Derived.Deep.MidRow
import Derived.Deep.Cut
import Derived.Laws.CopyOwn
import Derived.Lib.QuietBelow

/-
  The table of package sha is made by who asks first (sync.Once), and found made from then on.
-/










namespace Go.Proofs.YtjlhnhkjgcbnnaaGreat.Sha
open Go.RowKit

theorem disable (w : World) : (callFunc 149 #[]).run Tryz.prog w = .ok (.value (.tuple #[])) w := run_call_mark0 Tryz.func149 (by kernel_rfl) (by kernel_rfl) (by kernel_rfl) .disable (by kernel_rfl) w
theorem enable (w : World) : (callFunc 151 #[]).run Tryz.prog w = .ok (.value (.tuple #[])) w := run_call_mark0 Tryz.func151 (by kernel_rfl) (by kernel_rfl) (by kernel_rfl) .enable (by kernel_rfl) w
theorem acquire (a : Addr) (w : World) : (callFunc 152 #[.pointer (some a)]).run Tryz.prog w = .ok (.value (.tuple #[])) w := run_call_marked Tryz.func152 (by kernel_rfl) (by kernel_rfl) (by kernel_rfl) .acquire (by kernel_rfl) a w
theorem releaseMerge (a : Addr) (w : World) : (callFunc 154 #[.pointer (some a)]).run Tryz.prog w = .ok (.value (.tuple #[])) w := run_call_marked Tryz.func154 (by kernel_rfl) (by kernel_rfl) (by kernel_rfl) .releaseMerge (by kernel_rfl) a w

set_option maxHeartbeats 400000 in
theorem load_any (a : Addr) (d : Int) (w : World) (hc : w.cell? a = some (.int .u32 d)) :
    Calls Tryz.prog 51 #[.pointer (some a)] w fun e w' => e = .returned (.bool (d != 0)) ∧ w = w' := by
  have hl := run_call_load (P := Tryz.prog) Tryz.func68 (by kernel_rfl) (by kernel_rfl) (by kernel_rfl) .u32 (by kernel_rfl) hc
  go_enter Tryz.func51, Tryz.ntmps51
  go_wp2
  go_ret
  exact ⟨rfl, rfl⟩
theorem load_no (a : Addr) (w : World) (hc : w.cell? a = some (.int .u32 0)) :
    Calls Tryz.prog 51 #[.pointer (some a)] w fun e w' => e = .returned (.bool false) ∧ w = w' := load_any a 0 w hc
theorem load_yes (a : Addr) (w : World) (hc : w.cell? a = some (.int .u32 1)) :
    Calls Tryz.prog 51 #[.pointer (some a)] w fun e w' => e = .returned (.bool true) ∧ w = w' := load_any a 1 w hc

theorem store_deferred (a : Addr) (x : Value) (u : FrameMode) (w : World) (hc : w.cell? a = some x) (hz : w.frozen? a = false) :
    CallsD Tryz.prog 46 #[.pointer (some a), .bool true] u w fun e u' w' => u' = u ∧ (e = .returned (.tuple #[]) ∧ w' = w.drew.setCell a (.int .u32 1)) := by
  have hc' : w.drew.cell? a = some x := by go_simp
  have hz' : w.drew.frozen? a = false := by go_simp
  have hst := run_call_store (P := Tryz.prog) Tryz.func66 (by kernel_rfl) (by kernel_rfl) (by kernel_rfl) (by kernel_rfl) (k := .u32) (y := 1) hc' hz'
  go_enter_d Tryz.func46, Tryz.ntmps46
  go_wp2
  go_region_calls
  all_goals (go_end0; exact ⟨rfl, rfl⟩)

set_option maxRecDepth 100000 in
set_option maxHeartbeats 400000 in
theorem iunlock (a : Addr) (w : World) (hc : w.cell? a = some (.int .i32 1)) (hz : w.frozen? a = false) :
    Calls Tryz.prog 148 #[.pointer (some a)] w fun e w' => e = .returned (.tuple #[]) ∧ w' = w.setCell a (.int .i32 0) := by
  have hd := disable
  have he := enable
  have hr := releaseMerge
  have hadd := run_call_add (P := Tryz.prog) Tryz.func155 (by kernel_rfl) (by kernel_rfl) (by kernel_rfl) .i32 (by kernel_rfl) (y := -1) (s := 0) hc hz (by simp [go_sem]; rfl)
  have hcv := run_convert_to_unsafe (P := Tryz.prog) (src := 202) (dst := 206) Tryz.underlying202 Tryz.underlying206 (by kernel_rfl) hc
  go_enter Tryz.func148, Tryz.ntmps148
  go_wp2
  go_end0
  exact ⟨rfl, rfl⟩

set_option maxRecDepth 100000 in
set_option maxHeartbeats 400000 in
theorem ilock (a : Addr) (w : World) (hc : w.cell? a = some (.int .i32 0)) (hz : w.frozen? a = false) :
    Calls Tryz.prog 147 #[.pointer (some a)] w fun e w' => e = .returned (.tuple #[]) ∧ w' = w.setCell a (.int .i32 1) := by
  have hd := disable
  have he := enable
  have ha := acquire
  have hcas := run_call_cas_hit (P := Tryz.prog) Tryz.func150 (by kernel_rfl) (by kernel_rfl) (by kernel_rfl) .i32 (by kernel_rfl) (y := 1) hc hz
  have hc' : (w.setCell a (.int .i32 1)).cell? a = some (.int .i32 1) := World.cell?_setCell_same w a _ hc
  have hcv := run_convert_to_unsafe (P := Tryz.prog) (src := 202) (dst := 206) Tryz.underlying202 Tryz.underlying206 (by kernel_rfl) hc'
  go_enter Tryz.func147, Tryz.ntmps147
  go_wp2
  first | go_end0 | (simp only [Exit.inBlock, Exit.then]; refine bodyPost_ret (results_none rfl _ _ _) rfl ?_) | refine bodyPost_ret (results_none rfl _ _ _) rfl ?_
  exact ⟨rfl, rfl⟩

set_option maxRecDepth 100000 in
set_option maxHeartbeats 400000 in
theorem lock (t : Nat) (w : World) (hc : w.cell? ⟨t, 1, none⟩ = some (.int .i32 0)) (hz : w.frozen? ⟨t, 1, none⟩ = false) :
    Calls Tryz.prog 143 #[.pointer (some ⟨t, 1, none⟩)] w fun e w' => e = .returned (.tuple #[]) ∧ w' = w.setCell ⟨t, 1, none⟩ (.int .i32 1) := by
  have c := Lib.hid (ilock _ _ hc hz)
  go_enter Tryz.func143, Tryz.ntmps143
  go_wp2_with fail
  refine c.out.mono ?_
  rintro e w' ⟨rfl, rfl⟩
  go_wp2
  go_end0
  exact ⟨rfl, rfl⟩

set_option maxRecDepth 100000 in
set_option maxHeartbeats 400000 in
theorem unlock_deferred (t : Nat) (u : FrameMode) (w : World) (hc : w.cell? ⟨t, 1, none⟩ = some (.int .i32 1)) (hz : w.frozen? ⟨t, 1, none⟩ = false) :
    CallsD Tryz.prog 144 #[.pointer (some ⟨t, 1, none⟩)] u w fun e u' w' => u' = u ∧ (e = .returned (.tuple #[]) ∧ w' = w.setCell ⟨t, 1, none⟩ (.int .i32 0)) := by
  have c := Lib.hid (iunlock _ _ hc hz)
  go_enter_d Tryz.func144, Tryz.ntmps144
  go_wp2_with fail
  refine c.out.mono ?_
  rintro e w' ⟨rfl, rfl⟩
  go_wp2
  go_end0
  exact ⟨rfl, rfl⟩

/-- a table to which nobody has come; one that is made -/
def Fresh (w : World) (t : Nat) : Prop := Blk w t 79 (tbl (.int .u32 0) (.int .i32 0) (.int .u32 0) 0 0)
def Made (w : World) (t : Nat) : Prop := Blk w t 79 (tbl (.int .u32 1) (.int .i32 0) (.int .u32 0) 64 8)
def Tab (w : World) (t : Nat) : Prop := Fresh w t ∨ Made w t

set_option maxRecDepth 100000 in
set_option maxHeartbeats 1600000 in
theorem slow_any (t : Nat) (w : World) (ht : Fresh w t) :
    Calls Tryz.prog 136 #[.pointer (some ⟨t, 0, none⟩), .func (.func 132) #[.pointer (some ⟨t, 0, none⟩)] #[]] w fun e w' => e = .returned (.tuple #[]) ∧ Made w' t ∧ Bar [t] w w' := by
  have k1 := ht.set_ 1 (.int .i32 1)
  rw [tbl_set1] at k1
  have b1 : Bar [t] w (w.setCell ⟨t, 1, none⟩ (.int .i32 1)) := (Bar.refl _ _).setCell (by simp) _
  have c1 := Lib.hid (lock t w ((ht.cell 1).trans (tbl_1 _ _ _ _ _)) (ht.frozen 1))
  have H := Lib.hid ht
  clear ht
  go_enter_defers Tryz.func136, Tryz.ntmps136
  go_wp2_with fail
  refine c1.out.mono ?_
  rintro e w' ⟨rfl, rfl⟩
  have c2 := Lib.hid (load_no ⟨t, 0, none⟩ (w.setCell ⟨t, 1, none⟩ (.int .i32 1)) ((k1.cell 0).trans (tbl_0 _ _ _ _ _)))
  have c3 := Lib.hid (reckon_any t _ _ _ _ k1)
  clear c1
  generalize w.setCell ⟨t, 1, none⟩ (.int .i32 1) = w1 at *
  have K1 := Lib.hid k1
  clear k1
  go_wp2_with fail
  refine c2.out.mono ?_
  rintro e w' ⟨rfl, rfl⟩
  go_wp2_with fail
  refine c3.out.mono ?_
  rintro e w2 ⟨rfl, k2, b2⟩
  have K2 := Lib.hid k2
  clear k2
  go_wp2
  change Leaves _ _ _ _ _ _ _
  refine leaves_cons (f := 46) (args := #[.pointer (some ⟨t, 0, none⟩), .bool true]) (by simp) (by simp [go_sem]) ?_
  refine (store_deferred ⟨t, 0, none⟩ (.int .u32 0) .returning _ ((K2.out.cell 0).trans (tbl_0 _ _ _ _ _)) (K2.out.frozen 0)).mono ?_
  rintro e u' w'' ⟨rfl, rfl, rfl⟩
  have k3 := K2.out.drew.set_ 0 (.int .u32 1)
  rw [tbl_set0] at k3
  have b3 := (b2.drew.setCell (p := ⟨t, 0, none⟩) (by simp) (.int .u32 1))
  refine leaves_cons (f := 144) (args := #[.pointer (some ⟨t, 1, none⟩)]) (by simp [settle]) (by simp [go_sem]) ?_
  refine (unlock_deferred t _ _ ((k3.cell 1).trans (tbl_1 _ _ _ _ _)) (k3.frozen 1)).mono ?_
  rintro e u' w'' ⟨rfl, rfl, rfl⟩
  have k4 := k3.set_ 1 (.int .i32 0)
  rw [tbl_set1] at k4
  have b4 := b3.setCell (p := ⟨t, 1, none⟩) (by simp) (.int .i32 0)
  have b5 := b1.trans b4 (by simp)
  simp [Leaves, settle, results, Tryz.results136]
  exact ⟨k4, b5⟩

set_option maxRecDepth 100000 in
set_option maxHeartbeats 400000 in
theorem do_first (t : Nat) (w : World) (ht : Fresh w t) :
    Calls Tryz.prog 131 #[.pointer (some ⟨t, 0, none⟩), .func (.func 132) #[.pointer (some ⟨t, 0, none⟩)] #[]] w fun e w' => e = .returned (.tuple #[]) ∧ Made w' t ∧ Bar [t] w w' := by
  have c2 := Lib.hid (load_no ⟨t, 0, none⟩ w ((ht.cell 0).trans (tbl_0 _ _ _ _ _)))
  have c3 := Lib.hid (slow_any t w ht)
  clear ht
  go_enter Tryz.func131, Tryz.ntmps131
  go_wp2_with fail
  refine c2.out.mono ?_
  rintro e w' ⟨rfl, rfl⟩
  go_wp2_with fail
  refine c3.out.mono ?_
  rintro e w' ⟨rfl, k, b⟩
  go_wp2
  go_end0
  exact ⟨rfl, k, b⟩

set_option maxRecDepth 100000 in
set_option maxHeartbeats 400000 in
theorem do_done (t : Nat) (fv : Value) (w : World) (ht : Made w t) :
    Calls Tryz.prog 131 #[.pointer (some ⟨t, 0, none⟩), fv] w fun e w' => e = .returned (.tuple #[]) ∧ w = w' := by
  have c2 := Lib.hid (load_yes ⟨t, 0, none⟩ w ((ht.cell 0).trans (tbl_0 _ _ _ _ _)))
  clear ht
  go_enter Tryz.func131, Tryz.ntmps131
  go_wp2_with fail
  refine c2.out.mono ?_
  rintro e w' ⟨rfl, rfl⟩
  go_wp2
  go_end0
  exact ⟨rfl, rfl⟩

set_option maxRecDepth 100000 in
set_option maxHeartbeats 400000 in
theorem made_again (t : Nat) (w : World) (ht : Made w t) :
    Calls Tryz.prog 118 #[.pointer (some ⟨t, 0, none⟩)] w fun e w' => e = .returned (.pointer (some ⟨t, 0, none⟩)) ∧ w = w' := by
  have hmf : ∀ (fn : Fn) (first cap : Array Value) (w : World), (Instr.makeFunc fn first cap).run Tryz.prog w = .ok (.func fn first cap) w := fun _ _ _ _ => rfl
  have c2 := Lib.hid fun fv => (do_done t fv w ht)
  clear ht
  go_enter Tryz.func118, Tryz.ntmps118
  go_wp2_with fail
  refine (c2.out _).mono ?_
  rintro e w' ⟨rfl, rfl⟩
  go_wp2
  go_ret
  exact ⟨rfl, rfl⟩

set_option maxRecDepth 100000 in
set_option maxHeartbeats 400000 in
theorem made_any (t : Nat) (w : World) (ht : Tab w t) :
    Calls Tryz.prog 118 #[.pointer (some ⟨t, 0, none⟩)] w fun e w' => e = .returned (.pointer (some ⟨t, 0, none⟩)) ∧ Made w' t ∧ Bar [t] w w' := by
  rcases ht with ht | ht
  · have hmf : ∀ (fn : Fn) (first cap : Array Value) (w : World), (Instr.makeFunc fn first cap).run Tryz.prog w = .ok (.func fn first cap) w := fun _ _ _ _ => rfl
    have c2 := Lib.hid (do_first t w ht)
    clear ht
    go_enter Tryz.func118, Tryz.ntmps118
    go_wp2_with fail
    refine c2.out.mono ?_
    rintro e w' ⟨rfl, k, b⟩
    go_wp2
    go_ret
    exact ⟨rfl, k, b⟩
  · exact (made_again t w ht).mono fun _ _ ⟨he, hw⟩ => ⟨he, hw ▸ ht, hw ▸ Bar.refl _ _⟩
end Go.Proofs.YtjlhnhkjgcbnnaaGreat.Sha

/-
  What calls of package frame leave behind.
-/


namespace Go.Proofs.YtjlhnhkjgcbnnaaGreat.Frame
open Go.RowKit Go.Proofs.YtjlhnhkjgcbnnaaGreat.Sha Go.Proofs.YtjlhnhkjgcbnnaaGreat.Wire

/-- a frame, its body in memory -/
def Fr (w : World) (A : Option Addr) (n : Nat) (f : FV) : Prop := Rd w A n f.body
def frv (f : FV) (A : Option Addr) (n c : Nat) : Value := .agg #[.int .i64 f.kind, .int .i64 f.gen, .int .i64 f.seq, .slice A n c]

def PutPost (t : Nat) (f : FV) (w : World) (x : Ending) (w' : World) : Prop := ∃ A n c, x = .returned (.tuple #[.slice A n c, .int .i64 (putF f).1]) ∧ n ≤ c ∧ c ≤ maxLen ∧ Rd w' A n (putF f).2 ∧ (∀ F : List Nat, (∀ k ∈ F, k < w.heap.size) → Off A n F) ∧ Tab w' t ∧ Bar [t] w w'
def GetPost (t : Nat) (g : FV × Int × Int) (w : World) (x : Ending) (w' : World) : Prop := ∃ A n c, x = .returned (.tuple #[frv g.1 A n c, .int .i64 g.2.1, .int .i64 g.2.2]) ∧ n ≤ c ∧ c ≤ maxLen ∧ Rd w' A n g.1.body ∧ (∀ F : List Nat, (∀ k ∈ F, k < w.heap.size) → Off A n F) ∧ Tab w' t ∧ Bar [t] w w'
theorem ftab_lt {w : World} {t : Nat} (h : Tab w t) : t < w.heap.size := by
  rcases h with h | h <;> exact Blk.lt h
theorem ftab_below {w w' : World} {t B : Nat} (h : Tab w t) (b : Below B w w') (hB : t < B) : Tab w' t := by
  rcases h with h | h
  · exact .inl (Blk.below h b hB)
  · exact .inr (Blk.below h b hB)
theorem ftab_bar {w w' : World} {t : Nat} {l : List Nat} (h : Tab w t) (b : Bar l w w') (hl : t ∉ l) : Tab w' t := by
  rcases h with h | h
  · exact .inl (Blk.bar h b hl)
  · exact .inr (Blk.bar h b hl)
end Go.Proofs.YtjlhnhkjgcbnnaaGreat.Frame

/-
  The contracts that package frame's calls must meet.
-/

namespace Go.Proofs.YtjlhnhkjgcbnnaaGreat.Frame
open Go.RowKit Go.Proofs.YtjlhnhkjgcbnnaaGreat.Sha Go.Proofs.YtjlhnhkjgcbnnaaGreat.Wire

structure FrameApi : Prop where
  sectors : ∀ (n : Int) (w : World), Calls Tryz.prog 75 #[.int .i64 n] w fun e w' => e = .returned (.int .i64 (sectorsF n)) ∧ w = w'
  put : ∀ {w : World} {t : Nat} {f : FV} {A : Option Addr} {n c : Nat}, Tab w t → Rd w A n f.body → n ≤ c → c ≤ maxLen → n ≤ 100000 → Off A n [t] → Calls Tryz.prog 60 #[.pointer (some ⟨t, 0, none⟩), frv f A n c] w (PutPost t f w)
  get : ∀ {w : World} {t : Nat} {b : List Int} {A : Option Addr} {n c : Nat}, Tab w t → Rd w A n b → n ≤ c → c ≤ maxLen → n ≤ 1000000 → Off A n [t] → Calls Tryz.prog 56 #[.pointer (some ⟨t, 0, none⟩), .slice A n c] w (GetPost t (getF b) w)
end Go.Proofs.YtjlhnhkjgcbnnaaGreat.Frame

/-
  P7.4, of the document's own answers: what is cut short is none.
-/

namespace Go.Proofs.YtjlhnhkjgcbnnaaGreat.Frame
open Go.Proofs.YtjlhnhkjgcbnnaaGreat.Sha Go.Proofs.YtjlhnhkjgcbnnaaGreat.Wire

theorem errF_ok {f : FV} (he : errF f = 0) : f.body.length ≤ 60000 ∧ fits f.kind 1 = true ∧ fits f.gen 4 = true ∧ fits f.seq 4 = true := by
  unfold errF at he
  split at he
  · omega
  · split at he
    · next h1 h2 => exact ⟨by omega, h2⟩
    · omega
theorem fN_laid (f : FV) (r : List Int) (he : errF f = 0) : fN (laid (textF f) ++ r) = f.body.length := by
  obtain ⟨hn, -⟩ := errF_ok he
  have hL := textF_len f
  have hh : h14 (laid (textF f) ++ r) = be f.kind.toNat 1 ++ be 0 1 ++ be f.gen.toNat 4 ++ be f.seq.toNat 4 ++ be f.body.length 4 := by
    rw [laid_head _ _ (by omega)]
    have : (textF f).take 16 = headF f := by
      unfold textF
      rw [List.append_assoc, List.take_append_of_le_length (by rw [headF_len]; exact Nat.le_refl _), List.take_of_length_le (by rw [headF_len]; exact Nat.le_refl _)]
    rw [this]
    unfold headF
    rfl
  unfold fN
  rw [hh]
  rw [show ((be f.kind.toNat 1 ++ be 0 1 ++ be f.gen.toNat 4 ++ be f.seq.toNat 4 ++ be f.body.length 4).drop 10).take 4 = be f.body.length 4 by simp [be]]
  exact val_be _ _ (by omega)
theorem fN_take (l : List Int) (m : Nat) (h : 17 ≤ m) : fN (l.take m) = fN l := by
  unfold fN h14
  rw [List.take_take, show min 17 m = 17 by omega]
theorem get_cut (f : FV) (he : errF f = 0) (m : Nat) (hm : m < 64 * secs (textF f).length) : getF ((laid (textF f)).take m) = (noF, 0, 2) := by
  unfold getF
  rw [if_neg]
  rintro ⟨h1, -, -, h4, -, -⟩
  have hl : ((laid (textF f)).take m).length = m := by rw [List.length_take, laid_len]; omega
  rw [hl] at h1 h4
  have hn : fN ((laid (textF f)).take m) = f.body.length := by
    rw [fN_take _ _ (by omega)]
    have := fN_laid f [] he
    rwa [List.append_nil] at this
  rw [hn] at h4
  obtain ⟨hb, -⟩ := errF_ok he
  unfold sectorsF at h4
  rw [if_neg (by omega)] at h4
  have hL := textF_len f
  unfold secs at hm
  omega
/-- none, or one: the error is 2, or 0 -/
theorem get_err (b : List Int) : (getF b).2.2 = 0 ∨ (getF b).2.2 = 2 := by
  unfold getF
  split
  · exact .inl rfl
  · exact .inr rfl
end Go.Proofs.YtjlhnhkjgcbnnaaGreat.Frame

/-
  P7.2, of values alone: sectors hold a frame (so that what is read, laid again, is the same) just where the marks, the beginning, the sum and the zeros are right.
-/

namespace Go.Proofs.YtjlhnhkjgcbnnaaGreat.Frame
open Go.Proofs.YtjlhnhkjgcbnnaaGreat.Sha Go.Proofs.YtjlhnhkjgcbnnaaGreat.Wire

/-- the sixteen bytes in front -/
def head0 (b : List Int) : List Int := (allF b 1).take 16
theorem head0_is (b : List Int) : head0 b = (b.drop 1).take 16 := by
  unfold head0 allF
  simp only [cat, Nat.mul_zero, Nat.zero_add, List.nil_append]
  rw [List.take_take]; rfl
theorem head0_drop (b : List Int) : (head0 b).drop 2 = h14 b := by
  rw [head0_is, List.take_drop]
  unfold h14
  rw [List.drop_drop]
theorem head0_len {b : List Int} (h : 64 ≤ b.length) : (head0 b).length = 16 := by rw [head0_is, List.length_take, List.length_drop]; omega
theorem head0_bytes {b : List Int} (hb : Bytes b) : Bytes (head0 b) := by rw [head0_is]; exact (hb.drop _).take _
def hK (H : List Int) : Nat := val ((H.drop 2).take 1)
def hZ (H : List Int) : Nat := val ((H.drop 3).take 1)
def hG (H : List Int) : Nat := val ((H.drop 4).take 4)
def hS (H : List Int) : Nat := val ((H.drop 8).take 4)
def hN (H : List Int) : Nat := val ((H.drop 12).take 4)
/-- a beginning -/
def headOk (H : List Int) : Prop := val (H.take 2) = 25446 ∧ hZ H = 0 ∧ hN H ≤ 60000
theorem fK_head (b : List Int) : fK b = hK (head0 b) := by unfold fK hK; rw [head0_drop]
theorem fG_head (b : List Int) : fG b = hG (head0 b) := by unfold fG hG; rw [← head0_drop, List.drop_drop]
theorem fS_head (b : List Int) : fS b = hS (head0 b) := by unfold fS hS; rw [← head0_drop, List.drop_drop]
theorem fN_head (b : List Int) : fN b = hN (head0 b) := by unfold fN hN; rw [← head0_drop, List.drop_drop]
theorem val1 {l : List Int} (hl : l.length = 1) (hb : Bytes l) : l = [((val l : Nat) : Int)] := by
  match l, hl with
  | [x], _ =>
    have := hb x (by simp)
    simp only [val, valA]
    rw [List.cons.injEq]
    exact ⟨by omega, rfl⟩
/-- a beginning's bytes, out of its numbers -/
theorem head_is {H : List Int} (hl : H.length = 16) (hb : Bytes H) (h2 : val (H.take 2) = 25446) (h0 : hZ H = 0) :
    H = [99, 102] ++ be (hK H) 1 ++ be 0 1 ++ be (hG H) 4 ++ be (hS H) 4 ++ be (hN H) 4 := by
  have e2 : be (val (H.take 2)) (H.take 2).length = H.take 2 := be_val _ (hb.take _)
  have e3 : be (hK H) ((H.drop 2).take 1).length = (H.drop 2).take 1 := be_val _ ((hb.drop _).take _)
  have e4 : be (hZ H) ((H.drop 3).take 1).length = (H.drop 3).take 1 := be_val _ ((hb.drop _).take _)
  have e5 : be (hG H) ((H.drop 4).take 4).length = (H.drop 4).take 4 := be_val _ ((hb.drop _).take _)
  have e6 : be (hS H) ((H.drop 8).take 4).length = (H.drop 8).take 4 := be_val _ ((hb.drop _).take _)
  have e7 : be (hN H) ((H.drop 12).take 4).length = (H.drop 12).take 4 := be_val _ ((hb.drop _).take _)
  simp only [List.length_take, List.length_drop, hl] at e2 e3 e4 e5 e6 e7
  rw [h2] at e2
  rw [h0] at e4
  have d2 : be 25446 2 = [99, 102] := by decide +kernel
  rw [show min 2 16 = 2 from rfl, d2] at e2
  rw [show min 1 (16 - 2) = 1 from rfl] at e3
  rw [show min 1 (16 - 3) = 1 from rfl] at e4
  rw [show min 4 (16 - 4) = 4 from rfl] at e5
  rw [show min 4 (16 - 8) = 4 from rfl] at e6
  rw [show min 4 (16 - 12) = 4 from rfl] at e7
  rw [e2, e3, e4, e5, e6, e7]
  match H, hl with
  | [a0, a1, a2, a3, a4, a5, a6, a7, a8, a9, b0, b1, b2, b3, b4, b5], _ => rfl
/-- the sectors that a beginning asks for -/
def sOf (b : List Int) : Nat := (sectorsF (fN b)).toNat
def codeOk (b : List Int) : Prop :=
  64 ≤ b.length ∧ at_ b 0 = 1 ∧ headOk (head0 b) ∧ 64 * sOf b ≤ b.length ∧ (∀ i, i < sOf b → at_ b (64 * i) = mk i) ∧
  ((allF b (sOf b)).take 24).drop 16 = (sha ((allF b (sOf b)).take 16 ++ fB b)).take 8 ∧ ∀ x ∈ (allF b (sOf b)).drop (24 + fN b), x = 0
theorem sOf_is {b : List Int} (h : fN b ≤ 60000) : sOf b = (24 + fN b + 62) / 63 := by unfold sOf sectorsF; rw [if_neg (by omega)]; omega
theorem fB_len {b : List Int} (h : fN b ≤ 60000) (hs : 64 * sOf b ≤ b.length) : (fB b).length = fN b := by
  have e := sOf_is h
  have l := allF_len (sOf b) hs
  unfold fB
  rw [List.length_drop, List.length_take]
  change min (24 + fN b) (allF b (sOf b)).length - 24 = fN b
  rw [l]; omega
theorem fits_four {n : Nat} (h : n < 4294967296) : fits (n : Int) 4 = true := by unfold fits; simp; omega
theorem fits_one {n : Nat} (h : n < 256) : fits (n : Int) 1 = true := by unfold fits; simp; omega
theorem errF_of {b : List Int} (hb : Bytes b) (h : fN b ≤ 60000) (hs : 64 * sOf b ≤ b.length) : errF (frameOf b) = 0 := by
  have h1 : fK b < 256 := by
    have := val_lt ((h14 b).take 1) (((hb.take _).drop _).take _)
    have h2 : 256 ^ ((h14 b).take 1).length ≤ 256 ^ 1 := Nat.pow_le_pow_right (by omega) (by simp; omega)
    unfold fK; omega
  have h2 : fG b < 4294967296 := val4 _ ((((hb.take _).drop _).drop _).take _) (by simp; omega)
  have h3 : fS b < 4294967296 := val4 _ ((((hb.take _).drop _).drop _).take _) (by simp; omega)
  unfold errF
  have hl : (frameOf b).body.length = fN b := fB_len h hs
  rw [hl, if_neg (by omega), if_pos ⟨fits_one h1, fits_four h2, fits_four h3⟩]
theorem ok_code {b : List Int} (hb : Bytes b) : getOk b ↔ codeOk b := by
  constructor
  · rintro ⟨h1, h2, h3, h4, h5, h6⟩
    have hn : fN b ≤ 60000 := by
      rcases Nat.lt_or_ge 60000 (fN b) with h | h
      · exact absurd (by unfold sectorsF; rw [if_pos (.inr (by omega))]) h3
      · exact h
    have hS := sOf_is hn
    have hSi : sectorsF (fN b) = (sOf b : Int) := by unfold sOf; have : 0 ≤ sectorsF (fN b) := by unfold sectorsF; split <;> omega
                                                     omega
    rw [hSi] at h4 h6
    have h4' : 64 * sOf b ≤ b.length := by omega
    rw [show (64 * (sOf b : Int)).toNat = 64 * sOf b by omega] at h6
    have he : errF (frameOf b) = 0 := errF_of hb hn h4'
    have hbl : (frameOf b).body.length = fN b := fB_len hn h4'
    have htl : (textF (frameOf b)).length = 24 + fN b := by rw [textF_len, hbl]
    have hsec : secs (textF (frameOf b)).length = sOf b := by rw [htl, hS]; rfl
    simp only [putF] at h6
    rw [if_pos he] at h6
    have hbe : b = laid (textF (frameOf b)) ++ b.drop (64 * sOf b) := by rw [h6, List.take_append_drop]
    obtain ⟨f, hf⟩ : ∃ f, frameOf b = f := ⟨_, rfl⟩
    obtain ⟨r, hr⟩ : ∃ r, b.drop (64 * sOf b) = r := ⟨_, rfl⟩
    rw [hf] at hbe hsec htl hbl
    rw [hr] at hbe
    have hfb : fB b = f.body := by rw [← hf]; rfl
    have hall : allF b (sOf b) = padF (textF f) := by
      have := laid_all (textF f) r
      rw [hsec, ← hbe] at this
      exact this
    have hone : head0 b = headF f := by
      have := laid_body (textF f) r 0 (by omega)
      rw [← hbe] at this
      simp only [Nat.mul_zero, Nat.zero_add, List.drop_zero] at this
      have e1 : head0 b = ((b.drop 1).take 63).take 16 := by rw [head0_is, List.take_take]; rfl
      rw [e1, this, List.take_take, show min 16 63 = 16 from rfl]
      unfold padF textF
      rw [List.append_assoc, List.append_assoc, List.take_append_of_le_length (by rw [headF_len]; omega), List.take_of_length_le (by rw [headF_len]; omega)]
    have h16 : (padF (textF f)).take 16 = headF f := by
      unfold padF textF
      rw [List.append_assoc, List.append_assoc, List.take_append_of_le_length (by rw [headF_len]; omega), List.take_of_length_le (by rw [headF_len]; omega)]
    refine ⟨h1, h2, ⟨?_, ?_, by rw [← fN_head]; exact hn⟩, h4', fun i hi => ?_, ?_, ?_⟩
    · rw [hone]
      rw [show (headF f).take 2 = [99, 102] by unfold headF; rfl]
      rfl
    · rw [hone]
      unfold hZ
      rw [show ((headF f).drop 3).take 1 = [0] by simp [headF, be]]
      rfl
    · have := laid_mark (textF f) r i (by omega)
      rw [← hbe, at_drop] at this
      exact this
    · rw [hall, h16, hfb]
      unfold padF textF
      have l24 : (headF f ++ (sha (headF f ++ f.body)).take 8).length = 24 := by rw [List.length_append, headF_len, List.length_take, sha_len]; rfl
      rw [List.append_assoc, List.take_append_of_le_length (by omega), List.take_of_length_le (by omega), List.drop_append_of_le_length (by rw [headF_len]; omega), List.drop_of_length_le (by rw [headF_len]; omega), List.nil_append]
    · rw [hall]
      intro x hx
      unfold padF at hx
      rw [List.drop_append_of_le_length (by omega), List.drop_of_length_le (by omega), List.nil_append] at hx
      exact List.eq_of_mem_replicate hx
  · rintro ⟨h1, h2, ⟨k1, k2, k3⟩, h4, h5, h6, h7⟩
    have hn : fN b ≤ 60000 := by rw [fN_head]; exact k3
    have hS := sOf_is hn
    have hSi : sectorsF (fN b) = (sOf b : Int) := by unfold sOf; have : 0 ≤ sectorsF (fN b) := by unfold sectorsF; split <;> omega
                                                     omega
    have he : errF (frameOf b) = 0 := errF_of hb hn h4
    have hbl : (frameOf b).body.length = fN b := fB_len hn h4
    have htl : (textF (frameOf b)).length = 24 + fN b := by rw [textF_len, hbl]
    have hsec : secs (textF (frameOf b)).length = sOf b := by rw [htl, hS]; rfl
    refine ⟨h1, h2, by rw [hSi]; omega, by rw [hSi]; omega, by simp only [putF]; exact he, ?_⟩
    simp only [putF]
    rw [if_pos he, hSi, show (64 * (sOf b : Int)).toNat = 64 * sOf b by omega]
    obtain ⟨X, hX⟩ : ∃ X, allF b (sOf b) = X := ⟨_, rfl⟩
    rw [hX] at h6 h7
    have hXl : X.length = 63 * sOf b := by rw [← hX]; exact allF_len _ h4
    have hh : X.take 16 = headF (frameOf b) := by
      have e1 : X.take 16 = head0 b := by
        rw [← hX]
        have : allF b (sOf b) = allF b 1 ++ (allF b (sOf b)).drop 63 := by
          obtain ⟨m, hm⟩ : ∃ m, sOf b = m + 1 := ⟨sOf b - 1, by omega⟩
          have e2 : allF b 1 = (allF b (sOf b)).take 63 := by
            have := cat_piece (X := fun i => (b.drop (64 * i + 1)).take 63) (c := 63) (sOf b) (fun j hj => by rw [List.length_take, List.length_drop]; omega) 0 (by omega) []
            rw [Nat.mul_zero, List.drop_zero, List.append_nil] at this
            unfold allF
            rw [this]
            rfl
          rw [e2, List.take_append_drop]
        rw [this, List.take_append_of_le_length (by rw [allF_len 1 (by omega)]; omega)]
        rfl
      rw [e1, head_is (head0_len h1) (head0_bytes hb) k1 k2]
      unfold headF
      have : (frameOf b).body.length = hN (head0 b) := by rw [hbl, fN_head]
      rw [this]
      show _ = [99, 102] ++ be ((fK b : Nat) : Int).toNat 1 ++ be 0 1 ++ be ((fG b : Nat) : Int).toNat 4 ++ be ((fS b : Nat) : Int).toNat 4 ++ be (hN (head0 b)) 4
      rw [Int.toNat_natCast, Int.toNat_natCast, Int.toNat_natCast, fK_head, fG_head, fS_head]
    have hfB : fB b = (X.take (24 + fN b)).drop 24 := by rw [← hX]; rfl
    have hpad : padF (textF (frameOf b)) = X := by
      have z : X.drop (24 + fN b) = List.replicate (63 * sOf b - (24 + fN b)) 0 := by
        rw [List.eq_replicate_iff]
        exact ⟨by rw [List.length_drop, hXl], h7⟩
      unfold padF
      rw [htl, show secs (24 + fN b) = sOf b by rw [← htl]; exact hsec, ← z]
      have t1 : textF (frameOf b) = X.take (24 + fN b) := by
        unfold textF
        rw [← hh]
        have : (frameOf b).body = (X.take (24 + fN b)).drop 24 := hfB
        rw [this, ← hfB, ← h6, hfB]
        have s1 : X.take 24 = (X.take (24 + fN b)).take 24 := by rw [List.take_take, show min 24 (24 + fN b) = 24 by omega]
        have s2 : X.take 16 = (X.take 24).take 16 := by rw [List.take_take]; rfl
        rw [s2, List.take_append_drop, s1, List.take_append_drop]
      rw [t1, List.take_append_drop]
    rw [laid_is, hsec, hpad, ← cat_pieces b 64 (sOf b)]
    refine cat_congr _ (fun i hi => ?_)
    have hp := cat_piece (X := fun i => (b.drop (64 * i + 1)).take 63) (c := 63) (sOf b) (fun j hj => by rw [List.length_take, List.length_drop]; omega) i hi []
    rw [List.append_nil] at hp
    have hp2 : (X.drop (63 * i)).take 63 = (b.drop (64 * i + 1)).take 63 := by rw [← hX]; exact hp
    rw [hp2, ← h5 i hi]
    have hlt : 64 * i < b.length := by omega
    have hd : b.drop (64 * i) = at_ b (64 * i) :: b.drop (64 * i + 1) := by
      rw [List.drop_eq_getElem_cons hlt]
      congr 1
      simp [at_, hlt]
    rw [hd]
    rfl
/-- what is told of sectors that hold no frame -/
theorem get_no {b : List Int} (hb : Bytes b) (h : ¬ codeOk b) : getF b = (noF, 0, 2) := by unfold getF; rw [if_neg (fun k => h ((ok_code hb).1 k))]
theorem get_yes {b : List Int} (hb : Bytes b) (h : codeOk b) : getF b = (frameOf b, (sOf b : Int), 0) := by
  have h3 := (ok_code hb).2 h
  have hn : fN b ≤ 60000 := by rw [fN_head]; exact h.2.2.1.2.2
  have hSi : sectorsF (fN b) = (sOf b : Int) := by unfold sOf; have : 0 ≤ sectorsF (fN b) := by unfold sectorsF; split <;> omega
                                                   omega
  unfold getF; rw [if_pos h3, hSi]
end Go.Proofs.YtjlhnhkjgcbnnaaGreat.Frame

/-
  Pieces of a row of bytes: s[l:h], s[l:], s[:h].
-/


namespace Go.Proofs.YtjlhnhkjgcbnnaaGreat.Sha
open Go.RowKit

theorem Rd.piece {w : World} {A : Option Addr} {n c : Nat} {xs : List Int} (r : Rd w A n xs) (hc : n ≤ c) (l h : Nat) (h1 : l ≤ h) (h2 : h ≤ n) :
    Rd w (if c = l then A else A.map (·.add (l * 1))) (h - l) ((xs.take h).drop l) ∧ ∀ F, Off A n F → Off (if c = l then A else A.map (·.add (l * 1))) (h - l) F := by
  obtain ⟨r1, r2, r3⟩ := r
  have e1 : ((xs.take h).drop l).length = h - l := by simp [List.length_drop, List.length_take, r1]; omega
  have e2 : Bytes ((xs.take h).drop l) := (Bytes.take r2 h).drop l
  by_cases h0 : h - l = 0
  · rw [h0] at e1 ⊢
    exact ⟨⟨e1, e2, .inl rfl⟩, fun F _ => .inl rfl⟩
  · have hcl : ¬ c = l := by omega
    rw [if_neg hcl, Nat.mul_one]
    obtain ⟨b, o, rfl, hcell⟩ := r3.resolve_left (by omega)
    have ea : (⟨b, o, none⟩ : Addr).add l = ⟨b, o + l, none⟩ := by cases l <;> simp [Addr.add]
    simp only [Option.map_some, ea]
    refine ⟨⟨e1, e2, .inr ⟨b, o + l, rfl, fun i hi => ?_⟩⟩, fun F hF => .inr ?_⟩
    · have := hcell (l + i) (by omega)
      rw [Nat.add_assoc, this, at_drop, at_take (by omega)]
    · rcases hF with hF | ⟨g, o', hA, hg⟩
      · omega
      · injection hA with hA
        injection hA with hA _
        subst hA
        exact ⟨b, o + l, rfl, hg⟩

theorem elem_u8 : Tryz.prog.elem 38 = 5 := by kernel_rfl
theorem und_u8 : Tryz.prog.underlying 38 = some (.slice (Tryz.prog.elem 38)) := by rw [elem_u8]; exact Tryz.underlying38
theorem size_u8 (w : World) : (sizeOf (Tryz.prog.elem 38)).run Tryz.prog w = .ok 1 w := by
  obtain ⟨iu, hi, _, hz1, _⟩ := info_parts info_u8
  rw [elem_u8]
  simp [sizeOf, typeInfo, hi, hz1]

theorem slice_lh {w : World} {A : Option Addr} {n c : Nat} {xs : List Int} (r : Rd w A n xs) (hc : n ≤ c) (l h : Nat) (h1 : l ≤ h) (h2 : h ≤ n) (li hi : Int) (e1 : li = l) (e2 : hi = h) :
    ∃ A', (∀ w', (Instr.slice 38 (.slice A n c) (some (.int .i64 li)) (some (.int .i64 hi)) none).run Tryz.prog w' = .ok (.slice A' (h - l) (c - l)) w') ∧ Rd w A' (h - l) ((xs.take h).drop l) ∧ ∀ F, Off A n F → Off A' (h - l) F := by
  refine ⟨_, fun w' => ?_, r.piece hc l h h1 h2⟩
  subst e1 e2
  rw [run_slice_lh w' 38 A n c und_u8 .i64 .i64 l h (by omega) (by omega) (by omega), size_u8]
  rfl
theorem slice_l {w : World} {A : Option Addr} {n c : Nat} {xs : List Int} (r : Rd w A n xs) (hc : n ≤ c) (l : Nat) (h1 : l ≤ n) (li : Int) (e1 : li = l) :
    ∃ A', (∀ w', (Instr.slice 38 (.slice A n c) (some (.int .i64 li)) none none).run Tryz.prog w' = .ok (.slice A' (n - l) (c - l)) w') ∧ Rd w A' (n - l) (xs.drop l) ∧ ∀ F, Off A n F → Off A' (n - l) F := by
  have hp := r.piece hc l n h1 (Nat.le_refl _)
  rw [show xs.take n = xs from List.take_of_length_le (by rw [r.1]; exact Nat.le_refl _)] at hp
  refine ⟨_, fun w' => ?_, hp⟩
  subst e1
  rw [run_slice_l w' 38 A n c und_u8 .i64 l (by omega) (by omega), size_u8]
  rfl
theorem slice_h {w : World} {A : Option Addr} {n c : Nat} {xs : List Int} (r : Rd w A n xs) (hc : n ≤ c) (h : Nat) (h2 : h ≤ n) (hi : Int) (e2 : hi = h) :
    ∃ A', (∀ w', (Instr.slice 38 (.slice A n c) none (some (.int .i64 hi)) none).run Tryz.prog w' = .ok (.slice A' h c) w') ∧ Rd w A' h (xs.take h) ∧ ∀ F, Off A n F → Off A' h F := by
  have hp := r.piece hc 0 h (Nat.zero_le _) h2
  rw [List.drop_zero, Nat.sub_zero] at hp
  refine ⟨_, fun w' => ?_, hp⟩
  subst e2
  rw [run_slice_h w' 38 A n c und_u8 .i64 h (by omega) (by omega), size_u8]
  rfl
end Go.Proofs.YtjlhnhkjgcbnnaaGreat.Sha

/-
  Pieces of a row of bytes, by their addresses: s[l:], s[:h]. For any seat with bytes.
-/

namespace Go.Proofs.YtjlhnhkjgcbnnaaGreat.Sha
open Go.RowKit

theorem slice_l_at (g o n c l : Nat) (h1 : l ≤ n) (hl : l < c) (li : Int) (e1 : li = l) (w' : World) :
    (Instr.slice 38 (.slice (some ⟨g, o, none⟩) n c) (some (.int .i64 li)) none none).run Tryz.prog w' = .ok (.slice (some ⟨g, o + l, none⟩) (n - l) (c - l)) w' := by
  subst e1
  rw [run_slice_l w' 38 (some ⟨g, o, none⟩) n c und_u8 .i64 l (by omega) (by omega), size_u8]
  have hcl : ¬ c = l := by omega
  have ea : (⟨g, o, none⟩ : Addr).add l = ⟨g, o + l, none⟩ := by cases l <;> simp [Addr.add]
  simp [Result.andThen, sliced, hcl, ea]
theorem slice_h_at (A : Option Addr) (n c h : Nat) (h1 : h ≤ c) (hi : Int) (e1 : hi = h) (w' : World) :
    (Instr.slice 38 (.slice A n c) none (some (.int .i64 hi)) none).run Tryz.prog w' = .ok (.slice A h c) w' := by
  subst e1
  rw [run_slice_h w' 38 A n c und_u8 .i64 h (by omega) (by omega), size_u8]
  have ea : ∀ a : Addr, a.add 0 = a := fun a => by simp [Addr.add]
  cases A <;> simp [Result.andThen, sliced, ea]
theorem slice_lh_all (A : Option Addr) (n c : Nat) (hc : n ≤ c) (l h : Nat) (h1 : l ≤ h) (h2 : h ≤ n) (li hi : Int) (e1 : li = l) (e2 : hi = h) :
    ∃ A', (∀ w', (Instr.slice 38 (.slice A n c) (some (.int .i64 li)) (some (.int .i64 hi)) none).run Tryz.prog w' = .ok (.slice A' (h - l) (c - l)) w') ∧ (∀ w xs, Rd w A n xs → Rd w A' (h - l) ((xs.take h).drop l)) ∧ ∀ F, Off A n F → Off A' (h - l) F := by
  refine ⟨if c = l then A else A.map (·.add (l * 1)), fun w' => ?_, fun w xs r => (r.piece hc l h h1 h2).1, fun F hF => ?_⟩
  · subst e1 e2
    rw [run_slice_lh w' 38 A n c und_u8 .i64 .i64 l h (by omega) (by omega) (by omega), size_u8]
    rfl
  · rcases hF with hF | ⟨g, o, rfl, hg⟩
    · exact .inl (by omega)
    · by_cases hcl : c = l
      · rw [if_pos hcl]; exact .inr ⟨g, o, rfl, hg⟩
      · rw [if_neg hcl, Nat.mul_one]
        refine .inr ⟨g, o + l, ?_, hg⟩
        simp only [Option.map_some]
        have ea : (⟨g, o, none⟩ : Addr).add l = ⟨g, o + l, none⟩ := by cases l <;> simp [Addr.add]
        rw [ea]
end Go.Proofs.YtjlhnhkjgcbnnaaGreat.Sha

/-
  Package frame: Sectors, mark, sector, blank.
-/


namespace Go.Proofs.YtjlhnhkjgcbnnaaGreat.Frame
open Go.RowKit Go.Proofs.YtjlhnhkjgcbnnaaGreat.Sha Go.Proofs.YtjlhnhkjgcbnnaaGreat.Wire

theorem csectors_any (n : Int) (w : World) : Calls Tryz.prog 75 #[.int .i64 n] w fun e w' => e = .returned (.int .i64 (sectorsF n)) ∧ w = w' := by
  by_cases h1 : n < 0
  · rw [show sectorsF n = 0 by unfold sectorsF; rw [if_pos (.inl h1)]]
    go_enter Tryz.func75, Tryz.ntmps75
    go_wp2
    go_ret
    exact ⟨rfl, rfl⟩
  · by_cases h2 : 60000 < n
    · rw [show sectorsF n = 0 by unfold sectorsF; rw [if_pos (.inr h2)]]
      go_enter Tryz.func75, Tryz.ntmps75
      go_wp2
      go_ret
      exact ⟨rfl, rfl⟩
    · have e : sectorsF n = (24 + n + 62) / 63 := by unfold sectorsF; rw [if_neg (by omega)]
      have hw1 : wrap64 (24 + n) = 24 + n := by unfold wrap64; omega
      have hw2 : wrap64 (24 + n + 63) = 24 + n + 63 := by unfold wrap64; omega
      have hw3 : wrap64 (24 + n + 63 - 1) = 24 + n + 63 - 1 := by unfold wrap64; omega
      have hq : Int.tdiv (24 + n + 63 - 1) 63 = (24 + n + 63 - 1) / 63 := Int.tdiv_eq_ediv_of_nonneg (by omega)
      have HE := Kept.mk e
      clear e
      go_enter Tryz.func75, Tryz.ntmps75
      go_wp2
      go_ret
      refine ⟨?_, rfl⟩
      rw [HE.out, show 24 + n + 62 = 24 + n + 63 - 1 by omega, ← hq]; rfl

theorem mark_any (i : Nat) (w : World) : Calls Tryz.prog 92 #[.int .i64 i] w fun e w' => e = .returned (.int .u8 (mk i)) ∧ w = w' := by
  by_cases h : i = 0
  · subst h
    go_enter Tryz.func92, Tryz.ntmps92
    go_wp2
    go_ret
    exact ⟨rfl, rfl⟩
  · have h' : ¬ (i : Int) = 0 := by omega
    rw [show mk i = 2 by unfold mk; rw [if_neg h]]
    go_enter Tryz.func92, Tryz.ntmps92
    go_wp2
    go_ret
    exact ⟨rfl, rfl⟩

set_option maxRecDepth 100000 in
set_option maxHeartbeats 1000000 in
theorem sector_any (g o n c i : Nat) (w : World) (h : 64 * (i + 1) ≤ n) (hc : n ≤ c) (hm : n ≤ 1073741824) :
    Calls Tryz.prog 91 #[.slice (some ⟨g, o, none⟩) n c, .int .i64 i] w fun e w' => e = .returned (.slice (some ⟨g, o + 64 * i, none⟩) 64 (c - 64 * i)) ∧ w = w' := by
  have hw : wrap64 ((i : Int) * 64) = ((64 * i : Nat) : Int) := by unfold wrap64; omega
  have s1 := slice_l_at g o n c (64 * i) (by omega) (by omega) ((64 * i : Nat) : Int) rfl
  have s2 := slice_h_at (some ⟨g, o + 64 * i, none⟩) (n - 64 * i) (c - 64 * i) 64 (by omega) 64 rfl
  go_enter Tryz.func91, Tryz.ntmps91
  go_wp2
  go_ret
  exact ⟨by rw [Nat.mul_comm 64 i]; rfl, rfl⟩

/-- bytes 0 alone? -/
def blankB (xs : List Int) : Bool := decide (∀ x ∈ xs, x = 0)
theorem at_mem {xs : List Int} {k : Nat} (h : k < xs.length) : at_ xs k ∈ xs := by
  have := List.getElem_mem h
  have e : at_ xs k = xs[k] := by simp [at_, h]
  rw [e]; exact this

set_option maxRecDepth 100000 in
set_option maxHeartbeats 1000000 in
theorem blank_any (A : Option Addr) (n c : Nat) (xs : List Int) (w : World) (hr : Rd w A n xs) (hn : n ≤ 1073741824) :
    Calls Tryz.prog 78 #[.slice A n c] w fun e w' => e = .returned (.bool (blankB xs)) ∧ w = w' := by
  have HR := Kept.mk hr
  have hlen := Kept.mk hr.1
  clear hr
  go_enter Tryz.func78, Tryz.ntmps78
  go_wp2
  go_loopw [4, 7] (fun _c i wr => ∃ k : Nat, k ≤ n ∧ i = .int .i64 k ∧ Kept (∀ x ∈ xs.take k, x = 0) ∧ w = wr) (fun _ i _ => n - (Go.RowKit.intOf i).toNat)
  case atStart => exact ⟨0, by omega, rfl, ⟨by simp⟩, rfl⟩
  case round =>
    obtain ⟨k, hk, rfl, HZ, rfl⟩ := hrel
    by_cases hkn : k < n
    · have hkn' : (k : Int) < n := by omega
      obtain ⟨bb, oo, rfl, hc⟩ := HR.out.2.2.resolve_left (by omega)
      have x0 := hc k hkn
      have hb := HR.out.2.1.at_ k
      have hmem : at_ xs k ∈ xs := at_mem (by rw [hlen.out]; exact hkn)
      have HS : Kept (xs.take (k + 1) = xs.take k ++ [at_ xs k]) := ⟨by
        rw [List.take_succ_eq_append_getElem (by rw [hlen.out]; exact hkn)]
        simp [at_, show k < xs.length by rw [hlen.out]; exact hkn]⟩
      have HM := Kept.mk hmem
      clear hc hmem
      generalize at_ xs k = x at *
      by_cases hx : x = 0
      · subst hx
        go_wp2
        go_roundw
        case rel => exact ⟨k + 1, by omega, by go_num, ⟨by
          rw [HS.out]
          intro y hy
          rcases List.mem_append.1 hy with hy | hy
          · exact HZ.out y hy
          · simpa using hy⟩, trivial⟩
        case measure => simp [Go.RowKit.intOf]; omega
      · have hbl : Kept (blankB xs = false) := ⟨by
          unfold blankB
          rw [decide_eq_false_iff_not]
          exact fun h => hx (h x HM.out)⟩
        go_wp2
        go_ret
        exact ⟨by rw [hbl.out]; rfl, rfl⟩
    · obtain rfl : k = n := by omega
      have hkn' : ¬ (k : Int) < k := by omega
      have hbl : Kept (blankB xs = true) := ⟨by
        unfold blankB
        rw [decide_eq_true_iff]
        have := HZ.out
        rw [List.take_of_length_le (by rw [hlen.out]; omega)] at this
        exact this⟩
      go_wp2
      go_ret
      exact ⟨by rw [hbl.out]; rfl, rfl⟩
end Go.Proofs.YtjlhnhkjgcbnnaaGreat.Frame

/-
  Two lists of bytes held against each other by the document's own Bytes.
-/




namespace Go.Proofs.YtjlhnhkjgcbnnaaGreat.Sha
open Go.RowKit

theorem conv_same {w : World} {A : Option Addr} {n cap : Nat} {xs : List Int} (r : Rd w A n xs) :
    (convert 38 9 (.slice A n cap)).run Tryz.prog w = .ok (.string (strOfNums xs)) w := by
  obtain ⟨h1, h2, h3⟩ := r
  by_cases h0 : n = 0
  · subst h0
    obtain rfl : xs = [] := List.eq_nil_of_length_eq_zero h1
    cases A with
    | none => exact run_convert_bytes_nil w _ _ Tryz.underlying38 Tryz.underlying5 0 cap _ Tryz.underlying9
    | some a =>
      have hl : (loadCells a 0).run Tryz.prog w = .ok (([] : List Int).map (Value.int .u8)).toArray w := by simp [loadCells, loadCellsFrom]
      rw [run_convert_bytes_string w _ _ 5 _ 0 cap Tryz.underlying38 Tryz.underlying5 Tryz.underlying9, run_bytesToString w _ 0 cap [] hl]
      simp [strOfNums, ByteArray.empty, ByteArray.emptyWithCapacity]
      rfl
  · rcases h3 with h3 | ⟨b, o, rfl, hc⟩
    · exact absurd h3 h0
    · exact run_convert_bytes_arg w _ _ Tryz.underlying38 Tryz.underlying5 b o n cap xs h1 hc _ Tryz.underlying9
set_option maxRecDepth 100000 in
set_option maxHeartbeats 400000 in
theorem bytes_same (A B : Option Addr) (n m c d : Nat) (xs : List Int) (w : World) (ha : Rd w A n xs) (hb : Rd w B m xs) :
    Calls Tryz.prog 52 #[.slice A n c, .slice B m d] w fun e w' => e = .returned (.bool true) ∧ w = w' := by
  have c1 := conv_same (cap := c) ha
  have c2 := conv_same (cap := d) hb
  generalize strOfNums xs = s at *
  clear ha hb
  go_enter Tryz.func52, Tryz.ntmps52
  go_wp2
  go_ret
  exact ⟨rfl, rfl⟩
theorem strOfNums_inj {xs ys : List Int} (hx : Bytes xs) (hy : Bytes ys) (h : (strOfNums xs).toList = (strOfNums ys).toList) : xs = ys := by
  have h1 : (xs.map fun n => UInt8.ofNat n.toNat) = ys.map fun n => UInt8.ofNat n.toNat := by
    rw [Lib.strOfNums_toList, Lib.strOfNums_toList] at h
    exact h
  have hl : xs.length = ys.length := by simpa using congrArg List.length h1
  apply List.ext_getElem hl
  intro i a b
  have h2 : UInt8.ofNat (xs[i]).toNat = UInt8.ofNat (ys[i]).toNat := by
    have := congrArg (fun l => l[i]?) h1
    simpa [a, b] using this
  have bx := hx xs[i] (List.getElem_mem a)
  have byy := hy ys[i] (List.getElem_mem b)
  have h3 := congrArg UInt8.toNat h2
  simp only [UInt8.toNat_ofNat'] at h3
  omega
set_option maxRecDepth 100000 in
set_option maxHeartbeats 400000 in
theorem bytes_any (A B : Option Addr) (n m c d : Nat) (xs ys : List Int) (w : World) (ha : Rd w A n xs) (hb : Rd w B m ys) :
    Calls Tryz.prog 52 #[.slice A n c, .slice B m d] w fun e w' => e = .returned (.bool (sameB xs ys)) ∧ w = w' := by
  by_cases he : xs = ys
  · subst he
    rw [sameB_self]
    exact bytes_same A B n m c d xs w ha hb
  · have hs : sameB xs ys = false := by unfold sameB; simpa using he
    rw [hs]
    have hne : ((strOfNums xs).toList == (strOfNums ys).toList) = false := by
      rw [beq_eq_false_iff_ne]
      exact fun h => he (strOfNums_inj ha.2.1 hb.2.1 h)
    have c1 := conv_same (cap := c) ha
    have c2 := conv_same (cap := d) hb
    generalize strOfNums xs = s at *
    generalize strOfNums ys = s2 at *
    clear ha hb he hs
    go_enter Tryz.func52, Tryz.ntmps52
    go_wp2
    go_ret
    exact ⟨rfl, rfl⟩
end Go.Proofs.YtjlhnhkjgcbnnaaGreat.Sha

/-
  Enc and Dec in memory, of package wire or the document's own (T says which).
-/






namespace Go.Proofs.YtjlhnhkjgcbnnaaGreat.Wire
open Go.RowKit Go.Proofs.YtjlhnhkjgcbnnaaGreat.Sha

theorem shr_fits (n s : Int) (h1 : 1 ≤ s) (h8 : s ≤ 8) (h0 : 0 ≤ n) (hm : n ≤ 4611686018427387904) : (n / 2 ^ (8 * s).toNat == 0) = fits n s := by
  obtain ⟨k, rfl⟩ : ∃ k : Nat, s = k := ⟨s.toNat, by omega⟩
  obtain ⟨m, rfl⟩ : ∃ m : Nat, n = m := ⟨n.toNat, by omega⟩
  have e : (8 * (k : Int)).toNat = 8 * k := by omega
  rw [e]
  have h2 : ((m : Int) / 2 ^ (8 * k)) = ((m / 256 ^ k : Nat) : Int) := by
    rw [← shr_byte]; push_cast; rfl
  rw [h2]
  unfold fits
  by_cases h : m < 256 ^ k
  · rw [Nat.div_eq_of_lt h]
    have h3 : (m : Int) < 256 ^ (k : Int).toNat := by
      have := Int.ofNat_lt.2 h
      rw [Int.natCast_pow] at this
      exact this
    rw [decide_eq_true (show 1 ≤ (k : Int) ∧ (k : Int) ≤ 8 ∧ 0 ≤ (m : Int) ∧ (m : Int) ≤ 4611686018427387904 ∧ (m : Int) < 256 ^ (k : Int).toNat from ⟨h1, h8, h0, hm, h3⟩)]
    rfl
  · have h4 : 0 < m / 256 ^ k := Nat.div_pos (by omega) (Nat.pow_pos (by omega))
    have h3 : ¬ (m : Int) < 256 ^ (k : Int).toNat := by
      intro hc
      apply h
      apply Int.ofNat_lt.1
      rw [Int.natCast_pow]
      exact hc
    rw [decide_eq_false (show ¬ (1 ≤ (k : Int) ∧ (k : Int) ≤ 8 ∧ 0 ≤ (m : Int) ∧ (m : Int) ≤ 4611686018427387904 ∧ (m : Int) < 256 ^ (k : Int).toNat) from fun hc => h3 hc.2.2.2.2)]
    generalize m / 256 ^ k = q at h4 ⊢
    exact beq_eq_false_iff_ne.2 (by omega)
/-- an Enc at block e: what was written, the first error; its blocks -/
def En (T : TypeId) (w : World) (F : List Nat) (e : Nat) (st : St) : Prop := ∃ v, Blk w e T #[v, .int .i64 st.1] ∧ w.ownsRow 0 5 1 v st.2.length (ints .u8 st.2) ∧ F = e :: v.ownBlock.toList
theorem En.lt {T : TypeId} {w : World} {F : List Nat} {e : Nat} {st : St} (h : En T w F e st) : ∀ k ∈ F, k < w.heap.size := by
  obtain ⟨v, h1, h2, rfl⟩ := h
  intro k hk
  rcases List.mem_cons.1 hk with rfl | hk
  · exact h1.lt
  · exact own_lt h2 k hk
theorem En.keep {T : TypeId} {w w' : World} {F G : List Nat} {e : Nat} {st : St} (h : En T w F e st) (b : Bar G w w') (d : Disj F G) : En T w' F e st := by
  obtain ⟨v, h1, h2, rfl⟩ := h
  exact ⟨v, h1.bar b (d _ (List.mem_cons_self ..)), own_keep h2 b (fun g hg => d g (List.mem_cons_of_mem _ hg)), rfl⟩
theorem En.below {T : TypeId} {w w' : World} {F : List Nat} {e : Nat} {st : St} (h : En T w F e st) (b : Below w.heap.size w w') : En T w' F e st := h.keep (barOf b []) (fun _ _ => by simp)

/-- what was grown is stored where it was read -/
theorem en_store {T : TypeId} (hT : 5 ≠ T) {wr wm w1 : World} {e : Nat} {v v' : Value} {err : Int} {n : Nat} {ys : List Int} (hb : Blk wr e T #[v, .int .i64 err]) (hm : Bar [] wr wm) (hg : wm.grownBy w1 v.ownBlock) (hfar : v.ownBlock ≠ some e)
    (ho : w1.ownsRow 0 5 1 v' n (ints .u8 ys)) (hat : v'.ownBlock = v.ownBlock ∨ ∃ g, v'.ownBlock = some g ∧ wr.heap.size ≤ g) :
    En T (w1.setCell ⟨e, 0, none⟩ v') (e :: v'.ownBlock.toList) e (err, ys) ∧ Fp (e :: v.ownBlock.toList) (e :: v'.ownBlock.toList) wr (w1.setCell ⟨e, 0, none⟩ v') := by
  obtain rfl : n = ys.length := by have := ho.1; rw [ints_len] at this; omega
  have b1 : Blk w1 e T #[v, .int .i64 err] := (hb.bar hm (by simp)).grown hg (Ne.symm hfar)
  have hne : v'.ownBlock ≠ some e := own_far ho b1 hT
  refine ⟨⟨v', b1.set_ 0 _, own_keep ho ((Bar.refl [e] w1).setCell (by simp) _) (fun g hg2 hm2 => hne ?_), rfl⟩, ?_, ?_⟩
  · simp at hm2 hg2; rw [hg2, hm2]
  · refine Bar.setCell ?_ (.inl (by simp)) _
    exact (hm.mono (l' := e :: v.ownBlock.toList) (by simp)).grown hg (fun k hk => .inl (by simp [hk]))
  · intro k hk
    rcases List.mem_cons.1 hk with rfl | hk
    · exact .inl (List.mem_cons_self ..)
    · rcases hat with hat | ⟨g, hat, hge⟩
      · rw [hat] at hk; exact .inl (List.mem_cons_of_mem _ hk)
      · rw [hat] at hk; simp at hk; subst hk; exact .inr hge
theorem byte_is (n j : Nat) : IntKind.u8.wrap ((n : Int) / 2 ^ (8 * (j : Int)).toNat) = ((n / 256 ^ j % 256 : Nat) : Int) := by
  rw [IntKind.wrap_u8, show (8 * (j : Int)).toNat = 8 * j by omega, ← shr_byte, Int.natCast_emod, Int.natCast_ediv, Int.natCast_pow]
  rfl
theorem val_step (xs : List Int) (k : Nat) (hk : k < xs.length) : val (xs.take (k + 1)) = val (xs.take k) * 256 + (at_ xs k).toNat := by
  rw [List.take_succ_eq_append_getElem hk, val, valA_append]
  simp only [valA]
  rw [show at_ xs k = xs[k] by simp [at_, hk]]
  rfl
theorem val_take_lt (xs : List Int) (hb : Bytes xs) (k : Nat) (hk : k ≤ xs.length) : val (xs.take k) < 256 ^ k := by
  have := val_lt (xs.take k) (hb.take k)
  rwa [List.length_take, Nat.min_eq_left hk] at this
/-- a byte more, as the program reckons it -/
theorem or_step (v : Nat) (x : Int) (hx : 0 ≤ x ∧ x ≤ 255) (hv : v < 72057594037927936) : bits .or .u64 ((v : Int) * 256) x = ((v * 256 + x.toNat : Nat) : Int) := by
  rw [u64_or _ _ (by omega) (by omega) (by omega) (by omega)]
  congr 1
  rw [show ((v : Int) * 256).toNat = v * 256 by omega]
  exact nat_join 8 (v * 256) x.toNat (by omega) (by omega)

/-- a Dec at block d: what is left, the first error; it reads out of the blocks G -/
def De (T : TypeId) (w : World) (d : Nat) (G : List Nat) (st : St) : Prop :=
  (∀ k ∈ G, k < w.heap.size) ∧ ∃ A c, Blk w d T #[.slice A st.2.length c, .int .i64 st.1] ∧ Rd w A st.2.length st.2 ∧ st.2.length ≤ c ∧ c ≤ 9223372036854775807 ∧ ∀ F : List Nat, Disj G F → Off A st.2.length F
theorem De.lt {T : TypeId} {w : World} {d : Nat} {G : List Nat} {st : St} (h : De T w d G st) : d < w.heap.size := by
  obtain ⟨-, A, c, h1, -⟩ := h
  exact h1.lt
theorem De.lts {T : TypeId} {w : World} {d : Nat} {G : List Nat} {st : St} (h : De T w d G st) : ∀ k ∈ d :: G, k < w.heap.size := fun k hk => by
  rcases List.mem_cons.1 hk with rfl | hk
  · exact h.lt
  · exact h.1 k hk
theorem De.bytes {T : TypeId} {w : World} {d : Nat} {G : List Nat} {st : St} (h : De T w d G st) : Bytes st.2 := by
  obtain ⟨-, A, c, h1, h2, -⟩ := h
  exact h2.2.1
theorem De.keep {T : TypeId} {w w' : World} {d : Nat} {G : List Nat} {st : St} {F : List Nat} (h : De T w d G st) (b : Bar F w w') (hd : d ∉ F) (hg : Disj G F) : De T w' d G st := by
  obtain ⟨h0, A, c, h1, h2, h3, h4, h5⟩ := h
  exact ⟨fun k hk => Nat.lt_of_lt_of_le (h0 k hk) b.size, A, c, h1.bar b hd, h2.far b (h5 F hg), h3, h4, h5⟩
theorem De.below {T : TypeId} {w w' : World} {d : Nat} {G : List Nat} {st : St} (h : De T w d G st) (b : Below w.heap.size w w') : De T w' d G st := h.keep (barOf b []) (by simp) (fun _ _ => by simp)
/-- what is left and the error stored anew -/
theorem De.set {T : TypeId} {w w' : World} {d : Nat} {G : List Nat} {st' : St} {A : Option Addr} {n c : Nat} (hG : ∀ k ∈ G, k < w.heap.size) (hd : d ∉ G) (hn : n = st'.2.length) (hb : Blk w' d T #[.slice A n c, .int .i64 st'.1]) (hbar : Bar [d] w w') (hr : Rd w A n st'.2) (hc : n ≤ c) (hm : c ≤ 9223372036854775807) (ho : ∀ F : List Nat, Disj G F → Off A n F) : De T w' d G st' := by
  subst hn
  exact ⟨fun k hk => Nat.lt_of_lt_of_le (hG k hk) hbar.size, A, c, hb, hr.far hbar (ho _ (fun k hk => by simp; rintro rfl; exact hd hk)), hc, hm, ho⟩

theorem decNum_yes (xs : List Int) (s : Nat) (h1 : 1 ≤ s) (h8 : s ≤ 8) (h : s ≤ xs.length ∧ val (xs.take s) ≤ 4611686018427387904) : decNum (0, xs) s = (((val (xs.take s) : Nat) : Int), (0, xs.drop s)) := by
  unfold decNum
  simp only [if_true, Int.toNat_natCast]
  rw [if_pos (by omega), if_pos h]
theorem decNum_no (xs : List Int) (s : Nat) (h1 : 1 ≤ s) (h8 : s ≤ 8) (h : ¬ (s ≤ xs.length ∧ val (xs.take s) ≤ 4611686018427387904)) : decNum (0, xs) s = (0, (2, xs)) := by
  unfold decNum
  simp only [if_true, Int.toNat_natCast]
  rw [if_pos (by omega), if_neg h]
/-- the block that an argument's bytes lie in -/
theorem arg_block {w : World} {A : Option Addr} {n : Nat} {xs : List Int} (r : Rd w A n xs) : ∃ G : List Nat, (∀ k ∈ G, k < w.heap.size) ∧ ∀ F : List Nat, Disj G F → Off A n F := by
  rcases r.2.2 with h0 | ⟨b, o, rfl, hc⟩
  · exact ⟨[], by simp, fun F _ => .inl h0⟩
  · by_cases h0 : n = 0
    · exact ⟨[], by simp, fun F _ => .inl h0⟩
    · exact ⟨[b], by
        intro k hk
        rw [List.mem_singleton] at hk
        subst hk
        exact World.block_lt_of_cell? _ _ (hc 0 (by omega)), fun F hF => .inr ⟨b, o, rfl, hF b (by simp)⟩⟩
theorem cell_bar {w w' : World} {l : List Nat} {b i : Nat} {v : Value} (h : w.cell? ⟨b, i, none⟩ = some v) (k : Bar l w w') (hb : b ∉ l) : w'.cell? ⟨b, i, none⟩ = some v := by
  rw [← h]; exact World.cell?_of_block (k.block b (World.block_lt_of_cell? _ _ h) hb)
end Go.Proofs.YtjlhnhkjgcbnnaaGreat.Wire

/-
  A frame's cells, and what is read of them; for the document's own frames and the code's.
-/



namespace Go.Proofs.YtjlhnhkjgcbnnaaGreat.Frame
open Go.RowKit Go.Proofs.YtjlhnhkjgcbnnaaGreat.Sha Go.Proofs.YtjlhnhkjgcbnnaaGreat.Wire

theorem cell_bel {w w' : World} {b i : Nat} {v : Value} (h : w.cell? ⟨b, i, none⟩ = some v) (k : Below w.heap.size w w') : w'.cell? ⟨b, i, none⟩ = some v := by
  rw [← h]; exact World.cell?_of_block (k.block b (World.block_lt_of_cell? _ _ h))

theorem _root_.Go.Proofs.YtjlhnhkjgcbnnaaGreat.Sha.Rd.upto {w : World} {A : Option Addr} {n m : Nat} {xs : List Int} (r : Rd w A n xs) (h : m ≤ n) : Rd w A m (xs.take m) := by
  obtain ⟨h1, h2, h3⟩ := r
  refine ⟨by rw [List.length_take]; omega, h2.take m, ?_⟩
  rcases h3 with h3 | ⟨b, o, h4, h5⟩
  · exact .inl (by omega)
  · exact .inr ⟨b, o, h4, fun i hi => by rw [h5 i (by omega), at_take hi]⟩

theorem results_cell_two {P : Program} {fn : Func} {p u v : Tmp} {ty : TypeId} (h : fn.results = #[.cell p ty, .tmp u, .tmp v]) (tmps : Array Value) (w : World) (g : Nat) (t : TypeId) (cs : Array Value) (fr : Nat × Nat) (d : TypeDesc)
    (hp : tmps.getD p undef = .pointer (some ⟨g, 0, none⟩)) (hg : w.heap[g]? = some (.cells cs t fr))
    (hu : P.underlying ty = some d) (hd : (match d with | .struct _ | .array _ _ => true | _ => false) = true) (hi : (P.info? ty).map (·.size) = some cs.size) :
    (results fn tmps).run P w = .ok (.tuple #[.agg cs, tmps.getD u undef, tmps.getD v undef]) w := by
  have hp' : tmps[p]?.getD undef = .pointer (some ⟨g, 0, none⟩) := by simpa using hp
  simp [results, h, hp', asAddr, run_loadVar_row w g t ty cs fr d hg hu hd hi, Result.andThen]
theorem frame_size : (Tryz.prog.info? 56).map (·.size) = some 4 := by kernel_rfl

theorem dec_at {b : List Int} (hb : Bytes b) (h : 64 ≤ b.length) (o s : Nat) (hs : s = 1 ∨ s = 4) (ho : o + s ≤ 14) : decNum (0, (h14 b).drop o) (s : Int) = (((val (((h14 b).drop o).take s) : Nat) : Int), (0, (h14 b).drop (o + s))) := by
  have hl := h14_len h
  have hv := val4 (((h14 b).drop o).take s) (((((hb.take _).drop _).drop _)).take _) (by simp; omega)
  rw [decNum_yes _ s (by omega) (by omega) ⟨by rw [List.length_drop]; omega, by omega⟩, List.drop_drop]

theorem put4 {w : World} {N : Nat} {t : TypeId} {c0 c1 c2 c3 : Value} (h : Blk w N t #[c0, c1, c2, c3]) (v0 v1 v2 v3 : Value) :
    Blk ((((w.setCell ⟨N, 0, none⟩ v0).setCell ⟨N, 1, none⟩ v1).setCell ⟨N, 2, none⟩ v2).setCell ⟨N, 3, none⟩ v3) N t #[v0, v1, v2, v3] ∧ Bar [N] w ((((w.setCell ⟨N, 0, none⟩ v0).setCell ⟨N, 1, none⟩ v1).setCell ⟨N, 2, none⟩ v2).setCell ⟨N, 3, none⟩ v3) :=
  ⟨(((h.set_ 0 v0).set_ 1 v1).set_ 2 v2).set_ 3 v3, ((((Bar.refl [N] w).setCell (by simp) _).setCell (by simp) _).setCell (by simp) _).setCell (by simp) _⟩

theorem piece_is (b : List Int) (q : Nat) : (b.take (min (q + 63) b.length)).drop q = (b.drop q).take 63 := by
  rw [List.drop_take]
  by_cases h : q + 63 ≤ b.length
  · rw [show min (q + 63) b.length - q = 63 by omega]
  · rw [List.take_of_length_le (by simp; omega), List.take_of_length_le (by simp; omega)]
end Go.Proofs.YtjlhnhkjgcbnnaaGreat.Frame

/-
  Appends of bytes that are read, at a step of a region.
-/



namespace Go.Proofs.YtjlhnhkjgcbnnaaGreat.Sha
open Go.RowKit

/-- at a step of a region: a row of bytes that is read goes behind what the call made -/
theorem step_append_rd {P : Program} {w : World} {ops : Array Oper} {o : Oper} {a : Act} {K : Act → World → Prop} {Q : Exit → Act → World → Prop} {E : Prop} (hgd : o.guard = none) (s x : Operand) (t : TypeId)
    (ho : o.op = .call { callee := .builtin .append, args := #[s, x], argTypes := #[t, t] })
    (base : Nat) (e : TypeId) (ht : P.underlying t = some (.slice e)) (hi : (P.info? e).map (fun i => (i.zero, i.size, i.bytes)) = some (some (.int .u8 0), 1, 1))
    (v : Value) (n : Nat) (xs : List Value) (hs : a.eval s = v) (hown : w.ownsRow base e 1 v n xs)
    (A : Option Addr) (m c : Nat) (news : List Int) (hx : a.eval x = .slice A m c) (hr : Rd w A m news)
    (hsmall : n + m ≤ 4294967296) (hbase : base ≤ w.heap.size)
    (h : ∀ v' w', Kept (w'.ownsRow base e 1 v' (n + m) (xs ++ ints .u8 news)) → w.grownBy w' v.ownBlock → Below base w w' → (v'.ownBlock = v.ownBlock ∨ v'.ownBlock = some w.heap.size) → K (a.put o.dst v') w') :
    if Region.wanted o (yielded ops a.tmps) = true then Oper.wp P o a w K Q else E := by
  have hw : Region.wanted o (yielded ops a.tmps) = true := by simp [Region.wanted, hgd]
  rw [if_pos hw]
  obtain ⟨iu, hi, hz0, hz1, hz2⟩ := info_parts hi
  obtain ⟨h1, -, h3⟩ := hr
  cases A with
  | none =>
    have h0 : m = 0 := by
      rcases h3 with h3 | ⟨_, _, h4, _⟩
      · exact h3
      · cases h4
    subst h0
    obtain rfl : news = [] := List.eq_nil_of_length_eq_zero h1
    have hrun := run_append_nil_any (P := P) w base t o.type e iu 1 ht hi v n xs hown c
    unfold Oper.wp
    simp [execOp, ho, resolve, invoke, builtin, hs, hx, hrun, Result.andThen]
    exact h v w ⟨by simpa [ints] using hown⟩ (World.grownBy.refl _ _) (Below.refl _ _) (.inl rfl)
  | some ad =>
    have hc : ∀ j u, (ints .u8 news)[j]? = some u → w.cell? (ad.add j) = some u := by
      intro j u hj
      have hjl : j < news.length := by have := (List.getElem?_eq_some_iff.1 hj).1; rwa [ints_len] at this
      rcases h3 with h3 | ⟨b, o', h4, hc⟩
      · omega
      · injection h4 with h4
        subst h4
        rw [Sha.ints_at _ _ _ hjl] at hj
        rw [← hj, show (⟨b, o', none⟩ : Addr).add j = ⟨b, o' + j, none⟩ by cases j <;> simp [Addr.add]]
        exact hc j (by omega)
    obtain ⟨v', w', hr, h2, h3, -, h5⟩ := run_append_own_at (P := P) w base t o.type e iu (.int .u8 0) 1 1 ht hi hz0 hz1 hz2 rfl (by omega) v n xs hown ad m c (ints .u8 news) (by rw [ints_len, h1]; omega) hc (ints_one _ _) (by unfold maxLen; omega) (by omega) hbase
    unfold Oper.wp execOp
    simp only [ho, resolve, invoke, builtin, Sem.run_bind, Sem.run_pure, Result.andThen_ok, List.map_toArray, List.map_cons, List.map_nil, hs, hx, hr]
    exact h v' w' ⟨h2⟩ h3 (own_below hown h3 hbase) h5
end Go.Proofs.YtjlhnhkjgcbnnaaGreat.Sha

/-
  One block of SHA-256 in memory: its 64 words, the rounds.
-/





namespace Go.Proofs.YtjlhnhkjgcbnnaaGreat.Sha
open Go.RowKit

theorem rot_m7 (x : Int) (hx : W32 x) (w : World) : Calls Tryz.prog 141 #[.int .u32 x, .int .i64 (-7)] w fun e w' => e = .returned (.int .u32 (rotr x 7)) ∧ w = w' := rot_any x 7 (by omega) (by omega) hx w
theorem rot_m17 (x : Int) (hx : W32 x) (w : World) : Calls Tryz.prog 141 #[.int .u32 x, .int .i64 (-17)] w fun e w' => e = .returned (.int .u32 (rotr x 17)) ∧ w = w' := rot_any x 17 (by omega) (by omega) hx w
theorem rot_m18 (x : Int) (hx : W32 x) (w : World) : Calls Tryz.prog 141 #[.int .u32 x, .int .i64 (-18)] w fun e w' => e = .returned (.int .u32 (rotr x 18)) ∧ w = w' := rot_any x 18 (by omega) (by omega) hx w
theorem rot_m19 (x : Int) (hx : W32 x) (w : World) : Calls Tryz.prog 141 #[.int .u32 x, .int .i64 (-19)] w fun e w' => e = .returned (.int .u32 (rotr x 19)) ∧ w = w' := rot_any x 19 (by omega) (by omega) hx w
theorem nxw_code (y b x d : Int) : IntKind.u32.wrap (IntKind.u32.wrap (IntKind.u32.wrap (bits .xor .u32 (bits .xor .u32 (rotr y 17) (rotr y 19)) (y / 1024) + b) + bits .xor .u32 (bits .xor .u32 (rotr x 7) (rotr x 18)) (x / 8)) + d) = nxw y b x d := by
  unfold nxw near far
  simp only [IntKind.wrap_u32]
  omega

set_option maxRecDepth 100000 in
set_option maxHeartbeats 400000 in
theorem spread_any (bb bo cap : Nat) (b : List Int) (w : World) (hbl : b.length = 64) (hby : Bytes b) (hcap : 64 ≤ cap) (hc : ∀ i, i < 64 → w.cell? ⟨bb, bo + i, none⟩ = some (.int .u8 (at_ b i))) :
    Calls Tryz.prog 133 #[.slice (some ⟨bb, bo, none⟩) 64 cap] w fun e w' => e = .returned (.agg (arr .u32 (sched b))) ∧ Below w.heap.size w w' := by
  obtain ⟨N, hN⟩ : ∃ N, w.heap.size = N := ⟨_, rfl⟩
  have hbb : bb < N := by have h := World.block_lt_of_cell? _ _ (hc 0 (by omega)); rw [hN] at h; exact h
  have Hc := Lib.hid hc
  have Hl := Lib.hid hbl
  have Hb := Lib.hid hby
  clear hc hbl hby
  go_enter Tryz.func133, Tryz.ntmps133
  go_wp2
  go_loopw [11] (fun i wr => ∃ k : Nat, k ≤ 16 ∧ i = .int .i64 k ∧ Hid (Blk wr N 76 (arr .u32 (upto (at_ (sched b)) 64 0))) ∧ Hid (Blk wr (N + 1) 76 (arr .u32 (upto (at_ (sched b)) 64 k))) ∧ Below N w wr) (fun i _ => 16 - (Go.RowKit.intOf i).toNat)
  case atStart =>
    refine ⟨0, by omega, rfl, ?_, ?_, ?_⟩
    · rw [zeros]; exact (Blk.new_at w _ _ N hN.symm).alloc _
    · rw [zeros]; exact Blk.new_at _ _ _ (N + 1) (by simp [hN])
    · exact ((Below.refl _ _).alloc (by omega) _).alloc (by simp; omega) _
  case round =>
    obtain ⟨k, hk, rfl, h1, h2, hb⟩ := hrel
    by_cases hlt : k < 16
    · have g0 : wr.cell? ⟨bb, bo + 4 * k, none⟩ = some (.int .u8 (at_ b (4 * k))) := (hb.cell (p := ⟨bb, bo + 4 * k, none⟩) hbb).trans (Hc.out (4 * k) (by omega))
      have g1 : wr.cell? ⟨bb, bo + 4 * k + 1, none⟩ = some (.int .u8 (at_ b (4 * k + 1))) := (hb.cell (p := ⟨bb, bo + (4 * k + 1), none⟩) hbb).trans (Hc.out (4 * k + 1) (by omega))
      have g2 : wr.cell? ⟨bb, bo + 4 * k + 2, none⟩ = some (.int .u8 (at_ b (4 * k + 2))) := (hb.cell (p := ⟨bb, bo + (4 * k + 2), none⟩) hbb).trans (Hc.out (4 * k + 2) (by omega))
      have g3 : wr.cell? ⟨bb, bo + 4 * k + 3, none⟩ = some (.int .u8 (at_ b (4 * k + 3))) := (hb.cell (p := ⟨bb, bo + (4 * k + 3), none⟩) hbb).trans (Hc.out (4 * k + 3) (by omega))
      have l0 := Hb.out.at_ (4 * k)
      have l1 := Hb.out.at_ (4 * k + 1)
      have l2 := Hb.out.at_ (4 * k + 2)
      have l3 := Hb.out.at_ (4 * k + 3)
      have Hw := sched_lo b k hlt
      have hc0 := h2.out.at_ k (by rw [upto_len]; omega)
      have hz0 := h2.out.frozen k
      unfold wordOf at Hw
      generalize at_ b (4 * k) = x0 at *
      generalize at_ b (4 * k + 1) = x1 at *
      generalize at_ b (4 * k + 2) = x2 at *
      generalize at_ b (4 * k + 3) = x3 at *
      replace Hw := Kept.mk Hw
      have hne : ¬ cap = 4 * k := by omega
      have k64 : (k : Int) < 64 := by omega
      have w0 : IntKind.u32.wrap x0 = x0 := by rw [IntKind.wrap_u32]; omega
      have w1 : IntKind.u32.wrap x1 = x1 := by rw [IntKind.wrap_u32]; omega
      have w2 : IntKind.u32.wrap x2 = x2 := by rw [IntKind.wrap_u32]; omega
      have w3 : IntKind.u32.wrap x3 = x3 := by rw [IntKind.wrap_u32]; omega
      have v0 : IntKind.u32.wrap (x0 * 16777216) = x0 * 16777216 := by rw [IntKind.wrap_u32]; omega
      have v1 : IntKind.u32.wrap (x1 * 65536) = x1 * 65536 := by rw [IntKind.wrap_u32]; omega
      have v2 : IntKind.u32.wrap (x2 * 256) = x2 * 256 := by rw [IntKind.wrap_u32]; omega
      go_wp2
      refine wp_region_still_tail 24 (by kernel_rfl) (by kernel_rfl) ?_
      simp only [List.take_succ_cons, List.take_zero, List.drop_succ_cons, List.drop_zero]
      repeat still_step
      refine wpStill_nil ?_
      change wpList _ _ _ _ _ wr.drew
      clear w0 w1 w2 w3 v0 v1 v2
      go_wp2
      go_roundw
      case rel =>
        refine ⟨k + 1, by omega, by go_num, (h1.out.far (by simp) _).drew, ?_, (hb.setCell (by simp) _).drew⟩
        have := h2.out.set_ k (.int .u32 (at_ (sched b) k))
        rw [arr_set, upto_set, Hw.out] at this
        exact this.drew
      case measure => simp [Go.RowKit.intOf]; omega
    · go_wp2
      have ek : k = 16 := by omega
      rw [ek] at h2
      clear ek hk hlt
      go_loopw [6] (fun i wr => ∃ k : Nat, 16 ≤ k ∧ k ≤ 64 ∧ i = .int .i64 k ∧ Hid (Blk wr N 76 (arr .u32 (upto (at_ (sched b)) 64 0))) ∧ Hid (Blk wr (N + 1) 76 (arr .u32 (upto (at_ (sched b)) 64 k))) ∧ Below N w wr) (fun i _ => 64 - (Go.RowKit.intOf i).toNat)
      case atStart => exact ⟨16, by omega, by omega, rfl, h1, h2, hb⟩
      case round =>
        clear h1 h2 hb
        obtain ⟨k, hk1, hk, rfl, h1, h2, hb⟩ := hrel
        by_cases hlt : k < 64
        · have hc0 := h2.out.at_ k (by rw [upto_len]; omega)
          have hz0 := h2.out.frozen k
          have c2 := h2.out.at_ (k - 2) (by rw [upto_len]; omega)
          have c7 := h2.out.at_ (k - 7) (by rw [upto_len]; omega)
          have c15 := h2.out.at_ (k - 15) (by rw [upto_len]; omega)
          have c16 := h2.out.at_ (k - 16) (by rw [upto_len]; omega)
          rw [upto_at _ _ _ _ (by omega), if_pos (by omega)] at c2 c7 c15 c16
          have Hw := sched_hi b k hk1 hlt
          have b2 := sched32 b (k - 2)
          have b7 := sched32 b (k - 7)
          have b15 := sched32 b (k - 15)
          have b16 := sched32 b (k - 16)
          generalize at_ (sched b) (k - 2) = y at *
          generalize at_ (sched b) (k - 7) = y7 at *
          generalize at_ (sched b) (k - 15) = x at *
          generalize at_ (sched b) (k - 16) = x16 at *
          replace Hw := Kept.mk Hw
          have e15 : (k : Int) - 15 = ((k - 15 : Nat) : Int) := by omega
          have e2 : (k : Int) - 2 = ((k - 2 : Nat) : Int) := by omega
          have i2 : IntKind.i64.wrap ((k : Int) - 2) = ((k - 2 : Nat) : Int) := by rw [IntKind.wrap_i64]; omega
          have i7 : IntKind.i64.wrap ((k : Int) - 7) = ((k - 7 : Nat) : Int) := by rw [IntKind.wrap_i64]; omega
          have i15 : IntKind.i64.wrap ((k : Int) - 15) = ((k - 15 : Nat) : Int) := by rw [IntKind.wrap_i64]; omega
          have i16 : IntKind.i64.wrap ((k : Int) - 16) = ((k - 16 : Nat) : Int) := by rw [IntKind.wrap_i64]; omega
          have j2 : ((k - 2 : Nat) : Int) < 64 := by omega
          have j7 : ((k - 7 : Nat) : Int) < 64 := by omega
          have j15 : ((k - 15 : Nat) : Int) < 64 := by omega
          have j16 : ((k - 16 : Nat) : Int) < 64 := by omega
          clear e2 e15
          go_wp2
          go_quiet (fail)
          replace hc0 : (wr.drewN nq).cell? ⟨N + 1, k, none⟩ = _ := hc0
          replace hz0 : (wr.drewN nq).frozen? ⟨N + 1, k, none⟩ = _ := hz0
          replace c7 : (wr.drewN nq).cell? ⟨N + 1, k - 7, none⟩ = _ := c7
          replace c16 : (wr.drewN nq).cell? ⟨N + 1, k - 16, none⟩ = _ := c16
          replace h1 : Hid (Blk (wr.drewN nq) N 76 (arr .u32 (upto (at_ (sched b)) 64 0))) := h1
          replace h2 : Hid (Blk (wr.drewN nq) (N + 1) 76 (arr .u32 (upto (at_ (sched b)) 64 k))) := h2
          replace hb : Below N w (wr.drewN nq) := ⟨hb.os, hb.tape, hb.output, hb.size, hb.block⟩
          clear c2 c15
          generalize wr.drewN nq = wq at *
          obtain ⟨b2l, b2h⟩ := id b2
          obtain ⟨b15l, b15h⟩ := id b15
          have B2 := Lib.hid b2
          have B15 := Lib.hid b15
          clear b2 b15
          go_wp2_with fail
          refine (rot_m17 _ B2.out _).mono ?_
          rintro e w' ⟨rfl, rfl⟩
          go_wp2_with fail
          refine (rot_m19 _ B2.out _).mono ?_
          rintro e w' ⟨rfl, rfl⟩
          go_wp2_with fail
          refine (rot_m7 _ B15.out _).mono ?_
          rintro e w' ⟨rfl, rfl⟩
          go_wp2_with fail
          refine (rot_m18 _ B15.out _).mono ?_
          rintro e w' ⟨rfl, rfl⟩
          go_wp2
          refine wp_region_still_tail 15 (by kernel_rfl) (by kernel_rfl) ?_
          simp only [List.take_succ_cons, List.take_zero, List.drop_succ_cons, List.drop_zero]
          repeat still_step
          rw [nxw_code]
          refine wpStill_nil ?_
          change wpList _ _ _ _ _ wq.drew
          clear i2 i7 i15 i16
          go_wp2

          go_roundw
          case rel =>
            refine ⟨k + 1, by omega, by omega, by go_num, ?_, ?_, ?_⟩
            · exact (h1.out.far (by simp) _).drew
            · have := h2.out.set_ k (.int .u32 (at_ (sched b) k))
              rw [arr_set, upto_set, Hw.out] at this
              exact this.drew
            · exact (hb.setCell (by simp) _).drew
          case measure => simp [Go.RowKit.intOf]; omega
        · have ek : k = 64 := by omega
          rw [ek, upto_all _ _ (sched_len b)] at h2
          clear ek
          go_upto_region 15 with (fail)
          apply wp_region_lit
          refine wpList_load_row rfl 76 (.tmp 3) rfl (N + 1) rfl 76 _ (0, 0) _ h2.out Tryz.underlying76 rfl (by rw [arr_size, sched_len]; kernel_rfl) ?_
          refine wpList_store_row (o := ⟨none, .store _ _ _, _, _, _, _⟩) rfl 76 (.tmp 2) (.tmp 89) rfl N (arr .u32 (sched b)) rfl rfl 76 _ h1.out (by rw [arr_size, sched_len]; kernel_rfl) (by rw [arr_size, arr_size, sched_len, upto_len]) (all_oneCell_toArray (ints_one _ _)) ?_
          have h3 := h1.out.row (arr .u32 (sched b))
          go_wp2
          refine bodyPost_ret (v := .agg (arr .u32 (sched b))) (results_cell_row rfl _ _ N 76 _ (0, 0) _ rfl h3 Tryz.underlying76 rfl (by rw [arr_size, sched_len]; kernel_rfl)) rfl ⟨rfl, ?_⟩
          rw [hN]
          exact below_setRow hb (Nat.le_refl _) _
end Go.Proofs.YtjlhnhkjgcbnnaaGreat.Sha

/-
  The 64 rounds of SHA-256 in memory.
-/

namespace Go.Proofs.YtjlhnhkjgcbnnaaGreat.Sha
open Go.RowKit

theorem turns_1 (x : Int) (hx : W32 x) (w : World) : Calls Tryz.prog 142 #[.int .u32 x, .int .i64 6, .int .i64 11, .int .i64 25] w fun e w' => e = .returned (.int .u32 (turns3 x 6 11 25)) ∧ w = w' := turns_any x 6 11 25 (by omega) (by omega) (by omega) hx w
theorem turns_0 (x : Int) (hx : W32 x) (w : World) : Calls Tryz.prog 142 #[.int .u32 x, .int .i64 2, .int .i64 13, .int .i64 22] w fun e w' => e = .returned (.int .u32 (turns3 x 2 13 22)) ∧ w = w' := turns_any x 2 13 22 (by omega) (by omega) (by omega) hx w

theorem t1_code (h S c k w : Int) : IntKind.u32.wrap (IntKind.u32.wrap (IntKind.u32.wrap (IntKind.u32.wrap (h + S) + c) + k) + w) = (h + S + c + k + w) % 4294967296 := by
  simp only [IntKind.wrap_u32]; omega

set_option maxRecDepth 100000 in
set_option maxHeartbeats 400000 in
theorem rounds_any (s : S8) (hs : s.ok) (W : Nat → Int) (hW : ∀ i, W32 (W i)) (t pb po : Nat) (w : World)
    (hk : ∀ i, i < 64 → w.cell? ⟨t, 3 + i, none⟩ = some (.int .u32 (kW i : Nat))) (hp : ∀ i, i < 64 → w.cell? ⟨pb, po + i, none⟩ = some (.int .u32 (W i))) :
    Calls Tryz.prog 134 #[.agg #[.int .u32 s.a, .int .u32 s.b, .int .u32 s.c, .int .u32 s.d, .int .u32 s.e, .int .u32 s.f, .int .u32 s.g, .int .u32 s.h], .pointer (some ⟨t, 3, none⟩), .pointer (some ⟨pb, po, none⟩)] w
      fun e w' => e = .returned (.agg (arr .u32 (rnds s W 64).toL)) ∧ Below w.heap.size w w' := by
  obtain ⟨N, hN⟩ : ∃ N, w.heap.size = N := ⟨_, rfl⟩
  have htN : t < N := by have h := World.block_lt_of_cell? _ _ (hk 0 (by omega)); rw [hN] at h; exact h
  have hpN : pb < N := by have h := World.block_lt_of_cell? _ _ (hp 0 (by omega)); rw [hN] at h; exact h
  have Hk := Lib.hid hk
  have Hp := Lib.hid hp
  have HW := Lib.hid hW
  have Hs := Lib.hid hs
  clear hk hp hW hs
  obtain ⟨s0, hs0⟩ : ∃ s0, s0 = s := ⟨_, rfl⟩
  obtain ⟨a, b, c, d, e, f, g, h⟩ := s
  have S0 := Kept.mk hs0
  clear hs0
  go_enter Tryz.func134, Tryz.ntmps134
  go_wp2
  go_quiet (fail)
  go_wp2
  go_loopw [7, 8, 9, 10, 11, 12, 13, 14, 38] (fun va vb vc vd ve vf vg vh i wr => ∃ (k : Nat) (a b c d e f g h : Int), k ≤ 64 ∧ Kept (rnds s0 W k = ⟨a, b, c, d, e, f, g, h⟩) ∧ va = .int .u32 a ∧ vb = .int .u32 b ∧ vc = .int .u32 c ∧ vd = .int .u32 d ∧ ve = .int .u32 e ∧ vf = .int .u32 f ∧ vg = .int .u32 g ∧ vh = .int .u32 h ∧ i = .int .i64 k ∧ Hid (Blk wr (N + 1) 77 (arr .u32 (List.replicate 8 0))) ∧ Below N w wr) (fun _ _ _ _ _ _ _ _ i _ => 64 - (Go.RowKit.intOf i).toNat)
  case atStart =>
    refine ⟨0, a, b, c, d, e, f, g, h, by omega, ⟨S0.out⟩, rfl, rfl, rfl, rfl, rfl, rfl, rfl, rfl, rfl, ?_, ?_⟩
    · exact Blk.new_at _ _ _ (N + 1) (by simp [hN])
    · exact below_drewN (((Below.refl _ _).alloc (by omega) _).alloc (by simp; omega) _) _
  case round =>
    obtain ⟨k, a', b', c', d', e', f', g', h', hk, hr, rfl, rfl, rfl, rfl, rfl, rfl, rfl, rfl, rfl, hz, hb⟩ := hrel
    obtain ⟨r1, r2, r3, r4, r5, r6, r7, r8⟩ : (⟨a', b', c', d', e', f', g', h'⟩ : S8).ok := by
      have := rnds_ok (S0.out ▸ Hs.out) W k
      rwa [hr.out] at this
    by_cases hlt : k < 64
    · have ck := (hb.cell (p := ⟨t, 3 + k, none⟩) htN).trans (Hk.out k hlt)
      have cp := (hb.cell (p := ⟨pb, po + k, none⟩) hpN).trans (Hp.out k hlt)
      have k64 : (k : Int) < 64 := by omega
      have R1 := Lib.hid r1
      have R5 := Lib.hid r5
      obtain ⟨p1, q1⟩ := r1; obtain ⟨p2, q2⟩ := r2; obtain ⟨p3, q3⟩ := r3; obtain ⟨p4, q4⟩ := r4
      obtain ⟨p5, q5⟩ := r5; obtain ⟨p6, q6⟩ := r6; obtain ⟨p7, q7⟩ := r7; obtain ⟨p8, q8⟩ := r8
      go_wp2
      go_quiet (fail)
      go_wp2
      replace cp : (wr.drewN nq).cell? ⟨pb, po + k, none⟩ = _ := cp
      replace hz : Hid (Blk (wr.drewN nq) (N + 1) 77 (arr .u32 (List.replicate 8 0))) := hz
      replace hb : Below N w (wr.drewN nq) := below_drewN hb _
      clear ck
      generalize wr.drewN nq = wq at *
      go_quiet ((go_at_call 142; exact Calls.quiet_of_same (still_of (turns_1 _ R5.out _))))
      go_wp2_with (go_at_call 142; refine (turns_0 _ R1.out _).mono ?_; rintro e w' ⟨rfl, rfl⟩)
      go_roundw
      case rel =>
        refine ⟨k + 1, _, _, _, _, _, _, _, _, by omega, ⟨round_end hr.out rfl rfl⟩, ?_, rfl, rfl, rfl, ?_, rfl, rfl, rfl, by go_num, hz, below_drewN hb _⟩
        · exact congrArg (Value.int .u32) (by unfold ch maj not32; simp only)
        · exact congrArg (Value.int .u32) (by unfold ch not32; simp only)
      case measure => simp [Go.RowKit.intOf]; omega
    · have ek : k = 64 := by omega
      rw [ek] at hr
      clear ek
      have z0 := hz.out.at_ 0 (by simp)
      have f0 := hz.out.frozen 0
      have z1 := hz.out.at_ 1 (by simp)
      have f1 := hz.out.frozen 1
      have z2 := hz.out.at_ 2 (by simp)
      have f2 := hz.out.frozen 2
      have z3 := hz.out.at_ 3 (by simp)
      have f3 := hz.out.frozen 3
      have z4 := hz.out.at_ 4 (by simp)
      have f4 := hz.out.frozen 4
      have z5 := hz.out.at_ 5 (by simp)
      have f5 := hz.out.frozen 5
      have z6 := hz.out.at_ 6 (by simp)
      have f6 := hz.out.frozen 6
      have z7 := hz.out.at_ 7 (by simp)
      have f7 := hz.out.frozen 7
      go_wp2
      have k0 := hz.out.set_ 0 (.int .u32 a')
      rw [arr_set] at k0
      have k1 := k0.set_ 1 (.int .u32 b')
      rw [arr_set] at k1
      have k2 := k1.set_ 2 (.int .u32 c')
      rw [arr_set] at k2
      have k3 := k2.set_ 3 (.int .u32 d')
      rw [arr_set] at k3
      have k4 := k3.set_ 4 (.int .u32 e')
      rw [arr_set] at k4
      have k5 := k4.set_ 5 (.int .u32 f')
      rw [arr_set] at k5
      have k6 := k5.set_ 6 (.int .u32 g')
      rw [arr_set] at k6
      have k7 := k6.set_ 7 (.int .u32 h')
      rw [arr_set] at k7
      have ee : arr .u32 ((((((((List.replicate 8 0).set 0 a').set 1 b').set 2 c').set 3 d').set 4 e').set 5 f').set 6 g' |>.set 7 h') = arr .u32 (rnds s0 W 64).toL := by rw [hr.out]; rfl
      rw [ee, S0.out] at k7
      refine bodyPost_ret (results_cell_row rfl _ _ (N + 1) 77 _ (0, 0) _ rfl k7 Tryz.underlying77 rfl (by rw [arr_size]; kernel_rfl)) rfl ⟨rfl, ?_⟩
      have q : ∀ (w1 : World) (i : Nat) (v : Value), Below N w w1 → Below N w (w1.setCell ⟨N + 1, i, none⟩ v) := fun w1 i v hq => hq.setCell (by simp) v
      exact q _ _ _ (q _ _ _ (q _ _ _ (q _ _ _ (q _ _ _ (q _ _ _ (q _ _ _ (q _ _ _ hb)))))))
end Go.Proofs.YtjlhnhkjgcbnnaaGreat.Sha

/-
  A hash in memory; one block worked into it.
-/


namespace Go.Proofs.YtjlhnhkjgcbnnaaGreat.Sha
open Go.RowKit

/-- a hash's cells: its table, the state, the rest, the count -/
def hcl (tp : Nat) (s r : List Int) (n : Int) : List Value := [.pointer (some ⟨tp, 0, none⟩)] ++ (ints .u32 s ++ (ints .u8 r ++ [.int .u64 n]))
def hcells (tp : Nat) (s r : List Int) (n : Int) : Array Value := (hcl tp s r n).toArray
section
variable (tp : Nat) (s r : List Int) (n : Int)
theorem hc_len (hs : s.length = 8) (hr : r.length = 64) : (hcl tp s r n).length = 74 := by simp [hcl, ints_len, hs, hr]
theorem hc_0 : (hcells tp s r n)[0]? = some (.pointer (some ⟨tp, 0, none⟩)) := by simp [hcells, hcl]
theorem hc_state (hs : s.length = 8) (i : Nat) (hi : i < 8) : (hcells tp s r n)[1 + i]? = some (.int .u32 (at_ s i)) := by
  rw [hcells, List.getElem?_toArray, hcl, List.getElem?_append_right (by simp), List.getElem?_append_left (by simp [ints_len, hs]; omega)]
  simpa using ints_at .u32 s i (by omega)
theorem hc_rest (hs : s.length = 8) (hr : r.length = 64) (i : Nat) (hi : i < 64) : (hcells tp s r n)[9 + i]? = some (.int .u8 (at_ r i)) := by
  rw [hcells, List.getElem?_toArray, hcl, List.getElem?_append_right (show 1 ≤ 9 + i by omega), List.getElem?_append_right (by simp [ints_len, hs]; try omega), List.getElem?_append_left (by simp [ints_len, hs, hr]; try omega)]
  have := ints_at .u8 r i (by omega)
  simpa [ints_len, hs, show 9 + i - 1 - 8 = i by omega] using this
theorem hc_size (hs : s.length = 8) (hr : r.length = 64) : (hcells tp s r n)[73]? = some (.int .u64 n) := by
  rw [hcells, List.getElem?_toArray, hcl, List.getElem?_append_right (by simp), List.getElem?_append_right (by simp [ints_len, hs]), List.getElem?_append_right (by simp [ints_len, hs, hr])]
  simp [ints_len, hs, hr]
theorem hc_set (hs : s.length = 8) (i : Nat) (hi : i < 8) (x : Int) : (hcells tp s r n).setIfInBounds (1 + i) (.int .u32 x) = hcells tp (s.set i x) r n := by
  rw [hcells, List.setIfInBounds_toArray, hcl, List.set_append_right _ _ (by simp), List.set_append_left _ _ (by simp [ints_len, hs]; omega)]
  simp [hcells, hcl, ints_set, Nat.add_sub_cancel_left]
theorem hc_setn (hs : s.length = 8) (hr : r.length = 64) (x : Int) : (hcells tp s r n).setIfInBounds 73 (.int .u64 x) = hcells tp s r x := by
  rw [hcells, List.setIfInBounds_toArray, hcl, List.set_append_right _ _ (by simp), List.set_append_right _ _ (by simp [ints_len, hs]), List.set_append_right _ _ (by simp [ints_len, hs, hr])]
  simp [hcells, hcl, ints_len, hs, hr]
end

set_option maxRecDepth 100000 in
set_option maxHeartbeats 400000 in
theorem mix_any (hb tb bb bo cap : Nat) (s : S8) (hs : s.ok) (r : List Int) (n : Int) (b : List Int) (w : World) (hbl : b.length = 64) (hby : Bytes b) (hcap : 64 ≤ cap)
    (hm : Made w tb) (hh : Blk w hb 176 (hcells tb s.toL r n)) (hc : ∀ i, i < 64 → w.cell? ⟨bb, bo + i, none⟩ = some (.int .u8 (at_ b i))) :
    Calls Tryz.prog 119 #[.pointer (some ⟨hb, 0, none⟩), .slice (some ⟨bb, bo, none⟩) 64 cap] w
      fun e w' => e = .returned (.tuple #[]) ∧ Blk w' hb 176 (hcells tb (mixed s b).toL r n) ∧ Bar [hb] w w' := by
  have c0 := Lib.hid fun w' h => spread_any bb bo cap b w' hbl hby hcap h
  have Hc := Lib.hid hc
  have Hm := Lib.hid hm
  have Hh := Lib.hid hh
  have Hs := Lib.hid hs
  clear hc hm hh hs hbl hby hcap
  go_enter Tryz.func119, Tryz.ntmps119
  go_wp2_with fail
  refine (c0.out _ Hc.out).mono ?_
  rintro e w1 ⟨rfl, hb1⟩
  simp only []
  go_step
  go_step
  go_step
  go_step
  refine wpList_store_row rfl 76 (.tmp 4) (.tmp 8) rfl w1.heap.size (arr .u32 (sched b)) rfl rfl 76 _ (heap_alloc_new _ _) (by rw [arr_size, sched_len]; kernel_rfl) (by rw [arr_size, sched_len]; rfl) (all_oneCell_toArray (ints_one _ _)) ?_
  obtain ⟨M, hM⟩ : ∃ M, w1.heap.size = M := ⟨_, rfl⟩
  have hMw : w.heap.size ≤ M := by rw [← hM]; exact hb1.size
  have k1 : Blk ((w1.alloc (.cells (List.replicate 64 (Value.int .u32 0)).toArray 76)).setRow w1.heap.size (arr .u32 (sched b))) w1.heap.size 76 (arr .u32 (sched b)) := (Blk.new _ _ _).row _
  have b2 : Below w.heap.size w ((w1.alloc (.cells (List.replicate 64 (Value.int .u32 0)).toArray 76)).setRow w1.heap.size (arr .u32 (sched b))) := below_setRow (hb1.alloc hb1.size _) hb1.size _
  change wpList _ _ _ _ _ ((w1.alloc (.cells (List.replicate 64 (Value.int .u32 0)).toArray 76)).setRow w1.heap.size (arr .u32 (sched b)))
  generalize (w1.alloc (.cells (List.replicate 64 (Value.int .u32 0)).toArray 76)).setRow w1.heap.size (arr .u32 (sched b)) = w2 at *
  rw [hM] at k1 ⊢
  have k2 : Blk w2 hb 176 (hcells tb s.toL r n) := Hh.out.below b2 Hh.out.lt
  have m2 : Made w2 tb := Hm.out.below b2 Hm.out.lt
  have e0' := (k2.cell 0).trans (hc_0 _ _ _ _)
  have e0 : w2.cell? ⟨hb, 1, none⟩ = some (.int .u32 s.a) := (k2.cell 1).trans (hc_state _ _ _ _ rfl 0 (by omega))
  have e1 : w2.cell? ⟨hb, 2, none⟩ = some (.int .u32 s.b) := (k2.cell 2).trans (hc_state _ _ _ _ rfl 1 (by omega))
  have e2 : w2.cell? ⟨hb, 3, none⟩ = some (.int .u32 s.c) := (k2.cell 3).trans (hc_state _ _ _ _ rfl 2 (by omega))
  have e3 : w2.cell? ⟨hb, 4, none⟩ = some (.int .u32 s.d) := (k2.cell 4).trans (hc_state _ _ _ _ rfl 3 (by omega))
  have e4 : w2.cell? ⟨hb, 5, none⟩ = some (.int .u32 s.e) := (k2.cell 5).trans (hc_state _ _ _ _ rfl 4 (by omega))
  have e5 : w2.cell? ⟨hb, 6, none⟩ = some (.int .u32 s.f) := (k2.cell 6).trans (hc_state _ _ _ _ rfl 5 (by omega))
  have e6 : w2.cell? ⟨hb, 7, none⟩ = some (.int .u32 s.g) := (k2.cell 7).trans (hc_state _ _ _ _ rfl 6 (by omega))
  have e7 : w2.cell? ⟨hb, 8, none⟩ = some (.int .u32 s.h) := (k2.cell 8).trans (hc_state _ _ _ _ rfl 7 (by omega))
  have q0 := cell_regrown e0'
  have q1 := cell_regrown e0
  have q2 := cell_regrown e1
  have q3 := cell_regrown e2
  have q4 := cell_regrown e3
  have q5 := cell_regrown e4
  have q6 := cell_regrown e5
  have q7 := cell_regrown e6
  have q8 := cell_regrown e7
  have cM : ∀ d os, Calls Tryz.prog 118 #[.pointer (some ⟨tb, 0, none⟩)] (Go.Sort.grow (redrawn w2 d) os) fun e w'' => e = .returned (.pointer (some ⟨tb, 0, none⟩)) ∧ ∃ p : Regrown, w'' = Go.Sort.grow (redrawn w2 p.d) p.os := fun d os =>
    Calls.regrown_of ((made_again tb _ (m2.below (below_regrown w2 d os) m2.lt)).mono fun _ _ ⟨a, b⟩ => ⟨a, b ▸ Below.refl _ _⟩)
  have cR : ∀ d os, Calls Tryz.prog 134 #[.agg #[.int .u32 s.a, .int .u32 s.b, .int .u32 s.c, .int .u32 s.d, .int .u32 s.e, .int .u32 s.f, .int .u32 s.g, .int .u32 s.h], .pointer (some ⟨tb, 3, none⟩), .pointer (some ⟨M, 0, none⟩)] (Go.Sort.grow (redrawn w2 d) os)
      fun e w'' => e = .returned (.agg (arr .u32 (rnds s (at_ (sched b)) 64).toL)) ∧ ∃ p : Regrown, w'' = Go.Sort.grow (redrawn w2 p.d) p.os := fun d os =>
    Calls.regrown_of (rounds_any s Hs.out (at_ (sched b)) (sched32 b) tb M 0 _
      (fun i hi => ((below_regrown w2 d os).cell (p := ⟨tb, 3 + i, none⟩) m2.lt).trans ((m2.cell (3 + i)).trans (by rw [tbl_word _ _ _ _ _ _ hi, if_pos hi])))
      (fun i hi => ((below_regrown w2 d os).cell (p := ⟨M, 0 + i, none⟩) k1.lt).trans (by rw [Nat.zero_add]; exact k1.at_ i (by rw [sched_len]; exact hi))))
  have K2 := Lib.hid k2
  clear k1 k2 m2 hM e0' e0 e1 e2 e3 e4 e5 e6 e7
  replace cM := Lib.hid cM
  replace cR := Lib.hid cR
  go_wp2
  refine wp_region_quiet_below (by kernel_rfl) (by kernel_rfl) ?_
  repeat (quiet_step (first | exact cM.out _ _ | exact cR.out _ _))
  refine wpQuiet_nil ?_
  intro _ hw'
  obtain ⟨⟨dq, osq⟩, hw''⟩ := hw'
  subst hw''
  have b3 := below_regrown w2 dq osq
  have k3 := K2.out.below b3 K2.out.lt
  replace b3 := barOf (b2.trans (b3.mono b2.size)) [hb]
  clear q0 q1 q2 q3 q4 q5 q6 q7 q8 cM cR b2 K2
  simp only []
  generalize Go.Sort.grow (redrawn w2 dq) osq = w3 at *
  obtain ⟨V, hV⟩ : ∃ V, rnds s (at_ (sched b)) 64 = V := ⟨_, rfl⟩
  have HV := Kept.mk hV
  rw [hV]
  clear hV
  go_wp2
  go_loopw [21] (fun i wr => ∃ k : Nat, k ≤ 8 ∧ i = .int .i64 k ∧ Hid (Blk wr hb 176 (hcells tb (addTo s.toL V.toL k) r n)) ∧ Bar [hb] w wr) (fun i _ => 8 - (Go.RowKit.intOf i).toNat)
  case atStart => exact ⟨0, by omega, rfl, by rw [addTo_0 _ _ rfl]; exact k3, b3⟩
  case round =>
    clear k3 b3
    obtain ⟨k, hk, rfl, h1, b1⟩ := hrel
    by_cases hlt : k < 8
    · have k8 : (k : Int) < 8 := by omega
      have hc0 := (h1.out.cell (1 + k)).trans (hc_state _ _ _ _ (addTo_len _ _ _) k hlt)
      rw [addTo_at _ _ _ _ hlt, if_neg (by omega)] at hc0
      have hz0 := h1.out.frozen (1 + k)
      have hix := index_arr (P := Tryz.prog) (k := .u32) Tryz.underlying77 Tryz.underlying67 (by kernel_rfl) (show V.toL.length = 8 from rfl) k hlt wr
      have e := addTo_set s.toL V.toL k
      generalize at_ s.toL k = x at *
      generalize at_ V.toL k = y at *
      have E := Kept.mk e
      clear e
      go_wp2
      refine wp_region_still_tail 11 (by kernel_rfl) (by kernel_rfl) ?_
      simp only [List.take_succ_cons, List.take_zero, List.drop_succ_cons, List.drop_zero]
      repeat still_step
      rw [IntKind.wrap_u32]
      refine wpStill_nil ?_
      change wpList _ _ _ _ _ wr.drew
      go_wp2
      go_roundw
      case rel =>
        refine ⟨k + 1, by omega, by go_num, ?_, (b1.setCell (by simp) _).drew⟩
        have := h1.out.set_ (1 + k) (.int .u32 ((x + y) % 4294967296))
        rw [hc_set _ _ _ _ (addTo_len _ _ _) _ hlt, E.out] at this
        exact this.drew
      case measure => simp [Go.RowKit.intOf]; omega
    · have ek : k = 8 := by omega
      have h2 := h1.out
      rw [ek, addTo_8] at h2
      clear ek
      go_wp2
      go_end0
      exact ⟨rfl, by unfold mixed; rw [HV.out]; exact h2, b1⟩
end Go.Proofs.YtjlhnhkjgcbnnaaGreat.Sha

/-
  A hash under way: nothing written yet; what is put behind; the sum.
-/

namespace Go.Proofs.YtjlhnhkjgcbnnaaGreat.Sha
open Go.RowKit

def Hs (w : World) (h t : Nat) (text : List Int) : Prop := h ≠ t ∧ Made w t ∧ Bytes text ∧ ∃ r : List Int, r.length = 64 ∧ Bytes r ∧ r.take (text.length % 64) = text.drop (text.length / 64 * 64) ∧ Blk w h 176 (hcells t (st text).toL r (text.length : Nat))

theorem zc : Tryz.zeroCells176 = ([Value.pointer none, .int .u32 0, .int .u32 0, .int .u32 0, .int .u32 0, .int .u32 0, .int .u32 0, .int .u32 0, .int .u32 0] ++ (List.replicate 64 (Value.int .u8 0) ++ [Value.int .u64 0])).toArray := by kernel_rfl
theorem hc_new (t : Nat) : (((((((((Tryz.zeroCells176.setIfInBounds 0 (.pointer (some ⟨t, 0, none⟩))).setIfInBounds 1 (.int .u32 (hW 0 : Nat))).setIfInBounds 2 (.int .u32 (hW 1 : Nat))).setIfInBounds 3 (.int .u32 (hW 2 : Nat))).setIfInBounds 4 (.int .u32 (hW 3 : Nat))).setIfInBounds 5 (.int .u32 (hW 4 : Nat))).setIfInBounds 6 (.int .u32 (hW 5 : Nat))).setIfInBounds 7 (.int .u32 (hW 6 : Nat))).setIfInBounds 8 (.int .u32 (hW 7 : Nat))) = hcells t (st []).toL (List.replicate 64 0) (([] : List Int).length : Nat) := by
  have : st [] = S0 := rfl
  rw [zc, this]
  simp [hcells, hcl, ints, S8.toL, S0]
def NewPost (t : Nat) (w : World) (e : Ending) (w' : World) : Prop := ∃ h, e = .returned (.pointer (some ⟨h, 0, none⟩)) ∧ w.heap.size ≤ h ∧ Hs w' h t [] ∧ Bar [t] w w'

set_option maxRecDepth 100000 in
set_option maxHeartbeats 400000 in
theorem new_any (t : Nat) (w : World) (ht : Tab w t) : Calls Tryz.prog 95 #[.pointer (some ⟨t, 0, none⟩)] w (NewPost t w) := by
  have c := Lib.hid (made_any t w ht)
  have tl : t < w.heap.size := by
    rcases ht with h | h
    · exact Blk.lt h
    · exact Blk.lt h
  clear ht
  go_enter Tryz.func95, Tryz.ntmps95
  go_wp2_with fail
  refine c.out.mono ?_
  rintro e w1 ⟨rfl, k, b⟩
  have e0 : w1.cell? ⟨t, 67, none⟩ = some (.int .u32 (hW 0 : Nat)) := (k.cell 67).trans (tbl_start _ _ _ _ _ 0 (by omega))
  have e1 : w1.cell? ⟨t, 68, none⟩ = some (.int .u32 (hW 1 : Nat)) := (k.cell 68).trans (tbl_start _ _ _ _ _ 1 (by omega))
  have e2 : w1.cell? ⟨t, 69, none⟩ = some (.int .u32 (hW 2 : Nat)) := (k.cell 69).trans (tbl_start _ _ _ _ _ 2 (by omega))
  have e3 : w1.cell? ⟨t, 70, none⟩ = some (.int .u32 (hW 3 : Nat)) := (k.cell 70).trans (tbl_start _ _ _ _ _ 3 (by omega))
  have e4 : w1.cell? ⟨t, 71, none⟩ = some (.int .u32 (hW 4 : Nat)) := (k.cell 71).trans (tbl_start _ _ _ _ _ 4 (by omega))
  have e5 : w1.cell? ⟨t, 72, none⟩ = some (.int .u32 (hW 5 : Nat)) := (k.cell 72).trans (tbl_start _ _ _ _ _ 5 (by omega))
  have e6 : w1.cell? ⟨t, 73, none⟩ = some (.int .u32 (hW 6 : Nat)) := (k.cell 73).trans (tbl_start _ _ _ _ _ 6 (by omega))
  have e7 : w1.cell? ⟨t, 74, none⟩ = some (.int .u32 (hW 7 : Nat)) := (k.cell 74).trans (tbl_start _ _ _ _ _ 7 (by omega))
  have K := Lib.hid k
  clear k
  go_wp2
  go_ret
  refine ⟨w1.heap.size, rfl, b.size, ⟨?_, K.out.alloc _, by intro x hx; simp at hx, List.replicate 64 0, by simp, ?_, rfl, ?_⟩, b.alloc _⟩
  · have := b.size; omega
  · intro x hx
    obtain ⟨_, rfl⟩ := List.mem_replicate.1 hx
    omega
  · rw [← hc_new]
    exact Blk.new_at _ _ _ _ rfl
end Go.Proofs.YtjlhnhkjgcbnnaaGreat.Sha

/-
  What is put behind in a hash: the lists, and the copy into the hash's rest.
-/

namespace Go.Proofs.YtjlhnhkjgcbnnaaGreat.Sha
open Go.RowKit

theorem hcl_splice (t : Nat) (s r : List Int) (n : Int) (hs : s.length = 8) (hr : r.length = 64) (k : Nat) (cs : List Int) (hk : k + cs.length ≤ 64) :
    splice (hcl t s r n) (9 + k) (ints .u8 cs) = hcl t s (splice r k cs) n := by
  have l1 : ([Value.pointer (some ⟨t, 0, none⟩)] ++ ints .u32 s).length = 9 := by simp [ints_len, hs]
  have e : hcl t s r n = ([Value.pointer (some ⟨t, 0, none⟩)] ++ ints .u32 s) ++ (ints .u8 r ++ [.int .u64 n]) := by simp [hcl]
  have e2 : hcl t s (splice r k cs) n = ([Value.pointer (some ⟨t, 0, none⟩)] ++ ints .u32 s) ++ (ints .u8 (splice r k cs) ++ [.int .u64 n]) := by simp [hcl]
  rw [e, e2]
  unfold splice
  rw [List.take_append, List.drop_append, l1, List.take_of_length_le (by rw [l1]; omega), show 9 + k - 9 = k by omega, show 9 + k + (ints .u8 cs).length - 9 = k + cs.length by rw [ints_len]; omega,
    List.drop_eq_nil_of_le (by rw [l1, ints_len]; omega), List.take_append_of_le_length (by rw [ints_len]; omega), List.drop_append_of_le_length (by rw [ints_len]; omega)]
  simp [ints]
theorem splice_len {r cs : List Int} {k : Nat} (hk : k + cs.length ≤ r.length) : (splice r k cs).length = r.length := by simp [splice]; omega
theorem splice_bytes {r cs : List Int} {k : Nat} (h1 : Bytes r) (h2 : Bytes cs) : Bytes (splice r k cs) := (h1.take _).append (h2.append (h1.drop _))

/-- a slice of bytes in memory, to be read: they are xs; it lies outside block hb -/
def Sl (w : World) (A : Option Addr) (n : Nat) (xs : List Int) (hb : Nat) : Prop :=
  xs.length = n ∧ Bytes xs ∧ (n = 0 ∨ ∃ b o, A = some ⟨b, o, none⟩ ∧ b ≠ hb ∧ ∀ i, i < n → w.cell? ⟨b, o + i, none⟩ = some (.int .u8 (at_ xs i)))
theorem Sl.bar {w w' : World} {A : Option Addr} {n : Nat} {xs : List Int} {hb : Nat} {l : List Nat} (h : Sl w A n xs hb) (b : Bar l w w') (hl : ∀ x ∈ l, x = hb ∨ w.heap.size ≤ x) : Sl w' A n xs hb := by
  obtain ⟨h1, h2, h3⟩ := h
  refine ⟨h1, h2, h3.imp id ?_⟩
  rintro ⟨bb, o, rfl, hne, hc⟩
  refine ⟨bb, o, rfl, hne, fun i hi => ?_⟩
  have h := hc i hi
  have hlt : bb < w.heap.size := World.block_lt_of_cell? _ _ h
  rw [← h]
  exact World.cell?_of_block (w := w) (b.block bb hlt (fun hm => by
    rcases hl bb hm with h | h
    · exact hne h
    · omega))
theorem Sl.drop {w : World} {A : Option Addr} {n : Nat} {xs : List Int} {hb : Nat} (h : Sl w A n xs hb) (k : Nat) (hk : k ≤ n) : Sl w (Option.map (fun x => x.add k) A) (n - k) (xs.drop k) hb := by
  obtain ⟨h1, h2, h3⟩ := h
  refine ⟨by simp; omega, h2.drop _, ?_⟩
  rcases h3 with h3 | ⟨b, o, rfl, hne, hc⟩
  · exact .inl (by omega)
  · have e : (⟨b, o, none⟩ : Addr).add k = ⟨b, o + k, none⟩ := by cases k <;> simp [Addr.add]
    refine .inr ⟨b, o + k, by rw [Option.map_some, e], hne, fun i hi => ?_⟩
    rw [Nat.add_assoc, hc (k + i) (by omega), at_drop]
theorem Sl.nil_ {w : World} {A : Option Addr} {hb : Nat} : Sl w A 0 [] hb := ⟨rfl, by intro x hx; simp at hx, .inl rfl⟩

/-- the copy's premise -/
theorem Sl.src {w : World} {A : Option Addr} {n : Nat} {xs : List Int} {hb : Nat} (h : Sl w A n xs hb) (m : Nat) (hm : m ≤ n) : 0 < (ints .u8 (xs.take m)).length → ∃ ad, A = some ad ∧ ∀ j v, (ints .u8 (xs.take m))[j]? = some v → w.cell? (ad.add j) = some v := by
  obtain ⟨h1, h2, h3⟩ := h
  intro hp
  rw [ints_len, List.length_take] at hp
  rcases h3 with h3 | ⟨b, o, rfl, hne, hc⟩
  · omega
  · refine ⟨_, rfl, fun j v hj => ?_⟩
    have hjl : j < (xs.take m).length := by
      have := (List.getElem?_eq_some_iff.1 hj).1
      rwa [ints_len] at this
    rw [ints_at _ _ _ hjl, at_take (by rw [List.length_take] at hjl; omega)] at hj
    rw [← hj]
    have e : (⟨b, o, none⟩ : Addr).add j = ⟨b, o + j, none⟩ := by cases j <;> simp [Addr.add]
    rw [e]
    exact hc j (by rw [List.length_take] at hjl; omega)

section
variable {text xs r : List Int}
/-- not a block full yet -/
theorem few (hr : r.length = 64) (he : r.take (text.length % 64) = text.drop (text.length / 64 * 64)) (hn : text.length % 64 + xs.length < 64) :
    (splice r (text.length % 64) xs).take ((text ++ xs).length % 64) = (text ++ xs).drop ((text ++ xs).length / 64 * 64) ∧ st (text ++ xs) = st text := by
  refine ⟨?_, st_rest _ _ hn⟩
  rw [List.length_append, show (text.length + xs.length) % 64 = text.length % 64 + xs.length by omega, show (text.length + xs.length) / 64 = text.length / 64 by omega]
  rw [List.drop_append_of_le_length (by omega), ← he]
  unfold splice
  rw [← List.append_assoc, List.take_append_of_le_length (by simp; omega), List.take_of_length_le (by simp; omega)]
/-- a block that is full -/
theorem full (hr : r.length = 64) (he : r.take (text.length % 64) = text.drop (text.length / 64 * 64)) (h0 : 0 < text.length % 64) (hn : 64 ≤ text.length % 64 + xs.length) :
    st (text ++ xs.take (64 - text.length % 64)) = mixed (st text) (splice r (text.length % 64) (xs.take (64 - text.length % 64))) := by
  obtain ⟨h, hh⟩ : ∃ h, text.length % 64 = h := ⟨_, rfl⟩
  have e1 : text = text.take (text.length / 64 * 64) ++ r.take h := by rw [← hh, he, List.take_append_drop]
  have l0 : (text.take (text.length / 64 * 64)).length % 64 = 0 := by rw [List.length_take, Nat.min_eq_left (by omega)]; omega
  have e2 : splice r h (xs.take (64 - h)) = r.take h ++ xs.take (64 - h) := by
    unfold splice
    rw [List.drop_eq_nil_of_le (by rw [List.length_take]; omega), List.append_nil]
  rw [hh, e2]
  have e3 : st text = st (text.take (text.length / 64 * 64)) := by
    conv => lhs; rw [e1]
    rw [st_rest _ _ (by rw [l0, List.length_take]; omega)]
  rw [e3, ← st_block _ _ l0 (by rw [List.length_append, List.length_take, List.length_take]; omega), ← List.append_assoc, ← e1]
/-- one more block -/
theorem more (p : Nat) (h : (text ++ xs.take p).length % 64 = 0) (hp : p + 64 ≤ xs.length) : st (text ++ xs.take (p + 64)) = mixed (st (text ++ xs.take p)) ((xs.drop p).take 64) := by
  rw [← st_block _ _ h (by simp; omega), List.append_assoc, List.take_add]
/-- what is left -/
theorem left (p : Nat) (h : (text ++ xs.take p).length % 64 = 0) (hp : p ≤ xs.length) (hn : xs.length < p + 64) :
    (splice r 0 (xs.drop p)).take ((text ++ xs).length % 64) = (text ++ xs).drop ((text ++ xs).length / 64 * 64) ∧ st (text ++ xs) = st (text ++ xs.take p) := by
  have l : (text ++ xs.take p).length = text.length + p := by rw [List.length_append, List.length_take]; omega
  rw [l] at h
  have e : text ++ xs = (text ++ xs.take p) ++ xs.drop p := by rw [List.append_assoc, List.take_append_drop]
  constructor
  · conv => rhs; rw [e]
    rw [List.length_append, show (text.length + xs.length) % 64 = xs.length - p by omega, List.length_append, l, List.length_drop, show (text.length + p + (xs.length - p)) / 64 * 64 = text.length + p by omega, ← l, List.drop_left]
    unfold splice
    simp
  · rw [e, st_rest _ _ (by rw [l, List.length_drop]; omega)]
end
end Go.Proofs.YtjlhnhkjgcbnnaaGreat.Sha
