/-
  Parts laid together: Strs Bytes SealSame.
-/
import Derived.Test.YtidjkhpekhpffaaPart4
import Derived.Laws.BytesArg
import Derived.Lib.SlBytesConst
import Derived.Lib.Bytes
import Derived.Test.YtidjkhpekhpffaaPart3

namespace Go.Proofs.Ytidjkhpekhpffaa.Sha
open Go.RowKit

theorem conv_same {w : World} {A : Option Addr} {n cap : Nat} {xs : List Int} (r : Rd w A n xs) :
    (convert 22 9 (.slice A n cap)).run Try.prog w = .ok (.string (strOfNums xs)) w := by
  obtain ⟨h1, h2, h3⟩ := r
  by_cases h0 : n = 0
  · subst h0
    obtain rfl : xs = [] := List.eq_nil_of_length_eq_zero h1
    cases A with
    | none => exact run_convert_bytes_nil w _ _ Try.underlying22 Try.underlying5 0 cap _ Try.underlying9
    | some a =>
      have hl : (loadCells a 0).run Try.prog w = .ok (([] : List Int).map (Value.int .u8)).toArray w := by simp [loadCells, loadCellsFrom]
      rw [run_convert_bytes_string w _ _ 5 _ 0 cap Try.underlying22 Try.underlying5 Try.underlying9, run_bytesToString w _ 0 cap [] hl]
      simp [strOfNums, ByteArray.empty, ByteArray.emptyWithCapacity]
      rfl
  · rcases h3 with h3 | ⟨b, o, rfl, hc⟩
    · exact absurd h3 h0
    · exact run_convert_bytes_arg w _ _ Try.underlying22 Try.underlying5 b o n cap xs h1 hc _ Try.underlying9
theorem strOfNums_inj {xs ys : List Int} (hx : Bytes xs) (hy : Bytes ys) (h : (strOfNums xs).toList = (strOfNums ys).toList) : xs = ys := by
  have h1 : (xs.map fun n => UInt8.ofNat n.toNat) = ys.map fun n => UInt8.ofNat n.toNat := by
    rw [Lib.strOfNums_toList, Lib.strOfNums_toList] at h
    exact h
  have hl : xs.length = ys.length := by simpa using congrArg List.length h1
  apply List.ext_getElem hl
  intro i a b
  have h2 : UInt8.ofNat (xs[i]).toNat = UInt8.ofNat (ys[i]).toNat := by
    have := congrArg (fun l => l[i]?) h1
    simpa [a, b] using this
  have bx := hx xs[i] (List.getElem_mem a)
  have byy := hy ys[i] (List.getElem_mem b)
  have h3 := congrArg UInt8.toNat h2
  simp only [UInt8.toNat_ofNat'] at h3
  omega
end Go.Proofs.Ytidjkhpekhpffaa.Sha

namespace Go.Proofs.Ytidjkhpekhpffaa.Sha
open Go.RowKit

set_option maxRecDepth 100000 in
set_option maxHeartbeats 400000 in
theorem bytes_same (A B : Option Addr) (n m c d : Nat) (xs : List Int) (w : World) (ha : Rd w A n xs) (hb : Rd w B m xs) :
    Calls Try.prog 15 #[.slice A n c, .slice B m d] w fun e w' => e = .returned (.bool true) ∧ w = w' := by
  have c1 := conv_same (cap := c) ha
  have c2 := conv_same (cap := d) hb
  generalize strOfNums xs = s at *
  clear ha hb
  go_enter Try.func15, Try.ntmps15
  go_wp2
  go_ret
  exact ⟨rfl, rfl⟩
set_option maxRecDepth 100000 in
set_option maxHeartbeats 400000 in
theorem bytes_any (A B : Option Addr) (n m c d : Nat) (xs ys : List Int) (w : World) (ha : Rd w A n xs) (hb : Rd w B m ys) :
    Calls Try.prog 15 #[.slice A n c, .slice B m d] w fun e w' => e = .returned (.bool (sameB xs ys)) ∧ w = w' := by
  by_cases he : xs = ys
  · subst he
    rw [sameB_self]
    exact bytes_same A B n m c d xs w ha hb
  · have hs : sameB xs ys = false := by unfold sameB; simpa using he
    rw [hs]
    have hne : ((strOfNums xs).toList == (strOfNums ys).toList) = false := by
      rw [beq_eq_false_iff_ne]
      exact fun h => he (strOfNums_inj ha.2.1 hb.2.1 h)
    have c1 := conv_same (cap := c) ha
    have c2 := conv_same (cap := d) hb
    generalize strOfNums xs = s at *
    generalize strOfNums ys = s2 at *
    clear ha hb he hs
    go_enter Try.func15, Try.ntmps15
    go_wp2
    go_ret
    exact ⟨rfl, rfl⟩
end Go.Proofs.Ytidjkhpekhpffaa.Sha

namespace Go.Proofs.Ytidjkhpekhpffaa.Seal
open Go.RowKit Go.Proofs.Ytidjkhpekhpffaa.Sha Go.Proofs.Ytidjkhpekhpffaa.Wire Go.Proofs.Ytidjkhpekhpffaa.Mac

set_option maxRecDepth 100000 in
set_option maxHeartbeats 2000000 in
theorem rsame_yes (n : NV) (A B : Option Addr) (l c m d : Nat) (w : World) (ha : Rd w A l n.body) (hb : Rd w B m n.body) :
    Calls Try.prog 16 #[.agg #[.int .i64 n.party, .int .i64 n.which, .int .i64 n.way, .int .i64 n.seq, .slice A l c], .agg #[.int .i64 n.party, .int .i64 n.which, .int .i64 n.way, .int .i64 n.seq, .slice B m d]] w fun e w' => e = .returned (.bool true) ∧ Below w.heap.size w w' := by
  obtain ⟨p, h, y, s, bd⟩ := n
  dsimp only at ha hb ⊢
  have b2 : Below w.heap.size w ((w.alloc (.cells #[.int .i64 p, .int .i64 h, .int .i64 y, .int .i64 s, .slice A l c] 24)).alloc (.cells #[.int .i64 p, .int .i64 h, .int .i64 y, .int .i64 s, .slice B m d] 24)) := ((Below.refl _ _).alloc (Nat.le_refl _) _).alloc (by simp) _
  have cb := Kept.mk (bytes_same A B l m c d bd _ (ha.below b2) (hb.below b2))
  have B2 := Kept.mk b2
  clear ha hb b2
  go_enter Try.func16, Try.ntmps16
  go_wp2_with fail
  refine cb.out.mono ?_
  rintro x w' ⟨rfl, rfl⟩
  go_wp2
  go_ret
  exact ⟨rfl, B2.out⟩
end Go.Proofs.Ytidjkhpekhpffaa.Seal
