/-
  Parts laid together: Bytes Lists.
-/
import Derived.Test.YtkbehjdglgpgjaaGreatPart4
import Derived.Laws.BytesArg
import Derived.Lib.SlBytesConst
import Derived.Lib.Bytes

namespace Go.Proofs.YtkbehjdglgpgjaaGreat.Sha
open Go.RowKit

theorem conv_same {w : World} {A : Option Addr} {n cap : Nat} {xs : List Int} (r : Rd w A n xs) :
    (convert 38 9 (.slice A n cap)).run Tryz.prog w = .ok (.string (strOfNums xs)) w := by
  obtain ⟨h1, h2, h3⟩ := r
  by_cases h0 : n = 0
  · subst h0
    obtain rfl : xs = [] := List.eq_nil_of_length_eq_zero h1
    cases A with
    | none => exact run_convert_bytes_nil w _ _ Tryz.underlying38 Tryz.underlying5 0 cap _ Tryz.underlying9
    | some a =>
      have hl : (loadCells a 0).run Tryz.prog w = .ok (([] : List Int).map (Value.int .u8)).toArray w := by simp [loadCells, loadCellsFrom]
      rw [run_convert_bytes_string w _ _ 5 _ 0 cap Tryz.underlying38 Tryz.underlying5 Tryz.underlying9, run_bytesToString w _ 0 cap [] hl]
      simp [strOfNums, ByteArray.empty, ByteArray.emptyWithCapacity]
      rfl
  · rcases h3 with h3 | ⟨b, o, rfl, hc⟩
    · exact absurd h3 h0
    · exact run_convert_bytes_arg w _ _ Tryz.underlying38 Tryz.underlying5 b o n cap xs h1 hc _ Tryz.underlying9
set_option maxRecDepth 100000 in
set_option maxHeartbeats 400000 in
theorem bytes_same (A B : Option Addr) (n m c d : Nat) (xs : List Int) (w : World) (ha : Rd w A n xs) (hb : Rd w B m xs) :
  Calls Tryz.prog 50 #[.slice A n c, .slice B m d] w fun e w' => e = .returned (.bool true) ∧ w = w' := by
 have c1 := conv_same (cap := c) ha
 have c2 := conv_same (cap := d) hb
 generalize strOfNums xs = s at *
 clear ha hb
 go_enter Tryz.func50, Tryz.ntmps50
 go_wp2
 go_ret
 exact ⟨rfl, rfl⟩
theorem strOfNums_inj {xs ys : List Int} (hx : Bytes xs) (hy : Bytes ys) (h : (strOfNums xs).toList = (strOfNums ys).toList) : xs = ys := by
 have h1 : (xs.map fun n => UInt8.ofNat n.toNat) = ys.map fun n => UInt8.ofNat n.toNat := by
  rw [Lib.strOfNums_toList, Lib.strOfNums_toList] at h
  exact h
 have hl : xs.length = ys.length := by simpa using congrArg List.length h1
 apply List.ext_getElem hl
 intro i a b
 have h2 : UInt8.ofNat (xs[i]).toNat = UInt8.ofNat (ys[i]).toNat := by
  have := congrArg (fun l => l[i]?) h1
  simpa [a, b] using this
 have bx := hx xs[i] (List.getElem_mem a)
 have byy := hy ys[i] (List.getElem_mem b)
 have h3 := congrArg UInt8.toNat h2
 simp only [UInt8.toNat_ofNat'] at h3
 omega
set_option maxRecDepth 100000 in
set_option maxHeartbeats 400000 in
theorem bytes_any (A B : Option Addr) (n m c d : Nat) (xs ys : List Int) (w : World) (ha : Rd w A n xs) (hb : Rd w B m ys) :
  Calls Tryz.prog 50 #[.slice A n c, .slice B m d] w fun e w' => e = .returned (.bool (sameB xs ys)) ∧ w = w' := by
 by_cases he : xs = ys
 ·subst he
  rw [sameB_self]
  exact bytes_same A B n m c d xs w ha hb
 ·have hs : sameB xs ys = false := by unfold sameB; simpa using he
  rw [hs]
  have hne : ((strOfNums xs).toList == (strOfNums ys).toList) = false := by
   rw [beq_eq_false_iff_ne]
   exact fun h => he (strOfNums_inj ha.2.1 hb.2.1 h)
  have c1 := conv_same (cap := c) ha
  have c2 := conv_same (cap := d) hb
  generalize strOfNums xs = s at *
  generalize strOfNums ys = s2 at *
  clear ha hb he hs
  go_enter Tryz.func50, Tryz.ntmps50
  go_wp2
  go_ret
  exact ⟨rfl, rfl⟩
end Go.Proofs.YtkbehjdglgpgjaaGreat.Sha

namespace Go.Proofs.YtkbehjdglgpgjaaGreat.Sha
open Go.RowKit

def likeB (n m : Nat) (X Y : Nat → List Int) : Bool := decide (n = m ∧ ∀ i, i < n → X i = Y i)
theorem Rws.row {w : World} {A : Option Addr} {n : Nat} {X : Nat → List Int} (h : Rws w A n X) (i : Nat) (hi : i < n) : ∃ b o a l c, A = some ⟨b, o, none⟩ ∧ w.cell? ⟨b, o + i, none⟩ = some (.slice a l c) ∧ Rd w a l (X i) := by
 rcases h with h | ⟨b, o, rfl, hc⟩
 ·omega
 ·obtain ⟨a, l, c, h1, -, -, h4⟩ := hc i hi
  exact ⟨b, o, a, l, c, rfl, h1, h4⟩
set_option maxRecDepth 100000 in
set_option maxHeartbeats 1000000 in
theorem lists_any (A B : Option Addr) (n m c d : Nat) (X Y : Nat → List Int) (w : World) (ha : Rws w A n X) (hb : Rws w B m Y) (hn : n ≤ 9223372036854775807) :
  Calls Tryz.prog 51 #[.slice A n c, .slice B m d] w fun e w' => e = .returned (.bool (likeB n m X Y)) ∧ Below w.heap.size w w' := by
 by_cases hnm : n = m
 ·subst hnm
  have HA := Kept.mk ha; have HB := Kept.mk hb
  have HL : Kept (∀ k, k < n → X k ≠ Y k → likeB n n X Y = false) := ⟨fun k hk hne => by
   unfold likeB; rw [decide_eq_false_iff_not]; rintro ⟨-, h⟩; exact hne (h k hk)⟩
  have HT : Kept ((∀ i, i < n → X i = Y i) → likeB n n X Y = true) := ⟨fun h => by
   unfold likeB; rw [decide_eq_true_eq]; exact ⟨rfl, h⟩⟩
  generalize likeB n n X Y = L at *
  clear ha hb
  go_enter Tryz.func51, Tryz.ntmps51
  go_wp2
  go_loopw [5] (fun j wr => ∃ k : Nat, k ≤ n ∧ j = .int .i64 (k : Nat) ∧ Kept (∀ i, i < k → X i = Y i) ∧ Kept (Below w.heap.size w wr)) (fun j _ => n - (Go.RowKit.intOf j).toNat)
  case atStart => exact ⟨0, by omega, rfl, ⟨fun i hi => absurd hi (Nat.not_lt_zero _)⟩, ⟨Below.refl _ _⟩⟩
  case round =>
   obtain ⟨k, hk, rfl, HE, BW⟩ := hrel
   by_cases hkn : k < n
   ·have hkn' : (k : Int) < n := by omega
    obtain ⟨b1, o1, a1, l1, c1, rfl, x1, r1⟩ := (HA.out.below BW.out).row k hkn
    obtain ⟨b2, o2, a2, l2, c2, rfl, x2, r2⟩ := (HB.out.below BW.out).row k hkn
    have v1 := fun q => conv_same (cap := c1) (r1.below (below_drewN (Below.refl wr.heap.size wr) q))
    have v2 := fun q => conv_same (cap := c2) (r2.below (below_drewN (Below.refl wr.heap.size wr) q))
    by_cases hxy : X k = Y k
    ·have HE2 : Kept (∀ i, i < k + 1 → X i = Y i) := ⟨fun i hi => by
      by_cases h : i < k
      ·exact HE.out i h
      ·rw [show i = k by omega]; exact hxy⟩
     rw [hxy] at v1
     generalize strOfNums (Y k) = S at *
     clear HE r1 r2
     go_wp2
     go_quiet (fail)
     have B2 : Kept (Below w.heap.size w (wr.drewN nq)) := ⟨below_drewN BW.out _⟩
     go_wp2
     go_roundw
     case rel => exact ⟨k + 1, by omega, by go_num, HE2, B2⟩
     case measure => simp [Go.RowKit.intOf]; omega
    ·have hL := HL.out k hkn hxy
     subst hL
     have hne : ((strOfNums (X k)).toList == (strOfNums (Y k)).toList) = false := by
      rw [beq_eq_false_iff_ne]
      exact fun he => hxy (strOfNums_inj r1.2.1 r2.2.1 he)
     generalize strOfNums (X k) = S1 at *
     generalize strOfNums (Y k) = S2 at *
     clear HE r1 r2 hxy HL HT
     go_wp2
     go_quiet (fail)
     have B2 : Kept (Below w.heap.size w (wr.drewN nq)) := ⟨below_drewN BW.out _⟩
     go_wp2
     go_ret
     exact ⟨rfl, B2.out⟩
   ·have hkn' : ¬ (k : Int) < n := by omega
    obtain rfl : k = n := by omega
    have hL := HT.out HE.out
    subst hL
    go_wp2
    go_ret
    exact ⟨rfl, BW.out⟩
 ·have hL : likeB n m X Y = false := by unfold likeB; rw [decide_eq_false_iff_not]; exact fun h => hnm h.1
  rw [hL]
  have hnm' : ¬ (n : Int) = m := by omega
  clear hL ha hb
  go_enter Tryz.func51, Tryz.ntmps51
  go_wp2
  go_ret
  exact ⟨rfl, Below.refl _ _⟩
end Go.Proofs.YtkbehjdglgpgjaaGreat.Sha
