/-
  cflref.Ints, cflref.Has: two rows of numbers held against each other; whether a number is in a row. For any seat that has them.
-/
import Derived.Test.YthhjmbbfibgjpaaInts
namespace Go.Proofs.Ythhjmbbfibgjpaa.Sha
open Go.RowKit

set_option maxRecDepth 100000 in
set_option maxHeartbeats 400000 in
theorem intsame_any (A B : Option Addr) (n m c d : Nat) (xs ys : List Int) (w : World) (ha : Ri w A n xs) (hb : Ri w B m ys) (hn : n ≤ 9223372036854775807) :
    Calls Try.prog 18 #[.slice A n c, .slice B m d] w fun e w' => e = .returned (.bool (sameB xs ys)) ∧ Below w.heap.size w w' := by
  have RA := Kept.mk ha
  have RB := Kept.mk hb
  have LA := Kept.mk ha.1
  have LB := Kept.mk hb.1
  clear ha hb
  by_cases hnm : n = m
  · subst hnm
    go_enter Try.func18, Try.ntmps18
    go_wp2
    go_loopw [5] (fun i wr => ∃ k : Nat, k ≤ n ∧ i = .int .i64 k ∧ Kept (∀ j, j < k → at_ xs j = at_ ys j) ∧ Kept (Below w.heap.size w wr)) (fun i _ => n - (Go.RowKit.intOf i).toNat)
    case atStart => exact ⟨0, by omega, rfl, ⟨fun j hj => by omega⟩, ⟨Below.refl _ _⟩⟩
    case round =>
      obtain ⟨k, hk, rfl, HJ, BW⟩ := hrel
      by_cases hkn : k < n
      · obtain ⟨b1, o1, rfl, hc1⟩ := (RA.out.below BW.out).2.resolve_left (by omega)
        obtain ⟨b2, o2, rfl, hc2⟩ := (RB.out.below BW.out).2.resolve_left (by omega)
        have x0 := hc1 k hkn
        have y0 := hc2 k hkn
        have hkn' : (k : Int) < n := by omega
        clear hc1 hc2
        by_cases hxy : at_ xs k = at_ ys k
        · have HJ2 : Kept (∀ j, j < k + 1 → at_ xs j = at_ ys j) := ⟨fun j hj => by
            by_cases hjk : j = k
            · subst hjk; exact hxy
            · exact HJ.out j (by omega)⟩
          rw [← hxy] at y0
          generalize at_ xs k = x at *
          clear HJ hxy
          go_wp2
          go_quiet (fail)
          replace BW : Kept (Below w.heap.size w (wr.drewN nq)) := ⟨below_drewN BW.out _⟩
          generalize wr.drewN nq = wq at *
          go_wp2
          go_roundw
          case rel => exact ⟨k + 1, by omega, by go_num, HJ2, BW⟩
          case measure => simp [Go.RowKit.intOf]; omega
        · have hs : sameB xs ys = false := by
            unfold sameB
            rw [decide_eq_false_iff_not]
            rintro rfl
            exact hxy rfl
          have HS := Kept.mk hs
          clear hs
          generalize at_ xs k = x at *
          generalize at_ ys k = y at *
          clear HJ
          go_wp2
          go_quiet (fail)
          replace BW : Kept (Below w.heap.size w (wr.drewN nq)) := ⟨below_drewN BW.out _⟩
          generalize wr.drewN nq = wq at *
          go_wp2
          go_ret
          exact ⟨by rw [HS.out]; rfl, BW.out⟩
      · have hkn' : ¬ (k : Int) < n := by omega
        obtain rfl : k = n := by omega
        have hs : sameB xs ys = true := by
          unfold sameB
          rw [decide_eq_true_iff]
          exact at_ext (by rw [LA.out, LB.out]) (fun i hi => HJ.out i (by rw [← LA.out]; exact hi))
        have HS := Kept.mk hs
        clear hs
        go_wp2
        go_ret
        exact ⟨by rw [HS.out]; rfl, BW.out⟩
  · have hf : sameB xs ys = false := sameB_len (by rw [LA.out, LB.out]; exact hnm)
    rw [hf]
    have hnm' : ¬ (n : Int) = m := by omega
    go_enter Try.func18, Try.ntmps18
    go_wp2
    go_ret
    exact ⟨rfl, Below.refl _ _⟩

set_option maxRecDepth 100000 in
set_option maxHeartbeats 400000 in
theorem inthas_any (A : Option Addr) (n c : Nat) (xs : List Int) (q : Int) (w : World) (ha : Ri w A n xs) (hn : n ≤ 9223372036854775807) :
    Calls Try.prog 21 #[.slice A n c, .int .i64 q] w fun e w' => e = .returned (.bool (decide (q ∈ xs))) ∧ w = w' := by
  have RA := Kept.mk ha
  have LA := Kept.mk ha.1
  obtain ⟨D, hD⟩ : ∃ z, decide (q ∈ xs) = z := ⟨_, rfl⟩
  rw [hD]
  have KD : Kept (decide (q ∈ xs) = D) := ⟨hD⟩
  clear ha hD
  go_enter Try.func21, Try.ntmps21
  go_wp2
  go_loop [5] (fun i => ∃ k : Nat, k ≤ n ∧ i = .int .i64 k ∧ Kept (∀ j, j < k → at_ xs j ≠ q)) (fun i => n - (Go.RowKit.intOf i).toNat)
  case atStart => exact ⟨0, by omega, rfl, ⟨fun j hj => by omega⟩⟩
  case round =>
    obtain ⟨k, hk, rfl, HJ⟩ := hrel
    by_cases hkn : k < n
    · obtain ⟨b1, o1, rfl, hc1⟩ := RA.out.2.resolve_left (by omega)
      have x0 := hc1 k hkn
      have hkn' : (k : Int) < n := by omega
      clear hc1
      by_cases hxy : at_ xs k = q
      · have hs : decide (q ∈ xs) = true := decide_eq_true (hxy ▸ List.mem_of_getElem? (at_eq (by rw [LA.out]; exact hkn)))
        obtain rfl : D = true := KD.out.symm.trans hs
        have hxy' : (at_ xs k == q) = true := by simpa using hxy
        generalize at_ xs k = x at *
        clear HJ hxy hs KD
        go_wp2
        go_ret
        exact ⟨rfl, rfl⟩
      · have HJ2 : Kept (∀ j, j < k + 1 → at_ xs j ≠ q) := ⟨fun j hj => by
          by_cases hjk : j = k
          · subst hjk; exact hxy
          · exact HJ.out j (by omega)⟩
        have hxy' : (at_ xs k == q) = false := by simpa using hxy
        generalize at_ xs k = x at *
        clear HJ hxy
        go_wp2
        go_round
        case rel => exact ⟨k + 1, by omega, by go_num, HJ2⟩
        case measure => simp [Go.RowKit.intOf]; omega
    · have hkn' : ¬ (k : Int) < n := by omega
      obtain rfl : k = n := by omega
      have hs : decide (q ∈ xs) = false := decide_eq_false (fun h => by
        obtain ⟨j, hj, e⟩ := List.mem_iff_getElem.1 h
        have e2 := at_eq hj
        rw [List.getElem?_eq_getElem hj, e] at e2
        injection e2 with e2
        exact HJ.out j (by rw [← LA.out]; exact hj) e2.symm)
      obtain rfl : D = false := KD.out.symm.trans hs
      clear hs KD
      go_wp2
      go_ret
      exact ⟨rfl, rfl⟩
end Go.Proofs.Ythhjmbbfibgjpaa.Sha
