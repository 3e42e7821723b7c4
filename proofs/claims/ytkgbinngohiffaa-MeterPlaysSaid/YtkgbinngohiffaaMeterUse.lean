/-
  Chapter 5's laws: two rows of numbers held against each other; the chapter's example.
-/
import Derived.Test.YtkgbinngohiffaaMeter3
import Derived.Test.YtkgbinngohiffaaInts
namespace Go.Proofs.Ytkgbinngohiffaa.Meter
open Go.RowKit Go.Proofs.Ytkgbinngohiffaa.Sha

set_option maxRecDepth 100000 in
set_option maxHeartbeats 400000 in
theorem ints_any (A B : Option Addr) (n m c d : Nat) (xs ys : List Int) (w : World) (ha : Ri w A n xs) (hb : Ri w B m ys) (hn : n ≤ 9223372036854775807) :
    Calls Try.prog 13 #[.slice A n c, .slice B m d] w fun e w' => e = .returned (.bool (sameB xs ys)) ∧ Below w.heap.size w w' := by
  have RA := Kept.mk ha
  have RB := Kept.mk hb
  have LA := Kept.mk ha.1
  have LB := Kept.mk hb.1
  clear ha hb
  by_cases hnm : n = m
  · subst hnm
    go_enter Try.func13, Try.ntmps13
    go_wp2
    go_loopw [5] (fun i wr => ∃ k : Nat, k ≤ n ∧ i = .int .i64 k ∧ Kept (∀ j, j < k → at_ xs j = at_ ys j) ∧ Kept (Below w.heap.size w wr)) (fun i _ => n - (intOf i).toNat)
    case atStart => exact ⟨0, by omega, rfl, ⟨fun j hj => by omega⟩, ⟨Below.refl _ _⟩⟩
    case round =>
      obtain ⟨k, hk, rfl, HJ, BW⟩ := hrel
      by_cases hkn : k < n
      · obtain ⟨b1, o1, rfl, hc1⟩ := (RA.out.below BW.out).2.resolve_left (by omega)
        obtain ⟨b2, o2, rfl, hc2⟩ := (RB.out.below BW.out).2.resolve_left (by omega)
        have x0 := hc1 k hkn
        have y0 := hc2 k hkn
        have hkn' : (k : Int) < n := by omega
        clear hc1 hc2
        by_cases hxy : at_ xs k = at_ ys k
        · have HJ2 : Kept (∀ j, j < k + 1 → at_ xs j = at_ ys j) := ⟨fun j hj => by
            by_cases hjk : j = k
            · subst hjk; exact hxy
            · exact HJ.out j (by omega)⟩
          rw [← hxy] at y0
          generalize at_ xs k = x at *
          clear HJ hxy
          go_wp2
          go_quiet (fail)
          replace BW : Kept (Below w.heap.size w (wr.drewN nq)) := ⟨below_drewN BW.out _⟩
          generalize wr.drewN nq = wq at *
          go_wp2
          go_roundw
          case rel => exact ⟨k + 1, by omega, by go_num, HJ2, BW⟩
          case measure => simp [intOf]; omega
        · have hs : sameB xs ys = false := by
            unfold sameB
            rw [decide_eq_false_iff_not]
            rintro rfl
            exact hxy rfl
          have HS := Kept.mk hs
          clear hs
          generalize at_ xs k = x at *
          generalize at_ ys k = y at *
          clear HJ
          go_wp2
          go_quiet (fail)
          replace BW : Kept (Below w.heap.size w (wr.drewN nq)) := ⟨below_drewN BW.out _⟩
          generalize wr.drewN nq = wq at *
          go_wp2
          go_ret
          exact ⟨by rw [HS.out]; rfl, BW.out⟩
      · have hkn' : ¬ (k : Int) < n := by omega
        obtain rfl : k = n := by omega
        have hs : sameB xs ys = true := by
          unfold sameB
          rw [decide_eq_true_iff]
          exact at_ext (by rw [LA.out, LB.out]) (fun i hi => HJ.out i (by rw [← LA.out]; exact hi))
        have HS := Kept.mk hs
        clear hs
        go_wp2
        go_ret
        exact ⟨by rw [HS.out]; rfl, BW.out⟩
  · have hf : sameB xs ys = false := sameB_len (by rw [LA.out, LB.out]; exact hnm)
    rw [hf]
    have hnm' : ¬ (n : Int) = m := by omega
    go_enter Try.func13, Try.ntmps13
    go_wp2
    go_ret
    exact ⟨rfl, Below.refl _ _⟩

set_option maxRecDepth 100000 in
set_option maxHeartbeats 400000 in
theorem first_any (w : World) : Calls Try.prog 7 #[] w fun e w' => e = .returned (.bool true) ∧ Below w.heap.size w w' := by
  go_enter Try.func7, Try.ntmps7
  go_wp2_with fail
  refine (new_any w).mono ?_
  rintro e w1 ⟨m, rfl, m1, hm, b1⟩
  have M1 := Kept.mk m1; have B1 := Kept.mk b1
  clear m1 b1
  go_wp2_with fail
  refine (add_any m 9 1 _ w1 M1.out).mono ?_
  rintro e w2 ⟨rfl, m2, b2⟩
  rw [show setC (List.replicate 8 0) 9 (r64 (getC (List.replicate 8 0) 9 + 1)) = List.replicate 8 0 by decide] at m2
  have M2 := Kept.mk m2
  have B2 := Kept.mk (B1.out.trans (b2.below (B := w.heap.size) B1.out.size (by simpa using hm)))
  clear m2 b2 M1 B1
  rw [show inK 9 = false by decide]
  go_wp2_with fail
  refine (add_any m 0 2 _ w2 M2.out).mono ?_
  rintro e w3 ⟨rfl, m3, b3⟩
  rw [show setC (List.replicate 8 0) 0 (r64 (getC (List.replicate 8 0) 0 + 2)) = [2, 0, 0, 0, 0, 0, 0, 0] by decide +kernel] at m3
  have M3 := Kept.mk m3
  have B3 := Kept.mk (B2.out.trans (b3.below (B := w.heap.size) B2.out.size (by simpa using hm)))
  clear m3 b3 M2 B2
  rw [show inK 0 = true by decide]
  go_wp2_with fail
  refine (get_any m 0 _ w3 M3.out).mono ?_
  rintro e w4 ⟨rfl, rfl⟩
  rw [show getC [2, 0, 0, 0, 0, 0, 0, 0] 0 = 2 by decide]
  go_wp2_with fail
  refine (all_any m _ w3 M3.out).mono ?_
  rintro e w4 ⟨A, rfl, -, -, b4⟩
  have B4 := Kept.mk (B3.out.trans (b4.mono B3.out.size))
  clear b4
  go_wp2
  go_ret
  exact ⟨rfl, B4.out⟩
/-- a law that holds: it answers true, and what was there ahead is as it was -/
def Holds (w : World) (e : Ending) (w' : World) : Prop := e = .returned (.bool true) ∧ Below w.heap.size w w'
theorem step_bar {w w1 w2 : World} {m : Nat} (B : Kept (Below w.heap.size w w1)) (b : Bar [m] w1 w2) (hm : w.heap.size ≤ m) : Kept (Below w.heap.size w w2) := ⟨B.out.trans (b.below B.out.size (by simpa using hm))⟩
theorem step_below {w w1 w2 : World} (B : Kept (Below w.heap.size w w1)) (b : Below w1.heap.size w1 w2) : Kept (Below w.heap.size w w2) := ⟨B.out.trans (b.mono B.out.size)⟩
theorem Me.keep {w w' : World} {m : Nat} {cs : List Int} (h : Kept (Me w m cs)) (b : Below w.heap.size w w') : Kept (Me w' m cs) := ⟨h.out.below b⟩
/-- one of the row's numbers, whatever came behind -/
theorem Ri.at_ {w : World} {A : Option Addr} {n : Nat} {xs : List Int} (r : Kept (Ri w A n xs)) (k : Nat) (hk : k < n) : ∃ b o, A = some ⟨b, o, none⟩ ∧ Kept (∀ wr, Kept (Below w.heap.size w wr) → wr.cell? ⟨b, o + k, none⟩ = some (.int .i64 (Sha.at_ xs k))) := by
  obtain ⟨b, o, h, hc⟩ := r.out.2.resolve_left (by omega)
  exact ⟨b, o, h, ⟨fun wr B => by rw [B.out.cell (World.block_lt_of_cell? _ _ (hc k hk))]; exact hc k hk⟩⟩
/-- counter i is x, the others are 0 -/
def one (i : Nat) (x : Int) : List Int := (List.replicate 8 0).set i x
theorem one_0 (i : Nat) : one i 0 = List.replicate 8 0 := by
  unfold one
  apply List.ext_getElem
  · simp
  · intro j h1 h2
    simp only [List.getElem_set, List.getElem_replicate]
    split <;> rfl
theorem one_get (i : Nat) (x : Int) (hi : i < 8) : getC (one i x) i = x := by
  unfold getC one
  rw [if_pos (inK_yes (by omega) (by omega)), Int.toNat_natCast, at_set _ _ _ _ (by simpa using hi), if_pos rfl]
theorem one_set (i : Nat) (x y : Int) (hi : i < 8) : setC (one i x) i y = one i y := by
  unfold setC one
  rw [if_pos (inK_yes (by omega) (by omega)), Int.toNat_natCast, List.set_set]
end Go.Proofs.Ytkgbinngohiffaa.Meter
