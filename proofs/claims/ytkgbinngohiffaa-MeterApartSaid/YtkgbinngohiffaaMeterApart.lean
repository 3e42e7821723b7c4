/-
  The law MeterApart, walked.
-/
import Derived.Test.YtkgbinngohiffaaMeterUse
import Derived.Deep.RegionHeld3
namespace Go.Proofs.Ytkgbinngohiffaa.Meter
open Go.RowKit Go.Proofs.Ytkgbinngohiffaa.Sha

/-- what All told of a new one -/
theorem ri_zeros {w : World} {C : Nat} {T : TypeId} (h : Kept (Blk w C T (arr .i64 (List.replicate 8 0)))) : Kept (Ri w (some ⟨C, 0, none⟩) 8 (List.replicate 8 0)) := ⟨Ri.blk h.out rfl⟩

set_option maxRecDepth 100000 in
set_option maxHeartbeats 1000000 in
theorem apart_walk (q : Int) (A : Option Addr) (n cap : Nat) (l : List Int) (w : World) (hr : Ri w A n l) : Calls Try.prog 4 #[.int .i64 q, .slice A n cap] w (Holds w) := by
  have R := Kept.mk hr
  clear hr
  go_enter Try.func4, Try.ntmps4
  go_wp2_with fail
  refine (first_any w).mono ?_
  rintro e w1 ⟨rfl, b1⟩
  have B := Kept.mk b1
  clear b1
  go_wp2_with fail
  refine (new_any w1).mono ?_
  rintro e w2 ⟨m, rfl, m2, hm, b2⟩
  have M := Kept.mk m2
  have HM : w.heap.size ≤ m := Nat.le_trans B.out.size hm
  replace B := step_below B b2
  clear m2 b2 hm
  go_wp2_with fail
  refine (new_any w2).mono ?_
  rintro e w3 ⟨z, rfl, z3, hz, b3⟩
  have Z := Kept.mk z3
  have HZ : w.heap.size ≤ z := Nat.le_trans B.out.size hz
  have hmz : m ≠ z := by have := M.out.lt; omega
  replace M := Me.keep M b3
  replace B := step_below B b3
  clear z3 b3 hz
  by_cases hn : n ≤ 100 ∧ 0 ≤ q ∧ q ≤ 7
  · obtain ⟨hn, hq0, hq7⟩ := hn
    have hn' : (n : Int) ≤ 100 := by omega
    obtain ⟨i, rfl⟩ : ∃ i : Nat, q = i := ⟨q.toNat, by omega⟩
    have hi : i < 8 := by omega
    rw [← one_0 i] at M
    go_wp2_with fail
    refine (all_any z _ w3 Z.out).mono ?_
    rintro e w4 ⟨C, rfl, hc, hC, b4⟩
    have WAS := Kept.mk hc
    have hCm : C ∉ [m] := by have := M.out.lt; simp; omega
    replace M := Me.keep M b4
    replace Z := Me.keep Z b4
    replace B := step_below B b4
    clear hc hC b4
    go_wp2
    go_loopw [7, 9] (fun s j wr => ∃ (k : Nat) (x : Int), k ≤ n ∧ s = .int .i64 x ∧ j = .int .i64 k ∧ Kept (Me wr m (one i x)) ∧ Kept (Me wr z (List.replicate 8 0)) ∧ Kept (Blk wr C 49 (arr .i64 (List.replicate 8 0))) ∧ Kept (Below w.heap.size w wr)) (fun _ j _ => n - (intOf j).toNat)
    case atStart => exact ⟨0, 0, by omega, rfl, rfl, M, Z, WAS, B⟩
    case round =>
      clear M Z WAS B
      obtain ⟨k, s, hk, rfl, rfl, M, Z, WAS, B⟩ := hrel
      by_cases hkn : k < n
      · have hkn' : (k : Int) < n := by omega
        obtain ⟨b, g, rfl, CX⟩ := Ri.at_ R k hkn
        generalize at_ l k = x at *
        have x0 := CX.out _ B
        go_wp2_with fail
        refine (add_any m i x _ wr M.out).mono ?_
        rintro e w5 ⟨rfl, m5, b5⟩
        rw [one_get _ _ hi, one_set _ _ _ hi] at m5
        replace Z := Kept.mk (Z.out.other M.out hmz.symm b5)
        replace M := Kept.mk m5
        replace WAS := Kept.mk (WAS.out.bar b5 hCm)
        replace B := step_bar B b5 HM
        clear m5 b5 x0
        have x0 := CX.out _ B
        go_wp2
        go_roundw
        case rel => exact ⟨k + 1, wrap64 (s + x), by omega, rfl, by go_num, M, Z, WAS, B⟩
        case measure => simp [intOf]; omega
      · have hkn' : ¬ (k : Int) < n := by omega
        obtain rfl : k = n := by omega
        have HG := get_any m i _ wr M.out
        rw [one_get _ _ hi] at HG
        replace HG := Kept.mk HG
        go_wp2_with fail
        refine HG.out.mono ?_
        rintro e w5 ⟨rfl, rfl⟩
        clear HG
        go_wp2_with fail
        replace M := Kept.mk (show Me wr.drew m (one i s) from M.out)
        replace Z := Kept.mk (show Me wr.drew z (List.replicate 8 0) from Z.out)
        replace WAS := Kept.mk WAS.out.drew
        replace B := Kept.mk B.out.drew
        refine wp_region_noPanic ?_
        refine wp_region_held_drew (S := fun _ : World => True) (by kernel_rfl) trivial (fun _ => ?_)
        generalize wr.drew = wd at *
        refine wpAnyH_ready (rs := [0]) (by kernel_rfl) (by simp) ?_
        refine AllReadyH.cons (o := ?o29) ?hi29 (fun K hK => ?_) AllReadyH.nil
        case hi29 => (simp only [List.getElem?_toArray, List.getElem?_cons_zero]; exact rfl)
        go_simp
        go_at_call 7
        refine (first_any wd).mono ?_
        rintro e w6 ⟨rfl, b6⟩
        replace M := Me.keep M b6
        replace Z := Me.keep Z b6
        replace WAS := Kept.mk (WAS.out.below b6 WAS.out.lt)
        replace B := step_below B b6
        refine hK.out _ _ trivial (fun _ => ?_)
        clear hK K b6
        try simp only [Act.put, List.setIfInBounds_toArray, List.set_cons_zero, List.set_cons_succ]
        refine wpAnyH_take (i := 1) (oi := ?o1) (v := ?v1) ?hi1 (by kernel_rfl) (by kernel_rfl) (by kernel_rfl) ?hq1 (Or.inl ⟨?hw1, ?hy1⟩) (by assumption) ?r1
        case hi1 => (simp only [List.getElem?_toArray, List.getElem?_cons_succ, List.getElem?_cons_zero]; exact rfl)
        case hq1 => exact fun _ _ _ h => h
        case hw1 => rfl
        case hy1 => (intro w hSw; (try dsimp only at hSw); go_simp; try exact rfl)
        simp only [Act.put, List.setIfInBounds_toArray, List.set_cons_zero, List.set_cons_succ]
        refine wpAnyH_take (i := 2) (oi := ?o2) (v := ?v2) ?hi2 (by kernel_rfl) (by kernel_rfl) (by kernel_rfl) ?hq2 (Or.inl ⟨?hw2, ?hy2⟩) (by assumption) ?r2
        case hi2 => (simp only [List.getElem?_toArray, List.getElem?_cons_succ, List.getElem?_cons_zero]; exact rfl)
        case hq2 => exact fun _ _ _ h => h
        case hw2 => rfl
        case hy2 => (intro w hSw; (try dsimp only at hSw); go_simp; try exact rfl)
        simp only [Act.put, List.setIfInBounds_toArray, List.set_cons_zero, List.set_cons_succ]
        refine wpAnyH_take (i := 3) (oi := ?o3) (v := ?v3) ?hi3 (by kernel_rfl) (by kernel_rfl) (by kernel_rfl) ?hq3 (Or.inl ⟨?hw3, ?hy3⟩) (by assumption) ?r3
        case hi3 => (simp only [List.getElem?_toArray, List.getElem?_cons_succ, List.getElem?_cons_zero]; exact rfl)
        case hq3 => exact fun _ _ _ h => h
        case hw3 => rfl
        case hy3 => (intro w hSw; (try dsimp only at hSw); go_simp; try exact rfl)
        simp only [Act.put, List.setIfInBounds_toArray, List.set_cons_zero, List.set_cons_succ]
        refine wpAnyH_take (i := 4) (oi := ?o4) (v := ?v4) ?hi4 (by kernel_rfl) (by kernel_rfl) (by kernel_rfl) ?hq4 (Or.inl ⟨?hw4, ?hy4⟩) (by assumption) ?r4
        case hi4 => (simp only [List.getElem?_toArray, List.getElem?_cons_succ, List.getElem?_cons_zero]; exact rfl)
        case hq4 => exact fun _ _ _ h => h
        case hw4 => rfl
        case hy4 => (intro w hSw; (try dsimp only at hSw); go_simp; try exact rfl)
        simp only [Act.put, List.setIfInBounds_toArray, List.set_cons_zero, List.set_cons_succ]
        refine wpAnyH_take (i := 5) (oi := ?o5) (v := ?v5) ?hi5 (by kernel_rfl) (by kernel_rfl) (by kernel_rfl) ?hq5 (Or.inl ⟨?hw5, ?hy5⟩) (by assumption) ?r5
        case hi5 => (simp only [List.getElem?_toArray, List.getElem?_cons_succ, List.getElem?_cons_zero]; exact rfl)
        case hq5 => exact fun _ _ _ h => h
        case hw5 => rfl
        case hy5 => (intro w hSw; (try dsimp only at hSw); go_simp; try exact rfl)
        simp only [Act.put, List.setIfInBounds_toArray, List.set_cons_zero, List.set_cons_succ]
        refine wpAnyH_take (i := 6) (oi := ?o6) (v := ?v6) ?hi6 (by kernel_rfl) (by kernel_rfl) (by kernel_rfl) ?hq6 (Or.inl ⟨?hw6, ?hy6⟩) (by assumption) ?r6
        case hi6 => (simp only [List.getElem?_toArray, List.getElem?_cons_succ, List.getElem?_cons_zero]; exact rfl)
        case hq6 => exact fun _ _ _ h => h
        case hw6 => rfl
        case hy6 => (intro w hSw; (try dsimp only at hSw); go_simp; try exact rfl)
        simp only [Act.put, List.setIfInBounds_toArray, List.set_cons_zero, List.set_cons_succ]
        refine wpAnyH_take (i := 7) (oi := ?o7) (v := ?v7) ?hi7 (by kernel_rfl) (by kernel_rfl) (by kernel_rfl) ?hq7 (Or.inl ⟨?hw7, ?hy7⟩) (by assumption) ?r7
        case hi7 => (simp only [List.getElem?_toArray, List.getElem?_cons_succ, List.getElem?_cons_zero]; exact rfl)
        case hq7 => exact fun _ _ _ h => h
        case hw7 => rfl
        case hy7 => (intro w hSw; (try dsimp only at hSw); go_simp; try exact rfl)
        simp only [Act.put, List.setIfInBounds_toArray, List.set_cons_zero, List.set_cons_succ]
        refine wpAnyH_take (i := 8) (oi := ?o8) (v := ?v8) ?hi8 (by kernel_rfl) (by kernel_rfl) (by kernel_rfl) ?hq8 (Or.inl ⟨?hw8, ?hy8⟩) (by assumption) ?r8
        case hi8 => (simp only [List.getElem?_toArray, List.getElem?_cons_succ, List.getElem?_cons_zero]; exact rfl)
        case hq8 => exact fun _ _ _ h => h
        case hw8 => rfl
        case hy8 => (intro w hSw; (try dsimp only at hSw); go_simp; try exact rfl)
        simp only [Act.put, List.setIfInBounds_toArray, List.set_cons_zero, List.set_cons_succ]
        refine wpAnyH_take (i := 10) (oi := ?o9) (v := ?v9) ?hi9 (by kernel_rfl) (by kernel_rfl) (by kernel_rfl) ?hq9 (Or.inl ⟨?hw9, ?hy9⟩) (by assumption) ?r9
        case hi9 => (simp only [List.getElem?_toArray, List.getElem?_cons_succ, List.getElem?_cons_zero]; exact rfl)
        case hq9 => exact fun _ _ _ h => h
        case hw9 => rfl
        case hy9 => (intro w hSw; (try dsimp only at hSw); go_simp; try exact rfl)
        simp only [Act.put, List.setIfInBounds_toArray, List.set_cons_zero, List.set_cons_succ]
        refine wpAnyH_ready (rs := [9]) (by kernel_rfl) (by simp) ?_
        refine AllReadyH.cons (o := ?o30) ?hi30 (fun K hK => ?_) AllReadyH.nil
        case hi30 => (simp only [List.getElem?_toArray, List.getElem?_cons_succ, List.getElem?_cons_zero]; exact rfl)
        go_simp
        go_at_call 10
        refine (swap_any m i 0 _ w6 M.out).mono ?_
        rintro e w7 ⟨rfl, m7, b7⟩
        rw [one_get _ _ hi]
        rw [one_set _ _ _ hi] at m7
        replace Z := Kept.mk (Z.out.other M.out hmz.symm b7)
        replace M := Kept.mk m7
        replace WAS := Kept.mk (WAS.out.bar b7 hCm)
        replace B := step_bar B b7 HM
        refine hK.out _ _ trivial (fun _ => ?_)
        clear hK K m7 b7
        try simp only [Act.put, List.setIfInBounds_toArray, List.set_cons_zero, List.set_cons_succ]
        refine wpAnyH_take (i := 11) (oi := ?o10) (v := ?v10) ?hi10 (by kernel_rfl) (by kernel_rfl) (by kernel_rfl) ?hq10 (Or.inl ⟨?hw10, ?hy10⟩) (by assumption) ?r10
        case hi10 => (simp only [List.getElem?_toArray, List.getElem?_cons_succ, List.getElem?_cons_zero]; exact rfl)
        case hq10 => exact fun _ _ _ h => h
        case hw10 => rfl
        case hy10 => (intro w hSw; (try dsimp only at hSw); go_simp; try exact rfl)
        simp only [Act.put, List.setIfInBounds_toArray, List.set_cons_zero, List.set_cons_succ]
        refine wpAnyH_take (i := 12) (oi := ?o11) (v := ?v11) ?hi11 (by kernel_rfl) (by kernel_rfl) (by kernel_rfl) ?hq11 (Or.inl ⟨?hw11, ?hy11⟩) (by assumption) ?r11
        case hi11 => (simp only [List.getElem?_toArray, List.getElem?_cons_succ, List.getElem?_cons_zero]; exact rfl)
        case hq11 => exact fun _ _ _ h => h
        case hw11 => rfl
        case hy11 => (intro w hSw; (try dsimp only at hSw); go_simp; try exact rfl)
        simp only [Act.put, List.setIfInBounds_toArray, List.set_cons_zero, List.set_cons_succ]
        refine wpAnyH_take (i := 13) (oi := ?o12) (v := ?v12) ?hi12 (by kernel_rfl) (by kernel_rfl) (by kernel_rfl) ?hq12 (Or.inl ⟨?hw12, ?hy12⟩) (by assumption) ?r12
        case hi12 => (simp only [List.getElem?_toArray, List.getElem?_cons_succ, List.getElem?_cons_zero]; exact rfl)
        case hq12 => exact fun _ _ _ h => h
        case hw12 => rfl
        case hy12 => (intro w hSw; (try dsimp only at hSw); go_simp; try exact rfl)
        simp only [Act.put, List.setIfInBounds_toArray, List.set_cons_zero, List.set_cons_succ]
        refine wpAnyH_take (i := 14) (oi := ?o13) (v := ?v13) ?hi13 (by kernel_rfl) (by kernel_rfl) (by kernel_rfl) ?hq13 (Or.inl ⟨?hw13, ?hy13⟩) (by assumption) ?r13
        case hi13 => (simp only [List.getElem?_toArray, List.getElem?_cons_succ, List.getElem?_cons_zero]; exact rfl)
        case hq13 => exact fun _ _ _ h => h
        case hw13 => rfl
        case hy13 => (intro w hSw; (try dsimp only at hSw); go_simp; try exact rfl)
        simp only [Act.put, List.setIfInBounds_toArray, List.set_cons_zero, List.set_cons_succ]
        refine wpAnyH_take (i := 15) (oi := ?o14) (v := ?v14) ?hi14 (by kernel_rfl) (by kernel_rfl) (by kernel_rfl) ?hq14 (Or.inl ⟨?hw14, ?hy14⟩) (by assumption) ?r14
        case hi14 => (simp only [List.getElem?_toArray, List.getElem?_cons_succ, List.getElem?_cons_zero]; exact rfl)
        case hq14 => exact fun _ _ _ h => h
        case hw14 => rfl
        case hy14 => (intro w hSw; (try dsimp only at hSw); go_simp; try exact rfl)
        simp only [Act.put, List.setIfInBounds_toArray, List.set_cons_zero, List.set_cons_succ]
        have HG := get_any m i _ w7 M.out
        rw [one_get _ _ hi] at HG
        refine wpAnyH_ready (rs := [16]) (by kernel_rfl) (by simp) ?_
        refine AllReadyH.cons (o := ?o31) ?hi31 (fun K hK => ?_) AllReadyH.nil
        case hi31 => (simp only [List.getElem?_toArray, List.getElem?_cons_succ, List.getElem?_cons_zero]; exact rfl)
        go_simp
        go_at_call 12
        refine HG.mono ?_
        rintro e w8 ⟨rfl, rfl⟩
        refine hK.out _ _ trivial (fun _ => ?_)
        clear hK K HG
        try simp only [Act.put, List.setIfInBounds_toArray, List.set_cons_zero, List.set_cons_succ]
        refine wpAnyH_take (i := 17) (oi := ?o15) (v := ?v15) ?hi15 (by kernel_rfl) (by kernel_rfl) (by kernel_rfl) ?hq15 (Or.inl ⟨?hw15, ?hy15⟩) (by assumption) ?r15
        case hi15 => (simp only [List.getElem?_toArray, List.getElem?_cons_succ, List.getElem?_cons_zero]; exact rfl)
        case hq15 => exact fun _ _ _ h => h
        case hw15 => rfl
        case hy15 => (intro w hSw; (try dsimp only at hSw); go_simp; try exact rfl)
        simp only [Act.put, List.setIfInBounds_toArray, List.set_cons_zero, List.set_cons_succ]
        refine wpAnyH_take (i := 18) (oi := ?o16) (v := ?v16) ?hi16 (by kernel_rfl) (by kernel_rfl) (by kernel_rfl) ?hq16 (Or.inl ⟨?hw16, ?hy16⟩) (by assumption) ?r16
        case hi16 => (simp only [List.getElem?_toArray, List.getElem?_cons_succ, List.getElem?_cons_zero]; exact rfl)
        case hq16 => exact fun _ _ _ h => h
        case hw16 => rfl
        case hy16 => (intro w hSw; (try dsimp only at hSw); go_simp; try exact rfl)
        simp only [Act.put, List.setIfInBounds_toArray, List.set_cons_zero, List.set_cons_succ]
        refine wpAnyH_take (i := 19) (oi := ?o17) (v := ?v17) ?hi17 (by kernel_rfl) (by kernel_rfl) (by kernel_rfl) ?hq17 (Or.inl ⟨?hw17, ?hy17⟩) (by assumption) ?r17
        case hi17 => (simp only [List.getElem?_toArray, List.getElem?_cons_succ, List.getElem?_cons_zero]; exact rfl)
        case hq17 => exact fun _ _ _ h => h
        case hw17 => rfl
        case hy17 => (intro w hSw; (try dsimp only at hSw); go_simp; try exact rfl)
        simp only [Act.put, List.setIfInBounds_toArray, List.set_cons_zero, List.set_cons_succ]
        refine wpAnyH_take (i := 20) (oi := ?o18) (v := ?v18) ?hi18 (by kernel_rfl) (by kernel_rfl) (by kernel_rfl) ?hq18 (Or.inl ⟨?hw18, ?hy18⟩) (by assumption) ?r18
        case hi18 => (simp only [List.getElem?_toArray, List.getElem?_cons_succ, List.getElem?_cons_zero]; exact rfl)
        case hq18 => exact fun _ _ _ h => h
        case hw18 => rfl
        case hy18 => (intro w hSw; (try dsimp only at hSw); go_simp; try exact rfl)
        simp only [Act.put, List.setIfInBounds_toArray, List.set_cons_zero, List.set_cons_succ]
        refine wpAnyH_ready (rs := [21, 22]) (by kernel_rfl) (by simp) ?_
        refine AllReadyH.cons (o := ?oX) ?hiX (fun K hK => ?_) (AllReadyH.cons (o := ?oY) ?hiY (fun K hK => ?_) AllReadyH.nil)
        case hiX => (simp only [List.getElem?_toArray, List.getElem?_cons_succ, List.getElem?_cons_zero]; exact rfl)
        case hiY => (simp only [List.getElem?_toArray, List.getElem?_cons_succ, List.getElem?_cons_zero]; exact rfl)
        · go_simp
          go_at_call 14
          refine (all_any z _ w7 Z.out).mono ?_
          rintro e w8 ⟨D, rfl, hd, -, b8⟩
          have RA := Kept.mk hd
          replace B := step_below B b8
          replace WAS := Kept.mk (WAS.out.below b8 WAS.out.lt)
          refine hK.out _ _ trivial (fun _ => ?_)
          clear hK K hd b8
          try simp only [Act.put, List.setIfInBounds_toArray, List.set_cons_zero, List.set_cons_succ]
          obtain ⟨w9, hmk, k9, b9⟩ := make8 w8
          refine wpAnyH_ready (rs := [22]) (by kernel_rfl) (by simp) ?_
          refine AllReadyH.cons (o := ?o32) ?hi32 (fun K hK => ?_) AllReadyH.nil
          case hi32 => (simp only [List.getElem?_toArray, List.getElem?_cons_succ, List.getElem?_cons_zero]; exact rfl)
          go_simp
          replace B := step_below B b9
          replace WAS := Kept.mk (WAS.out.below b9 WAS.out.lt)
          replace RA := Kept.mk (RA.out.below b9 RA.out.lt)
          have RM := Kept.mk k9
          clear hmk k9 b9
          refine hK.out _ _ trivial (fun _ => ?_)
          clear hK K
          try simp only [Act.put, List.setIfInBounds_toArray, List.set_cons_zero, List.set_cons_succ]
          refine wpAnyH_ready (rs := [23]) (by kernel_rfl) (by simp) ?_
          refine AllReadyH.cons (o := ?o33) ?hi33 (fun K hK => ?_) AllReadyH.nil
          case hi33 => (simp only [List.getElem?_toArray, List.getElem?_cons_succ, List.getElem?_cons_zero]; exact rfl)
          go_simp
          go_at_call 13
          refine (ints_any _ _ 8 8 8 8 _ _ _ (ri_zeros RA).out (ri_zeros RM).out (by omega)).mono ?_
          rintro e w10 ⟨rfl, b10⟩
          rw [sameB_self]
          replace B := step_below B b10
          replace WAS := Kept.mk (WAS.out.below b10 WAS.out.lt)
          refine hK.out _ _ trivial (fun _ => ?_)
          clear hK K b10
          try simp only [Act.put, List.setIfInBounds_toArray, List.set_cons_zero, List.set_cons_succ]
          refine wpAnyH_take (i := 24) (oi := ?o19) (v := ?v19) ?hi19 (by kernel_rfl) (by kernel_rfl) (by kernel_rfl) ?hq19 (Or.inl ⟨?hw19, ?hy19⟩) (by assumption) ?r19
          case hi19 => (simp only [List.getElem?_toArray, List.getElem?_cons_succ, List.getElem?_cons_zero]; exact rfl)
          case hq19 => exact fun _ _ _ h => h
          case hw19 => rfl
          case hy19 => (intro w hSw; (try dsimp only at hSw); go_simp; try exact rfl)
          simp only [Act.put, List.setIfInBounds_toArray, List.set_cons_zero, List.set_cons_succ]
          refine wpAnyH_take (i := 25) (oi := ?o20) (v := ?v20) ?hi20 (by kernel_rfl) (by kernel_rfl) (by kernel_rfl) ?hq20 (Or.inl ⟨?hw20, ?hy20⟩) (by assumption) ?r20
          case hi20 => (simp only [List.getElem?_toArray, List.getElem?_cons_succ, List.getElem?_cons_zero]; exact rfl)
          case hq20 => exact fun _ _ _ h => h
          case hw20 => rfl
          case hy20 => (intro w hSw; (try dsimp only at hSw); go_simp; try exact rfl)
          simp only [Act.put, List.setIfInBounds_toArray, List.set_cons_zero, List.set_cons_succ]
          refine wpAnyH_take (i := 26) (oi := ?o21) (v := ?v21) ?hi21 (by kernel_rfl) (by kernel_rfl) (by kernel_rfl) ?hq21 (Or.inl ⟨?hw21, ?hy21⟩) (by assumption) ?r21
          case hi21 => (simp only [List.getElem?_toArray, List.getElem?_cons_succ, List.getElem?_cons_zero]; exact rfl)
          case hq21 => exact fun _ _ _ h => h
          case hw21 => rfl
          case hy21 => (intro w hSw; (try dsimp only at hSw); go_simp; try exact rfl)
          simp only [Act.put, List.setIfInBounds_toArray, List.set_cons_zero, List.set_cons_succ]
          obtain ⟨w11, hmk2, k11, b11⟩ := make8 w10
          refine wpAnyH_ready (rs := [27]) (by kernel_rfl) (by simp) ?_
          refine AllReadyH.cons (o := ?o34) ?hi34 (fun K hK => ?_) AllReadyH.nil
          case hi34 => (simp only [List.getElem?_toArray, List.getElem?_cons_succ, List.getElem?_cons_zero]; exact rfl)
          go_simp
          replace B := step_below B b11
          replace WAS := Kept.mk (WAS.out.below b11 WAS.out.lt)
          replace RM := Kept.mk k11
          refine hK.out _ _ trivial (fun _ => ?_)
          clear hK K hmk2 k11 b11
          try simp only [Act.put, List.setIfInBounds_toArray, List.set_cons_zero, List.set_cons_succ]
          refine wpAnyH_ready (rs := [28]) (by kernel_rfl) (by simp) ?_
          refine AllReadyH.cons (o := ?o35) ?hi35 (fun K hK => ?_) AllReadyH.nil
          case hi35 => (simp only [List.getElem?_toArray, List.getElem?_cons_succ, List.getElem?_cons_zero]; exact rfl)
          go_simp
          go_at_call 13
          refine (ints_any _ _ 8 8 8 8 _ _ _ (ri_zeros WAS).out (ri_zeros RM).out (by omega)).mono ?_
          rintro e w12 ⟨rfl, b12⟩
          rw [sameB_self]
          replace B := step_below B b12
          refine hK.out _ _ trivial (fun _ => ?_)
          clear hK K b12
          try simp only [Act.put, List.setIfInBounds_toArray, List.set_cons_zero, List.set_cons_succ]
          refine wpAnyH_take (i := 29) (oi := ?o22) (v := ?v22) ?hi22 (by kernel_rfl) (by kernel_rfl) (by kernel_rfl) ?hq22 (Or.inl ⟨?hw22, ?hy22⟩) (by assumption) ?r22
          case hi22 => (simp only [List.getElem?_toArray, List.getElem?_cons_succ, List.getElem?_cons_zero]; exact rfl)
          case hq22 => exact fun _ _ _ h => h
          case hw22 => rfl
          case hy22 => (intro w hSw; (try dsimp only at hSw); go_simp; try exact rfl)
          simp only [Act.put, List.setIfInBounds_toArray, List.set_cons_zero, List.set_cons_succ]
          refine wpAnyH_take (i := 30) (oi := ?o23) (v := ?v23) ?hi23 (by kernel_rfl) (by kernel_rfl) (by kernel_rfl) ?hq23 (Or.inl ⟨?hw23, ?hy23⟩) (by assumption) ?r23
          case hi23 => (simp only [List.getElem?_toArray, List.getElem?_cons_succ, List.getElem?_cons_zero]; exact rfl)
          case hq23 => exact fun _ _ _ h => h
          case hw23 => rfl
          case hy23 => (intro w hSw; (try dsimp only at hSw); go_simp; try exact rfl)
          simp only [Act.put, List.setIfInBounds_toArray, List.set_cons_zero, List.set_cons_succ]
          refine wpAnyH_done (by kernel_rfl) ?_ _
          refine NoPanic.normal ?_
          go_wp2
          go_ret
          exact ⟨rfl, B.out⟩
        · obtain ⟨w8, hmk, k8, b8⟩ := make8 w7
          go_simp
          replace B := step_below B b8
          replace WAS := Kept.mk (WAS.out.below b8 WAS.out.lt)
          replace Z := Me.keep Z b8
          have RM := Kept.mk k8
          refine hK.out _ _ trivial (fun _ => ?_)
          clear hK K hmk k8 b8
          try simp only [Act.put, List.setIfInBounds_toArray, List.set_cons_zero, List.set_cons_succ]
          refine wpAnyH_ready (rs := [21]) (by kernel_rfl) (by simp) ?_
          refine AllReadyH.cons (o := ?o36) ?hi36 (fun K hK => ?_) AllReadyH.nil
          case hi36 => (simp only [List.getElem?_toArray, List.getElem?_cons_succ, List.getElem?_cons_zero]; exact rfl)
          go_simp
          go_at_call 14
          refine (all_any z _ w8 Z.out).mono ?_
          rintro e w9 ⟨D, rfl, hd, -, b9⟩
          have RA := Kept.mk hd
          replace B := step_below B b9
          replace WAS := Kept.mk (WAS.out.below b9 WAS.out.lt)
          replace RM := Kept.mk (RM.out.below b9 RM.out.lt)
          clear hd b9
          refine hK.out _ _ trivial (fun _ => ?_)
          clear hK K
          try simp only [Act.put, List.setIfInBounds_toArray, List.set_cons_zero, List.set_cons_succ]
          refine wpAnyH_ready (rs := [23]) (by kernel_rfl) (by simp) ?_
          refine AllReadyH.cons (o := ?o37) ?hi37 (fun K hK => ?_) AllReadyH.nil
          case hi37 => (simp only [List.getElem?_toArray, List.getElem?_cons_succ, List.getElem?_cons_zero]; exact rfl)
          go_simp
          go_at_call 13
          refine (ints_any _ _ 8 8 8 8 _ _ _ (ri_zeros RA).out (ri_zeros RM).out (by omega)).mono ?_
          rintro e w10 ⟨rfl, b10⟩
          rw [sameB_self]
          replace B := step_below B b10
          replace WAS := Kept.mk (WAS.out.below b10 WAS.out.lt)
          refine hK.out _ _ trivial (fun _ => ?_)
          clear hK K b10
          try simp only [Act.put, List.setIfInBounds_toArray, List.set_cons_zero, List.set_cons_succ]
          refine wpAnyH_take (i := 24) (oi := ?o24) (v := ?v24) ?hi24 (by kernel_rfl) (by kernel_rfl) (by kernel_rfl) ?hq24 (Or.inl ⟨?hw24, ?hy24⟩) (by assumption) ?r24
          case hi24 => (simp only [List.getElem?_toArray, List.getElem?_cons_succ, List.getElem?_cons_zero]; exact rfl)
          case hq24 => exact fun _ _ _ h => h
          case hw24 => rfl
          case hy24 => (intro w hSw; (try dsimp only at hSw); go_simp; try exact rfl)
          simp only [Act.put, List.setIfInBounds_toArray, List.set_cons_zero, List.set_cons_succ]
          refine wpAnyH_take (i := 25) (oi := ?o25) (v := ?v25) ?hi25 (by kernel_rfl) (by kernel_rfl) (by kernel_rfl) ?hq25 (Or.inl ⟨?hw25, ?hy25⟩) (by assumption) ?r25
          case hi25 => (simp only [List.getElem?_toArray, List.getElem?_cons_succ, List.getElem?_cons_zero]; exact rfl)
          case hq25 => exact fun _ _ _ h => h
          case hw25 => rfl
          case hy25 => (intro w hSw; (try dsimp only at hSw); go_simp; try exact rfl)
          simp only [Act.put, List.setIfInBounds_toArray, List.set_cons_zero, List.set_cons_succ]
          refine wpAnyH_take (i := 26) (oi := ?o26) (v := ?v26) ?hi26 (by kernel_rfl) (by kernel_rfl) (by kernel_rfl) ?hq26 (Or.inl ⟨?hw26, ?hy26⟩) (by assumption) ?r26
          case hi26 => (simp only [List.getElem?_toArray, List.getElem?_cons_succ, List.getElem?_cons_zero]; exact rfl)
          case hq26 => exact fun _ _ _ h => h
          case hw26 => rfl
          case hy26 => (intro w hSw; (try dsimp only at hSw); go_simp; try exact rfl)
          simp only [Act.put, List.setIfInBounds_toArray, List.set_cons_zero, List.set_cons_succ]
          obtain ⟨w11, hmk2, k11, b11⟩ := make8 w10
          refine wpAnyH_ready (rs := [27]) (by kernel_rfl) (by simp) ?_
          refine AllReadyH.cons (o := ?o38) ?hi38 (fun K hK => ?_) AllReadyH.nil
          case hi38 => (simp only [List.getElem?_toArray, List.getElem?_cons_succ, List.getElem?_cons_zero]; exact rfl)
          go_simp
          replace B := step_below B b11
          replace WAS := Kept.mk (WAS.out.below b11 WAS.out.lt)
          replace RM := Kept.mk k11
          refine hK.out _ _ trivial (fun _ => ?_)
          clear hK K hmk2 k11 b11
          try simp only [Act.put, List.setIfInBounds_toArray, List.set_cons_zero, List.set_cons_succ]
          refine wpAnyH_ready (rs := [28]) (by kernel_rfl) (by simp) ?_
          refine AllReadyH.cons (o := ?o39) ?hi39 (fun K hK => ?_) AllReadyH.nil
          case hi39 => (simp only [List.getElem?_toArray, List.getElem?_cons_succ, List.getElem?_cons_zero]; exact rfl)
          go_simp
          go_at_call 13
          refine (ints_any _ _ 8 8 8 8 _ _ _ (ri_zeros WAS).out (ri_zeros RM).out (by omega)).mono ?_
          rintro e w12 ⟨rfl, b12⟩
          rw [sameB_self]
          replace B := step_below B b12
          refine hK.out _ _ trivial (fun _ => ?_)
          clear hK K b12
          try simp only [Act.put, List.setIfInBounds_toArray, List.set_cons_zero, List.set_cons_succ]
          refine wpAnyH_take (i := 29) (oi := ?o27) (v := ?v27) ?hi27 (by kernel_rfl) (by kernel_rfl) (by kernel_rfl) ?hq27 (Or.inl ⟨?hw27, ?hy27⟩) (by assumption) ?r27
          case hi27 => (simp only [List.getElem?_toArray, List.getElem?_cons_succ, List.getElem?_cons_zero]; exact rfl)
          case hq27 => exact fun _ _ _ h => h
          case hw27 => rfl
          case hy27 => (intro w hSw; (try dsimp only at hSw); go_simp; try exact rfl)
          simp only [Act.put, List.setIfInBounds_toArray, List.set_cons_zero, List.set_cons_succ]
          refine wpAnyH_take (i := 30) (oi := ?o28) (v := ?v28) ?hi28 (by kernel_rfl) (by kernel_rfl) (by kernel_rfl) ?hq28 (Or.inl ⟨?hw28, ?hy28⟩) (by assumption) ?r28
          case hi28 => (simp only [List.getElem?_toArray, List.getElem?_cons_succ, List.getElem?_cons_zero]; exact rfl)
          case hq28 => exact fun _ _ _ h => h
          case hw28 => rfl
          case hy28 => (intro w hSw; (try dsimp only at hSw); go_simp; try exact rfl)
          simp only [Act.put, List.setIfInBounds_toArray, List.set_cons_zero, List.set_cons_succ]
          refine wpAnyH_done (by kernel_rfl) ?_ _
          refine NoPanic.normal ?_
          go_wp2
          go_ret
          exact ⟨rfl, B.out⟩
  · by_cases hn2 : n ≤ 100
    · have hn' : (n : Int) ≤ 100 := by omega
      by_cases hq : q < 0
      · go_wp2_with fail
        refine (first_any w3).mono ?_
        rintro e w4 ⟨rfl, b4⟩
        replace B := step_below B b4
        go_wp2
        go_ret
        exact ⟨rfl, B.out⟩
      · have hq7 : 7 < q := by omega
        go_wp2_with fail
        refine (first_any w3).mono ?_
        rintro e w4 ⟨rfl, b4⟩
        replace B := step_below B b4
        go_wp2
        go_ret
        exact ⟨rfl, B.out⟩
    · have hn' : ¬ (n : Int) ≤ 100 := by omega
      go_wp2_with fail
      refine (first_any w3).mono ?_
      rintro e w4 ⟨rfl, b4⟩
      replace B := step_below B b4
      go_wp2
      go_ret
      exact ⟨rfl, B.out⟩
end Go.Proofs.Ytkgbinngohiffaa.Meter
