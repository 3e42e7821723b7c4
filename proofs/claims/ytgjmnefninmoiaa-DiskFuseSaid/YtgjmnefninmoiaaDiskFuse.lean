/-
  The law DiskFuse, walked.
-/
import Derived.Test.YtgjmnefninmoiaaDiskTwice
namespace Go.Proofs.Ytgjmnefninmoiaa.Disk
open Go.RowKit Go.Proofs.Ytgjmnefninmoiaa.Sha

/-- behind i steps of a fuse of f -/
def Lit (f i : Nat) (s : DS) : Prop := s.down = decide (f < i) ∧ (i ≤ f → s.fuse = (f : Int) - i)
theorem burn_live {f i : Nat} {s : DS} (h : Lit f i s) (hi : i < f) : (burnD s).1 = false ∧ Lit f (i + 1) (burnD s).2 := by
  have h2 := h.2 (by omega)
  have e : burnD s = (false, { s with fuse := s.fuse - 1 }) := by unfold burnD; rw [if_neg (by omega), if_pos (by omega)]
  rw [e]
  refine ⟨rfl, ?_, fun _ => by simp only; omega⟩
  simp only
  rw [h.1, decide_eq_false (by omega), decide_eq_false (by omega)]
theorem burn_gone {f : Nat} {s : DS} (h : Lit f f s) : (burnD s).1 = true ∧ (burnD s).2.down = true := by
  have h2 := h.2 (Nat.le_refl _)
  have e : burnD s = (true, { s with down := true }) := by unfold burnD; rw [if_pos (by omega)]
  rw [e]
  exact ⟨rfl, rfl⟩
theorem lit_down {f i : Nat} {s : DS} (h : f < i) (hd : s.down = true) : Lit f i s := ⟨by rw [hd, decide_eq_true h], fun hc => by omega⟩
theorem write_live {f i n : Nat} {s : DS} {j : Int} {xs : List Int} (h : Lit f i s) (hi : i < f) (hw : WF n s) (h0 : 0 ≤ j) (hj : j < n) (hx : xs.length = 64) : (writeD s j xs).1 = 0 ∧ Lit f (i + 1) (writeD s j xs).2 := by
  have hd : ¬ s.down = true := by rw [h.1, decide_eq_false (by omega)]; decide
  obtain ⟨b1, b2⟩ := burn_live h hi
  unfold writeD
  rw [if_neg hd, if_neg (by unfold noSector; have := hw.now; omega), if_neg (by simp [hx]), if_neg (by rw [b1]; decide)]
  exact ⟨rfl, b2⟩
theorem write_gone {f i n : Nat} {s : DS} {j : Int} {xs : List Int} (h : Lit f i s) (hi : f ≤ i) (hw : WF n s) (h0 : 0 ≤ j) (hj : j < n) (hx : xs.length = 64) : (writeD s j xs).1 = 13 ∧ Lit f (i + 1) (writeD s j xs).2 := by
  unfold writeD
  by_cases hfi : f < i
  · have hd : s.down = true := by rw [h.1, decide_eq_true hfi]
    rw [if_pos hd]
    exact ⟨rfl, lit_down (by omega) hd⟩
  · obtain rfl : i = f := by omega
    have hd : ¬ s.down = true := by rw [h.1, decide_eq_false (by omega)]; decide
    obtain ⟨b1, b2⟩ := burn_gone h
    rw [if_neg hd, if_neg (by unfold noSector; have := hw.now; omega), if_neg (by simp [hx]), if_pos b1]
    exact ⟨rfl, lit_down (by omega) b2⟩
theorem sync_live {f i : Nat} {s : DS} (h : Lit f i s) (hi : i < f) : (syncD s).1 = 0 ∧ Lit f (i + 1) (syncD s).2 := by
  have hd : ¬ s.down = true := by rw [h.1, decide_eq_false (by omega)]; decide
  obtain ⟨b1, b2⟩ := burn_live h hi
  unfold syncD
  rw [if_neg hd, if_neg (by rw [b1]; decide)]
  exact ⟨rfl, b2⟩
theorem sync_gone {f i : Nat} {s : DS} (h : Lit f i s) (hi : f ≤ i) : (syncD s).1 = 13 ∧ Lit f (i + 1) (syncD s).2 := by
  unfold syncD
  by_cases hfi : f < i
  · have hd : s.down = true := by rw [h.1, decide_eq_true hfi]
    rw [if_pos hd]
    exact ⟨rfl, lit_down (by omega) hd⟩
  · obtain rfl : i = f := by omega
    have hd : ¬ s.down = true := by rw [h.1, decide_eq_false (by omega)]; decide
    obtain ⟨b1, b2⟩ := burn_gone h
    rw [if_neg hd, if_pos b1]
    exact ⟨rfl, lit_down (by omega) b2⟩
theorem and3 : ∀ k : Fin 128, bits .and .i64 ((k.val : Nat) : Int) 3 = ((k.val % 4 : Nat) : Int) := by decide +kernel
section
variable {Dk : World → List Nat → Nat → Nat → DS → Prop}
set_option maxRecDepth 100000 in
set_option maxHeartbeats 1000000 in
theorem fuse_walk (api : DiskApi Dk) (q m : Int) (w : World) : Calls Try.prog 5 #[.int .i64 q, .int .i64 m] w (Holds w) := by
  go_enter Try.func5, Try.ntmps5
  go_wp2_with fail
  refine (first_any api w).mono ?_
  rintro e w1 ⟨rfl, b1⟩
  have B := Kept.mk b1
  clear b1
  go_wp2_with fail
  refine (api.new w1 4 (by omega) (by omega)).mono ?_
  rintro e w2 ⟨d, F, rfl, dk, fp⟩
  have D := Kept.mk dk
  obtain ⟨B, L⟩ := step_fp B fp (none_least _)
  clear dk fp
  by_cases hall : 0 ≤ q ∧ q ≤ 100 ∧ 0 ≤ m ∧ m ≤ 100
  · obtain ⟨hq0, hq1, hm0, hm1⟩ := hall
    obtain ⟨f, rfl⟩ : ∃ f : Nat, q = f := ⟨q.toNat, by omega⟩
    obtain ⟨n, rfl⟩ : ∃ n : Nat, m = n := ⟨m.toNat, by omega⟩
    go_wp2_with fail
    refine (api.fuse f D.out (by omega)).mono ?_
    rintro e w3 ⟨rfl, F3, dk, fp⟩
    have LT : Kept (Lit f 0 (fuseD (newD 4) f)) := ⟨by simp [fuseD, newD], fun _ => by simp only [fuseD]; rw [if_neg (by omega)]; simp⟩
    replace D := Kept.mk dk
    obtain ⟨B, L⟩ := step_fp B fp L
    clear dk fp
    go_wp2
    go_loopw [7, 8] (fun t j wr => ∃ (k : Nat) (F : List Nat) (s : DS), k ≤ n ∧ t = .int .i64 (min k f : Nat) ∧ j = .int .i64 k ∧ Kept (Dk wr F d 4 s) ∧ Kept (Lit f k s) ∧ Kept (Below w.heap.size w wr) ∧ Kept (∀ g ∈ F, w.heap.size ≤ g)) (fun _ j _ => n - (intOf j).toNat)
    case atStart => exact ⟨0, F3, _, by omega, by rw [Nat.zero_min]; rfl, rfl, D, LT, B, L⟩
    case round =>
      clear D LT B L
      obtain ⟨k, F, s, hk, rfl, rfl, D, LT, B, L⟩ := hrel
      have hWF := api.wf D.out
      by_cases hkn : k < n
      · have hkn' : (k : Int) < n := by omega
        have h30 : Int.tmod (k : Int) 3 = ((k % 3 : Nat) : Int) := by rw [Int.tmod_eq_emod_of_nonneg (by omega)]; omega
        by_cases hkf : k < f
        · have e1 : min k f = k := by omega
          have hkf' : ((min k f : Nat) : Int) < f := by omega
          rw [e1] at hkf' ⊢
          by_cases h3 : k % 3 = 2
          · have h3' : Int.tmod (k : Int) 3 = 2 := by rw [h30, h3]; rfl
            obtain ⟨s1, s2⟩ := sync_live LT.out hkf
            have S2 := Kept.mk s2
            clear h30 hWF e1 s2
            go_wp2_with fail
            refine (api.sync D.out).mono ?_
            rintro e w4 ⟨rfl, F4, dk, fp⟩
            rw [s1]
            replace D := Kept.mk dk
            obtain ⟨B, L⟩ := step_fp B fp L
            clear dk fp s1
            go_wp2
            go_roundw
            case rel => exact ⟨k + 1, F4, _, by omega, by rw [Nat.min_eq_left (by omega)]; go_num, by go_num, D, S2, B, L⟩
            case measure => simp [intOf]; omega
          · have h3' : ¬ Int.tmod (k : Int) 3 = 2 := by rw [h30]; omega
            have ha := and3 ⟨k, by omega⟩
            simp only at ha
            obtain ⟨s1, s2⟩ := write_live (j := (k : Int) % 4) (xs := zeros64) LT.out hkf hWF (by omega) (by omega) sec_zeros.1
            have S2 := Kept.mk s2
            obtain ⟨w4, hmk, r4, -, b4⟩ := mk64 wr
            have O4 := Kept.mk (new_off (n := 64) (o := 0) (api.lts D.out))
            replace D := api.below D b4
            replace B := step_below B b4
            have R4 := Kept.mk r4
            clear h30 hWF e1 s2 r4 b4
            go_wp2_with fail
            refine (api.write _ D.out R4.out O4.out (by omega) (by omega)).mono ?_
            rintro e w5 ⟨rfl, F4, dk, fp⟩
            rw [s1]
            replace D := Kept.mk dk
            obtain ⟨B, L⟩ := step_fp B fp L
            clear dk fp s1 hmk ha
            go_wp2
            go_roundw
            case rel => exact ⟨k + 1, F4, _, by omega, by rw [Nat.min_eq_left (by omega)]; go_num, by go_num, D, S2, B, L⟩
            case measure => simp [intOf]; omega
        · have e1 : min k f = f := by omega
          rw [e1]
          by_cases h3 : k % 3 = 2
          · have h3' : Int.tmod (k : Int) 3 = 2 := by rw [h30, h3]; rfl
            obtain ⟨s1, s2⟩ := sync_gone LT.out (by omega)
            have S2 := Kept.mk s2
            clear h30 hWF e1 s2
            go_wp2_with fail
            refine (api.sync D.out).mono ?_
            rintro e w4 ⟨rfl, F4, dk, fp⟩
            rw [s1]
            replace D := Kept.mk dk
            obtain ⟨B, L⟩ := step_fp B fp L
            clear dk fp s1
            go_wp2
            go_roundw
            case rel => exact ⟨k + 1, F4, _, by omega, by rw [Nat.min_eq_right (by omega)], by go_num, D, S2, B, L⟩
            case measure => simp [intOf]; omega
          · have h3' : ¬ Int.tmod (k : Int) 3 = 2 := by rw [h30]; omega
            have ha := and3 ⟨k, by omega⟩
            simp only at ha
            obtain ⟨s1, s2⟩ := write_gone (j := (k : Int) % 4) (xs := zeros64) LT.out (by omega) hWF (by omega) (by omega) sec_zeros.1
            have S2 := Kept.mk s2
            obtain ⟨w4, hmk, r4, -, b4⟩ := mk64 wr
            have O4 := Kept.mk (new_off (n := 64) (o := 0) (api.lts D.out))
            replace D := api.below D b4
            replace B := step_below B b4
            have R4 := Kept.mk r4
            clear h30 hWF e1 s2 r4 b4
            go_wp2_with fail
            refine (api.write _ D.out R4.out O4.out (by omega) (by omega)).mono ?_
            rintro e w5 ⟨rfl, F4, dk, fp⟩
            rw [s1]
            replace D := Kept.mk dk
            obtain ⟨B, L⟩ := step_fp B fp L
            clear dk fp s1 hmk ha
            go_wp2
            go_roundw
            case rel => exact ⟨k + 1, F4, _, by omega, by rw [Nat.min_eq_right (by omega)], by go_num, D, S2, B, L⟩
            case measure => simp [intOf]; omega
      · have hkn' : ¬ (k : Int) < n := by omega
        obtain rfl : k = n := by omega
        by_cases hfn : f < k
        · have hfn' : (f : Int) < k := by omega
          have hd : s.down = true := by rw [LT.out.1, decide_eq_true hfn]
          have hr := api.read 0 D.out
          rw [show readD s 0 = (13, []) by unfold readD; rw [if_pos hd]] at hr
          go_wp2_with fail
          refine hr.mono ?_
          rintro e w3 ⟨A3, c3, F, rfl, -, -, -, -, dk, fp⟩
          replace D := Kept.mk dk
          obtain ⟨B, L⟩ := step_fp B fp L
          clear dk fp hr
          go_wp2_with fail
          have hdn := api.down D.out
          rw [hd] at hdn
          refine hdn.mono ?_
          rintro e w4 ⟨rfl, b4⟩
          replace D := api.below D b4
          replace B := step_below B b4
          clear b4 hdn
          go_wp2_with fail
          refine (api.crash (A := none) (m := 0) (c := 0) (bs := []) D.out Rb.nil_ (.inl rfl) (Nat.le_refl _) (by omega)).mono ?_
          rintro e w5 ⟨rfl, F, dk, fp⟩
          replace D := Kept.mk dk
          obtain ⟨B, L⟩ := step_fp B fp L
          clear dk fp
          obtain ⟨t, ht⟩ : ∃ t, crashD s [] = t := ⟨_, rfl⟩
          have t1 : t.down = false := by rw [← ht]; rfl
          have t2 : t.fuse = -1 := by rw [← ht]; rfl
          have t3 : t.pend.length = 0 := by rw [← ht]; rfl
          rw [ht] at D
          have t4 := (api.wf D.out).now
          clear ht
          have hr := api.read 0 D.out
          rw [show (0 : Int) = ((0 : Nat) : Int) from rfl, read_ok t1 (by omega)] at hr
          go_wp2_with fail
          refine hr.mono ?_
          rintro e w6 ⟨A6, c6, F, rfl, -, -, -, -, dk, fp⟩
          replace D := Kept.mk dk
          obtain ⟨B, L⟩ := step_fp B fp L
          clear dk fp hr
          go_wp2_with fail
          refine (first_any api w6).mono ?_
          rintro e w7 ⟨rfl, b7⟩
          replace D := api.below D b7
          replace B := step_below B b7
          clear b7
          have hdn := api.down D.out
          rw [t1] at hdn
          go_wp2_with fail
          refine hdn.mono ?_
          rintro e w8 ⟨rfl, b8⟩
          replace D := api.below D b8
          replace B := step_below B b8
          clear b8 hdn
          have hpn := api.pending D.out
          rw [t3] at hpn
          go_wp2_with fail
          refine hpn.mono ?_
          rintro e w9 ⟨rfl, b9⟩
          replace D := api.below D b9
          replace B := step_below B b9
          clear b9 hpn
          obtain ⟨w10, hmk, r10, -, b10⟩ := mk64 w9
          have O10 := Kept.mk (new_off (n := 64) (o := 0) (api.lts D.out))
          replace D := api.below D b10
          replace B := step_below B b10
          have hw := api.write (c := 64) 0 D.out r10 O10.out (by omega) (by omega)
          rw [show (0 : Int) = ((0 : Nat) : Int) from rfl, write_ok t1 t2 (by omega) sec_zeros.1] at hw
          have HW := Kept.mk hw
          clear r10 b10 hw
          go_wp2_with fail
          refine HW.out.mono ?_
          rintro e w11 ⟨rfl, F, dk, fp⟩
          obtain ⟨B, L⟩ := step_fp B fp L
          clear dk fp HW hmk
          go_wp2
          go_ret
          exact ⟨rfl, B.out⟩
        · have hfn' : ¬ (f : Int) < k := by omega
          have hd : s.down = false := by rw [LT.out.1, decide_eq_false hfn]
          have hr := api.read 0 D.out
          have t0 := hWF.now
          rw [show (0 : Int) = ((0 : Nat) : Int) from rfl, read_ok hd (by omega)] at hr
          go_wp2_with fail
          refine hr.mono ?_
          rintro e w3 ⟨A3, c3, F, rfl, -, -, -, -, dk, fp⟩
          replace D := Kept.mk dk
          obtain ⟨B, L⟩ := step_fp B fp L
          clear dk fp hr
          go_wp2_with fail
          have hdn := api.down D.out
          rw [hd] at hdn
          refine hdn.mono ?_
          rintro e w4 ⟨rfl, b4⟩
          replace D := api.below D b4
          replace B := step_below B b4
          clear b4 hdn
          go_wp2_with fail
          refine (api.crash (A := none) (m := 0) (c := 0) (bs := []) D.out Rb.nil_ (.inl rfl) (Nat.le_refl _) (by omega)).mono ?_
          rintro e w5 ⟨rfl, F, dk, fp⟩
          replace D := Kept.mk dk
          obtain ⟨B, L⟩ := step_fp B fp L
          clear dk fp
          obtain ⟨t, ht⟩ : ∃ t, crashD s [] = t := ⟨_, rfl⟩
          have t1 : t.down = false := by rw [← ht]; rfl
          have t2 : t.fuse = -1 := by rw [← ht]; rfl
          have t3 : t.pend.length = 0 := by rw [← ht]; rfl
          rw [ht] at D
          have t4 := (api.wf D.out).now
          clear ht
          have hr := api.read 0 D.out
          rw [show (0 : Int) = ((0 : Nat) : Int) from rfl, read_ok t1 (by omega)] at hr
          go_wp2_with fail
          refine hr.mono ?_
          rintro e w6 ⟨A6, c6, F, rfl, -, -, -, -, dk, fp⟩
          replace D := Kept.mk dk
          obtain ⟨B, L⟩ := step_fp B fp L
          clear dk fp hr
          go_wp2_with fail
          refine (first_any api w6).mono ?_
          rintro e w7 ⟨rfl, b7⟩
          replace D := api.below D b7
          replace B := step_below B b7
          clear b7
          have hdn := api.down D.out
          rw [t1] at hdn
          go_wp2_with fail
          refine hdn.mono ?_
          rintro e w8 ⟨rfl, b8⟩
          replace D := api.below D b8
          replace B := step_below B b8
          clear b8 hdn
          have hpn := api.pending D.out
          rw [t3] at hpn
          go_wp2_with fail
          refine hpn.mono ?_
          rintro e w9 ⟨rfl, b9⟩
          replace D := api.below D b9
          replace B := step_below B b9
          clear b9 hpn
          obtain ⟨w10, hmk, r10, -, b10⟩ := mk64 w9
          have O10 := Kept.mk (new_off (n := 64) (o := 0) (api.lts D.out))
          replace D := api.below D b10
          replace B := step_below B b10
          have hw := api.write (c := 64) 0 D.out r10 O10.out (by omega) (by omega)
          rw [show (0 : Int) = ((0 : Nat) : Int) from rfl, write_ok t1 t2 (by omega) sec_zeros.1] at hw
          have HW := Kept.mk hw
          clear r10 b10 hw
          go_wp2_with fail
          refine HW.out.mono ?_
          rintro e w11 ⟨rfl, F, dk, fp⟩
          obtain ⟨B, L⟩ := step_fp B fp L
          clear dk fp HW hmk
          go_wp2
          go_ret
          exact ⟨rfl, B.out⟩
  · by_cases h1 : q < 0
    · go_wp2_with fail
      refine (first_any api w2).mono ?_
      rintro e w3 ⟨rfl, b3⟩
      replace B := step_below B b3
      go_wp2
      go_ret
      exact ⟨rfl, B.out⟩
    · by_cases h2 : 100 < q
      · go_wp2_with fail
        refine (first_any api w2).mono ?_
        rintro e w3 ⟨rfl, b3⟩
        replace B := step_below B b3
        go_wp2
        go_ret
        exact ⟨rfl, B.out⟩
      · have h2' : ¬ 100 < q := h2
        by_cases h3 : m < 0
        · go_wp2_with fail
          refine (first_any api w2).mono ?_
          rintro e w3 ⟨rfl, b3⟩
          replace B := step_below B b3
          go_wp2
          go_ret
          exact ⟨rfl, B.out⟩
        · have h4 : 100 < m := by omega
          clear hall
          go_wp2_with fail
          refine (first_any api w2).mono ?_
          rintro e w3 ⟨rfl, b3⟩
          replace B := step_below B b3
          go_wp2
          go_ret
          exact ⟨rfl, B.out⟩
end
end Go.Proofs.Ytgjmnefninmoiaa.Disk
