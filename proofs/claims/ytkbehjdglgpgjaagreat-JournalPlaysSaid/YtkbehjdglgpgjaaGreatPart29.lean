/-
  Parts laid together: JournalRCom.
-/
import Derived.Test.YtkbehjdglgpgjaaGreatPart28
import Derived.Test.YtkbehjdglgpgjaaGreatPart17

namespace Go.Proofs.YtkbehjdglgpgjaaGreat.Journal
open Go.RowKit Go.Proofs.YtkbehjdglgpgjaaGreat.Sha Go.Proofs.YtkbehjdglgpgjaaGreat.Disk Go.Proofs.YtkbehjdglgpgjaaGreat.Frame

set_option maxRecDepth 100000 in
set_option maxHeartbeats 1000000 in
theorem rcompact_down {w : World} {H : List Nat} {x y n : Nat} {s : DS} {v : JV} {A : Option Addr} {l c : Nat} {b : List Int} (sy : Ry w H x y n s v) (hd : v.dead = true ∨ s.down = true) :
    Calls Tryz.prog 14 #[.pointer (some ⟨x, 0, none⟩), .slice A l c] w (RActPost w H x y n (compactJ s v b)) := by
  have e : compactJ s v b = (13, s, deadJ v) := by unfold compactJ; rw [if_pos hd]
  rw [e]
  have PG := Kept.mk sy.die
  obtain ⟨x0, x8, z8, y4⟩ := sy.down
  clear sy e
  obtain ⟨vd, hvd⟩ : ∃ q, v.dead = q := ⟨_, rfl⟩
  rw [hvd] at x8 hd
  cases vd with
  | true =>
    clear hd
    go_enter Tryz.func14, Tryz.ntmps14
    go_wp2
    go_ret
    exact PG.out
  | false =>
    have hd' : s.down = true := by simpa using hd
    rw [hd'] at y4
    clear hd hd'
    go_enter Tryz.func14, Tryz.ntmps14
    go_wp2
    go_ret
    exact PG.out
theorem ry_pict {w0 w : World} {H F K : List Nat} {x y n : Nat} {s : DS} {v : JV} {A A2 : Option Addr} {m c l c2 : Nat} {vr : Value} {b : List Int} (h1 : Dr w F y n s) (k1 : Blk w x 88 (rjc y v A m c vr)) (k2 : l ≤ c2) (k3 : c2 ≤ 9223372036854775807) (k4 : Rd w A2 l b) (k5 : In A2 l K)
  (k7 : ∀ k ∈ K, k < w.heap.size) (k8 : x ∉ K) (h3 : x ∉ F) (h4 : Disj F K) (fp : Fp H (F ++ x :: K) w0 w) (hxH : x ∈ H) (half' pos' : Nat) (gen' : Int) (k9 : VOk ⟨half', gen', true, b, [], pos', 1, v.dead⟩) :
  RActPost w0 H x y n (0, s, ⟨half', gen', true, b, [], pos', 1, v.dead⟩) (.returned (.int .i64 0))
   (((((((w.setCell ⟨x, 1, none⟩ (.int .i64 (half' : Nat))).setCell ⟨x, 2, none⟩ (.int .i64 gen')).setCell ⟨x, 3, none⟩ (.bool true)).setCell ⟨x, 4, none⟩ (.slice A2 l c2)).setCell ⟨x, 5, none⟩ (.slice none 0 0)).setCell ⟨x, 6, none⟩ (.int .i64 (pos' : Nat))).setCell ⟨x, 7, none⟩ (.int .i64 1)) := by
 have hb : Bar [x] w (((((((w.setCell ⟨x, 1, none⟩ (.int .i64 (half' : Nat))).setCell ⟨x, 2, none⟩ (.int .i64 gen')).setCell ⟨x, 3, none⟩ (.bool true)).setCell ⟨x, 4, none⟩ (.slice A2 l c2)).setCell ⟨x, 5, none⟩ (.slice none 0 0)).setCell ⟨x, 6, none⟩ (.int .i64 (pos' : Nat))).setCell ⟨x, 7, none⟩ (.int .i64 1)) :=
  (((((((Bar.refl [x] w).setCell (by simp) _).setCell (by simp) _).setCell (by simp) _).setCell (by simp) _).setCell (by simp) _).setCell (by simp) _).setCell (by simp) _
 have hj := ((((((k1.set_ 1 (.int .i64 (half' : Nat))).set_ 2 (.int .i64 gen')).set_ 3 (.bool true)).set_ 4 (.slice A2 l c2)).set_ 5 (.slice none 0 0)).set_ 6 (.int .i64 (pos' : Nat))).set_ 7 (.int .i64 1)
 have e : (((((((rjc y v A m c vr).setIfInBounds 1 (.int .i64 (half' : Nat))).setIfInBounds 2 (.int .i64 gen')).setIfInBounds 3 (.bool true)).setIfInBounds 4 (.slice A2 l c2)).setIfInBounds 5 (.slice none 0 0)).setIfInBounds 6 (.int .i64 (pos' : Nat))).setIfInBounds 7 (.int .i64 1) = rjc y ⟨half', gen', true, b, [], pos', 1, v.dead⟩ A2 l c2 (.slice none 0 0) := by unfold rjc; rfl
 rw [e] at hj
 exact ry_mk (v := ⟨half', gen', true, b, [], pos', 1, v.dead⟩) (h1.keep hb (setx_far h3)) hj k2 k3 (k4.far hb (k5.off (setx_far k8))) k5 (k5.off (fun _ _ h => by simp [Value.ownBlock] at h)) (Og.nil _ _ _) (fun k hk => Nat.lt_of_lt_of_le (k7 k hk) hb.size) k8 h3 h4 k9
  ⟨fp.1.trans hb (fun k hk => by rw [List.mem_singleton] at hk; subst hk; exact .inl hxH), fp.2⟩
set_option maxRecDepth 100000 in
set_option maxHeartbeats 4000000 in
theorem rcompact_any {w : World} {H : List Nat} {x y n : Nat} {s : DS} {v : JV} {A : Option Addr} {l c : Nat} {b : List Int} (sy : Ry w H x y n s v) (hr : Rd w A l b) (hO : Off A l H) (hl9 : l ≤ 100000) :
  Calls Tryz.prog 14 #[.pointer (some ⟨x, 0, none⟩), .slice A l c] w (RActPost w H x y n (compactJ s v b)) := by
 by_cases hd : v.dead = true ∨ s.down = true
 ·exact rcompact_down sy hd
 have hdf : v.dead = false := by simpa using fun h => hd (.inl h)
 have hdn : s.down = false := by simpa using fun h => hd (.inr h)
 have AJ : Kept (compactJ s v b = if 60000 < l then (3, s, v) else if (putF (pictF v b)).1 ≠ 0 ∨ hn s < (putF (pictF v b)).2.length / 64 then (12, s, v) else if (layJ s ((1 - v.half) * hn s) (putF (pictF v b)).2).1 = 0 then (0, (layJ s ((1 - v.half) * hn s) (putF (pictF v b)).2).2, ⟨1 - v.half, v.gen + 1, true, b, [], (putF (pictF v b)).2.length / 64, 1, v.dead⟩) else ((layJ s ((1 - v.half) * hn s) (putF (pictF v b)).2).1, (layJ s ((1 - v.half) * hn s) (putF (pictF v b)).2).2, deadJ v)) := ⟨by
  unfold compactJ; rw [if_neg hd, hr.1]⟩
 obtain ⟨x0, x8, z8, y4⟩ := sy.down
 rw [hdf] at x8
 rw [hdn] at y4
 have hwf : WF n s := by obtain ⟨F, G, h1, -⟩ := sy; exact h1.1
 have hhn := wf_hn hwf
 have hn8 := hwf.n2
 obtain ⟨F, KJ, A0, m0, c0, vr, h1, k1, k2, k3, k4, k5, k5', k6, k7, k8, h3, h4, rfl, k9⟩ := sy.parts
 have x2 : w.cell? ⟨x, 2, none⟩ = some (.int .i64 v.gen) := k1.cell 2
 have xlt := k1.lt
 have hgb := k9.gen
 have hhf := k9.half
 have PT : Kept (Pt w F KJ x y n s v A0 m0 c0 vr) := ⟨h1, k1, k4, k6, k7⟩
 have PK : Kept (m0 ≤ c0 ∧ c0 ≤ 9223372036854775807 ∧ In A0 m0 KJ ∧ Off A0 m0 vr.ownBlock.toList ∧ x ∉ KJ ∧ x ∉ F ∧ Disj F KJ ∧ VOk v) := ⟨k2, k3, k5, k5', k8, h3, h4, k9⟩
 have SY := Kept.mk sy
 have CP := Kept.mk (rput_new (pictF v b) A l c w (show Rd w A l (pictF v b).body from hr))
 have HR := Kept.mk hr
 have HO := Kept.mk hO
 clear sy hr hO h1 k1 k2 k3 k4 k5 k5' k6 k7 k8 h3 h4 k9 hwf hd
 by_cases hb6 : 60000 < l
 ·have hb6' : (60000 : Int) < (l : Int) := by omega
  have PG := Kept.mk (show RActPost w (F ++ x :: KJ) x y n (compactJ s v b) (.returned (.int .i64 3)) w from by
   rw [AJ.out, if_pos hb6]; exact SY.out.ract (Below.refl _ _))
  clear SY AJ PT PK HR HO CP hb6
  go_enter Tryz.func14, Tryz.ntmps14
  go_wp2
  go_ret
  exact PG.out
 have hb6' : ¬ (60000 : Int) < (l : Int) := by omega
 have hW1 : wrap64 (v.gen + 1) = v.gen + 1 := wrap_in _ ⟨by omega, by omega⟩
 go_enter Tryz.func14, Tryz.ntmps14
 go_wp2_with fail
 refine CP.out.mono ?_
 rintro e w1 ⟨A1, n1, c1, rfl, hn1, hc1, r1, bel, off1⟩
 clear x0 x8 z8 y4 x2 hW1
 have B1 := Kept.mk bel
 have R1 := Kept.mk r1
 have OF1 : Kept (Off A1 n1 (x :: F)) := ⟨off1 _ (fun k hk => by
  rcases List.mem_cons.1 hk with rfl | hk
  ·exact xlt
  ·exact PT.out.1.lts k hk)⟩
 obtain ⟨pe, pb, hpe⟩ : ∃ pe pb, putF (pictF v b) = (pe, pb) := ⟨_, _, rfl⟩
 have HFIT : Kept (pe = 0 → pb.length = 64 * kF b ∧ 1 ≤ kF b ∧ kF b ≤ 953 ∧ v.gen + 1 ≤ 4294967295) := ⟨fun h => by
  have h1 : errF (pictF v b) = 0 := by have := congrArg Prod.fst hpe; simp only [putF] at this; rw [this, h]
  have h2 := put_ok h1
  rw [hpe] at h2
  have h3 : pb = laid (textF (pictF v b)) := congrArg Prod.snd h2
  obtain ⟨e1, -, e4, -⟩ := errF_ok h1
  have e5 : b.length ≤ 60000 := e1
  have e6 : Wire.fits (v.gen + 1) 4 = true := e4
  unfold Wire.fits at e6
  simp at e6
  refine ⟨by rw [h3]; exact put_len _, kF_pos b, by unfold kF; omega, by omega⟩⟩
 have AJ1 : Kept (compactJ s v b = if pe ≠ 0 ∨ hn s < pb.length / 64 then (12, s, v) else if (layJ s ((1 - v.half) * hn s) pb).1 = 0 then (0, (layJ s ((1 - v.half) * hn s) pb).2, ⟨1 - v.half, v.gen + 1, true, b, [], pb.length / 64, 1, v.dead⟩) else ((layJ s ((1 - v.half) * hn s) pb).1, (layJ s ((1 - v.half) * hn s) pb).2, deadJ v)) := ⟨by
  rw [AJ.out, if_neg hb6, hpe]⟩
 rw [hpe] at R1 ⊢
 simp only at R1 ⊢
 clear hpe AJ CP bel r1 off1
 have PT1 := Kept.mk (PT.out.below B1.out)
 have CL := Kept.mk (rlen_any PT1.out.1)
 have x0 : w1.cell? ⟨x, 0, none⟩ = some (.pointer (some ⟨y, 0, none⟩)) := PT1.out.2.1.cell 0
 have PG12 : Kept (pe ≠ 0 ∨ hn s < pb.length / 64 → RActPost w (F ++ x :: KJ) x y n (compactJ s v b) (.returned (.int .i64 12)) w1) := ⟨fun h => by
  rw [AJ1.out, if_pos h]; exact (SY.out.below B1.out).ract B1.out⟩
 clear PT SY
 by_cases p0 : pe = 0
 ·subst p0
  obtain ⟨hpl, hkp, hkm, hgn⟩ := HFIT.out rfl
  have HKF : Kept (kF b = pb.length / 64) := ⟨by omega⟩
  generalize kF b = k at HKF hkp hkm hpl
  obtain rfl : n1 = 64 * k := by rw [← R1.out.1]; exact hpl
  have hkd : pb.length / 64 = k := by omega
  have hq : Int.tdiv ((64 * k : Nat) : Int) 64 = (k : Int) := by rw [Int.tdiv_eq_ediv_of_nonneg (by omega)]; omega
  have hq2 : Int.tdiv (n : Int) 2 = ((n / 2 : Nat) : Int) := by rw [Int.tdiv_eq_ediv_of_nonneg (by omega)]; omega
  obtain ⟨M, hM⟩ : ∃ M, n / 2 = M := ⟨_, rfl⟩
  have hM9 : M ≤ 4096 := by omega
  obtain ⟨hle1⟩ : Kept (64 ≤ 64 * k) := ⟨by omega⟩
  have HHN : Kept (hn s = M) := ⟨by rw [hhn, hM]⟩
  rw [hM] at hq2
  rw [hkd] at AJ1 PG12
  clear hM hpl HFIT hkd
  by_cases hlt : M < k
  ·have hlt' : (M : Int) < (k : Int) := by omega
   have PG := Kept.mk (PG12.out (.inr (by have := HHN.out; omega)))
   clear AJ1 PT1 PK R1 B1 HKF OF1 HR HO PG12
   go_wp2_with fail
   refine CL.out.mono ?_
   rintro e w2 ⟨rfl, rfl⟩
   clear CL
   go_wp2
   go_ret
   exact PG.out
  ·have hlt' : ((M : Int) < (k : Int)) = False := eq_false (by omega)
   obtain ⟨h2, hh2⟩ : ∃ h2, 1 - v.half = h2 := ⟨_, rfl⟩
   have hh21 : h2 ≤ 1 := by omega
   rw [hh2] at AJ1
   obtain ⟨re, s1, hre⟩ : ∃ re s1, layJ s (h2 * hn s) pb = (re, s1) := ⟨_, _, rfl⟩
   rw [hre] at AJ1
   simp only at AJ1
   have AJ3 : Kept (compactJ s v b = if re = 0 then (0, s1, ⟨h2, v.gen + 1, true, b, [], k, 1, v.dead⟩) else (re, s1, deadJ v)) := ⟨by
    rw [AJ1.out, if_neg (by rintro (h | h); exact h rfl; have := HHN.out; omega)]⟩
   have x1 : w1.cell? ⟨x, 1, none⟩ = some (.int .i64 (v.half : Nat)) := PT1.out.2.1.cell 1
   have CY := Kept.mk (rlay_any PT1.out.1 PT1.out.2.1 PK.out.2.2.2.2.2.1 h2 0 hh21 (by omega) R1.out OF1.out hn1 hle1 (by omega))
   rw [Nat.add_zero, hre] at CY
   have he2 : (1 - (v.half : Int)) = (h2 : Int) := by omega
   rw [← he2, show ((0 : Nat) : Int) = 0 from rfl] at CY
   clear AJ1 PG12 hre hlt HHN he2
   go_wp2_with fail
   refine CL.out.mono ?_
   rintro e w2 ⟨rfl, rfl⟩
   clear CL
   go_wp2_with fail
   refine CY.out.mono ?_
   rintro e w4 ⟨rfl, F4, d4, j4, fp4, nx4⟩
   have LP := Kept.mk (rlay_parts PT1.out.2.2.1 PK.out.2.2.1 PT1.out.2.2.2.1 PT1.out.2.2.2.2 PK.out.2.2.2.2.1 PK.out.2.2.2.2.2.1 PK.out.2.2.2.2.2.2.1 fp4)
   have D4 := Kept.mk d4
   have J4 := Kept.mk j4
   have NX4 := Kept.mk nx4
   have FP4 : Kept (Fp (F ++ x :: KJ) (F4 ++ x :: KJ) w w4) := ⟨Fp.trans (⟨barOf B1.out _, fun _ h => .inl h⟩ : Fp (F ++ x :: KJ) (F ++ x :: KJ) w w1) LP.out.2.2.2.2⟩
   clear d4 j4 nx4 fp4 PT1 R1 B1 CY x0 x1
   simp only at D4 J4
   by_cases h0 : re = 0
   ·subst h0
    rw [if_pos rfl] at J4 AJ3
    go_upto_region 11 with (fail)
    have D5 := D4.out.below (Below.refl _ _).drew
    have J5 := J4.out.drew
    have FP5 : Fp (F ++ x :: KJ) (F4 ++ x :: KJ) w w4.drew := ⟨FP4.out.1.drew, FP4.out.2⟩
    have RB5 : Rd w4.drew A l b := by
     have h1 : Bar (F ++ x :: KJ) w w4.drew := FP4.out.1.drew
     exact HR.out.far h1 HO.out
    obtain ⟨-, -, -, -, -, -, -, k9⟩ := PK.out
    have nx5 := NX4.out
    have F4L5 : ∀ k ∈ F4, k < w4.drew.heap.size := D5.lts
    have szw5 : w.heap.size ≤ w4.drew.heap.size := FP5.1.size
    have JL5 := J5.lt
    have he2 : (1 - (v.half : Int)) = (h2 : Int) := by omega
    have W2 : IntKind.i64.wrap (1 - (v.half : Int)) = (h2 : Int) := by rw [he2]; simp only [IntKind.wrap_i64]; omega
    have W3 : IntKind.i64.wrap (v.gen + 1) = v.gen + 1 := by simp only [IntKind.wrap_i64]; omega
    clear he2
    clear LP D4 J4 NX4 FP4 HR HO PK
    refine wp_region_noPanic ?_
    refine wp_region_W [18, 21, 24, 27] (S := fun w' : World => w'.cell? ⟨x, 1, none⟩ = some (.int .i64 (v.half : Nat)) ∧ w'.cell? ⟨x, 2, none⟩ = some (.int .i64 v.gen)) (by kernel_rfl) ⟨J5.cell 1, J5.cell 2⟩ (fun hS0 => ?_)
    generalize w4.drew = w5 at *
    refine wpAnyW_free (i := 0) (oi := ?o385) (v := ?v385) ?hi385 (by kernel_rfl) (by kernel_rfl) (by kernel_rfl) (by kernel_rfl) ?hq385 (Or.inl ⟨?hw385, ?hy385⟩) (fun _ => by assumption) ?r385
    case hi385 => (simp only [List.getElem?_toArray, List.getElem?_cons_zero]; exact rfl)
    case hq385 => exact fun _ _ _ h => h
    case hw385 => rfl
    case hy385 => (intro w _; go_simp; try exact rfl)
    simp only [Act.put, List.setIfInBounds_toArray, List.set_cons_zero, List.set_cons_succ]
    refine wpAnyW_free (i := 1) (oi := ?o386) (v := ?v386) ?hi386 (by kernel_rfl) (by kernel_rfl) (by kernel_rfl) (by kernel_rfl) ?hq386 (Or.inl ⟨?hw386, ?hy386⟩) (fun _ => by assumption) ?r386
    case hi386 => (simp only [List.getElem?_toArray, List.getElem?_cons_succ, List.getElem?_cons_zero]; exact rfl)
    case hq386 => exact fun _ _ _ h => h
    case hw386 => rfl
    case hy386 => (intro w _; go_simp; try exact rfl)
    simp only [Act.put, List.setIfInBounds_toArray, List.set_cons_zero, List.set_cons_succ]
    refine wpAnyW_free (i := 2) (oi := ?o387) (v := ?v387) ?hi387 (by kernel_rfl) (by kernel_rfl) (by kernel_rfl) (by kernel_rfl) ?hq387 (Or.inl ⟨?hw387, ?hy387⟩) (fun _ => by assumption) ?r387
    case hi387 => (simp only [List.getElem?_toArray, List.getElem?_cons_succ, List.getElem?_cons_zero]; exact rfl)
    case hq387 => exact fun _ _ _ h => h
    case hw387 => rfl
    case hy387 => (intro w _; go_simp; try exact rfl)
    simp only [Act.put, List.setIfInBounds_toArray, List.set_cons_zero, List.set_cons_succ]
    refine wpAnyW_free (i := 3) (oi := ?o388) (v := ?v388) ?hi388 (by kernel_rfl) (by kernel_rfl) (by kernel_rfl) (by kernel_rfl) ?hq388 (Or.inl ⟨?hw388, ?hy388⟩) (fun _ => by assumption) ?r388
    case hi388 => (simp only [List.getElem?_toArray, List.getElem?_cons_succ, List.getElem?_cons_zero]; exact rfl)
    case hq388 => exact fun _ _ _ h => h
    case hw388 => rfl
    case hy388 => (intro w _; go_simp; try exact rfl)
    simp only [Act.put, List.setIfInBounds_toArray, List.set_cons_zero, List.set_cons_succ]
    refine wpAnyW_free (i := 4) (oi := ?o389) (v := ?v389) ?hi389 (by kernel_rfl) (by kernel_rfl) (by kernel_rfl) (by kernel_rfl) ?hq389 (Or.inl ⟨?hw389, ?hy389⟩) (fun _ => by assumption) ?r389
    case hi389 => (simp only [List.getElem?_toArray, List.getElem?_cons_succ, List.getElem?_cons_zero]; exact rfl)
    case hq389 => exact fun _ _ _ h => h
    case hw389 => rfl
    case hy389 => (intro w _; go_simp; try exact rfl)
    simp only [Act.put, List.setIfInBounds_toArray, List.set_cons_zero, List.set_cons_succ]
    refine wpAnyW_free (i := 5) (oi := ?o390) (v := ?v390) ?hi390 (by kernel_rfl) (by kernel_rfl) (by kernel_rfl) (by kernel_rfl) ?hq390 (Or.inl ⟨?hw390, ?hy390⟩) (fun _ => by assumption) ?r390
    case hi390 => (simp only [List.getElem?_toArray, List.getElem?_cons_succ, List.getElem?_cons_zero]; exact rfl)
    case hq390 => exact fun _ _ _ h => h
    case hw390 => rfl
    case hy390 => (intro w _; go_simp; try exact rfl)
    simp only [Act.put, List.setIfInBounds_toArray, List.set_cons_zero, List.set_cons_succ]
    refine wpAnyW_free (i := 6) (oi := ?o391) (v := ?v391) ?hi391 (by kernel_rfl) (by kernel_rfl) (by kernel_rfl) (by kernel_rfl) ?hq391 (Or.inl ⟨?hw391, ?hy391⟩) (fun _ => by assumption) ?r391
    case hi391 => (simp only [List.getElem?_toArray, List.getElem?_cons_succ, List.getElem?_cons_zero]; exact rfl)
    case hq391 => exact fun _ _ _ h => h
    case hw391 => rfl
    case hy391 => (intro w _; go_simp; try exact rfl)
    simp only [Act.put, List.setIfInBounds_toArray, List.set_cons_zero, List.set_cons_succ]
    refine wpAnyW_free (i := 9) (oi := ?o392) (v := ?v392) ?hi392 (by kernel_rfl) (by kernel_rfl) (by kernel_rfl) (by kernel_rfl) ?hq392 (Or.inl ⟨?hw392, ?hy392⟩) (fun _ => by assumption) ?r392
    case hi392 => (simp only [List.getElem?_toArray, List.getElem?_cons_succ, List.getElem?_cons_zero]; exact rfl)
    case hq392 => exact fun _ _ _ h => h
    case hw392 => rfl
    case hy392 => (intro w _; go_simp; try exact rfl)
    simp only [Act.put, List.setIfInBounds_toArray, List.set_cons_zero, List.set_cons_succ]
    refine wpAnyW_free (i := 10) (oi := ?o393) (v := ?v393) ?hi393 (by kernel_rfl) (by kernel_rfl) (by kernel_rfl) (by kernel_rfl) ?hq393 (Or.inl ⟨?hw393, ?hy393⟩) (fun _ => by assumption) ?r393
    case hi393 => (simp only [List.getElem?_toArray, List.getElem?_cons_succ, List.getElem?_cons_zero]; exact rfl)
    case hq393 => exact fun _ _ _ h => h
    case hw393 => rfl
    case hy393 => (intro w _; go_simp; try exact rfl)
    simp only [Act.put, List.setIfInBounds_toArray, List.set_cons_zero, List.set_cons_succ]
    refine wpAnyW_free (i := 11) (oi := ?o394) (v := ?v394) ?hi394 (by kernel_rfl) (by kernel_rfl) (by kernel_rfl) (by kernel_rfl) ?hq394 (Or.inl ⟨?hw394, ?hy394⟩) (fun _ => by assumption) ?r394
    case hi394 => (simp only [List.getElem?_toArray, List.getElem?_cons_succ, List.getElem?_cons_zero]; exact rfl)
    case hq394 => exact fun _ _ _ h => h
    case hw394 => rfl
    case hy394 => (intro w _; go_simp; try exact rfl)
    simp only [Act.put, List.setIfInBounds_toArray, List.set_cons_zero, List.set_cons_succ]
    refine wpAnyW_free (i := 14) (oi := ?o395) (v := ?v395) ?hi395 (by kernel_rfl) (by kernel_rfl) (by kernel_rfl) (by kernel_rfl) ?hq395 (Or.inl ⟨?hw395, ?hy395⟩) (fun _ => by assumption) ?r395
    case hi395 => (simp only [List.getElem?_toArray, List.getElem?_cons_succ, List.getElem?_cons_zero]; exact rfl)
    case hq395 => exact fun _ _ _ h => h
    case hw395 => rfl
    case hy395 => (intro w _; go_simp; try exact rfl)
    simp only [Act.put, List.setIfInBounds_toArray, List.set_cons_zero, List.set_cons_succ]
    refine wpAnyW_take (i := 7) (oi := ?o383) (v := ?v383) ?hi383 (by kernel_rfl) (by kernel_rfl) (by kernel_rfl) (by kernel_rfl) ?hq383 (Or.inl ⟨?hw383, ?hy383⟩) (by assumption) ?r383
    case hi383 => (simp only [List.getElem?_toArray, List.getElem?_cons_succ, List.getElem?_cons_zero]; exact rfl)
    case hq383 => exact fun _ _ _ h => h
    case hw383 => rfl
    case hy383 => (intro w hSw; (try dsimp only at hSw); go_simp; try exact rfl)
    simp only [Act.put, List.setIfInBounds_toArray, List.set_cons_zero, List.set_cons_succ]
    refine wpAnyW_take (i := 12) (oi := ?o384) (v := ?v384) ?hi384 (by kernel_rfl) (by kernel_rfl) (by kernel_rfl) (by kernel_rfl) ?hq384 (Or.inl ⟨?hw384, ?hy384⟩) (by assumption) ?r384
    case hi384 => (simp only [List.getElem?_toArray, List.getElem?_cons_succ, List.getElem?_cons_zero]; exact rfl)
    case hq384 => exact fun _ _ _ h => h
    case hw384 => rfl
    case hy384 => (intro w hSw; (try dsimp only at hSw); go_simp; try exact rfl)
    simp only [Act.put, List.setIfInBounds_toArray, List.set_cons_zero, List.set_cons_succ]
    refine wpAnyW_free (i := 8) (oi := ?o396) (v := ?v396) ?hi396 (by kernel_rfl) (by kernel_rfl) (by kernel_rfl) (by kernel_rfl) ?hq396 (Or.inl ⟨?hw396, ?hy396⟩) (fun _ => by assumption) ?r396
    case hi396 => (simp only [List.getElem?_toArray, List.getElem?_cons_succ, List.getElem?_cons_zero]; exact rfl)
    case hq396 => exact fun _ _ _ h => h
    case hw396 => rfl
    case hy396 => (intro w _; go_simp; try exact rfl)
    simp only [Act.put, List.setIfInBounds_toArray, List.set_cons_zero, List.set_cons_succ]
    refine wpAnyW_free (i := 13) (oi := ?o397) (v := ?v397) ?hi397 (by kernel_rfl) (by kernel_rfl) (by kernel_rfl) (by kernel_rfl) ?hq397 (Or.inl ⟨?hw397, ?hy397⟩) (fun _ => by assumption) ?r397
    case hi397 => (simp only [List.getElem?_toArray, List.getElem?_cons_succ, List.getElem?_cons_zero]; exact rfl)
    case hq397 => exact fun _ _ _ h => h
    case hw397 => rfl
    case hy397 => (intro w _; go_simp; try exact rfl)
    simp only [Act.put, List.setIfInBounds_toArray, List.set_cons_zero, List.set_cons_succ]
    refine wpAnyW_ready (rs := [15]) (by kernel_rfl) (by simp) ?_
    refine AllReadyW.cons (o := ?o398) ?hi398 (fun K hK => ?_) AllReadyW.nil
    case hi398 => (simp only [List.getElem?_toArray, List.getElem?_cons_succ, List.getElem?_cons_zero]; exact rfl)
    go_simp
    go_at_call 40
    refine (copy_any A l c b w5 RB5 (by omega)).mono ?_
    rintro e w6 ⟨v2, rfl, own, bel⟩
    obtain ⟨A2, c2, rfl, q1, q2, q3⟩ := own_rd own RB5.2.1
    have K3L : ∀ k ∈ (Value.slice A2 l c2).ownBlock.toList, w5.heap.size ≤ k ∧ k < w6.heap.size := fun k hk => own.lt k (by simpa using hk)
    have IN3 : In A2 l (Value.slice A2 l c2).ownBlock.toList := in_own own
    generalize (Value.slice A2 l c2).ownBlock.toList = K3 at *
    have D6 := D5.below bel; have J6 := J5.below bel J5.lt
    have sz6 := bel.size
    have nxK : x ∉ K3 := fun hk => by have := K3L x hk; omega
    have dFK : Disj F4 K3 := fun k hk hk2 => by have := K3L k hk2; have := F4L5 k hk; omega
    have FP6 : Fp (F ++ x :: KJ) (F4 ++ x :: K3) w w6 := ⟨FP5.1.trans (barOf bel []) (by simp), fun k hk => by
     simp only [List.mem_append, List.mem_cons] at hk
     rcases hk with hk | hk | hk
     ·exact FP5.2 k (by simp [hk])
     ·exact .inl (by simp [hk])
     ·have := K3L k hk; exact .inr (by omega)⟩
    refine hK.out _ _ (fun _ => ⟨J6.cell 1, J6.cell 2⟩) (fun _ => ?_)
    clear hK K D5 J5 FP5 RB5 own bel hS0
    have PG := Kept.mk (ry_pict (b := b) D6 J6 q1 q2 q3 IN3 (fun k hk => (K3L k hk).2) nxK nx5 dFK FP6 (by simp) h2 k (v.gen + 1) ⟨by show h2 = 0 ∨ h2 = 1; omega, by show 0 ≤ v.gen + 1 ∧ v.gen + 1 ≤ _; omega, by show (1 : Int) ≤ 1 ∧ (1 : Int) ≤ 4294967296; omega, by show k ≤ 8192; omega, by show ([] : List (List Int)).length ≤ k; simp⟩)
    have y1 := J6.frozen 1; have y2 := J6.frozen 2; have y3 := J6.frozen 3; have y4 := J6.frozen 4; have y5 := J6.frozen 5; have y6 := J6.frozen 6; have y7 := J6.frozen 7
    have z1 := J6.cell 1; have z2 := J6.cell 2; have z3 := J6.cell 3; have z4 := J6.cell 4; have z5 := J6.cell 5; have z6 := J6.cell 6; have z7 := J6.cell 7
    try simp only [Act.put, List.setIfInBounds_toArray, List.set_cons_zero, List.set_cons_succ]
    refine wpAnyW_ready (rs := [16]) (by kernel_rfl) (by simp) ?_
    refine AllReadyW.cons (o := ?o399) ?hi399 (fun K hK => ?_) AllReadyW.nil
    case hi399 => (simp only [List.getElem?_toArray, List.getElem?_cons_succ, List.getElem?_cons_zero]; exact rfl)
    go_simp
    refine hK.out _ _ (fun _ => ⟨J6.cell 1, J6.cell 2⟩) (fun _ => ?_)
    clear hK K
    try simp only [Act.put, List.setIfInBounds_toArray, List.set_cons_zero, List.set_cons_succ]
    refine wpAnyW_ready (rs := [17]) (by kernel_rfl) (by simp) ?_
    refine AllReadyW.cons (o := ?o400) ?hi400 (fun K hK => ?_) AllReadyW.nil
    case hi400 => (simp only [List.getElem?_toArray, List.getElem?_cons_succ, List.getElem?_cons_zero]; exact rfl)
    go_simp
    refine hK.out _ _ (fun _ => ⟨J6.cell 1, J6.cell 2⟩) (fun _ => ?_)
    clear hK K
    try simp only [Act.put, List.setIfInBounds_toArray, List.set_cons_zero, List.set_cons_succ]
    refine wpAnyW_ready (rs := [18]) (by kernel_rfl) (by simp) ?_
    refine AllReadyW.cons (o := ?o401) ?hi401 (fun K hK => ?_) AllReadyW.nil
    case hi401 => (simp only [List.getElem?_toArray, List.getElem?_cons_succ, List.getElem?_cons_zero]; exact rfl)
    go_simp
    refine hK.out _ _ (late_come (by kernel_rfl)) (fun _ => ?_)
    clear hK K
    try simp only [Act.put]
    refine wpAnyW_ready (rs := [19]) (by kernel_rfl) (by simp) ?_
    refine AllReadyW.cons (o := ?o402) ?hi402 (fun K hK => ?_) AllReadyW.nil
    case hi402 => (simp only [List.getElem?_toArray, List.getElem?_cons_succ, List.getElem?_cons_zero]; exact rfl)
    go_simp
    refine hK.out _ _ (late_come (by kernel_rfl)) (fun _ => ?_)
    clear hK K
    try simp only [Act.put, List.setIfInBounds_toArray, List.set_cons_zero, List.set_cons_succ]
    refine wpAnyW_ready (rs := [20]) (by kernel_rfl) (by simp) ?_
    refine AllReadyW.cons (o := ?o403) ?hi403 (fun K hK => ?_) AllReadyW.nil
    case hi403 => (simp only [List.getElem?_toArray, List.getElem?_cons_succ, List.getElem?_cons_zero]; exact rfl)
    go_simp
    refine hK.out _ _ (late_come (by kernel_rfl)) (fun _ => ?_)
    clear hK K
    try simp only [Act.put, List.setIfInBounds_toArray, List.set_cons_zero, List.set_cons_succ]
    refine wpAnyW_ready (rs := [21]) (by kernel_rfl) (by simp) ?_
    refine AllReadyW.cons (o := ?o404) ?hi404 (fun K hK => ?_) AllReadyW.nil
    case hi404 => (simp only [List.getElem?_toArray, List.getElem?_cons_succ, List.getElem?_cons_zero]; exact rfl)
    go_simp
    refine hK.out _ _ (late_come (by kernel_rfl)) (fun _ => ?_)
    clear hK K
    try simp only [Act.put]
    refine wpAnyW_ready (rs := [22]) (by kernel_rfl) (by simp) ?_
    refine AllReadyW.cons (o := ?o405) ?hi405 (fun K hK => ?_) AllReadyW.nil
    case hi405 => (simp only [List.getElem?_toArray, List.getElem?_cons_succ, List.getElem?_cons_zero]; exact rfl)
    go_simp
    refine hK.out _ _ (late_come (by kernel_rfl)) (fun _ => ?_)
    clear hK K
    try simp only [Act.put, List.setIfInBounds_toArray, List.set_cons_zero, List.set_cons_succ]
    refine wpAnyW_ready (rs := [23]) (by kernel_rfl) (by simp) ?_
    refine AllReadyW.cons (o := ?o406) ?hi406 (fun K hK => ?_) AllReadyW.nil
    case hi406 => (simp only [List.getElem?_toArray, List.getElem?_cons_succ, List.getElem?_cons_zero]; exact rfl)
    go_simp
    refine hK.out _ _ (late_come (by kernel_rfl)) (fun _ => ?_)
    clear hK K
    try simp only [Act.put, List.setIfInBounds_toArray, List.set_cons_zero, List.set_cons_succ]
    refine wpAnyW_ready (rs := [24]) (by kernel_rfl) (by simp) ?_
    refine AllReadyW.cons (o := ?o407) ?hi407 (fun K hK => ?_) AllReadyW.nil
    case hi407 => (simp only [List.getElem?_toArray, List.getElem?_cons_succ, List.getElem?_cons_zero]; exact rfl)
    go_simp
    refine hK.out _ _ (late_come (by kernel_rfl)) (fun _ => ?_)
    clear hK K
    try simp only [Act.put]
    refine wpAnyW_ready (rs := [25]) (by kernel_rfl) (by simp) ?_
    refine AllReadyW.cons (o := ?o408) ?hi408 (fun K hK => ?_) AllReadyW.nil
    case hi408 => (simp only [List.getElem?_toArray, List.getElem?_cons_succ, List.getElem?_cons_zero]; exact rfl)
    go_simp
    refine hK.out _ _ (late_come (by kernel_rfl)) (fun _ => ?_)
    clear hK K
    try simp only [Act.put, List.setIfInBounds_toArray, List.set_cons_zero, List.set_cons_succ]
    refine wpAnyW_ready (rs := [26]) (by kernel_rfl) (by simp) ?_
    refine AllReadyW.cons (o := ?o409) ?hi409 (fun K hK => ?_) AllReadyW.nil
    case hi409 => (simp only [List.getElem?_toArray, List.getElem?_cons_succ, List.getElem?_cons_zero]; exact rfl)
    go_simp
    refine hK.out _ _ (late_come (by kernel_rfl)) (fun _ => ?_)
    clear hK K
    try simp only [Act.put, List.setIfInBounds_toArray, List.set_cons_zero, List.set_cons_succ]
    refine wpAnyW_ready (rs := [27]) (by kernel_rfl) (by simp) ?_
    refine AllReadyW.cons (o := ?o410) ?hi410 (fun K hK => ?_) AllReadyW.nil
    case hi410 => (simp only [List.getElem?_toArray, List.getElem?_cons_succ, List.getElem?_cons_zero]; exact rfl)
    go_simp
    refine hK.out _ _ (late_come (by kernel_rfl)) (fun _ => ?_)
    clear hK K
    try simp only [Act.put]
    refine wpAnyW_done (by kernel_rfl) ?_ _
    refine NoPanic.normal ?_
    rw [← AJ3.out] at PG
    have J10 := (((J6.set_ 1 (.int .i64 (h2 : Nat))).set_ 2 (.int .i64 (v.gen + 1))).set_ 3 (.bool true)).set_ 4 (.slice A2 l c2)
    clear AJ3 q3 IN3 D6 J6 y1 y2 y3 y4 y5 y6 y7 z1 z2 z3 z4 z5 z6 z7 W2 W3 K3L nxK dFK FP6 F4L5
    have z5 := J10.cell 5
    have z6 := J10.cell 6
    have z7 := J10.cell 7
    have y5 := J10.frozen 5
    have y6 := J10.frozen 6
    have y7 := J10.frozen 7
    clear J10
    generalize ((((w6.setCell ⟨x, 1, none⟩ (.int .i64 (h2 : Nat))).setCell ⟨x, 2, none⟩ (.int .i64 (v.gen + 1))).setCell ⟨x, 3, none⟩ (.bool true)).setCell ⟨x, 4, none⟩ (.slice A2 l c2)) = w10 at *
    go_wp2
    go_ret
    exact PG.out
   ·rw [if_neg h0] at J4 AJ3
    have PG := Kept.mk (show RActPost w (F ++ x :: KJ) x y n (compactJ s v b) (.returned (.int .i64 re)) w4 from by
     rw [AJ3.out]
     exact ry_mk (v := deadJ v) D4.out J4.out PK.out.1 PK.out.2.1 LP.out.1 PK.out.2.2.1 PK.out.2.2.2.1 LP.out.2.1 LP.out.2.2.1 PK.out.2.2.2.2.1 NX4.out LP.out.2.2.2.1 PK.out.2.2.2.2.2.2.2.dead FP4.out)
    clear AJ3 LP D4 J4 NX4 FP4 PK HR HO HKF
    go_wp2
    go_ret
    exact PG.out
 ·have PG := Kept.mk (PG12.out (.inl p0))
  have hp0 : (pe != 0) = true := by simpa using p0
  clear AJ1 PT1 PK R1 B1 HFIT OF1 PG12 CL
  go_wp2
  go_ret
  exact PG.out
end Go.Proofs.YtkbehjdglgpgjaaGreat.Journal
