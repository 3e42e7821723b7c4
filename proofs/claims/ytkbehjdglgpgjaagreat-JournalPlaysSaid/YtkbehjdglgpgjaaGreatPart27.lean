/-
  Parts laid together: JournalROpen2.
-/
import Derived.Test.YtkbehjdglgpgjaaGreatPart26
import Derived.Test.YtkbehjdglgpgjaaGreatPart17
import Derived.Deep.OwnRows
import Derived.Deep.DeepCutAuto

namespace Go.Proofs.YtkbehjdglgpgjaaGreat.Journal
open Go.RowKit Go.Proofs.YtkbehjdglgpgjaaGreat.Sha Go.Proofs.YtkbehjdglgpgjaaGreat.Disk Go.Proofs.YtkbehjdglgpgjaaGreat.Frame

def Rop (w0 w : World) (F G : List Nat) (N y n : Nat) (s : DS) (v : JV) : Prop := Dr w F y n s ∧ Rj w G N y v ∧ (∀ k ∈ G, N ≤ k) ∧ Below N w0 w ∧ w0.heap.size = N
theorem Rop.below {w0 w w' : World} {F G : List Nat} {N y n : Nat} {s : DS} {v : JV} (h : Rop w0 w F G N y n s v) (b : Below w.heap.size w w') : Rop w0 w' F G N y n s v := by
 obtain ⟨h1, h2, h3, h4, h5⟩ := h
 exact ⟨h1.below b, h2.keep (barOf b []) (fun _ _ => by simp), h3, h4.trans (b.mono (by have := h4.size; omega)), h5⟩
theorem Rop.size {w0 w : World} {F G : List Nat} {N y n : Nat} {s : DS} {v : JV} (h : Rop w0 w F G N y n s v) : N < w.heap.size := by
 obtain ⟨-, ⟨A, n', c, vr, K, h1, -⟩, -⟩ := h
 exact h1.lt
theorem Rop.cells {w0 w : World} {F G : List Nat} {N y n : Nat} {s : DS} {v : JV} (h : Rop w0 w F G N y n s v) : ∃ A m c vr, Blk w N 88 (rjc y v A m c vr) := by
 obtain ⟨-, ⟨A, n', c, vr, K, h1, -⟩, -⟩ := h
 exact ⟨A, n', c, vr, h1⟩
theorem rop_head {w0 w : World} {F G : List Nat} {N y n : Nat} {s : DS} {v v' : JV} (h : Rop w0 w F G N y n s v) {A : Option Addr} {m c : Nat} {K3 : List Nat} (hr : Rd w A m v'.pict) (hmc : m ≤ c) (hc : c ≤ 9223372036854775807) (hin : In A m K3) (hK : ∀ k ∈ K3, N < k ∧ k < w.heap.size) (hKD : ∀ k ∈ K3, k ∉ G)
  (h1 : v'.recs = v.recs) (h2 : v'.seq = v.seq) (h3 : v'.dead = v.dead) (h4 : v'.has = true) (hv : VOk v') :
  ∃ G', Rop w0 (((((w.setCell ⟨N, 1, none⟩ (.int .i64 (v'.half : Nat))).setCell ⟨N, 2, none⟩ (.int .i64 v'.gen)).setCell ⟨N, 3, none⟩ (.bool true)).setCell ⟨N, 4, none⟩ (.slice A m c)).setCell ⟨N, 6, none⟩ (.int .i64 (v'.pos : Nat))) F G' N y n s v' := by
 obtain ⟨k1, ⟨A0, n0, c0, vr, K, j1, j2, j3, j4, j5, j6, j7, j8, rfl, j9⟩, k3, k4, k5⟩ := h
 have hb : Bar [N] w (((((w.setCell ⟨N, 1, none⟩ (.int .i64 (v'.half : Nat))).setCell ⟨N, 2, none⟩ (.int .i64 v'.gen)).setCell ⟨N, 3, none⟩ (.bool true)).setCell ⟨N, 4, none⟩ (.slice A m c)).setCell ⟨N, 6, none⟩ (.int .i64 (v'.pos : Nat))) :=
  (((((Bar.refl [N] w).setCell (by simp) _).setCell (by simp) _).setCell (by simp) _).setCell (by simp) _).setCell (by simp) _
 have d3 : Disj K3 [N] := fun k hk hk2 => by rw [List.mem_singleton] at hk2; have := hK k hk; omega
 have dK : Disj K [N] := fun k hk hk2 => by rw [List.mem_singleton] at hk2; subst hk2; exact j8 hk
 have hFN : ∀ k ∈ F, k ≠ N := fun k hk e => by
  have := k1.lts k hk
  subst e
  obtain ⟨-, gn, cn, gl, cl, vp, b1, b2, b3, -, b5, rfl⟩ := k1
  rcases List.mem_cons.1 hk with e | hk
  ·subst e; exact absurd (blk_ne j1 b1 (by decide)) (by simp)
  ·rcases List.mem_cons.1 hk with e | hk
   ·subst e; exact absurd (blk_ne j1 b2.choose_spec.1 (by decide)) (by simp)
   ·rcases List.mem_cons.1 hk with e | hk
    ·subst e; exact absurd (blk_ne j1 b3.choose_spec.1 (by decide)) (by simp)
    ·exact own_far b5 j1 (by decide) (by simpa using hk)
 refine ⟨N :: (K3 ++ K), k1.keep hb (fun k hk hk2 => by rw [List.mem_singleton] at hk2; exact hFN k hk hk2), ⟨A, m, c, vr, K3 ++ K, ?_, hmc, hc, hr.far hb (hin.off d3), ⟨hin.mono (fun k hk => by simp [hk]), hin.off (fun k hk hk2 => hKD k hk (by simp [j6.choose_spec.2.1 k hk2]))⟩, ?_, ?_, ?_, rfl, hv⟩, ?_, ?_, k5⟩
 ·have hset := ((((j1.set_ 1 (.int .i64 (v'.half : Nat))).set_ 2 (.int .i64 v'.gen)).set_ 3 (.bool true)).set_ 4 (.slice A m c)).set_ 6 (.int .i64 (v'.pos : Nat))
  have e : (((((rjc y v A0 n0 c0 vr).setIfInBounds 1 (.int .i64 (v'.half : Nat))).setIfInBounds 2 (.int .i64 v'.gen)).setIfInBounds 3 (.bool true)).setIfInBounds 4 (.slice A m c)).setIfInBounds 6 (.int .i64 (v'.pos : Nat)) = rjc y v' A m c vr := by unfold rjc; rw [h2, h3, h4]; rfl
  rw [← e]; exact hset
 ·rw [h1]; exact (j6.keep hb dK).mono (fun k hk => by simp [hk])
 ·intro k hk
  refine Nat.lt_of_lt_of_le ?_ hb.size
  rcases List.mem_append.1 hk with hk | hk
  ·exact (hK k hk).2
  ·exact j7 k hk
 ·intro hm
  rcases List.mem_append.1 hm with hm | hm
  ·have := hK N hm; omega
  ·exact j8 hm
 ·intro k hk
  rcases List.mem_cons.1 hk with rfl | hk
  ·omega
  ·rcases List.mem_append.1 hk with hk | hk
   ·have := hK k hk; omega
   ·exact k3 k (by simp [hk])
 ·exact k4.trans (hb.below (by have := k4.size; omega) (fun k hk => by rw [List.mem_singleton] at hk; omega))
def Mid (w0 w : World) (F K : List Nat) (N y n : Nat) (s : DS) (v : JV) (L : List (List Int)) (v1 : Value) : Prop :=
 Dr w F y n s ∧ (∃ A n' c, Blk w N 88 (rjc y v A n' c v1) ∧ n' ≤ c ∧ c ≤ 9223372036854775807 ∧ Rd w A n' v.pict ∧ In A n' K ∧ Off A n' v1.ownBlock.toList) ∧ Og w 38 v1 L K ∧ (∀ k ∈ K, N < k ∧ k < w.heap.size) ∧ (∀ k ∈ F, k ≠ N) ∧ Below N w0 w ∧ w0.heap.size = N
theorem Mid.below {w0 w w' : World} {F K : List Nat} {N y n : Nat} {s : DS} {v : JV} {L : List (List Int)} {v1 : Value} (h : Mid w0 w F K N y n s v L v1) (b : Below w.heap.size w w') : Mid w0 w' F K N y n s v L v1 := by
 obtain ⟨h1, ⟨A, n', c, j1, j2, j3, j4, j5⟩, h3, h4, h5, h6, h7⟩ := h
 exact ⟨h1.below b, ⟨A, n', c, j1.below b j1.lt, j2, j3, j4.below b, j5⟩, h3.keep (barOf b []) (fun _ _ => by simp), fun k hk => ⟨(h4 k hk).1, Nat.lt_of_lt_of_le (h4 k hk).2 b.size⟩, h5, h6.trans (b.mono (by have := h6.size; omega)), h7⟩
theorem Mid.cells {w0 w : World} {F K : List Nat} {N y n : Nat} {s : DS} {v : JV} {L : List (List Int)} {v1 : Value} (h : Mid w0 w F K N y n s v L v1) : ∃ A m c, Blk w N 88 (rjc y v A m c v1) := by
 obtain ⟨-, ⟨A, n', c, j1, -⟩, -⟩ := h
 exact ⟨A, n', c, j1⟩
theorem mid_rop {w0 w : World} {F K : List Nat} {N y n : Nat} {s : DS} {v : JV} {L : List (List Int)} {v1 : Value} (h : Mid w0 w F K N y n s v L v1) (pos' : Nat) (seq' : Int) (hv : VOk { v with recs := L, pos := pos', seq := seq' }) :
  Rop w0 ((w.setCell ⟨N, 6, none⟩ (.int .i64 (pos' : Nat))).setCell ⟨N, 7, none⟩ (.int .i64 seq')) F (N :: K) N y n s { v with recs := L, pos := pos', seq := seq' } := by
 obtain ⟨h1, ⟨A, n', c, j1, j2, j3, j4, j5⟩, h3, h4, h5, h6, h7⟩ := h
 have hb : Bar [N] w ((w.setCell ⟨N, 6, none⟩ (.int .i64 (pos' : Nat))).setCell ⟨N, 7, none⟩ (.int .i64 seq')) := ((Bar.refl [N] w).setCell (by simp) _).setCell (by simp) _
 have dK : Disj K [N] := fun k hk hk2 => by rw [List.mem_singleton] at hk2; have := h4 k hk; omega
 refine ⟨h1.keep hb (fun k hk hk2 => h5 k hk (by simpa using hk2)), ⟨A, n', c, v1, K, (j1.set_ 6 _).set_ 7 _, j2, j3, j4.far hb (j5.1.off dK), j5, h3.keep hb dK, fun k hk => Nat.lt_of_lt_of_le (h4 k hk).2 hb.size, fun hk => by have := h4 N hk; omega, rfl, hv⟩, fun k hk => ?_, h6.trans (hb.below (by have := h6.size; omega) (fun k hk => by rw [List.mem_singleton] at hk; omega)), h7⟩
 rcases List.mem_cons.1 hk with rfl | hk
 ·exact Nat.le_refl _
 ·have := h4 k hk; omega
theorem info_txt : (Tryz.prog.info? 38).map (fun i => (i.zero, i.size, i.bytes)) = some (some (.slice none 0 0), 1, 24) := by kernel_rfl
theorem rop_store {w0 w w' : World} {F G : List Nat} {N y n T : Nat} {s : DS} {v : JV} (h : Rop w0 w F G N y n s v) (hT : ∀ k ∈ F ++ G, k < T) (hN : N < T) (b : Bar [T] w w') : Rop w0 w' F G N y n s v := by
 obtain ⟨h1, h2, h3, h4, h5⟩ := h
 have d1 : Disj F [T] := fun k hk hk2 => by rw [List.mem_singleton] at hk2; have := hT k (by simp [hk]); omega
 have d2 : Disj G [T] := fun k hk hk2 => by rw [List.mem_singleton] at hk2; have := hT k (by simp [hk]); omega
 exact ⟨h1.keep b d1, h2.keep b d2, h3, h4.trans (b.below (by have := h4.size; omega) (fun k hk => by rw [List.mem_singleton] at hk; omega)), h5⟩
theorem Rop.lts {w0 w : World} {F G : List Nat} {N y n : Nat} {s : DS} {v : JV} (h : Rop w0 w F G N y n s v) : ∀ k ∈ F ++ G, k < w.heap.size := fun k hk => by
 rcases List.mem_append.1 hk with hk | hk
 ·exact h.1.lts k hk
 ·exact h.2.1.lts k hk
theorem Rop.two {w0 w : World} {F G : List Nat} {N y n : Nat} {s : DS} {v : JV} (h : Rop w0 w F G N y n s v) : w.cell? ⟨N, 1, none⟩ = some (.int .i64 (v.half : Nat)) ∧ w.cell? ⟨N, 6, none⟩ = some (.int .i64 (v.pos : Nat)) := by
 obtain ⟨A, m, c, vr, j⟩ := h.cells
 exact ⟨j.cell 1, j.cell 6⟩
theorem Rop.zero {w0 w : World} {F G : List Nat} {N y n : Nat} {s : DS} {v : JV} (h : Rop w0 w F G N y n s v) : w.cell? ⟨N, 0, none⟩ = some (.pointer (some ⟨y, 0, none⟩)) := by
 obtain ⟨A, m, c, vr, j⟩ := h.cells
 exact j.cell 0
theorem heads_vok {n : Nat} {s : DS} (hwf : WF n s) : ∀ h, h ≤ 2 → VOk (headsJ s h) ∧ (headsJ s h).recs = [] ∧ (headsJ s h).dead = false
  | 0, _ => ⟨vok_no, rfl, rfl⟩
  | h + 1, hh => by
    obtain ⟨i1, i2, i3⟩ := heads_vok hwf h (by omega)
    unfold headsJ headJ
    split
    · next hc =>
      have hb := getF_bounds (text_bytes hwf (half := h) (m := 0) (by omega)) hc.1
      have hl := text_len hwf (half := h) (m := 0) (by omega)
      have hhn := wf_hn hwf
      have := hwf.n2
      refine ⟨⟨?_, ⟨hb.1, hb.2.1⟩, i1.seq, ?_, ?_⟩, i2, i3⟩
      · show h = 0 ∨ h = 1; omega
      · show (getF (textJ s h 0)).2.1.toNat ≤ 8192; omega
      · show (headsJ s h).recs.length ≤ _; rw [i2]; exact Nat.zero_le _
    · exact ⟨i1, i2, i3⟩
set_option maxRecDepth 100000 in
set_option maxHeartbeats 6000000 in
theorem ropen_up {w : World} {F : List Nat} {y n : Nat} {s : DS} (h : Dr w F y n s) (hd : s.down = false) :
    Calls Tryz.prog 10 #[.pointer (some ⟨y, 0, none⟩)] w (ROpenPost w F y n s (openJ s)) := by
  obtain ⟨N, hN⟩ : ∃ N, w.heap.size = N := ⟨_, rfl⟩
  have hwf := h.1
  have hhn := wf_hn hwf
  have hn8 := hwf.n2
  have b1 : Below w.heap.size w (w.alloc (.cells #[.pointer (some ⟨y, 0, none⟩), .int .i64 0, .int .i64 0, .bool false, .slice none 0 0, .slice none 0 0, .int .i64 0, .int .i64 1, .bool false] 88)) := (Below.refl _ _).alloc (Nat.le_refl _) _
  have hy : (w.alloc (.cells #[.pointer (some ⟨y, 0, none⟩), .int .i64 0, .int .i64 0, .bool false, .slice none 0 0, .slice none 0 0, .int .i64 0, .int .i64 1, .bool false] 88)).cell? ⟨y, 4, none⟩ = some (.bool false) := by
    obtain ⟨-, gn, cn, gl, cl, vp, k1, -⟩ := h.below b1
    exact (k1.cell 4).trans (by show some (Value.bool s.down) = _; rw [hd])
  have R1 : Kept (Rop w (w.alloc (.cells #[.pointer (some ⟨y, 0, none⟩), .int .i64 0, .int .i64 0, .bool false, .slice none 0 0, .slice none 0 0, .int .i64 0, .int .i64 1, .bool false] 88)) F [N] N y n s noJ) :=
    ⟨h.below b1, rj_new w y N hN noJ rfl rfl rfl rfl rfl rfl rfl, by simp, hN ▸ b1, hN⟩
  have HWF := Kept.mk hwf
  have HFL : Kept (∀ k ∈ F, k < N) := ⟨fun k hk => by rw [← hN]; exact h.lts k hk⟩
  clear b1 h hwf
  go_enter Tryz.func10, Tryz.ntmps10
  go_wp2
  generalize w.alloc (.cells #[.pointer (some ⟨y, 0, none⟩), .int .i64 0, .int .i64 0, .bool false, .slice none 0 0, .slice none 0 0, .int .i64 0, .int .i64 1, .bool false] 88) = w1 at *
  clear hy
  go_loopw [4, 5, 6, 7] (fun hv _f _k _o wr => ∃ (hf : Nat) (G : List Nat), hf ≤ 2 ∧ hv = .int .i64 hf ∧ Kept (Rop w wr F G N y n s (headsJ s hf))) (fun hv _ _ _ _ => 2 - (intOf hv).toNat)
  case atStart => exact ⟨0, [N], by omega, rfl, R1⟩
  case round =>
    clear R1
    obtain ⟨hf, G, hhf, rfl, R⟩ := hrel
    by_cases h2 : hf < 2
    · have h2' : (hf : Int) < 2 := by omega
      obtain ⟨A0, m0, c0, vr0, J⟩ := R.out.cells
      have ch := Kept.mk (rhead_anyJ R.out.1 hd (J.cell 0) hf (by omega))
      have hgb := fun e => getF_bounds (text_bytes HWF.out (half := hf) (m := 0) (by omega)) e
      have HV : Kept (headsJ s (hf + 1) = if picB (getF (textJ s hf 0)) = true ∧ ((headsJ s hf).has = false ∨ (headsJ s hf).gen < (getF (textJ s hf 0)).1.gen) then { headsJ s hf with half := hf, gen := (getF (textJ s hf 0)).1.gen, has := true, pict := (getF (textJ s hf 0)).1.body, pos := (getF (textJ s hf 0)).2.1.toNat } else headsJ s hf) := ⟨by
        show headJ s hf (headsJ s hf) = _
        unfold headJ picB
        simp only [decide_eq_true_eq, and_assoc]⟩
      have hpk : picB (getF (textJ s hf 0)) = true → (getF (textJ s hf 0)).2.2 = 0 := fun e => by unfold picB at e; simp at e; exact e.1
      have VK := Kept.mk (heads_vok HWF.out (hf + 1) (by omega))
      have HGB := Kept.mk fun e => hgb (hpk e)
      clear hgb hpk
      generalize headsJ s hf = v at *
      generalize getF (textJ s hf 0) = g at *
      obtain ⟨⟨fk, fg, fs, fb⟩, gk, ge⟩ := g
      go_wp2_with fail
      refine ch.out.mono ?_
      clear ch
      rintro e w3 ⟨A3, n3, c3, rfl, hc3, hm3, r3, b3, o3⟩
      simp only at r3 HGB HV ⊢
      obtain ⟨T, hT⟩ : ∃ T, w3.heap.size = T := ⟨_, rfl⟩
      have R3 := R.out.below b3
      have bT : Below w3.heap.size w3 (w3.alloc (.cells #[.int .i64 fk, .int .i64 fg, .int .i64 fs, .slice A3 n3 c3] 90)) := (Below.refl _ _).alloc (Nat.le_refl _) _
      have hNT : N < T := by rw [← hT]; exact R3.size
      have R4 : Kept (Rop w (w3.alloc (.cells #[.int .i64 fk, .int .i64 fg, .int .i64 fs, .slice A3 n3 c3] 90)) F G N y n s v) := ⟨R3.below bT⟩
      have TF : Kept (Blk (w3.alloc (.cells #[.int .i64 fk, .int .i64 fg, .int .i64 fs, .slice A3 n3 c3] 90)) T 90 #[.int .i64 fk, .int .i64 fg, .int .i64 fs, .slice A3 n3 c3]) := ⟨Blk.new_at _ _ _ _ hT.symm⟩
      obtain ⟨K3, in3, hK3⟩ := in_new r3 o3
      have RD := Kept.mk (r3.below bT)
      have hKT : ∀ k ∈ K3, N < k ∧ k < T := fun k hk => by have := hK3 k hk; have := R.out.size; omega
      have KIN := Kept.mk (And.intro in3 hKT)
      have KD : Kept (∀ k ∈ K3, k ∉ G) := ⟨fun k hk h => by have := (hK3 k hk).1; have := R.out.2.1.lts k h; omega⟩
      clear R3 bT r3 b3 o3 R in3 hKT hK3
      obtain ⟨A5, m5, c5, vr5, J5⟩ := R4.out.cells
      have j2 := J5.cell 2; have j3 := J5.cell 3
      have t1 := TF.out.cell 1
      rw [show (rjc y v A5 m5 c5 vr5)[2]? = some (.int .i64 v.gen) from rfl] at j2
      rw [show (rjc y v A5 m5 c5 vr5)[3]? = some (.bool v.has) from rfl] at j3
      rw [show (#[Value.int .i64 fk, .int .i64 fg, .int .i64 fs, .slice A3 n3 c3] : Array Value)[1]? = some (.int .i64 fg) from rfl] at t1
      clear J5
      go_upto_region 9 with (fail)
      generalize w3.alloc (.cells #[.int .i64 fk, .int .i64 fg, .int .i64 fs, .slice A3 n3 c3] 90) = w4 at *
      clear hT
      cases hp : picB (⟨fk, fg, fs, fb⟩, gk, ge) with
      | false =>
        rw [hp] at HV
        go_quiet (fail)
        have R6 := Kept.mk (R4.out.below (below_drewN (Below.refl _ _) nq))
        generalize w4.drewN nq = w6 at *
        go_wp2
        go_roundw
        case rel => exact ⟨hf + 1, G, by omega, by go_num, ⟨by rw [HV.out, if_neg (by simp)]; exact R6.out⟩⟩
        case measure => simp [intOf]; omega
      | true =>
        rw [hp] at HV HGB
        cases hh3 : v.has with
        | false =>
          rw [hh3] at HV j3
          go_quiet (fail)
          obtain ⟨gb1, gb2, -, -, -, gb6⟩ := HGB.out rfl
          have R6 := R4.out.below (below_drewN (Below.refl _ _) nq)
          have TG := Kept.mk (TF.out.drewN nq)
          have RD6 := RD.out.below (below_drewN (Below.refl _ _) nq)
          have hT6 : T < (w4.drewN nq).heap.size := TG.out.lt
          generalize w4.drewN nq = w6 at *
          go_upto_region 10 with (fail)
          refine wp_region_noPanic ?_
          have R7 := R6.below (Below.refl _ _).drew
          have TG7 := Kept.mk TG.out.drew
          have RD7 := RD6.below (Below.refl _ _).drew
          have hT7 : T < w6.drew.heap.size := hT6
          refine wp_region_held_drew (S := fun w' : World => w'.cell? ⟨T, 1, none⟩ = some (.int .i64 fg) ∧ w'.cell? ⟨T, 3, none⟩ = some (.slice A3 n3 c3)) (by kernel_rfl) ⟨TG7.out.cell 1, TG7.out.cell 3⟩ (fun hS0 => ?_)
          clear R6 TG RD6 hT6
          generalize w6.drew = w7 at *
          obtain ⟨G', RH⟩ := rop_head (v' := { v with half := hf, gen := fg, has := true, pict := fb, pos := gk.toNat }) R7 RD7 hc3 (by unfold maxLen at hm3; omega) KIN.out.1 (fun k hk => by have := KIN.out.2 k hk; omega) KD.out rfl rfl rfl rfl (by have := VK.out.1; rw [HV.out, if_pos ⟨rfl, .inl rfl⟩] at this; exact this)
          simp only at RH
          rw [← gb6] at RH
          clear gb1 gb2 gb6
          have RHK := Kept.mk RH
          obtain ⟨A7, m7, c7, vr7, J7⟩ := R7.cells
          have J7 := Kept.mk J7
          clear RH R7
          refine wpAnyH_take (i := 0) (oi := ?o127) (v := ?v127) ?hi127 (by kernel_rfl) (by kernel_rfl) (by kernel_rfl) ?hq127 (Or.inl ⟨?hw127, ?hy127⟩) (by assumption) ?r127
          case hi127 => (simp only [List.getElem?_toArray, List.getElem?_cons_zero]; exact rfl)
          case hq127 => exact fun _ _ _ h => h
          case hw127 => rfl
          case hy127 => (intro w hSw; (try dsimp only at hSw); go_simp; try exact rfl)
          simp only [Act.put, List.setIfInBounds_toArray, List.set_cons_zero, List.set_cons_succ]
          refine wpAnyH_take (i := 1) (oi := ?o128) (v := ?v128) ?hi128 (by kernel_rfl) (by kernel_rfl) (by kernel_rfl) ?hq128 (Or.inl ⟨?hw128, ?hy128⟩) (by assumption) ?r128
          case hi128 => (simp only [List.getElem?_toArray, List.getElem?_cons_succ, List.getElem?_cons_zero]; exact rfl)
          case hq128 => exact fun _ _ _ h => h
          case hw128 => rfl
          case hy128 => (intro w hSw; (try dsimp only at hSw); go_simp; try exact rfl)
          simp only [Act.put, List.setIfInBounds_toArray, List.set_cons_zero, List.set_cons_succ]
          refine wpAnyH_take (i := 2) (oi := ?o129) (v := ?v129) ?hi129 (by kernel_rfl) (by kernel_rfl) (by kernel_rfl) ?hq129 (Or.inl ⟨?hw129, ?hy129⟩) (by assumption) ?r129
          case hi129 => (simp only [List.getElem?_toArray, List.getElem?_cons_succ, List.getElem?_cons_zero]; exact rfl)
          case hq129 => exact fun _ _ _ h => h
          case hw129 => rfl
          case hy129 => (intro w hSw; (try dsimp only at hSw); go_simp; try exact rfl)
          simp only [Act.put, List.setIfInBounds_toArray, List.set_cons_zero, List.set_cons_succ]
          refine wpAnyH_take (i := 3) (oi := ?o130) (v := ?v130) ?hi130 (by kernel_rfl) (by kernel_rfl) (by kernel_rfl) ?hq130 (Or.inl ⟨?hw130, ?hy130⟩) (by assumption) ?r130
          case hi130 => (simp only [List.getElem?_toArray, List.getElem?_cons_succ, List.getElem?_cons_zero]; exact rfl)
          case hq130 => exact fun _ _ _ h => h
          case hw130 => rfl
          case hy130 => (intro w hSw; (try dsimp only at hSw); go_simp; try exact rfl)
          simp only [Act.put, List.setIfInBounds_toArray, List.set_cons_zero, List.set_cons_succ]
          refine wpAnyH_take (i := 4) (oi := ?o131) (v := ?v131) ?hi131 (by kernel_rfl) (by kernel_rfl) (by kernel_rfl) ?hq131 (Or.inl ⟨?hw131, ?hy131⟩) (by assumption) ?r131
          case hi131 => (simp only [List.getElem?_toArray, List.getElem?_cons_succ, List.getElem?_cons_zero]; exact rfl)
          case hq131 => exact fun _ _ _ h => h
          case hw131 => rfl
          case hy131 => (intro w hSw; (try dsimp only at hSw); go_simp; try exact rfl)
          simp only [Act.put, List.setIfInBounds_toArray, List.set_cons_zero, List.set_cons_succ]
          refine wpAnyH_take (i := 5) (oi := ?o132) (v := ?v132) ?hi132 (by kernel_rfl) (by kernel_rfl) (by kernel_rfl) ?hq132 (Or.inl ⟨?hw132, ?hy132⟩) (by assumption) ?r132
          case hi132 => (simp only [List.getElem?_toArray, List.getElem?_cons_succ, List.getElem?_cons_zero]; exact rfl)
          case hq132 => exact fun _ _ _ h => h
          case hw132 => rfl
          case hy132 => (intro w hSw; (try dsimp only at hSw); go_simp; try exact rfl)
          simp only [Act.put, List.setIfInBounds_toArray, List.set_cons_zero, List.set_cons_succ]
          refine wpAnyH_take (i := 6) (oi := ?o133) (v := ?v133) ?hi133 (by kernel_rfl) (by kernel_rfl) (by kernel_rfl) ?hq133 (Or.inl ⟨?hw133, ?hy133⟩) (by assumption) ?r133
          case hi133 => (simp only [List.getElem?_toArray, List.getElem?_cons_succ, List.getElem?_cons_zero]; exact rfl)
          case hq133 => exact fun _ _ _ h => h
          case hw133 => rfl
          case hy133 => (intro w hSw; (try dsimp only at hSw); go_simp; try exact rfl)
          simp only [Act.put, List.setIfInBounds_toArray, List.set_cons_zero, List.set_cons_succ]
          refine wpAnyH_take (i := 7) (oi := ?o134) (v := ?v134) ?hi134 (by kernel_rfl) (by kernel_rfl) (by kernel_rfl) ?hq134 (Or.inl ⟨?hw134, ?hy134⟩) (by assumption) ?r134
          case hi134 => (simp only [List.getElem?_toArray, List.getElem?_cons_succ, List.getElem?_cons_zero]; exact rfl)
          case hq134 => exact fun _ _ _ h => h
          case hw134 => rfl
          case hy134 => (intro w hSw; (try dsimp only at hSw); go_simp; try exact rfl)
          simp only [Act.put, List.setIfInBounds_toArray, List.set_cons_zero, List.set_cons_succ]
          refine wpAnyH_take (i := 8) (oi := ?o135) (v := ?v135) ?hi135 (by kernel_rfl) (by kernel_rfl) (by kernel_rfl) ?hq135 (Or.inl ⟨?hw135, ?hy135⟩) (by assumption) ?r135
          case hi135 => (simp only [List.getElem?_toArray, List.getElem?_cons_succ, List.getElem?_cons_zero]; exact rfl)
          case hq135 => exact fun _ _ _ h => h
          case hw135 => rfl
          case hy135 => (intro w hSw; (try dsimp only at hSw); go_simp; try exact rfl)
          simp only [Act.put, List.setIfInBounds_toArray, List.set_cons_zero, List.set_cons_succ]
          refine wpAnyH_take (i := 9) (oi := ?o136) (v := ?v136) ?hi136 (by kernel_rfl) (by kernel_rfl) (by kernel_rfl) ?hq136 (Or.inl ⟨?hw136, ?hy136⟩) (by assumption) ?r136
          case hi136 => (simp only [List.getElem?_toArray, List.getElem?_cons_succ, List.getElem?_cons_zero]; exact rfl)
          case hq136 => exact fun _ _ _ h => h
          case hw136 => rfl
          case hy136 => (intro w hSw; (try dsimp only at hSw); go_simp; try exact rfl)
          simp only [Act.put, List.setIfInBounds_toArray, List.set_cons_zero, List.set_cons_succ]
          refine wpAnyH_take (i := 10) (oi := ?o137) (v := ?v137) ?hi137 (by kernel_rfl) (by kernel_rfl) (by kernel_rfl) ?hq137 (Or.inl ⟨?hw137, ?hy137⟩) (by assumption) ?r137
          case hi137 => (simp only [List.getElem?_toArray, List.getElem?_cons_succ, List.getElem?_cons_zero]; exact rfl)
          case hq137 => exact fun _ _ _ h => h
          case hw137 => rfl
          case hy137 => (intro w hSw; (try dsimp only at hSw); go_simp; try exact rfl)
          simp only [Act.put, List.setIfInBounds_toArray, List.set_cons_zero, List.set_cons_succ]
          refine wpAnyH_take (i := 11) (oi := ?o138) (v := ?v138) ?hi138 (by kernel_rfl) (by kernel_rfl) (by kernel_rfl) ?hq138 (Or.inl ⟨?hw138, ?hy138⟩) (by assumption) ?r138
          case hi138 => (simp only [List.getElem?_toArray, List.getElem?_cons_succ, List.getElem?_cons_zero]; exact rfl)
          case hq138 => exact fun _ _ _ h => h
          case hw138 => rfl
          case hy138 => (intro w hSw; (try dsimp only at hSw); go_simp; try exact rfl)
          simp only [Act.put, List.setIfInBounds_toArray, List.set_cons_zero, List.set_cons_succ]
          refine wpAnyH_take (i := 12) (oi := ?o139) (v := ?v139) ?hi139 (by kernel_rfl) (by kernel_rfl) (by kernel_rfl) ?hq139 (Or.inl ⟨?hw139, ?hy139⟩) (by assumption) ?r139
          case hi139 => (simp only [List.getElem?_toArray, List.getElem?_cons_succ, List.getElem?_cons_zero]; exact rfl)
          case hq139 => exact fun _ _ _ h => h
          case hw139 => rfl
          case hy139 => (intro w hSw; (try dsimp only at hSw); go_simp; try exact rfl)
          simp only [Act.put, List.setIfInBounds_toArray, List.set_cons_zero, List.set_cons_succ]
          have y13 := J7.out.frozen 1
          have x13 := J7.out.cell 1
          refine wpAnyH_ready (rs := [13]) (by kernel_rfl) (by simp) ?_
          refine AllReadyH.cons (o := ?o231) ?hi231 (fun K hK => ?_) AllReadyH.nil
          case hi231 => (simp only [List.getElem?_toArray, List.getElem?_cons_succ, List.getElem?_cons_zero]; exact rfl)
          go_simp
          have J13k := Kept.mk (J7.out.set_ 1 (.int .i64 (hf : Nat)))
          have TG13 := Kept.mk (TG7.out.far (p := ⟨N, 1, none⟩) (by simp; omega) (.int .i64 (hf : Nat)))
          refine hK.out _ _ ⟨TG13.out.cell 1, TG13.out.cell 3⟩ (fun _ => ?_)
          clear hK K y13 x13 J7 TG7
          try simp only [Act.put]
          refine wpAnyH_take (i := 14) (oi := ?o140) (v := ?v140) ?hi140 (by kernel_rfl) (by kernel_rfl) (by kernel_rfl) ?hq140 (Or.inl ⟨?hw140, ?hy140⟩) (by assumption) ?r140
          case hi140 => (simp only [List.getElem?_toArray, List.getElem?_cons_succ, List.getElem?_cons_zero]; exact rfl)
          case hq140 => exact fun _ _ _ h => h
          case hw140 => rfl
          case hy140 => (intro w hSw; (try dsimp only at hSw); go_simp; try exact rfl)
          simp only [Act.put, List.setIfInBounds_toArray, List.set_cons_zero, List.set_cons_succ]
          refine wpAnyH_take (i := 15) (oi := ?o141) (v := ?v141) ?hi141 (by kernel_rfl) (by kernel_rfl) (by kernel_rfl) ?hq141 (Or.inl ⟨?hw141, ?hy141⟩) (by assumption) ?r141
          case hi141 => (simp only [List.getElem?_toArray, List.getElem?_cons_succ, List.getElem?_cons_zero]; exact rfl)
          case hq141 => exact fun _ _ _ h => h
          case hw141 => rfl
          case hy141 => (intro w hSw; (try dsimp only at hSw); go_simp; try exact rfl)
          simp only [Act.put, List.setIfInBounds_toArray, List.set_cons_zero, List.set_cons_succ]
          have y16 := J13k.out.frozen 2
          have x16 := J13k.out.cell 2
          refine wpAnyH_ready (rs := [16]) (by kernel_rfl) (by simp) ?_
          refine AllReadyH.cons (o := ?o232) ?hi232 (fun K hK => ?_) AllReadyH.nil
          case hi232 => (simp only [List.getElem?_toArray, List.getElem?_cons_succ, List.getElem?_cons_zero]; exact rfl)
          go_simp
          have J16k := Kept.mk (J13k.out.set_ 2 (.int .i64 fg))
          have TG16 := Kept.mk (TG13.out.far (p := ⟨N, 2, none⟩) (by simp; omega) (.int .i64 fg))
          refine hK.out _ _ ⟨TG16.out.cell 1, TG16.out.cell 3⟩ (fun _ => ?_)
          clear hK K y16 x16 J13k TG13
          try simp only [Act.put]
          refine wpAnyH_take (i := 17) (oi := ?o142) (v := ?v142) ?hi142 (by kernel_rfl) (by kernel_rfl) (by kernel_rfl) ?hq142 (Or.inl ⟨?hw142, ?hy142⟩) (by assumption) ?r142
          case hi142 => (simp only [List.getElem?_toArray, List.getElem?_cons_succ, List.getElem?_cons_zero]; exact rfl)
          case hq142 => exact fun _ _ _ h => h
          case hw142 => rfl
          case hy142 => (intro w hSw; (try dsimp only at hSw); go_simp; try exact rfl)
          simp only [Act.put, List.setIfInBounds_toArray, List.set_cons_zero, List.set_cons_succ]
          refine wpAnyH_take (i := 18) (oi := ?o143) (v := ?v143) ?hi143 (by kernel_rfl) (by kernel_rfl) (by kernel_rfl) ?hq143 (Or.inl ⟨?hw143, ?hy143⟩) (by assumption) ?r143
          case hi143 => (simp only [List.getElem?_toArray, List.getElem?_cons_succ, List.getElem?_cons_zero]; exact rfl)
          case hq143 => exact fun _ _ _ h => h
          case hw143 => rfl
          case hy143 => (intro w hSw; (try dsimp only at hSw); go_simp; try exact rfl)
          simp only [Act.put, List.setIfInBounds_toArray, List.set_cons_zero, List.set_cons_succ]
          have y19 := J16k.out.frozen 3
          have x19 := J16k.out.cell 3
          refine wpAnyH_ready (rs := [19]) (by kernel_rfl) (by simp) ?_
          refine AllReadyH.cons (o := ?o233) ?hi233 (fun K hK => ?_) AllReadyH.nil
          case hi233 => (simp only [List.getElem?_toArray, List.getElem?_cons_succ, List.getElem?_cons_zero]; exact rfl)
          go_simp
          have J19k := Kept.mk (J16k.out.set_ 3 (.bool true))
          have TG19 := Kept.mk (TG16.out.far (p := ⟨N, 3, none⟩) (by simp; omega) (.bool true))
          refine hK.out _ _ ⟨TG19.out.cell 1, TG19.out.cell 3⟩ (fun _ => ?_)
          clear hK K y19 x19 J16k TG16
          try simp only [Act.put]
          refine wpAnyH_take (i := 20) (oi := ?o144) (v := ?v144) ?hi144 (by kernel_rfl) (by kernel_rfl) (by kernel_rfl) ?hq144 (Or.inl ⟨?hw144, ?hy144⟩) (by assumption) ?r144
          case hi144 => (simp only [List.getElem?_toArray, List.getElem?_cons_succ, List.getElem?_cons_zero]; exact rfl)
          case hq144 => exact fun _ _ _ h => h
          case hw144 => rfl
          case hy144 => (intro w hSw; (try dsimp only at hSw); go_simp; try exact rfl)
          simp only [Act.put, List.setIfInBounds_toArray, List.set_cons_zero, List.set_cons_succ]
          refine wpAnyH_take (i := 21) (oi := ?o145) (v := ?v145) ?hi145 (by kernel_rfl) (by kernel_rfl) (by kernel_rfl) ?hq145 (Or.inl ⟨?hw145, ?hy145⟩) (by assumption) ?r145
          case hi145 => (simp only [List.getElem?_toArray, List.getElem?_cons_succ, List.getElem?_cons_zero]; exact rfl)
          case hq145 => exact fun _ _ _ h => h
          case hw145 => rfl
          case hy145 => (intro w hSw; (try dsimp only at hSw); go_simp; try exact rfl)
          simp only [Act.put, List.setIfInBounds_toArray, List.set_cons_zero, List.set_cons_succ]
          have y22 := J19k.out.frozen 4
          have x22 := J19k.out.cell 4
          refine wpAnyH_ready (rs := [22]) (by kernel_rfl) (by simp) ?_
          refine AllReadyH.cons (o := ?o234) ?hi234 (fun K hK => ?_) AllReadyH.nil
          case hi234 => (simp only [List.getElem?_toArray, List.getElem?_cons_succ, List.getElem?_cons_zero]; exact rfl)
          go_simp
          have J22k := Kept.mk (J19k.out.set_ 4 (.slice A3 n3 c3))
          have TG22 := Kept.mk (TG19.out.far (p := ⟨N, 4, none⟩) (by simp; omega) (.slice A3 n3 c3))
          refine hK.out _ _ ⟨TG22.out.cell 1, TG22.out.cell 3⟩ (fun _ => ?_)
          clear hK K y22 x22 J19k TG19
          try simp only [Act.put]
          refine wpAnyH_take (i := 23) (oi := ?o146) (v := ?v146) ?hi146 (by kernel_rfl) (by kernel_rfl) (by kernel_rfl) ?hq146 (Or.inl ⟨?hw146, ?hy146⟩) (by assumption) ?r146
          case hi146 => (simp only [List.getElem?_toArray, List.getElem?_cons_succ, List.getElem?_cons_zero]; exact rfl)
          case hq146 => exact fun _ _ _ h => h
          case hw146 => rfl
          case hy146 => (intro w hSw; (try dsimp only at hSw); go_simp; try exact rfl)
          simp only [Act.put, List.setIfInBounds_toArray, List.set_cons_zero, List.set_cons_succ]
          refine wpAnyH_take (i := 24) (oi := ?o147) (v := ?v147) ?hi147 (by kernel_rfl) (by kernel_rfl) (by kernel_rfl) ?hq147 (Or.inl ⟨?hw147, ?hy147⟩) (by assumption) ?r147
          case hi147 => (simp only [List.getElem?_toArray, List.getElem?_cons_succ, List.getElem?_cons_zero]; exact rfl)
          case hq147 => exact fun _ _ _ h => h
          case hw147 => rfl
          case hy147 => (intro w hSw; (try dsimp only at hSw); go_simp; try exact rfl)
          simp only [Act.put, List.setIfInBounds_toArray, List.set_cons_zero, List.set_cons_succ]
          have y25 := J22k.out.frozen 6
          have x25 := J22k.out.cell 6
          refine wpAnyH_ready (rs := [25]) (by kernel_rfl) (by simp) ?_
          refine AllReadyH.cons (o := ?o235) ?hi235 (fun K hK => ?_) AllReadyH.nil
          case hi235 => (simp only [List.getElem?_toArray, List.getElem?_cons_succ, List.getElem?_cons_zero]; exact rfl)
          go_simp
          have J25k := Kept.mk (J22k.out.set_ 6 (.int .i64 gk))
          have TG25 := Kept.mk (TG22.out.far (p := ⟨N, 6, none⟩) (by simp; omega) (.int .i64 gk))
          refine hK.out _ _ ⟨TG25.out.cell 1, TG25.out.cell 3⟩ (fun _ => ?_)
          clear hK K y25 x25 J22k TG22
          try simp only [Act.put]
          refine wpAnyH_done (by kernel_rfl) ?_ _
          refine NoPanic.normal ?_
          go_wp2
          go_roundw
          case rel => exact ⟨hf + 1, G', by omega, by go_num, ⟨by rw [HV.out, if_pos ⟨rfl, .inl rfl⟩]; exact RHK.out⟩⟩
          case measure => simp [intOf]; omega
        | true =>
          rw [hh3] at HV j3
          by_cases hg : v.gen < fg
          · have hg' : decide (v.gen < fg) = true := by simpa using hg
            go_quiet (fail)
            obtain ⟨gb1, gb2, -, -, -, gb6⟩ := HGB.out rfl
            have R6 := R4.out.below (below_drewN (Below.refl _ _) nq)
            have TG := Kept.mk (TF.out.drewN nq)
            have RD6 := RD.out.below (below_drewN (Below.refl _ _) nq)
            have hT6 : T < (w4.drewN nq).heap.size := TG.out.lt
            generalize w4.drewN nq = w6 at *
            go_upto_region 10 with (fail)
            refine wp_region_noPanic ?_
            have R7 := R6.below (Below.refl _ _).drew
            have TG7 := Kept.mk TG.out.drew
            have RD7 := RD6.below (Below.refl _ _).drew
            have hT7 : T < w6.drew.heap.size := hT6
            refine wp_region_held_drew (S := fun w' : World => w'.cell? ⟨T, 1, none⟩ = some (.int .i64 fg) ∧ w'.cell? ⟨T, 3, none⟩ = some (.slice A3 n3 c3)) (by kernel_rfl) ⟨TG7.out.cell 1, TG7.out.cell 3⟩ (fun hS0 => ?_)
            clear R6 TG RD6 hT6
            generalize w6.drew = w7 at *
            obtain ⟨G', RH⟩ := rop_head (v' := { v with half := hf, gen := fg, has := true, pict := fb, pos := gk.toNat }) R7 RD7 hc3 (by unfold maxLen at hm3; omega) KIN.out.1 (fun k hk => by have := KIN.out.2 k hk; omega) KD.out rfl rfl rfl rfl (by have := VK.out.1; rw [HV.out, if_pos ⟨rfl, .inr hg⟩] at this; exact this)
            simp only at RH
            rw [← gb6] at RH
            clear gb1 gb2 gb6
            have RHK := Kept.mk RH
            obtain ⟨A7, m7, c7, vr7, J7⟩ := R7.cells
            have J7 := Kept.mk J7
            clear RH R7
            refine wpAnyH_take (i := 0) (oi := ?o148) (v := ?v148) ?hi148 (by kernel_rfl) (by kernel_rfl) (by kernel_rfl) ?hq148 (Or.inl ⟨?hw148, ?hy148⟩) (by assumption) ?r148
            case hi148 => (simp only [List.getElem?_toArray, List.getElem?_cons_zero]; exact rfl)
            case hq148 => exact fun _ _ _ h => h
            case hw148 => rfl
            case hy148 => (intro w hSw; (try dsimp only at hSw); go_simp; try exact rfl)
            simp only [Act.put, List.setIfInBounds_toArray, List.set_cons_zero, List.set_cons_succ]
            refine wpAnyH_take (i := 1) (oi := ?o149) (v := ?v149) ?hi149 (by kernel_rfl) (by kernel_rfl) (by kernel_rfl) ?hq149 (Or.inl ⟨?hw149, ?hy149⟩) (by assumption) ?r149
            case hi149 => (simp only [List.getElem?_toArray, List.getElem?_cons_succ, List.getElem?_cons_zero]; exact rfl)
            case hq149 => exact fun _ _ _ h => h
            case hw149 => rfl
            case hy149 => (intro w hSw; (try dsimp only at hSw); go_simp; try exact rfl)
            simp only [Act.put, List.setIfInBounds_toArray, List.set_cons_zero, List.set_cons_succ]
            refine wpAnyH_take (i := 2) (oi := ?o150) (v := ?v150) ?hi150 (by kernel_rfl) (by kernel_rfl) (by kernel_rfl) ?hq150 (Or.inl ⟨?hw150, ?hy150⟩) (by assumption) ?r150
            case hi150 => (simp only [List.getElem?_toArray, List.getElem?_cons_succ, List.getElem?_cons_zero]; exact rfl)
            case hq150 => exact fun _ _ _ h => h
            case hw150 => rfl
            case hy150 => (intro w hSw; (try dsimp only at hSw); go_simp; try exact rfl)
            simp only [Act.put, List.setIfInBounds_toArray, List.set_cons_zero, List.set_cons_succ]
            refine wpAnyH_take (i := 3) (oi := ?o151) (v := ?v151) ?hi151 (by kernel_rfl) (by kernel_rfl) (by kernel_rfl) ?hq151 (Or.inl ⟨?hw151, ?hy151⟩) (by assumption) ?r151
            case hi151 => (simp only [List.getElem?_toArray, List.getElem?_cons_succ, List.getElem?_cons_zero]; exact rfl)
            case hq151 => exact fun _ _ _ h => h
            case hw151 => rfl
            case hy151 => (intro w hSw; (try dsimp only at hSw); go_simp; try exact rfl)
            simp only [Act.put, List.setIfInBounds_toArray, List.set_cons_zero, List.set_cons_succ]
            refine wpAnyH_take (i := 4) (oi := ?o152) (v := ?v152) ?hi152 (by kernel_rfl) (by kernel_rfl) (by kernel_rfl) ?hq152 (Or.inl ⟨?hw152, ?hy152⟩) (by assumption) ?r152
            case hi152 => (simp only [List.getElem?_toArray, List.getElem?_cons_succ, List.getElem?_cons_zero]; exact rfl)
            case hq152 => exact fun _ _ _ h => h
            case hw152 => rfl
            case hy152 => (intro w hSw; (try dsimp only at hSw); go_simp; try exact rfl)
            simp only [Act.put, List.setIfInBounds_toArray, List.set_cons_zero, List.set_cons_succ]
            refine wpAnyH_take (i := 5) (oi := ?o153) (v := ?v153) ?hi153 (by kernel_rfl) (by kernel_rfl) (by kernel_rfl) ?hq153 (Or.inl ⟨?hw153, ?hy153⟩) (by assumption) ?r153
            case hi153 => (simp only [List.getElem?_toArray, List.getElem?_cons_succ, List.getElem?_cons_zero]; exact rfl)
            case hq153 => exact fun _ _ _ h => h
            case hw153 => rfl
            case hy153 => (intro w hSw; (try dsimp only at hSw); go_simp; try exact rfl)
            simp only [Act.put, List.setIfInBounds_toArray, List.set_cons_zero, List.set_cons_succ]
            refine wpAnyH_take (i := 6) (oi := ?o154) (v := ?v154) ?hi154 (by kernel_rfl) (by kernel_rfl) (by kernel_rfl) ?hq154 (Or.inl ⟨?hw154, ?hy154⟩) (by assumption) ?r154
            case hi154 => (simp only [List.getElem?_toArray, List.getElem?_cons_succ, List.getElem?_cons_zero]; exact rfl)
            case hq154 => exact fun _ _ _ h => h
            case hw154 => rfl
            case hy154 => (intro w hSw; (try dsimp only at hSw); go_simp; try exact rfl)
            simp only [Act.put, List.setIfInBounds_toArray, List.set_cons_zero, List.set_cons_succ]
            refine wpAnyH_take (i := 7) (oi := ?o155) (v := ?v155) ?hi155 (by kernel_rfl) (by kernel_rfl) (by kernel_rfl) ?hq155 (Or.inl ⟨?hw155, ?hy155⟩) (by assumption) ?r155
            case hi155 => (simp only [List.getElem?_toArray, List.getElem?_cons_succ, List.getElem?_cons_zero]; exact rfl)
            case hq155 => exact fun _ _ _ h => h
            case hw155 => rfl
            case hy155 => (intro w hSw; (try dsimp only at hSw); go_simp; try exact rfl)
            simp only [Act.put, List.setIfInBounds_toArray, List.set_cons_zero, List.set_cons_succ]
            refine wpAnyH_take (i := 8) (oi := ?o156) (v := ?v156) ?hi156 (by kernel_rfl) (by kernel_rfl) (by kernel_rfl) ?hq156 (Or.inl ⟨?hw156, ?hy156⟩) (by assumption) ?r156
            case hi156 => (simp only [List.getElem?_toArray, List.getElem?_cons_succ, List.getElem?_cons_zero]; exact rfl)
            case hq156 => exact fun _ _ _ h => h
            case hw156 => rfl
            case hy156 => (intro w hSw; (try dsimp only at hSw); go_simp; try exact rfl)
            simp only [Act.put, List.setIfInBounds_toArray, List.set_cons_zero, List.set_cons_succ]
            refine wpAnyH_take (i := 9) (oi := ?o157) (v := ?v157) ?hi157 (by kernel_rfl) (by kernel_rfl) (by kernel_rfl) ?hq157 (Or.inl ⟨?hw157, ?hy157⟩) (by assumption) ?r157
            case hi157 => (simp only [List.getElem?_toArray, List.getElem?_cons_succ, List.getElem?_cons_zero]; exact rfl)
            case hq157 => exact fun _ _ _ h => h
            case hw157 => rfl
            case hy157 => (intro w hSw; (try dsimp only at hSw); go_simp; try exact rfl)
            simp only [Act.put, List.setIfInBounds_toArray, List.set_cons_zero, List.set_cons_succ]
            refine wpAnyH_take (i := 10) (oi := ?o158) (v := ?v158) ?hi158 (by kernel_rfl) (by kernel_rfl) (by kernel_rfl) ?hq158 (Or.inl ⟨?hw158, ?hy158⟩) (by assumption) ?r158
            case hi158 => (simp only [List.getElem?_toArray, List.getElem?_cons_succ, List.getElem?_cons_zero]; exact rfl)
            case hq158 => exact fun _ _ _ h => h
            case hw158 => rfl
            case hy158 => (intro w hSw; (try dsimp only at hSw); go_simp; try exact rfl)
            simp only [Act.put, List.setIfInBounds_toArray, List.set_cons_zero, List.set_cons_succ]
            refine wpAnyH_take (i := 11) (oi := ?o159) (v := ?v159) ?hi159 (by kernel_rfl) (by kernel_rfl) (by kernel_rfl) ?hq159 (Or.inl ⟨?hw159, ?hy159⟩) (by assumption) ?r159
            case hi159 => (simp only [List.getElem?_toArray, List.getElem?_cons_succ, List.getElem?_cons_zero]; exact rfl)
            case hq159 => exact fun _ _ _ h => h
            case hw159 => rfl
            case hy159 => (intro w hSw; (try dsimp only at hSw); go_simp; try exact rfl)
            simp only [Act.put, List.setIfInBounds_toArray, List.set_cons_zero, List.set_cons_succ]
            refine wpAnyH_take (i := 12) (oi := ?o160) (v := ?v160) ?hi160 (by kernel_rfl) (by kernel_rfl) (by kernel_rfl) ?hq160 (Or.inl ⟨?hw160, ?hy160⟩) (by assumption) ?r160
            case hi160 => (simp only [List.getElem?_toArray, List.getElem?_cons_succ, List.getElem?_cons_zero]; exact rfl)
            case hq160 => exact fun _ _ _ h => h
            case hw160 => rfl
            case hy160 => (intro w hSw; (try dsimp only at hSw); go_simp; try exact rfl)
            simp only [Act.put, List.setIfInBounds_toArray, List.set_cons_zero, List.set_cons_succ]
            have y13 := J7.out.frozen 1
            have x13 := J7.out.cell 1
            refine wpAnyH_ready (rs := [13]) (by kernel_rfl) (by simp) ?_
            refine AllReadyH.cons (o := ?o236) ?hi236 (fun K hK => ?_) AllReadyH.nil
            case hi236 => (simp only [List.getElem?_toArray, List.getElem?_cons_succ, List.getElem?_cons_zero]; exact rfl)
            go_simp
            have J13k := Kept.mk (J7.out.set_ 1 (.int .i64 (hf : Nat)))
            have TG13 := Kept.mk (TG7.out.far (p := ⟨N, 1, none⟩) (by simp; omega) (.int .i64 (hf : Nat)))
            refine hK.out _ _ ⟨TG13.out.cell 1, TG13.out.cell 3⟩ (fun _ => ?_)
            clear hK K y13 x13 J7 TG7
            try simp only [Act.put]
            refine wpAnyH_take (i := 14) (oi := ?o161) (v := ?v161) ?hi161 (by kernel_rfl) (by kernel_rfl) (by kernel_rfl) ?hq161 (Or.inl ⟨?hw161, ?hy161⟩) (by assumption) ?r161
            case hi161 => (simp only [List.getElem?_toArray, List.getElem?_cons_succ, List.getElem?_cons_zero]; exact rfl)
            case hq161 => exact fun _ _ _ h => h
            case hw161 => rfl
            case hy161 => (intro w hSw; (try dsimp only at hSw); go_simp; try exact rfl)
            simp only [Act.put, List.setIfInBounds_toArray, List.set_cons_zero, List.set_cons_succ]
            refine wpAnyH_take (i := 15) (oi := ?o162) (v := ?v162) ?hi162 (by kernel_rfl) (by kernel_rfl) (by kernel_rfl) ?hq162 (Or.inl ⟨?hw162, ?hy162⟩) (by assumption) ?r162
            case hi162 => (simp only [List.getElem?_toArray, List.getElem?_cons_succ, List.getElem?_cons_zero]; exact rfl)
            case hq162 => exact fun _ _ _ h => h
            case hw162 => rfl
            case hy162 => (intro w hSw; (try dsimp only at hSw); go_simp; try exact rfl)
            simp only [Act.put, List.setIfInBounds_toArray, List.set_cons_zero, List.set_cons_succ]
            have y16 := J13k.out.frozen 2
            have x16 := J13k.out.cell 2
            refine wpAnyH_ready (rs := [16]) (by kernel_rfl) (by simp) ?_
            refine AllReadyH.cons (o := ?o237) ?hi237 (fun K hK => ?_) AllReadyH.nil
            case hi237 => (simp only [List.getElem?_toArray, List.getElem?_cons_succ, List.getElem?_cons_zero]; exact rfl)
            go_simp
            have J16k := Kept.mk (J13k.out.set_ 2 (.int .i64 fg))
            have TG16 := Kept.mk (TG13.out.far (p := ⟨N, 2, none⟩) (by simp; omega) (.int .i64 fg))
            refine hK.out _ _ ⟨TG16.out.cell 1, TG16.out.cell 3⟩ (fun _ => ?_)
            clear hK K y16 x16 J13k TG13
            try simp only [Act.put]
            refine wpAnyH_take (i := 17) (oi := ?o163) (v := ?v163) ?hi163 (by kernel_rfl) (by kernel_rfl) (by kernel_rfl) ?hq163 (Or.inl ⟨?hw163, ?hy163⟩) (by assumption) ?r163
            case hi163 => (simp only [List.getElem?_toArray, List.getElem?_cons_succ, List.getElem?_cons_zero]; exact rfl)
            case hq163 => exact fun _ _ _ h => h
            case hw163 => rfl
            case hy163 => (intro w hSw; (try dsimp only at hSw); go_simp; try exact rfl)
            simp only [Act.put, List.setIfInBounds_toArray, List.set_cons_zero, List.set_cons_succ]
            refine wpAnyH_take (i := 18) (oi := ?o164) (v := ?v164) ?hi164 (by kernel_rfl) (by kernel_rfl) (by kernel_rfl) ?hq164 (Or.inl ⟨?hw164, ?hy164⟩) (by assumption) ?r164
            case hi164 => (simp only [List.getElem?_toArray, List.getElem?_cons_succ, List.getElem?_cons_zero]; exact rfl)
            case hq164 => exact fun _ _ _ h => h
            case hw164 => rfl
            case hy164 => (intro w hSw; (try dsimp only at hSw); go_simp; try exact rfl)
            simp only [Act.put, List.setIfInBounds_toArray, List.set_cons_zero, List.set_cons_succ]
            have y19 := J16k.out.frozen 3
            have x19 := J16k.out.cell 3
            refine wpAnyH_ready (rs := [19]) (by kernel_rfl) (by simp) ?_
            refine AllReadyH.cons (o := ?o238) ?hi238 (fun K hK => ?_) AllReadyH.nil
            case hi238 => (simp only [List.getElem?_toArray, List.getElem?_cons_succ, List.getElem?_cons_zero]; exact rfl)
            go_simp
            have J19k := Kept.mk (J16k.out.set_ 3 (.bool true))
            have TG19 := Kept.mk (TG16.out.far (p := ⟨N, 3, none⟩) (by simp; omega) (.bool true))
            refine hK.out _ _ ⟨TG19.out.cell 1, TG19.out.cell 3⟩ (fun _ => ?_)
            clear hK K y19 x19 J16k TG16
            try simp only [Act.put]
            refine wpAnyH_take (i := 20) (oi := ?o165) (v := ?v165) ?hi165 (by kernel_rfl) (by kernel_rfl) (by kernel_rfl) ?hq165 (Or.inl ⟨?hw165, ?hy165⟩) (by assumption) ?r165
            case hi165 => (simp only [List.getElem?_toArray, List.getElem?_cons_succ, List.getElem?_cons_zero]; exact rfl)
            case hq165 => exact fun _ _ _ h => h
            case hw165 => rfl
            case hy165 => (intro w hSw; (try dsimp only at hSw); go_simp; try exact rfl)
            simp only [Act.put, List.setIfInBounds_toArray, List.set_cons_zero, List.set_cons_succ]
            refine wpAnyH_take (i := 21) (oi := ?o166) (v := ?v166) ?hi166 (by kernel_rfl) (by kernel_rfl) (by kernel_rfl) ?hq166 (Or.inl ⟨?hw166, ?hy166⟩) (by assumption) ?r166
            case hi166 => (simp only [List.getElem?_toArray, List.getElem?_cons_succ, List.getElem?_cons_zero]; exact rfl)
            case hq166 => exact fun _ _ _ h => h
            case hw166 => rfl
            case hy166 => (intro w hSw; (try dsimp only at hSw); go_simp; try exact rfl)
            simp only [Act.put, List.setIfInBounds_toArray, List.set_cons_zero, List.set_cons_succ]
            have y22 := J19k.out.frozen 4
            have x22 := J19k.out.cell 4
            refine wpAnyH_ready (rs := [22]) (by kernel_rfl) (by simp) ?_
            refine AllReadyH.cons (o := ?o239) ?hi239 (fun K hK => ?_) AllReadyH.nil
            case hi239 => (simp only [List.getElem?_toArray, List.getElem?_cons_succ, List.getElem?_cons_zero]; exact rfl)
            go_simp
            have J22k := Kept.mk (J19k.out.set_ 4 (.slice A3 n3 c3))
            have TG22 := Kept.mk (TG19.out.far (p := ⟨N, 4, none⟩) (by simp; omega) (.slice A3 n3 c3))
            refine hK.out _ _ ⟨TG22.out.cell 1, TG22.out.cell 3⟩ (fun _ => ?_)
            clear hK K y22 x22 J19k TG19
            try simp only [Act.put]
            refine wpAnyH_take (i := 23) (oi := ?o167) (v := ?v167) ?hi167 (by kernel_rfl) (by kernel_rfl) (by kernel_rfl) ?hq167 (Or.inl ⟨?hw167, ?hy167⟩) (by assumption) ?r167
            case hi167 => (simp only [List.getElem?_toArray, List.getElem?_cons_succ, List.getElem?_cons_zero]; exact rfl)
            case hq167 => exact fun _ _ _ h => h
            case hw167 => rfl
            case hy167 => (intro w hSw; (try dsimp only at hSw); go_simp; try exact rfl)
            simp only [Act.put, List.setIfInBounds_toArray, List.set_cons_zero, List.set_cons_succ]
            refine wpAnyH_take (i := 24) (oi := ?o168) (v := ?v168) ?hi168 (by kernel_rfl) (by kernel_rfl) (by kernel_rfl) ?hq168 (Or.inl ⟨?hw168, ?hy168⟩) (by assumption) ?r168
            case hi168 => (simp only [List.getElem?_toArray, List.getElem?_cons_succ, List.getElem?_cons_zero]; exact rfl)
            case hq168 => exact fun _ _ _ h => h
            case hw168 => rfl
            case hy168 => (intro w hSw; (try dsimp only at hSw); go_simp; try exact rfl)
            simp only [Act.put, List.setIfInBounds_toArray, List.set_cons_zero, List.set_cons_succ]
            have y25 := J22k.out.frozen 6
            have x25 := J22k.out.cell 6
            refine wpAnyH_ready (rs := [25]) (by kernel_rfl) (by simp) ?_
            refine AllReadyH.cons (o := ?o240) ?hi240 (fun K hK => ?_) AllReadyH.nil
            case hi240 => (simp only [List.getElem?_toArray, List.getElem?_cons_succ, List.getElem?_cons_zero]; exact rfl)
            go_simp
            have J25k := Kept.mk (J22k.out.set_ 6 (.int .i64 gk))
            have TG25 := Kept.mk (TG22.out.far (p := ⟨N, 6, none⟩) (by simp; omega) (.int .i64 gk))
            refine hK.out _ _ ⟨TG25.out.cell 1, TG25.out.cell 3⟩ (fun _ => ?_)
            clear hK K y25 x25 J22k TG22
            try simp only [Act.put]
            refine wpAnyH_done (by kernel_rfl) ?_ _
            refine NoPanic.normal ?_
            go_wp2
            go_roundw
            case rel => exact ⟨hf + 1, G', by omega, by go_num, ⟨by rw [HV.out, if_pos ⟨rfl, .inr hg⟩]; exact RHK.out⟩⟩
            case measure => simp [intOf]; omega
          · have hg' : decide (v.gen < fg) = false := by simpa using hg
            go_quiet (fail)
            have R6 := Kept.mk (R4.out.below (below_drewN (Below.refl _ _) nq))
            generalize w4.drewN nq = w6 at *
            go_wp2
            go_roundw
            case rel => exact ⟨hf + 1, G, by omega, by go_num, ⟨by rw [HV.out, if_neg (by simp [hg])]; exact R6.out⟩⟩
            case measure => simp [intOf]; omega
    · obtain rfl : hf = 2 := by omega
      clear h2
      have hlim : ¬ ((2 : Nat) : Int) < 2 := by omega
      have HOP : Kept (recsJ s (hn s) (headsJ s 2) = openJ s) := ⟨by unfold openJ; rw [if_neg (by simp [hd])]; rfl⟩
      have VK2 := Kept.mk (heads_vok HWF.out 2 (by omega))
      go_wp2
      go_loopg [8, 9, 10] (hn s) (fun gn _f _k _e wr => ∃ (v : JV) (G : List Nat), Kept (recsJ s gn v = openJ s) ∧ Kept (hn s ≤ v.pos + gn) ∧ Kept (v.dead = false ∧ VOk v) ∧ Kept (Rop w wr F G N y n s v))
      case atStart => exact ⟨headsJ s 2, G, HOP, ⟨by omega⟩, ⟨VK2.out.2.2, VK2.out.1⟩, R⟩
      case round =>
        clear R HOP VK2
        obtain ⟨v, G, HE, HP, HV, R⟩ := hrel
        have hvh : v.half ≤ 1 := by rcases HV.out.2.half with e | e <;> omega
        have hvp := HV.out.2.pos
        have ct := Kept.mk fun (w' : World) (d' : Dr w' F y n s) (hx : w'.cell? ⟨N, 0, none⟩ = some (.pointer (some ⟨y, 0, none⟩))) => rtext_any2 d' hd hx v.half v.pos hvh hvp
        have HTB := Kept.mk (text_bytes HWF.out (half := v.half) (m := v.pos) hvh)
        have HTL := Kept.mk (text_len HWF.out (half := v.half) (m := v.pos) hvh)
        have HMO : Kept (moreJ s v ↔ (getF (textJ s v.half v.pos)).2.2 = 0 ∧ (getF (textJ s v.half v.pos)).1.kind = 2 ∧ (getF (textJ s v.half v.pos)).1.gen = v.gen ∧ (getF (textJ s v.half v.pos)).1.seq = v.seq) := ⟨Iff.rfl⟩
        have HNX : Kept (nextJ s v = { v with recs := v.recs ++ [(getF (textJ s v.half v.pos)).1.body], pos := v.pos + (getF (textJ s v.half v.pos)).2.1.toNat, seq := v.seq + 1 }) := ⟨rfl⟩
        have HGB := Kept.mk fun e => getF_bounds HTB.out e
        obtain ⟨b, hb⟩ : ∃ b, textJ s v.half v.pos = b := ⟨_, rfl⟩
        rw [hb] at ct HTB HTL HMO HNX HGB
        clear hb
        obtain ⟨gk1, hgk1⟩ : ∃ x, gk = x := ⟨_, rfl⟩
        rw [hgk1] at HE HP
        obtain ⟨⟨⟨fk, fg, fs, fb⟩, gk2, ge⟩, hg⟩ : ∃ g, getF b = g := ⟨_, rfl⟩
        have cg := Kept.mk fun (w' : World) (A : Option Addr) (c : Nat) (r : Rd w' A b.length b) (h1 : b.length ≤ c) (h2 : c ≤ 9223372036854775807) => rget_new A b.length c b w' r h1 h2
        rw [hg] at HMO HNX HGB cg
        simp only at HMO HNX HGB
        clear hg
        have x1 := R.out.two.1
        have x6 := R.out.two.2
        go_upto_region 11 with (fail)
        go_cut [8, 9, 10] (fun fp kk ee wx => ∃ (T : Nat) (A : Option Addr) (m c : Nat) (K3 : List Nat), fp = .pointer (some ⟨T, 0, none⟩) ∧ kk = .int .i64 gk2 ∧ ee = .int .i64 ge ∧ m ≤ c ∧ c ≤ maxLen ∧ N < T ∧ Kept (Rop w wx F G N y n s v) ∧ Kept (Blk wx T 90 #[.int .i64 fk, .int .i64 fg, .int .i64 fs, .slice A m c]) ∧ Kept (Rd wx A m fb) ∧ Kept (In A m K3 ∧ ∀ k ∈ K3, N < k ∧ k < wx.heap.size) ∧ Kept (T ∉ K3 ∧ (∀ k ∈ F ++ G, k < T) ∧ ∀ k ∈ K3, k ∉ F ++ G))
        case first =>
          refine wp_region_noPanic ?_
          have R2 := Kept.mk (R.out.below (Below.refl _ _).drew)
          refine wp_region_held_drew (S := fun w' : World => w'.cell? ⟨N, 1, none⟩ = some (.int .i64 (v.half : Nat)) ∧ w'.cell? ⟨N, 6, none⟩ = some (.int .i64 (v.pos : Nat))) (by kernel_rfl) R2.out.two (fun hS0 => ?_)
          clear R x1 x6
          generalize wr.drew = w2 at *
          refine wpAnyH_take (i := 0) (oi := ?o169) (v := ?v169) ?hi169 (by kernel_rfl) (by kernel_rfl) (by kernel_rfl) ?hq169 (Or.inl ⟨?hw169, ?hy169⟩) (by assumption) ?r169
          case hi169 => (simp only [List.getElem?_toArray, List.getElem?_cons_zero]; exact rfl)
          case hq169 => exact fun _ _ _ h => h
          case hw169 => rfl
          case hy169 => (intro w hSw; (try dsimp only at hSw); go_simp; try exact rfl)
          simp only [Act.put, List.setIfInBounds_toArray, List.set_cons_zero, List.set_cons_succ]
          refine wpAnyH_take (i := 1) (oi := ?o170) (v := ?v170) ?hi170 (by kernel_rfl) (by kernel_rfl) (by kernel_rfl) ?hq170 (Or.inl ⟨?hw170, ?hy170⟩) (by assumption) ?r170
          case hi170 => (simp only [List.getElem?_toArray, List.getElem?_cons_succ, List.getElem?_cons_zero]; exact rfl)
          case hq170 => exact fun _ _ _ h => h
          case hw170 => rfl
          case hy170 => (intro w hSw; (try dsimp only at hSw); go_simp; try exact rfl)
          simp only [Act.put, List.setIfInBounds_toArray, List.set_cons_zero, List.set_cons_succ]
          refine wpAnyH_take (i := 2) (oi := ?o171) (v := ?v171) ?hi171 (by kernel_rfl) (by kernel_rfl) (by kernel_rfl) ?hq171 (Or.inl ⟨?hw171, ?hy171⟩) (by assumption) ?r171
          case hi171 => (simp only [List.getElem?_toArray, List.getElem?_cons_succ, List.getElem?_cons_zero]; exact rfl)
          case hq171 => exact fun _ _ _ h => h
          case hw171 => rfl
          case hy171 => (intro w hSw; (try dsimp only at hSw); go_simp; try exact rfl)
          simp only [Act.put, List.setIfInBounds_toArray, List.set_cons_zero, List.set_cons_succ]
          refine wpAnyH_take (i := 3) (oi := ?o172) (v := ?v172) ?hi172 (by kernel_rfl) (by kernel_rfl) (by kernel_rfl) ?hq172 (Or.inl ⟨?hw172, ?hy172⟩) (by assumption) ?r172
          case hi172 => (simp only [List.getElem?_toArray, List.getElem?_cons_succ, List.getElem?_cons_zero]; exact rfl)
          case hq172 => exact fun _ _ _ h => h
          case hw172 => rfl
          case hy172 => (intro w hSw; (try dsimp only at hSw); go_simp; try exact rfl)
          simp only [Act.put, List.setIfInBounds_toArray, List.set_cons_zero, List.set_cons_succ]
          refine wpAnyH_take (i := 4) (oi := ?o173) (v := ?v173) ?hi173 (by kernel_rfl) (by kernel_rfl) (by kernel_rfl) ?hq173 (Or.inl ⟨?hw173, ?hy173⟩) (by assumption) ?r173
          case hi173 => (simp only [List.getElem?_toArray, List.getElem?_cons_succ, List.getElem?_cons_zero]; exact rfl)
          case hq173 => exact fun _ _ _ h => h
          case hw173 => rfl
          case hy173 => (intro w hSw; (try dsimp only at hSw); go_simp; try exact rfl)
          simp only [Act.put, List.setIfInBounds_toArray, List.set_cons_zero, List.set_cons_succ]
          refine wpAnyH_take (i := 5) (oi := ?o174) (v := ?v174) ?hi174 (by kernel_rfl) (by kernel_rfl) (by kernel_rfl) ?hq174 (Or.inl ⟨?hw174, ?hy174⟩) (by assumption) ?r174
          case hi174 => (simp only [List.getElem?_toArray, List.getElem?_cons_succ, List.getElem?_cons_zero]; exact rfl)
          case hq174 => exact fun _ _ _ h => h
          case hw174 => rfl
          case hy174 => (intro w hSw; (try dsimp only at hSw); go_simp; try exact rfl)
          simp only [Act.put, List.setIfInBounds_toArray, List.set_cons_zero, List.set_cons_succ]
          refine wpAnyH_take (i := 6) (oi := ?o175) (v := ?v175) ?hi175 (by kernel_rfl) (by kernel_rfl) (by kernel_rfl) ?hq175 (Or.inl ⟨?hw175, ?hy175⟩) (by assumption) ?r175
          case hi175 => (simp only [List.getElem?_toArray, List.getElem?_cons_succ, List.getElem?_cons_zero]; exact rfl)
          case hq175 => exact fun _ _ _ h => h
          case hw175 => rfl
          case hy175 => (intro w hSw; (try dsimp only at hSw); go_simp; try exact rfl)
          simp only [Act.put, List.setIfInBounds_toArray, List.set_cons_zero, List.set_cons_succ]
          refine wpAnyH_take (i := 7) (oi := ?o176) (v := ?v176) ?hi176 (by kernel_rfl) (by kernel_rfl) (by kernel_rfl) ?hq176 (Or.inl ⟨?hw176, ?hy176⟩) (by assumption) ?r176
          case hi176 => (simp only [List.getElem?_toArray, List.getElem?_cons_succ, List.getElem?_cons_zero]; exact rfl)
          case hq176 => exact fun _ _ _ h => h
          case hw176 => rfl
          case hy176 => (intro w hSw; (try dsimp only at hSw); go_simp; try exact rfl)
          simp only [Act.put, List.setIfInBounds_toArray, List.set_cons_zero, List.set_cons_succ]
          refine wpAnyH_take (i := 8) (oi := ?o177) (v := ?v177) ?hi177 (by kernel_rfl) (by kernel_rfl) (by kernel_rfl) ?hq177 (Or.inl ⟨?hw177, ?hy177⟩) (by assumption) ?r177
          case hi177 => (simp only [List.getElem?_toArray, List.getElem?_cons_succ, List.getElem?_cons_zero]; exact rfl)
          case hq177 => exact fun _ _ _ h => h
          case hw177 => rfl
          case hy177 => (intro w hSw; (try dsimp only at hSw); go_simp; try exact rfl)
          simp only [Act.put, List.setIfInBounds_toArray, List.set_cons_zero, List.set_cons_succ]
          refine wpAnyH_ready (rs := [9, 15]) (by kernel_rfl) (by simp) ?_
          refine AllReadyH.cons (o := ?o227) ?hi227 (fun K hK => ?_) (AllReadyH.cons (o := ?o228) ?hi228 (fun K hK => ?_) AllReadyH.nil)
          case hi227 => (simp only [List.getElem?_toArray, List.getElem?_cons_succ, List.getElem?_cons_zero]; exact rfl)
          case hi228 => (simp only [List.getElem?_toArray, List.getElem?_cons_succ, List.getElem?_cons_zero]; exact rfl)
          · go_simp
            go_at_call 34
            refine (ct.out _ R2.out.1 R2.out.zero).mono ?_
            rintro e w3 ⟨A3, c3, rfl, o3, b3⟩
            obtain ⟨A3', c3', ee, k1, k2, r3⟩ := own_rd o3 HTB.out
            injection ee with e1 e2 e3
            subst e1 e3
            have R2t := Kept.mk (R2.out.below b3)
            have RT := Kept.mk r3
            refine hK.out _ _ R2t.out.two (fun hS1 => ?_)
            clear hK K o3 r3 R2
            try simp only [Act.put, List.setIfInBounds_toArray, List.set_cons_zero, List.set_cons_succ]
            clear b3
            refine wpAnyH_ready (rs := [10, 15]) (by kernel_rfl) (by simp) ?_
            refine AllReadyH.cons (o := ?o229) ?hi229 (fun K hK => ?_) (AllReadyH.cons (o := ?o230) ?hi230 (fun K hK => ?_) AllReadyH.nil)
            case hi229 => (simp only [List.getElem?_toArray, List.getElem?_cons_succ, List.getElem?_cons_zero]; exact rfl)
            case hi230 => (simp only [List.getElem?_toArray, List.getElem?_cons_succ, List.getElem?_cons_zero]; exact rfl)
            · go_simp
              go_at_call 33
              refine (cg.out _ A3 c3 RT.out k1 k2).mono ?_
              rintro e w4 ⟨A4, n4, c4, rfl, h41, h42, r4, b4, o4⟩
              simp only at r4 ⊢
              have R2tg := Kept.mk (R2t.out.below b4)
              obtain ⟨K3, in3, hK3⟩ := in_new r4 o4
              refine hK.out _ _ R2tg.out.two (fun hS2 => ?_)
              clear hK K
              try simp only [Act.put, List.setIfInBounds_toArray, List.set_cons_zero, List.set_cons_succ]
              refine wpAnyH_take (i := 11) (oi := ?o178) (v := ?v178) ?hi178 (by kernel_rfl) (by kernel_rfl) (by kernel_rfl) ?hq178 (Or.inl ⟨?hw178, ?hy178⟩) (by assumption) ?r178
              case hi178 => (simp only [List.getElem?_toArray, List.getElem?_cons_succ, List.getElem?_cons_zero]; exact rfl)
              case hq178 => exact fun _ _ _ h => h
              case hw178 => rfl
              case hy178 => (intro w hSw; (try dsimp only at hSw); go_simp; try exact rfl)
              simp only [Act.put, List.setIfInBounds_toArray, List.set_cons_zero, List.set_cons_succ]
              refine wpAnyH_take (i := 12) (oi := ?o179) (v := ?v179) ?hi179 (by kernel_rfl) (by kernel_rfl) (by kernel_rfl) ?hq179 (Or.inl ⟨?hw179, ?hy179⟩) (by assumption) ?r179
              case hi179 => (simp only [List.getElem?_toArray, List.getElem?_cons_succ, List.getElem?_cons_zero]; exact rfl)
              case hq179 => exact fun _ _ _ h => h
              case hw179 => rfl
              case hy179 => (intro w hSw; (try dsimp only at hSw); go_simp; try exact rfl)
              simp only [Act.put, List.setIfInBounds_toArray, List.set_cons_zero, List.set_cons_succ]
              refine wpAnyH_take (i := 13) (oi := ?o180) (v := ?v180) ?hi180 (by kernel_rfl) (by kernel_rfl) (by kernel_rfl) ?hq180 (Or.inl ⟨?hw180, ?hy180⟩) (by assumption) ?r180
              case hi180 => (simp only [List.getElem?_toArray, List.getElem?_cons_succ, List.getElem?_cons_zero]; exact rfl)
              case hq180 => exact fun _ _ _ h => h
              case hw180 => rfl
              case hy180 => (intro w hSw; (try dsimp only at hSw); go_simp; try exact rfl)
              simp only [Act.put, List.setIfInBounds_toArray, List.set_cons_zero, List.set_cons_succ]
              refine wpAnyH_take (i := 14) (oi := ?o181) (v := ?v181) ?hi181 (by kernel_rfl) (by kernel_rfl) (by kernel_rfl) ?hq181 (Or.inl ⟨?hw181, ?hy181⟩) (by assumption) ?r181
              case hi181 => (simp only [List.getElem?_toArray, List.getElem?_cons_succ, List.getElem?_cons_zero]; exact rfl)
              case hq181 => exact fun _ _ _ h => h
              case hw181 => rfl
              case hy181 => (intro w hSw; (try dsimp only at hSw); go_simp; try exact rfl)
              simp only [Act.put, List.setIfInBounds_toArray, List.set_cons_zero, List.set_cons_succ]
              refine wpAnyH_ready (rs := [15]) (by kernel_rfl) (by simp) ?_
              refine AllReadyH.cons (o := ?o241) ?hi241 (fun K hK => ?_) AllReadyH.nil
              case hi241 => (simp only [List.getElem?_toArray, List.getElem?_cons_succ, List.getElem?_cons_zero]; exact rfl)
              go_simp
              obtain ⟨T, hT⟩ : ∃ T, w4.heap.size = T := ⟨_, rfl⟩
              have ba : Below w4.heap.size w4 (w4.alloc (.cells #[.int .i64 0, .int .i64 0, .int .i64 0, .slice none 0 0] 90)) := (Below.refl _ _).alloc (Nat.le_refl _) _
              have R2tga := Kept.mk (R2tg.out.below ba)
              have TZ := Kept.mk (Blk.new_at w4 90 #[.int .i64 0, .int .i64 0, .int .i64 0, .slice none 0 0] T hT.symm)
              have HLT : Kept (∀ k ∈ F ++ G, k < T) := ⟨by rw [← hT]; exact R2tg.out.lts⟩
              have hNT : N < T := by rw [← hT]; exact R2tg.out.size
              have hTs : T < (w4.alloc (.cells #[.int .i64 0, .int .i64 0, .int .i64 0, .slice none 0 0] 90)).heap.size := TZ.out.lt
              rw [hT]
              refine hK.out _ _ R2tga.out.two (fun hS3 => ?_)
              clear hK K
              try simp only [Act.put, List.setIfInBounds_toArray, List.set_cons_zero, List.set_cons_succ]
              have RDz := r4.below ba
              have hKs : ∀ k ∈ K3, k < (w4.alloc (.cells #[.int .i64 0, .int .i64 0, .int .i64 0, .slice none 0 0] 90)).heap.size := fun k hk => Nat.lt_of_lt_of_le (hK3 k hk).2 ba.size
              have hK1 : ∀ k ∈ K3, N < k := fun k hk => by have := (hK3 k hk).1; have := R2t.out.size; omega
              have hTK : T ∉ K3 := fun hk => by have := (hK3 T hk).2; omega
              have hKD : ∀ k ∈ K3, k ∉ F ++ G := fun k hk h => by have := (hK3 k hk).1; have := R2t.out.lts k h; omega
              have OT : Off A4 n4 [T] := r4.off (by intro k hk; rw [List.mem_singleton] at hk; omega)
              clear r4 b4 o4 R2t R2tg ba hK3 hT
              generalize w4.alloc (.cells #[.int .i64 0, .int .i64 0, .int .i64 0, .slice none 0 0] 90) = w5 at *
              have z0 := TZ.out.frozen 0; have z1 := TZ.out.frozen 1; have z2 := TZ.out.frozen 2; have z3 := TZ.out.frozen 3
              have y0 := TZ.out.cell 0; have y1 := TZ.out.cell 1; have y2 := TZ.out.cell 2; have y3 := TZ.out.cell 3
              have P4 := put4 TZ.out (.int .i64 fk) (.int .i64 fg) (.int .i64 fs) (.slice A4 n4 c4)
              have RF := Kept.mk (rop_store R2tga.out HLT.out hNT P4.2)
              have TF6 := Kept.mk P4.1
              have RD6 := Kept.mk (RDz.far P4.2 OT)
              have KI6 := Kept.mk (And.intro in3 (fun k (hk : k ∈ K3) => And.intro (show N < k by exact hK1 k hk) (Nat.lt_of_lt_of_le ((hKs k hk)) P4.2.size)))
              clear P4 R2tga TZ
              refine wpAnyH_ready (rs := [16]) (by kernel_rfl) (by simp) ?_
              refine AllReadyH.cons (o := ?o242) ?hi242 (fun K hK => ?_) AllReadyH.nil
              case hi242 => (simp only [List.getElem?_toArray, List.getElem?_cons_succ, List.getElem?_cons_zero]; exact rfl)
              go_simp
              refine hK.out _ _ RF.out.two (fun hS4 => ?_)
              clear hK K z0 z1 z2 z3 y0 y1 y2 y3
              try simp only [Act.put]
              refine wpAnyH_take (i := 17) (oi := ?o182) (v := ?v182) ?hi182 (by kernel_rfl) (by kernel_rfl) (by kernel_rfl) ?hq182 (Or.inl ⟨?hw182, ?hy182⟩) (by assumption) ?r182
              case hi182 => (simp only [List.getElem?_toArray, List.getElem?_cons_succ, List.getElem?_cons_zero]; exact rfl)
              case hq182 => exact fun _ _ _ h => h
              case hw182 => rfl
              case hy182 => (intro w hSw; (try dsimp only at hSw); go_simp; try exact rfl)
              simp only [Act.put, List.setIfInBounds_toArray, List.set_cons_zero, List.set_cons_succ]
              refine wpAnyH_take (i := 18) (oi := ?o183) (v := ?v183) ?hi183 (by kernel_rfl) (by kernel_rfl) (by kernel_rfl) ?hq183 (Or.inl ⟨?hw183, ?hy183⟩) (by assumption) ?r183
              case hi183 => (simp only [List.getElem?_toArray, List.getElem?_cons_succ, List.getElem?_cons_zero]; exact rfl)
              case hq183 => exact fun _ _ _ h => h
              case hw183 => rfl
              case hy183 => (intro w hSw; (try dsimp only at hSw); go_simp; try exact rfl)
              simp only [Act.put, List.setIfInBounds_toArray, List.set_cons_zero, List.set_cons_succ]
              refine wpAnyH_done (by kernel_rfl) ?_ _
              refine NoPanic.normal ?_
              clear hS0
              go_wp2
              go_meet
              case rel => exact ⟨T, A4, n4, c4, K3, rfl, rfl, rfl, h41, h42, hNT, RF, TF6, RD6, KI6, ⟨hTK, HLT.out, hKD⟩⟩
            · go_simp
              obtain ⟨T, hT⟩ : ∃ T, w3.heap.size = T := ⟨_, rfl⟩
              have ba : Below w3.heap.size w3 (w3.alloc (.cells #[.int .i64 0, .int .i64 0, .int .i64 0, .slice none 0 0] 90)) := (Below.refl _ _).alloc (Nat.le_refl _) _
              have R2ta := Kept.mk (R2t.out.below ba)
              have TZ := Kept.mk (Blk.new_at w3 90 #[.int .i64 0, .int .i64 0, .int .i64 0, .slice none 0 0] T hT.symm)
              have HLT : Kept (∀ k ∈ F ++ G, k < T) := ⟨by rw [← hT]; exact R2t.out.lts⟩
              have hNT : N < T := by rw [← hT]; exact R2t.out.size
              have hTs : T < (w3.alloc (.cells #[.int .i64 0, .int .i64 0, .int .i64 0, .slice none 0 0] 90)).heap.size := TZ.out.lt
              rw [hT]
              refine hK.out _ _ R2ta.out.two (fun hS3 => ?_)
              clear hK K
              try simp only [Act.put, List.setIfInBounds_toArray, List.set_cons_zero, List.set_cons_succ]
              have RT2 := Kept.mk (RT.out.below ba)
              clear RT R2t ba hT
              generalize w3.alloc (.cells #[.int .i64 0, .int .i64 0, .int .i64 0, .slice none 0 0] 90) = w3a at *
              refine wpAnyH_ready (rs := [10]) (by kernel_rfl) (by simp) ?_
              refine AllReadyH.cons (o := ?o243) ?hi243 (fun K hK => ?_) AllReadyH.nil
              case hi243 => (simp only [List.getElem?_toArray, List.getElem?_cons_succ, List.getElem?_cons_zero]; exact rfl)
              go_simp
              go_at_call 33
              refine (cg.out _ A3 c3 RT2.out k1 k2).mono ?_
              rintro e w5 ⟨A4, n4, c4, rfl, h41, h42, r4, b4, o4⟩
              simp only at r4 ⊢
              have R2tag := Kept.mk (R2ta.out.below b4)
              obtain ⟨K3, in3, hK3⟩ := in_new r4 o4
              refine hK.out _ _ R2tag.out.two (fun hS2 => ?_)
              clear hK K
              try simp only [Act.put, List.setIfInBounds_toArray, List.set_cons_zero, List.set_cons_succ]
              have TZ2 := Kept.mk (TZ.out.below b4 hTs)
              have hKs : ∀ k ∈ K3, k < w5.heap.size := fun k hk => (hK3 k hk).2
              have hK1 : ∀ k ∈ K3, N < k := fun k hk => by have := (hK3 k hk).1; omega
              have hTK : T ∉ K3 := fun hk => by have := (hK3 T hk).1; omega
              have hKD : ∀ k ∈ K3, k ∉ F ++ G := fun k hk h => by have := (hK3 k hk).1; have := R2ta.out.lts k h; omega
              have OT : Off A4 n4 [T] := o4 _ (by intro k hk; rw [List.mem_singleton] at hk; omega)
              clear b4 o4 R2ta TZ hK3
              refine wpAnyH_take (i := 11) (oi := ?o184) (v := ?v184) ?hi184 (by kernel_rfl) (by kernel_rfl) (by kernel_rfl) ?hq184 (Or.inl ⟨?hw184, ?hy184⟩) (by assumption) ?r184
              case hi184 => (simp only [List.getElem?_toArray, List.getElem?_cons_succ, List.getElem?_cons_zero]; exact rfl)
              case hq184 => exact fun _ _ _ h => h
              case hw184 => rfl
              case hy184 => (intro w hSw; (try dsimp only at hSw); go_simp; try exact rfl)
              simp only [Act.put, List.setIfInBounds_toArray, List.set_cons_zero, List.set_cons_succ]
              refine wpAnyH_take (i := 12) (oi := ?o185) (v := ?v185) ?hi185 (by kernel_rfl) (by kernel_rfl) (by kernel_rfl) ?hq185 (Or.inl ⟨?hw185, ?hy185⟩) (by assumption) ?r185
              case hi185 => (simp only [List.getElem?_toArray, List.getElem?_cons_succ, List.getElem?_cons_zero]; exact rfl)
              case hq185 => exact fun _ _ _ h => h
              case hw185 => rfl
              case hy185 => (intro w hSw; (try dsimp only at hSw); go_simp; try exact rfl)
              simp only [Act.put, List.setIfInBounds_toArray, List.set_cons_zero, List.set_cons_succ]
              refine wpAnyH_take (i := 13) (oi := ?o186) (v := ?v186) ?hi186 (by kernel_rfl) (by kernel_rfl) (by kernel_rfl) ?hq186 (Or.inl ⟨?hw186, ?hy186⟩) (by assumption) ?r186
              case hi186 => (simp only [List.getElem?_toArray, List.getElem?_cons_succ, List.getElem?_cons_zero]; exact rfl)
              case hq186 => exact fun _ _ _ h => h
              case hw186 => rfl
              case hy186 => (intro w hSw; (try dsimp only at hSw); go_simp; try exact rfl)
              simp only [Act.put, List.setIfInBounds_toArray, List.set_cons_zero, List.set_cons_succ]
              refine wpAnyH_take (i := 14) (oi := ?o187) (v := ?v187) ?hi187 (by kernel_rfl) (by kernel_rfl) (by kernel_rfl) ?hq187 (Or.inl ⟨?hw187, ?hy187⟩) (by assumption) ?r187
              case hi187 => (simp only [List.getElem?_toArray, List.getElem?_cons_succ, List.getElem?_cons_zero]; exact rfl)
              case hq187 => exact fun _ _ _ h => h
              case hw187 => rfl
              case hy187 => (intro w hSw; (try dsimp only at hSw); go_simp; try exact rfl)
              simp only [Act.put, List.setIfInBounds_toArray, List.set_cons_zero, List.set_cons_succ]
              have z0 := TZ2.out.frozen 0; have z1 := TZ2.out.frozen 1; have z2 := TZ2.out.frozen 2; have z3 := TZ2.out.frozen 3
              have y0 := TZ2.out.cell 0; have y1 := TZ2.out.cell 1; have y2 := TZ2.out.cell 2; have y3 := TZ2.out.cell 3
              have P4 := put4 TZ2.out (.int .i64 fk) (.int .i64 fg) (.int .i64 fs) (.slice A4 n4 c4)
              have RF := Kept.mk (rop_store R2tag.out HLT.out hNT P4.2)
              have TF6 := Kept.mk P4.1
              have RD6 := Kept.mk (r4.far P4.2 OT)
              have KI6 := Kept.mk (And.intro in3 (fun k (hk : k ∈ K3) => And.intro (show N < k by exact hK1 k hk) (Nat.lt_of_lt_of_le ((hKs k hk)) P4.2.size)))
              clear P4 R2tag TZ2
              refine wpAnyH_ready (rs := [16]) (by kernel_rfl) (by simp) ?_
              refine AllReadyH.cons (o := ?o244) ?hi244 (fun K hK => ?_) AllReadyH.nil
              case hi244 => (simp only [List.getElem?_toArray, List.getElem?_cons_succ, List.getElem?_cons_zero]; exact rfl)
              go_simp
              refine hK.out _ _ RF.out.two (fun hS4 => ?_)
              clear hK K z0 z1 z2 z3 y0 y1 y2 y3
              try simp only [Act.put]
              refine wpAnyH_take (i := 17) (oi := ?o188) (v := ?v188) ?hi188 (by kernel_rfl) (by kernel_rfl) (by kernel_rfl) ?hq188 (Or.inl ⟨?hw188, ?hy188⟩) (by assumption) ?r188
              case hi188 => (simp only [List.getElem?_toArray, List.getElem?_cons_succ, List.getElem?_cons_zero]; exact rfl)
              case hq188 => exact fun _ _ _ h => h
              case hw188 => rfl
              case hy188 => (intro w hSw; (try dsimp only at hSw); go_simp; try exact rfl)
              simp only [Act.put, List.setIfInBounds_toArray, List.set_cons_zero, List.set_cons_succ]
              refine wpAnyH_take (i := 18) (oi := ?o189) (v := ?v189) ?hi189 (by kernel_rfl) (by kernel_rfl) (by kernel_rfl) ?hq189 (Or.inl ⟨?hw189, ?hy189⟩) (by assumption) ?r189
              case hi189 => (simp only [List.getElem?_toArray, List.getElem?_cons_succ, List.getElem?_cons_zero]; exact rfl)
              case hq189 => exact fun _ _ _ h => h
              case hw189 => rfl
              case hy189 => (intro w hSw; (try dsimp only at hSw); go_simp; try exact rfl)
              simp only [Act.put, List.setIfInBounds_toArray, List.set_cons_zero, List.set_cons_succ]
              refine wpAnyH_done (by kernel_rfl) ?_ _
              refine NoPanic.normal ?_
              clear hS0
              go_wp2
              go_meet
              case rel => exact ⟨T, A4, n4, c4, K3, rfl, rfl, rfl, h41, h42, hNT, RF, TF6, RD6, KI6, ⟨hTK, HLT.out, hKD⟩⟩
          · go_simp
            obtain ⟨T, hT⟩ : ∃ T, w2.heap.size = T := ⟨_, rfl⟩
            have ba : Below w2.heap.size w2 (w2.alloc (.cells #[.int .i64 0, .int .i64 0, .int .i64 0, .slice none 0 0] 90)) := (Below.refl _ _).alloc (Nat.le_refl _) _
            have R2a := Kept.mk (R2.out.below ba)
            have TZ := Kept.mk (Blk.new_at w2 90 #[.int .i64 0, .int .i64 0, .int .i64 0, .slice none 0 0] T hT.symm)
            have HLT : Kept (∀ k ∈ F ++ G, k < T) := ⟨by rw [← hT]; exact R2.out.lts⟩
            have hNT : N < T := by rw [← hT]; exact R2.out.size
            have hTs : T < (w2.alloc (.cells #[.int .i64 0, .int .i64 0, .int .i64 0, .slice none 0 0] 90)).heap.size := TZ.out.lt
            rw [hT]
            refine hK.out _ _ R2a.out.two (fun hS3 => ?_)
            clear hK K
            try simp only [Act.put, List.setIfInBounds_toArray, List.set_cons_zero, List.set_cons_succ]
            clear R2 ba hT
            generalize w2.alloc (.cells #[.int .i64 0, .int .i64 0, .int .i64 0, .slice none 0 0] 90) = w2a at *
            refine wpAnyH_ready (rs := [9]) (by kernel_rfl) (by simp) ?_
            refine AllReadyH.cons (o := ?o245) ?hi245 (fun K hK => ?_) AllReadyH.nil
            case hi245 => (simp only [List.getElem?_toArray, List.getElem?_cons_succ, List.getElem?_cons_zero]; exact rfl)
            go_simp
            go_at_call 34
            refine (ct.out _ R2a.out.1 R2a.out.zero).mono ?_
            rintro e w3 ⟨A3, c3, rfl, o3, b3⟩
            obtain ⟨A3', c3', ee, k1, k2, r3⟩ := own_rd o3 HTB.out
            injection ee with e1 e2 e3
            subst e1 e3
            have R2at := Kept.mk (R2a.out.below b3)
            have RT := Kept.mk r3
            refine hK.out _ _ R2at.out.two (fun hS1 => ?_)
            clear hK K o3 r3 R2a
            try simp only [Act.put, List.setIfInBounds_toArray, List.set_cons_zero, List.set_cons_succ]
            have TZ1 := Kept.mk (TZ.out.below b3 hTs)
            have hTs3 : T < w3.heap.size := by have := b3.size; omega
            clear TZ b3
            refine wpAnyH_ready (rs := [10]) (by kernel_rfl) (by simp) ?_
            refine AllReadyH.cons (o := ?o246) ?hi246 (fun K hK => ?_) AllReadyH.nil
            case hi246 => (simp only [List.getElem?_toArray, List.getElem?_cons_succ, List.getElem?_cons_zero]; exact rfl)
            go_simp
            go_at_call 33
            refine (cg.out _ A3 c3 RT.out k1 k2).mono ?_
            rintro e w5 ⟨A4, n4, c4, rfl, h41, h42, r4, b4, o4⟩
            simp only at r4 ⊢
            have R2atg := Kept.mk (R2at.out.below b4)
            obtain ⟨K3, in3, hK3⟩ := in_new r4 o4
            refine hK.out _ _ R2atg.out.two (fun hS2 => ?_)
            clear hK K
            try simp only [Act.put, List.setIfInBounds_toArray, List.set_cons_zero, List.set_cons_succ]
            have TZ2 := Kept.mk (TZ1.out.below b4 hTs3)
            have hKs : ∀ k ∈ K3, k < w5.heap.size := fun k hk => (hK3 k hk).2
            have hK1 : ∀ k ∈ K3, N < k := fun k hk => by have := (hK3 k hk).1; omega
            have hTK : T ∉ K3 := fun hk => by have := (hK3 T hk).1; omega
            have hKD : ∀ k ∈ K3, k ∉ F ++ G := fun k hk h => by have := (hK3 k hk).1; have := R2at.out.lts k h; omega
            have OT : Off A4 n4 [T] := o4 _ (by intro k hk; rw [List.mem_singleton] at hk; omega)
            clear b4 o4 R2at TZ1 hK3
            refine wpAnyH_take (i := 11) (oi := ?o190) (v := ?v190) ?hi190 (by kernel_rfl) (by kernel_rfl) (by kernel_rfl) ?hq190 (Or.inl ⟨?hw190, ?hy190⟩) (by assumption) ?r190
            case hi190 => (simp only [List.getElem?_toArray, List.getElem?_cons_succ, List.getElem?_cons_zero]; exact rfl)
            case hq190 => exact fun _ _ _ h => h
            case hw190 => rfl
            case hy190 => (intro w hSw; (try dsimp only at hSw); go_simp; try exact rfl)
            simp only [Act.put, List.setIfInBounds_toArray, List.set_cons_zero, List.set_cons_succ]
            refine wpAnyH_take (i := 12) (oi := ?o191) (v := ?v191) ?hi191 (by kernel_rfl) (by kernel_rfl) (by kernel_rfl) ?hq191 (Or.inl ⟨?hw191, ?hy191⟩) (by assumption) ?r191
            case hi191 => (simp only [List.getElem?_toArray, List.getElem?_cons_succ, List.getElem?_cons_zero]; exact rfl)
            case hq191 => exact fun _ _ _ h => h
            case hw191 => rfl
            case hy191 => (intro w hSw; (try dsimp only at hSw); go_simp; try exact rfl)
            simp only [Act.put, List.setIfInBounds_toArray, List.set_cons_zero, List.set_cons_succ]
            refine wpAnyH_take (i := 13) (oi := ?o192) (v := ?v192) ?hi192 (by kernel_rfl) (by kernel_rfl) (by kernel_rfl) ?hq192 (Or.inl ⟨?hw192, ?hy192⟩) (by assumption) ?r192
            case hi192 => (simp only [List.getElem?_toArray, List.getElem?_cons_succ, List.getElem?_cons_zero]; exact rfl)
            case hq192 => exact fun _ _ _ h => h
            case hw192 => rfl
            case hy192 => (intro w hSw; (try dsimp only at hSw); go_simp; try exact rfl)
            simp only [Act.put, List.setIfInBounds_toArray, List.set_cons_zero, List.set_cons_succ]
            refine wpAnyH_take (i := 14) (oi := ?o193) (v := ?v193) ?hi193 (by kernel_rfl) (by kernel_rfl) (by kernel_rfl) ?hq193 (Or.inl ⟨?hw193, ?hy193⟩) (by assumption) ?r193
            case hi193 => (simp only [List.getElem?_toArray, List.getElem?_cons_succ, List.getElem?_cons_zero]; exact rfl)
            case hq193 => exact fun _ _ _ h => h
            case hw193 => rfl
            case hy193 => (intro w hSw; (try dsimp only at hSw); go_simp; try exact rfl)
            simp only [Act.put, List.setIfInBounds_toArray, List.set_cons_zero, List.set_cons_succ]
            have z0 := TZ2.out.frozen 0; have z1 := TZ2.out.frozen 1; have z2 := TZ2.out.frozen 2; have z3 := TZ2.out.frozen 3
            have y0 := TZ2.out.cell 0; have y1 := TZ2.out.cell 1; have y2 := TZ2.out.cell 2; have y3 := TZ2.out.cell 3
            have P4 := put4 TZ2.out (.int .i64 fk) (.int .i64 fg) (.int .i64 fs) (.slice A4 n4 c4)
            have RF := Kept.mk (rop_store R2atg.out HLT.out hNT P4.2)
            have TF6 := Kept.mk P4.1
            have RD6 := Kept.mk (r4.far P4.2 OT)
            have KI6 := Kept.mk (And.intro in3 (fun k (hk : k ∈ K3) => And.intro (show N < k by exact hK1 k hk) (Nat.lt_of_lt_of_le ((hKs k hk)) P4.2.size)))
            clear P4 R2atg TZ2
            refine wpAnyH_ready (rs := [16]) (by kernel_rfl) (by simp) ?_
            refine AllReadyH.cons (o := ?o247) ?hi247 (fun K hK => ?_) AllReadyH.nil
            case hi247 => (simp only [List.getElem?_toArray, List.getElem?_cons_succ, List.getElem?_cons_zero]; exact rfl)
            go_simp
            refine hK.out _ _ RF.out.two (fun hS4 => ?_)
            clear hK K z0 z1 z2 z3 y0 y1 y2 y3
            try simp only [Act.put]
            refine wpAnyH_take (i := 17) (oi := ?o194) (v := ?v194) ?hi194 (by kernel_rfl) (by kernel_rfl) (by kernel_rfl) ?hq194 (Or.inl ⟨?hw194, ?hy194⟩) (by assumption) ?r194
            case hi194 => (simp only [List.getElem?_toArray, List.getElem?_cons_succ, List.getElem?_cons_zero]; exact rfl)
            case hq194 => exact fun _ _ _ h => h
            case hw194 => rfl
            case hy194 => (intro w hSw; (try dsimp only at hSw); go_simp; try exact rfl)
            simp only [Act.put, List.setIfInBounds_toArray, List.set_cons_zero, List.set_cons_succ]
            refine wpAnyH_take (i := 18) (oi := ?o195) (v := ?v195) ?hi195 (by kernel_rfl) (by kernel_rfl) (by kernel_rfl) ?hq195 (Or.inl ⟨?hw195, ?hy195⟩) (by assumption) ?r195
            case hi195 => (simp only [List.getElem?_toArray, List.getElem?_cons_succ, List.getElem?_cons_zero]; exact rfl)
            case hq195 => exact fun _ _ _ h => h
            case hw195 => rfl
            case hy195 => (intro w hSw; (try dsimp only at hSw); go_simp; try exact rfl)
            simp only [Act.put, List.setIfInBounds_toArray, List.set_cons_zero, List.set_cons_succ]
            refine wpAnyH_done (by kernel_rfl) ?_ _
            refine NoPanic.normal ?_
            clear hS0
            go_wp2
            go_meet
            case rel => exact ⟨T, A4, n4, c4, K3, rfl, rfl, rfl, h41, h42, hNT, RF, TF6, RD6, KI6, ⟨hTK, HLT.out, hKD⟩⟩
        case rest =>
          obtain ⟨T, A, m, c, K3, rfl, rfl, rfl, hmc, hcm, hNT, R, TF, RD, KI, TL⟩ := hcut
          obtain ⟨A0, m0, c0, vr, J⟩ := R.out.cells
          have j2 := J.cell 2; have j7 := J.cell 7
          have t0 := TF.out.cell 0; have t1 := TF.out.cell 1; have t2 := TF.out.cell 2
          rw [show (rjc y v A0 m0 c0 vr)[2]? = some (.int .i64 v.gen) from rfl] at j2
          rw [show (rjc y v A0 m0 c0 vr)[7]? = some (.int .i64 v.seq) from rfl] at j7
          rw [show (#[Value.int .i64 fk, .int .i64 fg, .int .i64 fs, .slice A m c] : Array Value)[0]? = some (.int .i64 fk) from rfl] at t0
          rw [show (#[Value.int .i64 fk, .int .i64 fg, .int .i64 fs, .slice A m c] : Array Value)[1]? = some (.int .i64 fg) from rfl] at t1
          rw [show (#[Value.int .i64 fk, .int .i64 fg, .int .i64 fs, .slice A m c] : Array Value)[2]? = some (.int .i64 fs) from rfl] at t2
          have PE : Kept (∀ w', ¬ moreJ s v → Rop w w' F G N y n s v → ROpenPost w F y n s (openJ s) (.returned (.pointer (some ⟨N, 0, none⟩))) w') := ⟨fun w' h1 h2 => by
            have e : recsJ s gk1 v = v := by cases gk1 <;> simp [recsJ, h1]
            have he := HE.out
            rw [e] at he
            rw [← he]
            exact ⟨N, G, rfl, h2.1, h2.2.1, by rw [hN]; exact h2.2.2.1, by rw [hN]; exact h2.2.2.2.1⟩⟩
          clear J ct cg x1 x6
          go_upto_region 12 with (fail)
          by_cases h1 : ge = 0
          · subst h1
            by_cases h2 : fk = 2
            · subst h2
              by_cases h3 : fg = v.gen
              · have h3d : (fg != v.gen) = false := by simpa using h3
                by_cases h4 : fs = v.seq
                · have h4d : (fs != v.seq) = false := by simpa using h4
                  have hyes : moreJ s v := HMO.out.2 ⟨rfl, rfl, h3, h4⟩
                  go_quiet (fail)
                  have hb1 := Kept.mk (HGB.out rfl)
                  have R6 := R.out.below (below_drewN (Below.refl _ _) nq)
                  have TF6 := TF.out.drewN nq
                  have RD6 := RD.out.below (below_drewN (Below.refl _ _) nq)
                  have KI6 : ∀ k ∈ K3, N < k ∧ k < (wc.drewN nq).heap.size := KI.out.2
                  have IN3 := KI.out.1
                  clear PE R TF RD KI j2 j7 t0 t1 t2
                  generalize wc.drewN nq = w6 at *
                  go_upto_region 14 with (fail)
                  refine wp_region_noPanic ?_
                  have R7 := R6.below (Below.refl _ _).drew
                  have TF7 := TF6.drew
                  have RD7 := RD6.below (Below.refl _ _).drew
                  have KI7 : ∀ k ∈ K3, N < k ∧ k < w6.drew.heap.size := KI6
                  clear R6 TF6 RD6 KI6
                  have hFN : ∀ k ∈ F, k < N := HFL.out
                  obtain ⟨D7, ⟨A7, n7, c7, vr7, KB, j1, j2, j3, j4, j5, j6, j7, j8, rfl, j9⟩, k3, k4, k5⟩ := R7
                  have hvo : ∀ g ∈ vr7.ownBlock.toList, g ∈ KB := j6.choose_spec.2.1
                  refine wp_region_U 11 (S := fun w' : World => w'.cell? ⟨N, 5, none⟩ = some vr7 ∧ w'.cell? ⟨T, 3, none⟩ = some (.slice A m c)) (by kernel_rfl) ⟨j1.cell 5, TF7.cell 3⟩ (fun hS0 => ?_)
                  generalize w6.drew = w7 at *
                  obtain ⟨Av, cv, hvr⟩ := j6.shape
                  have HVR := Kept.mk hvr
                  subst hvr
                  refine wpAnyU_take (i := 0) (oi := ?o196) (v := ?v196) ?hi196 (by kernel_rfl) (by kernel_rfl) (by kernel_rfl) (by kernel_rfl) ?hq196 (Or.inl ⟨?hw196, ?hy196⟩) (by assumption) ?r196
                  case hi196 => (simp only [List.getElem?_toArray, List.getElem?_cons_zero]; exact rfl)
                  case hq196 => exact fun _ _ _ h => h
                  case hw196 => rfl
                  case hy196 => (intro w hSw; (try dsimp only at hSw); go_simp; try exact rfl)
                  simp only [Act.put, List.setIfInBounds_toArray, List.set_cons_zero, List.set_cons_succ]
                  refine wpAnyU_take (i := 1) (oi := ?o197) (v := ?v197) ?hi197 (by kernel_rfl) (by kernel_rfl) (by kernel_rfl) (by kernel_rfl) ?hq197 (Or.inl ⟨?hw197, ?hy197⟩) (by assumption) ?r197
                  case hi197 => (simp only [List.getElem?_toArray, List.getElem?_cons_succ, List.getElem?_cons_zero]; exact rfl)
                  case hq197 => exact fun _ _ _ h => h
                  case hw197 => rfl
                  case hy197 => (intro w hSw; (try dsimp only at hSw); go_simp; try exact rfl)
                  simp only [Act.put, List.setIfInBounds_toArray, List.set_cons_zero, List.set_cons_succ]
                  refine wpAnyU_take (i := 2) (oi := ?o198) (v := ?v198) ?hi198 (by kernel_rfl) (by kernel_rfl) (by kernel_rfl) (by kernel_rfl) ?hq198 (Or.inl ⟨?hw198, ?hy198⟩) (by assumption) ?r198
                  case hi198 => (simp only [List.getElem?_toArray, List.getElem?_cons_succ, List.getElem?_cons_zero]; exact rfl)
                  case hq198 => exact fun _ _ _ h => h
                  case hw198 => rfl
                  case hy198 => (intro w hSw; (try dsimp only at hSw); go_simp; try exact rfl)
                  simp only [Act.put, List.setIfInBounds_toArray, List.set_cons_zero, List.set_cons_succ]
                  refine wpAnyU_take (i := 3) (oi := ?o199) (v := ?v199) ?hi199 (by kernel_rfl) (by kernel_rfl) (by kernel_rfl) (by kernel_rfl) ?hq199 (Or.inl ⟨?hw199, ?hy199⟩) (by assumption) ?r199
                  case hi199 => (simp only [List.getElem?_toArray, List.getElem?_cons_succ, List.getElem?_cons_zero]; exact rfl)
                  case hq199 => exact fun _ _ _ h => h
                  case hw199 => rfl
                  case hy199 => (intro w hSw; (try dsimp only at hSw); go_simp; try exact rfl)
                  simp only [Act.put, List.setIfInBounds_toArray, List.set_cons_zero, List.set_cons_succ]
                  refine wpAnyU_take (i := 4) (oi := ?o200) (v := ?v200) ?hi200 (by kernel_rfl) (by kernel_rfl) (by kernel_rfl) (by kernel_rfl) ?hq200 (Or.inl ⟨?hw200, ?hy200⟩) (by assumption) ?r200
                  case hi200 => (simp only [List.getElem?_toArray, List.getElem?_cons_succ, List.getElem?_cons_zero]; exact rfl)
                  case hq200 => exact fun _ _ _ h => h
                  case hw200 => rfl
                  case hy200 => (intro w hSw; (try dsimp only at hSw); go_simp; try exact rfl)
                  simp only [Act.put, List.setIfInBounds_toArray, List.set_cons_zero, List.set_cons_succ]
                  refine wpAnyU_take (i := 5) (oi := ?o201) (v := ?v201) ?hi201 (by kernel_rfl) (by kernel_rfl) (by kernel_rfl) (by kernel_rfl) ?hq201 (Or.inl ⟨?hw201, ?hy201⟩) (by assumption) ?r201
                  case hi201 => (simp only [List.getElem?_toArray, List.getElem?_cons_succ, List.getElem?_cons_zero]; exact rfl)
                  case hq201 => exact fun _ _ _ h => h
                  case hw201 => rfl
                  case hy201 => (intro w hSw; (try dsimp only at hSw); go_simp; try exact rfl)
                  simp only [Act.put, List.setIfInBounds_toArray, List.set_cons_zero, List.set_cons_succ]
                  refine wpAnyU_take (i := 6) (oi := ?o202) (v := ?v202) ?hi202 (by kernel_rfl) (by kernel_rfl) (by kernel_rfl) (by kernel_rfl) ?hq202 (Or.inl ⟨?hw202, ?hy202⟩) (by assumption) ?r202
                  case hi202 => (simp only [List.getElem?_toArray, List.getElem?_cons_succ, List.getElem?_cons_zero]; exact rfl)
                  case hq202 => exact fun _ _ _ h => h
                  case hw202 => rfl
                  case hy202 => (intro w hSw; (try dsimp only at hSw); go_simp; try exact rfl)
                  simp only [Act.put, List.setIfInBounds_toArray, List.set_cons_zero, List.set_cons_succ]
                  refine wpAnyU_ready (rs := [7]) (by kernel_rfl) (by simp) ?_
                  refine AllReadyU.cons (o := ?o218) ?hi218 (fun K hK => ?_) AllReadyU.nil
                  case hi218 => (simp only [List.getElem?_toArray, List.getElem?_cons_succ, List.getElem?_cons_zero]; exact rfl)
                  go_simp
                  have ba : Below w7.heap.size w7 (w7.alloc (.cells #[.slice A m c] 38)) := (Below.refl _ _).alloc (Nat.le_refl _) _
                  have cB : (w7.alloc (.cells #[.slice A m c] 38)).cell? ⟨w7.heap.size, 0, none⟩ = some (.slice A m c) := (Blk.new w7 38 #[.slice A m c]).cell 0
                  have D8 := D7.below ba; have J8 := j1.below ba j1.lt; have P8 := j4.below ba; have O8 := j6.keep (barOf ba []) (fun _ _ => by simp); have T8 := TF7.below ba TF7.lt; have R8 := RD7.below ba; have B8 := k4.trans (ba.mono (by have := k4.size; omega))
                  have sz8 := ba.size
                  refine hK.out _ _ (fun _ => ⟨J8.cell 5, T8.cell 3⟩) (fun hS1 => ?_)
                  clear hK K D7 j1 j4 j6 TF7 RD7 k4 ba
                  try simp only [Act.put, List.setIfInBounds_toArray, List.set_cons_zero, List.set_cons_succ]
                  generalize w7.alloc (.cells #[.slice A m c] 38) = w8 at *
                  generalize w7.heap.size = gB at *
                  have j1N := J8.lt
                  refine wpAnyU_ready (rs := [8]) (by kernel_rfl) (by simp) ?_
                  refine AllReadyU.cons (o := ?o226) ?hi226 (fun K hK => ?_) AllReadyU.nil
                  case hi226 => (simp only [List.getElem?_toArray, List.getElem?_cons_succ, List.getElem?_cons_zero]; exact rfl)
                  have hog := O8.mono (G' := KB ++ K3) (fun k hk => by simp [hk])
                  have hvT : ∀ g ∈ (Value.slice Av v.recs.length cv).ownBlock.toList, g < T := fun g hg => TL.out.2.1 g (by simp [hvo g hg])
                  have hvF : ∀ k ∈ F, k ∉ (Value.slice Av v.recs.length cv).ownBlock.toList := fun k hk hk2 => by have := hFN k hk; have := k3 k (by simp [hvo k hk2]); omega
                  have hvN : N ∉ (Value.slice Av v.recs.length cv).ownBlock.toList := fun hk => j8 (hvo N hk)
                  obtain ⟨v8, w9, hrun, og9, fp9⟩ := run_append_og (P := Tryz.prog) 55 55 38 Tryz.underlying55 info_txt hog gB 1 A m c fb cB R8 hmc (by unfold maxLen at hcm; omega) (IN3.mono (fun k hk => by simp [hk])) (IN3.off (fun k hk hk2 => TL.out.2.2 k hk (by simp [hvo k hk2]))) (by have := j9.recs; have := j9.pos; omega)
                  refine step_append_run rfl (.tmp 116) (.tmp 119) 55 55 (by rfl) _ _ (by rfl) (by rfl) v8 w9 hrun ?_
                  have J9 := J8.bar fp9.1 hvN
                  have T9 := T8.bar fp9.1 (fun hk => by have := hvT T hk; omega)
                  have M9 : Blk w9 N 88 (rjc y v A7 n7 c7 (Value.slice Av v.recs.length cv)) ∧ Dr w9 F y n s ∧ Rd w9 A7 n7 v.pict ∧ Off A7 n7 v8.ownBlock.toList ∧ Below N w w9 := ⟨J9, D8.keep fp9.1 (fun k hk hk2 => hvF k hk hk2), P8.far fp9.1 j5.2, j5.2.step P8 fp9, B8.trans (fp9.1.below (by have := B8.size; omega) (fun k hk => k3 k (by simp [hvo k hk])))⟩
                  obtain ⟨Av8, cv8, hv8⟩ := og9.shape
                  have HKS : ∀ k ∈ v8.ownBlock.toList ++ (KB ++ K3), N < k ∧ k < w9.heap.size := fun k hk => by
                    have h9 := fp9.1.size
                    have hin : k ∈ KB ++ K3 → N < k ∧ k < w9.heap.size := fun hk => by
                      rcases List.mem_append.1 hk with hk | hk
                      · have := j7 k hk; have h3 := k3 k (by simp [hk]); have : k ≠ N := fun e => j8 (e ▸ hk); omega
                      · have := KI7 k hk; omega
                    rcases List.mem_append.1 hk with hk | hk
                    · rcases fp9.2 k hk with hk2 | hk2
                      · exact hin (by simp [hvo k hk2])
                      · exact ⟨by have := j1N; omega, og9.choose_spec.1.lt k (by simpa using hk) |>.2⟩
                    · exact hin hk
                  refine hK.out _ _ (fun _ => ⟨J9.cell 5, T9.cell 3⟩) (fun hS2 => ?_)
                  clear hK K
                  try simp only [Act.put, List.setIfInBounds_toArray, List.set_cons_zero, List.set_cons_succ]
                  rw [List.length_append, List.length_singleton] at hv8
                  subst hv8
                  refine wpAnyU_ready (rs := [9]) (by kernel_rfl) (by simp) ?_
                  refine AllReadyU.cons (o := ?o219) ?hi219 (fun K hK => ?_) AllReadyU.nil
                  case hi219 => (simp only [List.getElem?_toArray, List.getElem?_cons_succ, List.getElem?_cons_zero]; exact rfl)
                  go_simp
                  refine hK.out _ _ (fun _ => ⟨J9.cell 5, T9.cell 3⟩) (fun _ => ?_)
                  clear hK K
                  try simp only [Act.put, List.setIfInBounds_toArray, List.set_cons_zero, List.set_cons_succ]
                  refine wpAnyU_ready (rs := [10]) (by kernel_rfl) (by simp) ?_
                  refine AllReadyU.cons (o := ?o220) ?hi220 (fun K hK => ?_) AllReadyU.nil
                  case hi220 => (simp only [List.getElem?_toArray, List.getElem?_cons_succ, List.getElem?_cons_zero]; exact rfl)
                  go_simp
                  refine hK.out _ _ (fun _ => ⟨J9.cell 5, T9.cell 3⟩) (fun _ => ?_)
                  clear hK K
                  try simp only [Act.put, List.setIfInBounds_toArray, List.set_cons_zero, List.set_cons_succ]
                  have hb : Bar [N] w9 (w9.setCell ⟨N, 5, none⟩ (Value.slice Av8 (v.recs.length + 1) cv8)) := (Bar.refl _ _).setCell (by simp) _
                  have dN : Disj ((Value.slice Av8 (v.recs.length + 1) cv8).ownBlock.toList ++ (KB ++ K3)) [N] := fun k hk hk2 => by rw [List.mem_singleton] at hk2; have := HKS k hk; omega
                  have MD : Kept (Mid w (w9.setCell ⟨N, 5, none⟩ (Value.slice Av8 (v.recs.length + 1) cv8)) F ((Value.slice Av8 (v.recs.length + 1) cv8).ownBlock.toList ++ (KB ++ K3)) N y n s v (v.recs ++ [fb]) (Value.slice Av8 (v.recs.length + 1) cv8)) :=
                    ⟨M9.2.1.keep hb (fun k hk hk2 => by rw [List.mem_singleton] at hk2; have := hFN k hk; omega), ⟨A7, n7, c7, J9.set_ 5 _, j2, j3, M9.2.2.1.far hb ((j5.1.mono (fun k hk => by simp [hk])).off dN), j5.1.mono (fun k hk => by simp [hk]), M9.2.2.2.1⟩, og9.keep hb dN, fun k hk => ⟨(HKS k hk).1, Nat.lt_of_lt_of_le (HKS k hk).2 hb.size⟩, fun k hk e => by have := hFN k hk; omega, M9.2.2.2.2.trans (hb.below (by have := M9.2.2.2.2.size; omega) (by simp)), hN⟩
                  have y5 := J9.frozen 5
                  have x5 := J9.cell 5
                  refine wpAnyU_ready (rs := [11]) (by kernel_rfl) (by simp) ?_
                  refine AllReadyU.cons (o := ?o221) ?hi221 (fun K hK => ?_) AllReadyU.nil
                  case hi221 => (simp only [List.getElem?_toArray, List.getElem?_cons_succ, List.getElem?_cons_zero]; exact rfl)
                  go_simp
                  refine hK.out _ _ (fun h => absurd rfl h) (fun _ => ?_)
                  clear hK K y5 x5 hb dN M9 J9 T9 og9 fp9 HKS hrun
                  try simp only [Act.put]
                  refine wpAnyU_done (by kernel_rfl) ?_ _
                  refine NoPanic.normal ?_
                  clear hS0 hS1 hS2
                  generalize w9.setCell ⟨N, 5, none⟩ (Value.slice Av8 (v.recs.length + 1) cv8) = w10 at *
                  go_upto_region 15 with (fail)
                  refine wp_region_noPanic ?_
                  have MD2 := Kept.mk (MD.out.below (Below.refl _ _).drew)
                  obtain ⟨A9, m9, c9, J10⟩ := MD2.out.cells
                  have hpb := hb1.out
                  have hpp := j9.pos
                  have hsq := j9.seq
                  have htl := HTL.out
                  obtain ⟨kk, hkk⟩ : ∃ kk, gk2.toNat = kk := ⟨_, rfl⟩
                  have W1 : IntKind.i64.wrap ((v.pos : Int) + gk2) = ((v.pos + kk : Nat) : Int) := by simp only [IntKind.wrap_i64]; omega
                  have W2 : IntKind.i64.wrap (v.seq + 1) = v.seq + 1 := by simp only [IntKind.wrap_i64]; omega
                  clear hpb hpp hsq htl
                  refine wp_region_U 18 (S := fun w' : World => w'.cell? ⟨N, 7, none⟩ = some (.int .i64 v.seq)) (by kernel_rfl) (J10.cell 7) (fun hS0 => ?_)
                  have x6 : w10.drew.cell? ⟨N, 6, none⟩ = some (.int .i64 (v.pos : Nat)) := J10.cell 6
                  have x7 : w10.drew.cell? ⟨N, 7, none⟩ = some (.int .i64 v.seq) := J10.cell 7
                  generalize w10.drew = w11 at *
                  refine wpAnyU_take (i := 0) (oi := ?o203) (v := ?v203) ?hi203 (by kernel_rfl) (by kernel_rfl) (by kernel_rfl) (by kernel_rfl) ?hq203 (Or.inl ⟨?hw203, ?hy203⟩) (by assumption) ?r203
                  case hi203 => (simp only [List.getElem?_toArray, List.getElem?_cons_zero]; exact rfl)
                  case hq203 => exact fun _ _ _ h => h
                  case hw203 => rfl
                  case hy203 => (intro w hSw; (try dsimp only at hSw); go_simp; try exact rfl)
                  simp only [Act.put, List.setIfInBounds_toArray, List.set_cons_zero, List.set_cons_succ]
                  refine wpAnyU_take (i := 1) (oi := ?o204) (v := ?v204) ?hi204 (by kernel_rfl) (by kernel_rfl) (by kernel_rfl) (by kernel_rfl) ?hq204 (Or.inl ⟨?hw204, ?hy204⟩) (by assumption) ?r204
                  case hi204 => (simp only [List.getElem?_toArray, List.getElem?_cons_succ, List.getElem?_cons_zero]; exact rfl)
                  case hq204 => exact fun _ _ _ h => h
                  case hw204 => rfl
                  case hy204 => (intro w hSw; (try dsimp only at hSw); go_simp; try exact rfl)
                  simp only [Act.put, List.setIfInBounds_toArray, List.set_cons_zero, List.set_cons_succ]
                  refine wpAnyU_take (i := 2) (oi := ?o205) (v := ?v205) ?hi205 (by kernel_rfl) (by kernel_rfl) (by kernel_rfl) (by kernel_rfl) ?hq205 (Or.inl ⟨?hw205, ?hy205⟩) (by assumption) ?r205
                  case hi205 => (simp only [List.getElem?_toArray, List.getElem?_cons_succ, List.getElem?_cons_zero]; exact rfl)
                  case hq205 => exact fun _ _ _ h => h
                  case hw205 => rfl
                  case hy205 => (intro w hSw; (try dsimp only at hSw); go_simp; try exact rfl)
                  simp only [Act.put, List.setIfInBounds_toArray, List.set_cons_zero, List.set_cons_succ]
                  refine wpAnyU_take (i := 3) (oi := ?o206) (v := ?v206) ?hi206 (by kernel_rfl) (by kernel_rfl) (by kernel_rfl) (by kernel_rfl) ?hq206 (Or.inl ⟨?hw206, ?hy206⟩) (by assumption) ?r206
                  case hi206 => (simp only [List.getElem?_toArray, List.getElem?_cons_succ, List.getElem?_cons_zero]; exact rfl)
                  case hq206 => exact fun _ _ _ h => h
                  case hw206 => rfl
                  case hy206 => (intro w hSw; (try dsimp only at hSw); go_simp; try exact rfl)
                  simp only [Act.put, List.setIfInBounds_toArray, List.set_cons_zero, List.set_cons_succ]
                  refine wpAnyU_take (i := 4) (oi := ?o207) (v := ?v207) ?hi207 (by kernel_rfl) (by kernel_rfl) (by kernel_rfl) (by kernel_rfl) ?hq207 (Or.inl ⟨?hw207, ?hy207⟩) (by assumption) ?r207
                  case hi207 => (simp only [List.getElem?_toArray, List.getElem?_cons_succ, List.getElem?_cons_zero]; exact rfl)
                  case hq207 => exact fun _ _ _ h => h
                  case hw207 => rfl
                  case hy207 => (intro w hSw; (try dsimp only at hSw); go_simp; try exact rfl)
                  simp only [Act.put, List.setIfInBounds_toArray, List.set_cons_zero, List.set_cons_succ]
                  refine wpAnyU_take (i := 6) (oi := ?o208) (v := ?v208) ?hi208 (by kernel_rfl) (by kernel_rfl) (by kernel_rfl) (by kernel_rfl) ?hq208 (Or.inl ⟨?hw208, ?hy208⟩) (by assumption) ?r208
                  case hi208 => (simp only [List.getElem?_toArray, List.getElem?_cons_succ, List.getElem?_cons_zero]; exact rfl)
                  case hq208 => exact fun _ _ _ h => h
                  case hw208 => rfl
                  case hy208 => (intro w hSw; (try dsimp only at hSw); go_simp; try exact rfl)
                  simp only [Act.put, List.setIfInBounds_toArray, List.set_cons_zero, List.set_cons_succ]
                  refine wpAnyU_take (i := 8) (oi := ?o209) (v := ?v209) ?hi209 (by kernel_rfl) (by kernel_rfl) (by kernel_rfl) (by kernel_rfl) ?hq209 (Or.inl ⟨?hw209, ?hy209⟩) (by assumption) ?r209
                  case hi209 => (simp only [List.getElem?_toArray, List.getElem?_cons_succ, List.getElem?_cons_zero]; exact rfl)
                  case hq209 => exact fun _ _ _ h => h
                  case hw209 => rfl
                  case hy209 => (intro w hSw; (try dsimp only at hSw); go_simp; try exact rfl)
                  simp only [Act.put, List.setIfInBounds_toArray, List.set_cons_zero, List.set_cons_succ]
                  refine wpAnyU_take (i := 9) (oi := ?o210) (v := ?v210) ?hi210 (by kernel_rfl) (by kernel_rfl) (by kernel_rfl) (by kernel_rfl) ?hq210 (Or.inl ⟨?hw210, ?hy210⟩) (by assumption) ?r210
                  case hi210 => (simp only [List.getElem?_toArray, List.getElem?_cons_succ, List.getElem?_cons_zero]; exact rfl)
                  case hq210 => exact fun _ _ _ h => h
                  case hw210 => rfl
                  case hy210 => (intro w hSw; (try dsimp only at hSw); go_simp; try exact rfl)
                  simp only [Act.put, List.setIfInBounds_toArray, List.set_cons_zero, List.set_cons_succ]
                  refine wpAnyU_take (i := 10) (oi := ?o211) (v := ?v211) ?hi211 (by kernel_rfl) (by kernel_rfl) (by kernel_rfl) (by kernel_rfl) ?hq211 (Or.inl ⟨?hw211, ?hy211⟩) (by assumption) ?r211
                  case hi211 => (simp only [List.getElem?_toArray, List.getElem?_cons_succ, List.getElem?_cons_zero]; exact rfl)
                  case hq211 => exact fun _ _ _ h => h
                  case hw211 => rfl
                  case hy211 => (intro w hSw; (try dsimp only at hSw); go_simp; try exact rfl)
                  simp only [Act.put, List.setIfInBounds_toArray, List.set_cons_zero, List.set_cons_succ]
                  refine wpAnyU_take (i := 11) (oi := ?o212) (v := ?v212) ?hi212 (by kernel_rfl) (by kernel_rfl) (by kernel_rfl) (by kernel_rfl) ?hq212 (Or.inl ⟨?hw212, ?hy212⟩) (by assumption) ?r212
                  case hi212 => (simp only [List.getElem?_toArray, List.getElem?_cons_succ, List.getElem?_cons_zero]; exact rfl)
                  case hq212 => exact fun _ _ _ h => h
                  case hw212 => rfl
                  case hy212 => (intro w hSw; (try dsimp only at hSw); go_simp; try exact rfl)
                  simp only [Act.put, List.setIfInBounds_toArray, List.set_cons_zero, List.set_cons_succ]
                  refine wpAnyU_take (i := 12) (oi := ?o213) (v := ?v213) ?hi213 (by kernel_rfl) (by kernel_rfl) (by kernel_rfl) (by kernel_rfl) ?hq213 (Or.inl ⟨?hw213, ?hy213⟩) (by assumption) ?r213
                  case hi213 => (simp only [List.getElem?_toArray, List.getElem?_cons_succ, List.getElem?_cons_zero]; exact rfl)
                  case hq213 => exact fun _ _ _ h => h
                  case hw213 => rfl
                  case hy213 => (intro w hSw; (try dsimp only at hSw); go_simp; try exact rfl)
                  simp only [Act.put, List.setIfInBounds_toArray, List.set_cons_zero, List.set_cons_succ]
                  refine wpAnyU_ready (rs := [5]) (by kernel_rfl) (by simp) ?_
                  refine AllReadyU.cons (o := ?o222) ?hi222 (fun K hK => ?_) AllReadyU.nil
                  case hi222 => (simp only [List.getElem?_toArray, List.getElem?_cons_succ, List.getElem?_cons_zero]; exact rfl)
                  go_simp
                  refine hK.out _ _ (fun _ => x7) (fun _ => ?_)
                  clear hK K
                  try simp only [Act.put, List.setIfInBounds_toArray, List.set_cons_zero, List.set_cons_succ]
                  refine wpAnyU_take (i := 7) (oi := ?o214) (v := ?v214) ?hi214 (by kernel_rfl) (by kernel_rfl) (by kernel_rfl) (by kernel_rfl) ?hq214 (Or.inl ⟨?hw214, ?hy214⟩) (by assumption) ?r214
                  case hi214 => (simp only [List.getElem?_toArray, List.getElem?_cons_succ, List.getElem?_cons_zero]; exact rfl)
                  case hq214 => exact fun _ _ _ h => h
                  case hw214 => rfl
                  case hy214 => (intro w hSw; (try dsimp only at hSw); go_simp; try exact rfl)
                  simp only [Act.put, List.setIfInBounds_toArray, List.set_cons_zero, List.set_cons_succ]
                  refine wpAnyU_take (i := 13) (oi := ?o215) (v := ?v215) ?hi215 (by kernel_rfl) (by kernel_rfl) (by kernel_rfl) (by kernel_rfl) ?hq215 (Or.inl ⟨?hw215, ?hy215⟩) (by assumption) ?r215
                  case hi215 => (simp only [List.getElem?_toArray, List.getElem?_cons_succ, List.getElem?_cons_zero]; exact rfl)
                  case hq215 => exact fun _ _ _ h => h
                  case hw215 => rfl
                  case hy215 => (intro w hSw; (try dsimp only at hSw); go_simp; try exact rfl)
                  simp only [Act.put, List.setIfInBounds_toArray, List.set_cons_zero, List.set_cons_succ]
                  refine wpAnyU_take (i := 14) (oi := ?o216) (v := ?v216) ?hi216 (by kernel_rfl) (by kernel_rfl) (by kernel_rfl) (by kernel_rfl) ?hq216 (Or.inl ⟨?hw216, ?hy216⟩) (by assumption) ?r216
                  case hi216 => (simp only [List.getElem?_toArray, List.getElem?_cons_succ, List.getElem?_cons_zero]; exact rfl)
                  case hq216 => exact fun _ _ _ h => h
                  case hw216 => rfl
                  case hy216 => (intro w hSw; (try dsimp only at hSw); go_simp; try exact rfl)
                  simp only [Act.put, List.setIfInBounds_toArray, List.set_cons_zero, List.set_cons_succ]
                  have hv9 : VOk { v with recs := v.recs ++ [fb], pos := v.pos + kk, seq := v.seq + 1 } := by
                    have h1 := hb1.out; have h2 := HTL.out; have h3 := j9.recs
                    refine ⟨j9.half, j9.gen, ?_, ?_, ?_⟩
                    · show 1 ≤ v.seq + 1 ∧ v.seq + 1 ≤ 4294967296
                      have := (HMO.out.1 hyes).2.2.2; have := j9.seq; omega
                    · show v.pos + kk ≤ 8192; omega
                    · show (v.recs ++ [fb]).length ≤ v.pos + kk; rw [List.length_append, List.length_singleton]; omega
                  have RF := Kept.mk (mid_rop MD2.out (v.pos + kk) (v.seq + 1) hv9)
                  have HVV := Kept.mk hv9
                  clear hv9
                  have y6 := J10.frozen 6
                  refine wpAnyU_ready (rs := [15]) (by kernel_rfl) (by simp) ?_
                  refine AllReadyU.cons (o := ?o223) ?hi223 (fun K hK => ?_) AllReadyU.nil
                  case hi223 => (simp only [List.getElem?_toArray, List.getElem?_cons_succ, List.getElem?_cons_zero]; exact rfl)
                  go_simp
                  have J12 := J10.set_ 6 (.int .i64 ((v.pos + kk : Nat) : Int))
                  have x12 : (w11.setCell ⟨N, 6, none⟩ (.int .i64 ((v.pos + kk : Nat) : Int))).cell? ⟨N, 7, none⟩ = some (.int .i64 v.seq) := J12.cell 7
                  refine hK.out _ _ (fun _ => x12) (fun hS12 => ?_)
                  clear hK K
                  try simp only [Act.put]
                  refine wpAnyU_ready (rs := [16]) (by kernel_rfl) (by simp) ?_
                  refine AllReadyU.cons (o := ?o224) ?hi224 (fun K hK => ?_) AllReadyU.nil
                  case hi224 => (simp only [List.getElem?_toArray, List.getElem?_cons_succ, List.getElem?_cons_zero]; exact rfl)
                  go_simp
                  refine hK.out _ _ (fun _ => x12) (fun _ => ?_)
                  clear hK K
                  try simp only [Act.put, List.setIfInBounds_toArray, List.set_cons_zero, List.set_cons_succ]
                  refine wpAnyU_take (i := 17) (oi := ?o217) (v := ?v217) ?hi217 (by kernel_rfl) (by kernel_rfl) (by kernel_rfl) (by kernel_rfl) ?hq217 (Or.inl ⟨?hw217, ?hy217⟩) (by assumption) ?r217
                  case hi217 => (simp only [List.getElem?_toArray, List.getElem?_cons_succ, List.getElem?_cons_zero]; exact rfl)
                  case hq217 => exact fun _ _ _ h => h
                  case hw217 => rfl
                  case hy217 => (intro w hSw; (try dsimp only at hSw); go_simp; try exact rfl)
                  simp only [Act.put, List.setIfInBounds_toArray, List.set_cons_zero, List.set_cons_succ]
                  have y7 := J10.frozen 7
                  refine wpAnyU_ready (rs := [18]) (by kernel_rfl) (by simp) ?_
                  refine AllReadyU.cons (o := ?o225) ?hi225 (fun K hK => ?_) AllReadyU.nil
                  case hi225 => (simp only [List.getElem?_toArray, List.getElem?_cons_succ, List.getElem?_cons_zero]; exact rfl)
                  go_simp
                  refine hK.out _ _ (fun h => absurd rfl h) (fun _ => ?_)
                  clear hK K y6 y7 x6 x7 x12 J12 J10 hS12 hS0
                  try simp only [Act.put]
                  refine wpAnyU_done (by kernel_rfl) ?_ _
                  refine NoPanic.normal ?_
                  have hgk : 1 ≤ gk1 := by have h1 := hb1.out; have h2 := HTL.out; have h3 := HP.out; omega
                  have HE2 : Kept (recsJ s (gk1 - 1) { v with recs := v.recs ++ [fb], pos := v.pos + kk, seq := v.seq + 1 } = openJ s) := ⟨by
                    obtain ⟨g', hg'⟩ : ∃ g', gk1 = g' + 1 := ⟨gk1 - 1, by omega⟩
                    have h1 := HE.out
                    rw [hg'] at h1 ⊢
                    have h2 : recsJ s (g' + 1) v = recsJ s g' (nextJ s v) := by show (if moreJ s v then _ else _) = _; rw [if_pos hyes]
                    rw [h2, HNX.out, hkk] at h1
                    exact h1⟩
                  have HP2 : Kept (hn s ≤ (v.pos + kk) + (gk1 - 1)) := ⟨by have h1 := hb1.out; have h3 := HP.out; omega⟩
                  have HGK := Kept.mk hgk1
                  have HGK1 := Kept.mk hgk
                  have HD := Kept.mk HV.out.1
                  rw [Int.natCast_add] at RF
                  clear hyes HE HP HV hgk hgk1 HNX HMO HGB hb1 HTL HTB TL IN3 KI7 MD MD2
                  go_wp2
                  go_roundg (gk1 - 1)
                  case measure => have := HGK.out; have := HGK1.out; omega
                  case rel => exact ⟨_, _, HE2, HP2, ⟨HD.out, HVV.out⟩, RF⟩
                · have h4d : (fs != v.seq) = true := by simpa using h4
                  have hno : ¬ moreJ s v := fun h => h4 (HMO.out.1 h).2.2.2
                  go_quiet (fail)
                  have PG := Kept.mk (PE.out _ hno (R.out.below (below_drewN (Below.refl _ _) nq)))
                  clear PE hno R TF RD KI TL
                  generalize wc.drewN nq = w6 at *
                  go_wp2
                  go_ret
                  exact PG.out
              · have h3d : (fg != v.gen) = true := by simpa using h3
                have hno : ¬ moreJ s v := fun h => h3 (HMO.out.1 h).2.2.1
                go_quiet (fail)
                have PG := Kept.mk (PE.out _ hno (R.out.below (below_drewN (Below.refl _ _) nq)))
                clear PE hno R TF RD KI TL
                generalize wc.drewN nq = w6 at *
                go_wp2
                go_ret
                exact PG.out
            · have h2d : (fk != 2) = true := by simpa using h2
              have hno : ¬ moreJ s v := fun h => h2 (HMO.out.1 h).2.1
              go_quiet (fail)
              have PG := Kept.mk (PE.out _ hno (R.out.below (below_drewN (Below.refl _ _) nq)))
              clear PE hno R TF RD KI TL
              generalize wc.drewN nq = w6 at *
              go_wp2
              go_ret
              exact PG.out
          · have h1d : (ge != 0) = true := by simpa using h1
            have hno : ¬ moreJ s v := fun h => h1 (HMO.out.1 h).1
            go_quiet (fail)
            have PG := Kept.mk (PE.out _ hno (R.out.below (below_drewN (Below.refl _ _) nq)))
            clear PE hno R TF RD KI TL
            generalize wc.drewN nq = w6 at *
            go_wp2
            go_ret
            exact PG.out
theorem ropen_any {w : World} {F : List Nat} {y n : Nat} {s : DS} (h : Dr w F y n s) : Calls Tryz.prog 10 #[.pointer (some ⟨y, 0, none⟩)] w (ROpenPost w F y n s (openJ s)) := by
 cases hd : s.down with
 | true => exact ropen_down h hd
 | false => exact ropen_up h hd
end Go.Proofs.YtkbehjdglgpgjaaGreat.Journal
