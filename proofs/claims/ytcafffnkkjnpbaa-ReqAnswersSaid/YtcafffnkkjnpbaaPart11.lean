/-
  Parts laid together: ReqRGetV ReqRSameA.
-/
import Derived.Test.YtcafffnkkjnpbaaPart6
import Derived.Test.YtcafffnkkjnpbaaPart8
import Derived.Deep.QuietTactic
import Derived.BigQuiet

namespace Go.Proofs.Ytcafffnkkjnpbaa.Req
open Go.RowKit Go.Proofs.Ytcafffnkkjnpbaa.Sha Go.Proofs.Ytcafffnkkjnpbaa.Wire

theorem ev_size : (Try.prog.info? 76).map (·.size) = some 9 := by kernel_rfl

def getVPost (w : World) (d : Nat) (G : List Nat) (st : St) (x : Ending) (w' : World) : Prop :=
  x = .returned (vqv (getV st).1) ∧ (getV st).1.ok ∧ De 72 w' d G (getV st).2 ∧ Bar [d] w w'
set_option maxRecDepth 100000 in
set_option maxHeartbeats 16000000 in
theorem rgetv_any {w : World} {d : Nat} {G : List Nat} {st : St} (h : De 72 w d G st) (hd : d ∉ G) (hl : st.2.length < 2147483648) : Calls Try.prog 57 #[.pointer (some ⟨d, 0, none⟩)] w (getVPost w d G st) := by
  obtain ⟨N, hN⟩ : ∃ N, w.heap.size = N := ⟨_, rfl⟩
  have hdN : d < N := by rw [← hN]; exact h.lt
  have B0 : Below w.heap.size w (w.alloc (.cells #[.int .i64 0, .int .i64 0, .int .i64 0, .int .i64 0, .int .i64 0, .int .i64 0, .int .i64 0, .string ⟨#[]⟩, .string ⟨#[]⟩] 76)) := (Below.refl _ _).alloc (Nat.le_refl _) _
  have HE := Kept.mk (h.below B0)
  have BR := Kept.mk (barOf B0 [d])
  have Y : Kept (Blk (w.alloc (.cells #[.int .i64 0, .int .i64 0, .int .i64 0, .int .i64 0, .int .i64 0, .int .i64 0, .int .i64 0, .string ⟨#[]⟩, .string ⟨#[]⟩] 76)) N 76 #[.int .i64 0, .int .i64 0, .int .i64 0, .int .i64 0, .int .i64 0, .int .i64 0, .int .i64 0, .string ⟨#[]⟩, .string ⟨#[]⟩]) := ⟨Blk.new_at w _ _ N hN.symm⟩
  have HM1 : Kept (∀ k ∈ G, k < N) := ⟨fun k hk => by have := h.1 k hk; omega⟩
  have n0 : Bytes [] := by intro x hx; simp at hx
  clear h B0
  go_enter Try.func57, Try.ntmps57
  go_wp2_with fail
  generalize w.alloc (.cells #[.int .i64 0, .int .i64 0, .int .i64 0, .int .i64 0, .int .i64 0, .int .i64 0, .int .i64 0, .string ⟨#[]⟩, .string ⟨#[]⟩] 76) = w0 at *
  have KC := rdnum_any w0 d G 1 st HE.out hd
  have hL := decNum_left st 1
  obtain ⟨a0, s1, e0⟩ : ∃ a s, decNum st 1 = (a, s) := ⟨_, _, rfl⟩
  rw [e0] at KC hL
  have E0 := Kept.mk e0
  dsimp only at hL
  clear e0
  refine KC.mono ?_
  rintro x w1 ⟨rfl, he, b⟩
  replace HE := Kept.mk he; replace BR := Kept.mk (BR.out.trans b (by simp)); replace Y := Kept.mk (Y.out.bar b (by rw [List.mem_singleton]; omega))
  have hNM := Y.out.lt
  clear he b KC
  go_upto_region 2 with (fail)
  have B1 : Below w1.heap.size w1 (w1.alloc (.cells #[.int .i64 a0, .int .i64 0, .int .i64 0, .int .i64 0, .int .i64 0, .int .i64 0, .int .i64 0, .string ⟨#[]⟩, .string ⟨#[]⟩] 76)) := (Below.refl _ _).alloc (Nat.le_refl _) _
  have X : Kept (Blk (w1.alloc (.cells #[.int .i64 a0, .int .i64 0, .int .i64 0, .int .i64 0, .int .i64 0, .int .i64 0, .int .i64 0, .string ⟨#[]⟩, .string ⟨#[]⟩] 76)) w1.heap.size 76 #[.int .i64 a0, .int .i64 0, .int .i64 0, .int .i64 0, .int .i64 0, .int .i64 0, .int .i64 0, .string ⟨#[]⟩, .string ⟨#[]⟩]) := ⟨Blk.new _ _ _⟩
  replace HE := Kept.mk (HE.out.below B1); replace BR := Kept.mk (BR.out.trans (barOf B1 []) (by simp)); replace Y := Kept.mk (Y.out.below B1 hNM)
  generalize w1.alloc (.cells #[.int .i64 a0, .int .i64 0, .int .i64 0, .int .i64 0, .int .i64 0, .int .i64 0, .int .i64 0, .string ⟨#[]⟩, .string ⟨#[]⟩] 76) = w2 at *
  generalize w1.heap.size = M at *
  clear B1
  have HM : Kept (∀ k ∈ G, k < M) := ⟨fun k hk => Nat.lt_trans (HM1.out k hk) hNM⟩
  have HM2 : Kept (∀ k ∈ G, k < N) := HM1
  by_cases h1 : a0 = 1
  · subst h1
    have x0 := X.out.cell 0
    have KC := rdnum_any w2 d G 1 s1 HE.out hd
    have hL2 := decNum_left s1 1
    obtain ⟨a1, s2, e1⟩ : ∃ a s, decNum s1 1 = (a, s) := ⟨_, _, rfl⟩
    rw [e1] at KC hL2
    have E1 := Kept.mk e1
    dsimp only at hL2
    replace hL := Nat.le_trans hL2 hL
    clear e1 hL2
    go_wp2_with fail
    refine KC.mono ?_
    rintro x w3 ⟨rfl, he, b⟩
    have hMl := X.out.lt
    replace HE := Kept.mk he; replace BR := Kept.mk (BR.out.trans b (by simp)); replace Y := Kept.mk (Y.out.bar b (by rw [List.mem_singleton]; omega)); replace X := Kept.mk (X.out.bar b (by rw [List.mem_singleton]; omega))
    clear he b KC hMl x0
    have x0 := X.out.cell 0
    have KC := rdnum_any w3 d G 1 s2 HE.out hd
    have hL2 := decNum_left s2 1
    obtain ⟨a2, s3, e2⟩ : ∃ a s, decNum s2 1 = (a, s) := ⟨_, _, rfl⟩
    rw [e2] at KC hL2
    have E2 := Kept.mk e2
    dsimp only at hL2
    replace hL := Nat.le_trans hL2 hL
    clear e2 hL2
    go_wp2_with fail
    refine KC.mono ?_
    rintro x w4 ⟨rfl, he, b⟩
    have hMl := X.out.lt
    replace HE := Kept.mk he; replace BR := Kept.mk (BR.out.trans b (by simp)); replace Y := Kept.mk (Y.out.bar b (by rw [List.mem_singleton]; omega)); replace X := Kept.mk (X.out.bar b (by rw [List.mem_singleton]; omega))
    clear he b KC hMl x0
    have x0 := X.out.cell 0
    have KC := rdnum_any w4 d G 1 s3 HE.out hd
    have hL2 := decNum_left s3 1
    obtain ⟨a3, s4, e3⟩ : ∃ a s, decNum s3 1 = (a, s) := ⟨_, _, rfl⟩
    rw [e3] at KC hL2
    have E3 := Kept.mk e3
    dsimp only at hL2
    replace hL := Nat.le_trans hL2 hL
    clear e3 hL2
    go_wp2_with fail
    refine KC.mono ?_
    rintro x w5 ⟨rfl, he, b⟩
    have hMl := X.out.lt
    replace HE := Kept.mk he; replace BR := Kept.mk (BR.out.trans b (by simp)); replace Y := Kept.mk (Y.out.bar b (by rw [List.mem_singleton]; omega)); replace X := Kept.mk (X.out.bar b (by rw [List.mem_singleton]; omega))
    clear he b KC hMl x0
    have x0 := X.out.cell 0
    have KC := rdnum_any w5 d G 8 s4 HE.out hd
    have hL2 := decNum_left s4 8
    obtain ⟨a4, s5, e4⟩ : ∃ a s, decNum s4 8 = (a, s) := ⟨_, _, rfl⟩
    rw [e4] at KC hL2
    have E4 := Kept.mk e4
    dsimp only at hL2
    replace hL := Nat.le_trans hL2 hL
    clear e4 hL2
    go_wp2_with fail
    refine KC.mono ?_
    rintro x w6 ⟨rfl, he, b⟩
    have hMl := X.out.lt
    replace HE := Kept.mk he; replace BR := Kept.mk (BR.out.trans b (by simp)); replace Y := Kept.mk (Y.out.bar b (by rw [List.mem_singleton]; omega)); replace X := Kept.mk (X.out.bar b (by rw [List.mem_singleton]; omega))
    clear he b KC hMl x0
    have y1 := X.out.cell 1; have z1 := X.out.frozen 1; have y2 := X.out.cell 2; have z2 := X.out.frozen 2; have y3 := X.out.cell 3; have z3 := X.out.frozen 3; have y4 := X.out.cell 4; have z4 := X.out.frozen 4
    go_upto_region 4 with (fail)
    have X2 : Kept (Blk ((((w6.setCell ⟨M, 1, none⟩ (.int .i64 a1)).setCell ⟨M, 2, none⟩ (.int .i64 a2)).setCell ⟨M, 3, none⟩ (.int .i64 a3)).setCell ⟨M, 4, none⟩ (.int .i64 a4)) M 76 #[.int .i64 1, .int .i64 a1, .int .i64 a2, .int .i64 a3, .int .i64 a4, .int .i64 0, .int .i64 0, .string ⟨#[]⟩, .string ⟨#[]⟩]) := ⟨((((X.out.set_ 1 (.int .i64 a1)).set_ 2 (.int .i64 a2)).set_ 3 (.int .i64 a3)).set_ 4 (.int .i64 a4))⟩
    have bb : Bar [M] w6 ((((w6.setCell ⟨M, 1, none⟩ (.int .i64 a1)).setCell ⟨M, 2, none⟩ (.int .i64 a2)).setCell ⟨M, 3, none⟩ (.int .i64 a3)).setCell ⟨M, 4, none⟩ (.int .i64 a4)) := (((((Bar.refl [M] w6).setCell (p := ⟨M, 1, none⟩) (by simp) (.int .i64 a1)).setCell (p := ⟨M, 2, none⟩) (by simp) (.int .i64 a2)).setCell (p := ⟨M, 3, none⟩) (by simp) (.int .i64 a3)).setCell (p := ⟨M, 4, none⟩) (by simp) (.int .i64 a4))
    replace HE := Kept.mk (HE.out.keep bb (by rw [List.mem_singleton]; omega) (fun k hk hm => by rw [List.mem_singleton] at hm; have := HM.out k hk; omega))
    replace BR := Kept.mk (BR.out.trans bb (by intro z hz; rw [List.mem_singleton] at hz; omega)); replace Y := Kept.mk (Y.out.bar bb (by rw [List.mem_singleton]; omega))
    replace X := X2
    clear X2 bb y1 z1 y2 z2 y3 z3 y4 z4
    generalize ((((w6.setCell ⟨M, 1, none⟩ (.int .i64 a1)).setCell ⟨M, 2, none⟩ (.int .i64 a2)).setCell ⟨M, 3, none⟩ (.int .i64 a3)).setCell ⟨M, 4, none⟩ (.int .i64 a4)) = w7 at *
    have x0 := X.out.cell 0; have x1 := X.out.cell 1; have x2 := X.out.cell 2; have x3 := X.out.cell 3; have x4 := X.out.cell 4; have x5 := X.out.cell 5; have x6 := X.out.cell 6; have x7 := X.out.cell 7; have x8 := X.out.cell 8; have y0 := Y.out.cell 0; have z0 := Y.out.frozen 0; have y1 := Y.out.cell 1; have z1 := Y.out.frozen 1; have y2 := Y.out.cell 2; have z2 := Y.out.frozen 2; have y3 := Y.out.cell 3; have z3 := Y.out.frozen 3; have y4 := Y.out.cell 4; have z4 := Y.out.frozen 4; have y5 := Y.out.cell 5; have z5 := Y.out.frozen 5; have y6 := Y.out.cell 6; have z6 := Y.out.frozen 6; have y7 := Y.out.cell 7; have z7 := Y.out.frozen 7; have y8 := Y.out.cell 8; have z8 := Y.out.frozen 8
    have P8 : Kept (Blk (((((((((w7.setCell ⟨N, 0, none⟩ (.int .i64 1)).setCell ⟨N, 1, none⟩ (.int .i64 a1)).setCell ⟨N, 2, none⟩ (.int .i64 a2)).setCell ⟨N, 3, none⟩ (.int .i64 a3)).setCell ⟨N, 4, none⟩ (.int .i64 a4)).setCell ⟨N, 5, none⟩ (.int .i64 0)).setCell ⟨N, 6, none⟩ (.int .i64 0)).setCell ⟨N, 7, none⟩ (.string ⟨#[]⟩)).setCell ⟨N, 8, none⟩ (.string ⟨#[]⟩)) N 76 #[.int .i64 1, .int .i64 a1, .int .i64 a2, .int .i64 a3, .int .i64 a4, .int .i64 0, .int .i64 0, .string ⟨#[]⟩, .string ⟨#[]⟩]) := ⟨(((((((((Y.out.set_ 0 (.int .i64 1)).set_ 1 (.int .i64 a1)).set_ 2 (.int .i64 a2)).set_ 3 (.int .i64 a3)).set_ 4 (.int .i64 a4)).set_ 5 (.int .i64 0)).set_ 6 (.int .i64 0)).set_ 7 (.string ⟨#[]⟩)).set_ 8 (.string ⟨#[]⟩))⟩
    have PB : Kept (Bar [N] w7 (((((((((w7.setCell ⟨N, 0, none⟩ (.int .i64 1)).setCell ⟨N, 1, none⟩ (.int .i64 a1)).setCell ⟨N, 2, none⟩ (.int .i64 a2)).setCell ⟨N, 3, none⟩ (.int .i64 a3)).setCell ⟨N, 4, none⟩ (.int .i64 a4)).setCell ⟨N, 5, none⟩ (.int .i64 0)).setCell ⟨N, 6, none⟩ (.int .i64 0)).setCell ⟨N, 7, none⟩ (.string ⟨#[]⟩)).setCell ⟨N, 8, none⟩ (.string ⟨#[]⟩))) := ⟨((((((((((Bar.refl [N] w7).setCell (p := ⟨N, 0, none⟩) (by simp) (.int .i64 1)).setCell (p := ⟨N, 1, none⟩) (by simp) (.int .i64 a1)).setCell (p := ⟨N, 2, none⟩) (by simp) (.int .i64 a2)).setCell (p := ⟨N, 3, none⟩) (by simp) (.int .i64 a3)).setCell (p := ⟨N, 4, none⟩) (by simp) (.int .i64 a4)).setCell (p := ⟨N, 5, none⟩) (by simp) (.int .i64 0)).setCell (p := ⟨N, 6, none⟩) (by simp) (.int .i64 0)).setCell (p := ⟨N, 7, none⟩) (by simp) (.string ⟨#[]⟩)).setCell (p := ⟨N, 8, none⟩) (by simp) (.string ⟨#[]⟩))⟩
    have HG : Kept (getV st = (⟨1, a1, a2, a3, a4, 0, 0, [], []⟩, s5)) := ⟨by unfold getV; simp [E0.out, E1.out, E2.out, E3.out, E4.out]⟩
    clear X Y
    go_wp2
    (try simp only [Exit.inBlock, Exit.then])
    refine bodyPost_ret (results_cell_row rfl _ _ N 76 #[.int .i64 1, .int .i64 a1, .int .i64 a2, .int .i64 a3, .int .i64 a4, .int .i64 0, .int .i64 0, .string ⟨#[]⟩, .string ⟨#[]⟩] (0, 0) _ rfl P8.out Try.underlying76 rfl ev_size) rfl ?_
    unfold getVPost
    rw [HG.out]
    exact ⟨rfl, ⟨n0, n0⟩, HE.out.keep PB.out (by rw [List.mem_singleton]; omega) (fun k hk hm => by rw [List.mem_singleton] at hm; have := HM2.out k hk; omega), BR.out.trans PB.out (by intro z hz; rw [List.mem_singleton] at hz; omega)⟩
  · have d1 : (a0 == 1) = false := beq_eq_false_iff_ne.2 h1
    by_cases h2 : a0 = 2
    · subst h2
      have x0 := X.out.cell 0
      have KC := rdnum_any w2 d G 1 s1 HE.out hd
      have hL2 := decNum_left s1 1
      obtain ⟨a1, s2, e1⟩ : ∃ a s, decNum s1 1 = (a, s) := ⟨_, _, rfl⟩
      rw [e1] at KC hL2
      have E1 := Kept.mk e1
      dsimp only at hL2
      replace hL := Nat.le_trans hL2 hL
      clear e1 hL2
      go_wp2_with fail
      refine KC.mono ?_
      rintro x w3 ⟨rfl, he, b⟩
      have hMl := X.out.lt
      replace HE := Kept.mk he; replace BR := Kept.mk (BR.out.trans b (by simp)); replace Y := Kept.mk (Y.out.bar b (by rw [List.mem_singleton]; omega)); replace X := Kept.mk (X.out.bar b (by rw [List.mem_singleton]; omega))
      clear he b KC hMl x0
      have x0 := X.out.cell 0
      have KC := rdnum_any w3 d G 1 s2 HE.out hd
      have hL2 := decNum_left s2 1
      obtain ⟨a2, s3, e2⟩ : ∃ a s, decNum s2 1 = (a, s) := ⟨_, _, rfl⟩
      rw [e2] at KC hL2
      have E2 := Kept.mk e2
      dsimp only at hL2
      replace hL := Nat.le_trans hL2 hL
      clear e2 hL2
      go_wp2_with fail
      refine KC.mono ?_
      rintro x w4 ⟨rfl, he, b⟩
      have hMl := X.out.lt
      replace HE := Kept.mk he; replace BR := Kept.mk (BR.out.trans b (by simp)); replace Y := Kept.mk (Y.out.bar b (by rw [List.mem_singleton]; omega)); replace X := Kept.mk (X.out.bar b (by rw [List.mem_singleton]; omega))
      clear he b KC hMl x0
      have x0 := X.out.cell 0
      have KC := rdnum_any w4 d G 1 s3 HE.out hd
      have hL2 := decNum_left s3 1
      obtain ⟨a3, s4, e3⟩ : ∃ a s, decNum s3 1 = (a, s) := ⟨_, _, rfl⟩
      rw [e3] at KC hL2
      have E3 := Kept.mk e3
      dsimp only at hL2
      replace hL := Nat.le_trans hL2 hL
      clear e3 hL2
      go_wp2_with fail
      refine KC.mono ?_
      rintro x w5 ⟨rfl, he, b⟩
      have hMl := X.out.lt
      replace HE := Kept.mk he; replace BR := Kept.mk (BR.out.trans b (by simp)); replace Y := Kept.mk (Y.out.bar b (by rw [List.mem_singleton]; omega)); replace X := Kept.mk (X.out.bar b (by rw [List.mem_singleton]; omega))
      clear he b KC hMl x0
      have x0 := X.out.cell 0
      have KC := rdnum_any w5 d G 8 s4 HE.out hd
      have hL2 := decNum_left s4 8
      obtain ⟨a4, s5, e4⟩ : ∃ a s, decNum s4 8 = (a, s) := ⟨_, _, rfl⟩
      rw [e4] at KC hL2
      have E4 := Kept.mk e4
      dsimp only at hL2
      replace hL := Nat.le_trans hL2 hL
      clear e4 hL2
      go_wp2_with fail
      refine KC.mono ?_
      rintro x w6 ⟨rfl, he, b⟩
      have hMl := X.out.lt
      replace HE := Kept.mk he; replace BR := Kept.mk (BR.out.trans b (by simp)); replace Y := Kept.mk (Y.out.bar b (by rw [List.mem_singleton]; omega)); replace X := Kept.mk (X.out.bar b (by rw [List.mem_singleton]; omega))
      clear he b KC hMl x0
      have y1 := X.out.cell 1; have z1 := X.out.frozen 1; have y2 := X.out.cell 2; have z2 := X.out.frozen 2; have y3 := X.out.cell 3; have z3 := X.out.frozen 3; have y4 := X.out.cell 4; have z4 := X.out.frozen 4
      go_upto_region 4 with (fail)
      have X2 : Kept (Blk ((((w6.setCell ⟨M, 1, none⟩ (.int .i64 a1)).setCell ⟨M, 2, none⟩ (.int .i64 a2)).setCell ⟨M, 3, none⟩ (.int .i64 a3)).setCell ⟨M, 4, none⟩ (.int .i64 a4)) M 76 #[.int .i64 2, .int .i64 a1, .int .i64 a2, .int .i64 a3, .int .i64 a4, .int .i64 0, .int .i64 0, .string ⟨#[]⟩, .string ⟨#[]⟩]) := ⟨((((X.out.set_ 1 (.int .i64 a1)).set_ 2 (.int .i64 a2)).set_ 3 (.int .i64 a3)).set_ 4 (.int .i64 a4))⟩
      have bb : Bar [M] w6 ((((w6.setCell ⟨M, 1, none⟩ (.int .i64 a1)).setCell ⟨M, 2, none⟩ (.int .i64 a2)).setCell ⟨M, 3, none⟩ (.int .i64 a3)).setCell ⟨M, 4, none⟩ (.int .i64 a4)) := (((((Bar.refl [M] w6).setCell (p := ⟨M, 1, none⟩) (by simp) (.int .i64 a1)).setCell (p := ⟨M, 2, none⟩) (by simp) (.int .i64 a2)).setCell (p := ⟨M, 3, none⟩) (by simp) (.int .i64 a3)).setCell (p := ⟨M, 4, none⟩) (by simp) (.int .i64 a4))
      replace HE := Kept.mk (HE.out.keep bb (by rw [List.mem_singleton]; omega) (fun k hk hm => by rw [List.mem_singleton] at hm; have := HM.out k hk; omega))
      replace BR := Kept.mk (BR.out.trans bb (by intro z hz; rw [List.mem_singleton] at hz; omega)); replace Y := Kept.mk (Y.out.bar bb (by rw [List.mem_singleton]; omega))
      replace X := X2
      clear X2 bb y1 z1 y2 z2 y3 z3 y4 z4
      generalize ((((w6.setCell ⟨M, 1, none⟩ (.int .i64 a1)).setCell ⟨M, 2, none⟩ (.int .i64 a2)).setCell ⟨M, 3, none⟩ (.int .i64 a3)).setCell ⟨M, 4, none⟩ (.int .i64 a4)) = w7 at *
      have x0 := X.out.cell 0
      have KC := rdnum_any w7 d G 2 s5 HE.out hd
      have hL2 := decNum_left s5 2
      obtain ⟨a5, s6, e5⟩ : ∃ a s, decNum s5 2 = (a, s) := ⟨_, _, rfl⟩
      rw [e5] at KC hL2
      have E5 := Kept.mk e5
      dsimp only at hL2
      replace hL := Nat.le_trans hL2 hL
      clear e5 hL2
      go_wp2_with fail
      refine KC.mono ?_
      rintro x w8 ⟨rfl, he, b⟩
      have hMl := X.out.lt
      replace HE := Kept.mk he; replace BR := Kept.mk (BR.out.trans b (by simp)); replace Y := Kept.mk (Y.out.bar b (by rw [List.mem_singleton]; omega)); replace X := Kept.mk (X.out.bar b (by rw [List.mem_singleton]; omega))
      clear he b KC hMl x0
      have y5 := X.out.cell 5; have z5 := X.out.frozen 5
      go_upto_region 6 with (fail)
      have X2 : Kept (Blk (w8.setCell ⟨M, 5, none⟩ (.int .i64 a5)) M 76 #[.int .i64 2, .int .i64 a1, .int .i64 a2, .int .i64 a3, .int .i64 a4, .int .i64 a5, .int .i64 0, .string ⟨#[]⟩, .string ⟨#[]⟩]) := ⟨(X.out.set_ 5 (.int .i64 a5))⟩
      have bb : Bar [M] w8 (w8.setCell ⟨M, 5, none⟩ (.int .i64 a5)) := ((Bar.refl [M] w8).setCell (p := ⟨M, 5, none⟩) (by simp) (.int .i64 a5))
      replace HE := Kept.mk (HE.out.keep bb (by rw [List.mem_singleton]; omega) (fun k hk hm => by rw [List.mem_singleton] at hm; have := HM.out k hk; omega))
      replace BR := Kept.mk (BR.out.trans bb (by intro z hz; rw [List.mem_singleton] at hz; omega)); replace Y := Kept.mk (Y.out.bar bb (by rw [List.mem_singleton]; omega))
      replace X := X2
      clear X2 bb y5 z5
      generalize (w8.setCell ⟨M, 5, none⟩ (.int .i64 a5)) = w9 at *
      have x0 := X.out.cell 0
      have KC := rdraw_any w9 d G 32 s6 HE.out hd (by omega)
      unfold RawPost at KC
      have hL2 := rawD_len s6 32; have hB := rawD_bytes HE.out.bytes 32
      obtain ⟨a6, s7, e6⟩ : ∃ a s, rawD s6 32 = (a, s) := ⟨_, _, rfl⟩
      rw [e6] at hB
      rw [e6] at KC hL2
      have E6 := Kept.mk e6
      dsimp only at hL2 hB
      replace hL := Nat.le_trans hL2 hL
      clear e6 hL2
      go_wp2_with fail
      refine KC.mono ?_
      rintro x w10 ⟨v, rfl, ho, he, b⟩
      obtain ⟨A5, c5, rfl, -, -, hr⟩ := own_rd ho hB
      have hcv := conv_same (cap := c5) hr
      clear ho hr
      have hMl := X.out.lt
      replace HE := Kept.mk he; replace BR := Kept.mk (BR.out.trans b (by simp)); replace Y := Kept.mk (Y.out.bar b (by rw [List.mem_singleton]; omega)); replace X := Kept.mk (X.out.bar b (by rw [List.mem_singleton]; omega))
      clear he b KC hMl x0
      have Bhash := Kept.mk hB; clear hB
      have y7 := X.out.cell 7; have z7 := X.out.frozen 7
      go_upto_region 8 with (fail)
      have X2 : Kept (Blk (w10.setCell ⟨M, 7, none⟩ (.string (strOfNums a6))) M 76 #[.int .i64 2, .int .i64 a1, .int .i64 a2, .int .i64 a3, .int .i64 a4, .int .i64 a5, .int .i64 0, .string (strOfNums a6), .string ⟨#[]⟩]) := ⟨(X.out.set_ 7 (.string (strOfNums a6)))⟩
      have bb : Bar [M] w10 (w10.setCell ⟨M, 7, none⟩ (.string (strOfNums a6))) := ((Bar.refl [M] w10).setCell (p := ⟨M, 7, none⟩) (by simp) (.string (strOfNums a6)))
      replace HE := Kept.mk (HE.out.keep bb (by rw [List.mem_singleton]; omega) (fun k hk hm => by rw [List.mem_singleton] at hm; have := HM.out k hk; omega))
      replace BR := Kept.mk (BR.out.trans bb (by intro z hz; rw [List.mem_singleton] at hz; omega)); replace Y := Kept.mk (Y.out.bar bb (by rw [List.mem_singleton]; omega))
      replace X := X2
      clear X2 bb y7 z7 hcv
      generalize (w10.setCell ⟨M, 7, none⟩ (.string (strOfNums a6))) = w11 at *
      have x0 := X.out.cell 0
      have KC := rdnum_any w11 d G 8 s7 HE.out hd
      have hL2 := decNum_left s7 8
      obtain ⟨a7, s8, e7⟩ : ∃ a s, decNum s7 8 = (a, s) := ⟨_, _, rfl⟩
      rw [e7] at KC hL2
      have E7 := Kept.mk e7
      dsimp only at hL2
      replace hL := Nat.le_trans hL2 hL
      clear e7 hL2
      go_wp2_with fail
      refine KC.mono ?_
      rintro x w12 ⟨rfl, he, b⟩
      have hMl := X.out.lt
      replace HE := Kept.mk he; replace BR := Kept.mk (BR.out.trans b (by simp)); replace Y := Kept.mk (Y.out.bar b (by rw [List.mem_singleton]; omega)); replace X := Kept.mk (X.out.bar b (by rw [List.mem_singleton]; omega))
      clear he b KC hMl x0
      have y6 := X.out.cell 6; have z6 := X.out.frozen 6
      go_upto_region 9 with (fail)
      have X2 : Kept (Blk (w12.setCell ⟨M, 6, none⟩ (.int .i64 a7)) M 76 #[.int .i64 2, .int .i64 a1, .int .i64 a2, .int .i64 a3, .int .i64 a4, .int .i64 a5, .int .i64 a7, .string (strOfNums a6), .string ⟨#[]⟩]) := ⟨(X.out.set_ 6 (.int .i64 a7))⟩
      have bb : Bar [M] w12 (w12.setCell ⟨M, 6, none⟩ (.int .i64 a7)) := ((Bar.refl [M] w12).setCell (p := ⟨M, 6, none⟩) (by simp) (.int .i64 a7))
      replace HE := Kept.mk (HE.out.keep bb (by rw [List.mem_singleton]; omega) (fun k hk hm => by rw [List.mem_singleton] at hm; have := HM.out k hk; omega))
      replace BR := Kept.mk (BR.out.trans bb (by intro z hz; rw [List.mem_singleton] at hz; omega)); replace Y := Kept.mk (Y.out.bar bb (by rw [List.mem_singleton]; omega))
      replace X := X2
      clear X2 bb y6 z6
      generalize (w12.setCell ⟨M, 6, none⟩ (.int .i64 a7)) = w13 at *
      have x0 := X.out.cell 0; have x1 := X.out.cell 1; have x2 := X.out.cell 2; have x3 := X.out.cell 3; have x4 := X.out.cell 4; have x5 := X.out.cell 5; have x6 := X.out.cell 6; have x7 := X.out.cell 7; have x8 := X.out.cell 8; have y0 := Y.out.cell 0; have z0 := Y.out.frozen 0; have y1 := Y.out.cell 1; have z1 := Y.out.frozen 1; have y2 := Y.out.cell 2; have z2 := Y.out.frozen 2; have y3 := Y.out.cell 3; have z3 := Y.out.frozen 3; have y4 := Y.out.cell 4; have z4 := Y.out.frozen 4; have y5 := Y.out.cell 5; have z5 := Y.out.frozen 5; have y6 := Y.out.cell 6; have z6 := Y.out.frozen 6; have y7 := Y.out.cell 7; have z7 := Y.out.frozen 7; have y8 := Y.out.cell 8; have z8 := Y.out.frozen 8
      have P8 : Kept (Blk (((((((((w13.setCell ⟨N, 0, none⟩ (.int .i64 2)).setCell ⟨N, 1, none⟩ (.int .i64 a1)).setCell ⟨N, 2, none⟩ (.int .i64 a2)).setCell ⟨N, 3, none⟩ (.int .i64 a3)).setCell ⟨N, 4, none⟩ (.int .i64 a4)).setCell ⟨N, 5, none⟩ (.int .i64 a5)).setCell ⟨N, 6, none⟩ (.int .i64 a7)).setCell ⟨N, 7, none⟩ (.string (strOfNums a6))).setCell ⟨N, 8, none⟩ (.string ⟨#[]⟩)) N 76 #[.int .i64 2, .int .i64 a1, .int .i64 a2, .int .i64 a3, .int .i64 a4, .int .i64 a5, .int .i64 a7, .string (strOfNums a6), .string ⟨#[]⟩]) := ⟨(((((((((Y.out.set_ 0 (.int .i64 2)).set_ 1 (.int .i64 a1)).set_ 2 (.int .i64 a2)).set_ 3 (.int .i64 a3)).set_ 4 (.int .i64 a4)).set_ 5 (.int .i64 a5)).set_ 6 (.int .i64 a7)).set_ 7 (.string (strOfNums a6))).set_ 8 (.string ⟨#[]⟩))⟩
      have PB : Kept (Bar [N] w13 (((((((((w13.setCell ⟨N, 0, none⟩ (.int .i64 2)).setCell ⟨N, 1, none⟩ (.int .i64 a1)).setCell ⟨N, 2, none⟩ (.int .i64 a2)).setCell ⟨N, 3, none⟩ (.int .i64 a3)).setCell ⟨N, 4, none⟩ (.int .i64 a4)).setCell ⟨N, 5, none⟩ (.int .i64 a5)).setCell ⟨N, 6, none⟩ (.int .i64 a7)).setCell ⟨N, 7, none⟩ (.string (strOfNums a6))).setCell ⟨N, 8, none⟩ (.string ⟨#[]⟩))) := ⟨((((((((((Bar.refl [N] w13).setCell (p := ⟨N, 0, none⟩) (by simp) (.int .i64 2)).setCell (p := ⟨N, 1, none⟩) (by simp) (.int .i64 a1)).setCell (p := ⟨N, 2, none⟩) (by simp) (.int .i64 a2)).setCell (p := ⟨N, 3, none⟩) (by simp) (.int .i64 a3)).setCell (p := ⟨N, 4, none⟩) (by simp) (.int .i64 a4)).setCell (p := ⟨N, 5, none⟩) (by simp) (.int .i64 a5)).setCell (p := ⟨N, 6, none⟩) (by simp) (.int .i64 a7)).setCell (p := ⟨N, 7, none⟩) (by simp) (.string (strOfNums a6))).setCell (p := ⟨N, 8, none⟩) (by simp) (.string ⟨#[]⟩))⟩
      have HG : Kept (getV st = (⟨2, a1, a2, a3, a4, a5, a7, a6, []⟩, s8)) := ⟨by unfold getV; simp [E0.out, E1.out, E2.out, E3.out, E4.out, E5.out, E6.out, E7.out]⟩
      clear X Y
      go_wp2
      (try simp only [Exit.inBlock, Exit.then])
      refine bodyPost_ret (results_cell_row rfl _ _ N 76 #[.int .i64 2, .int .i64 a1, .int .i64 a2, .int .i64 a3, .int .i64 a4, .int .i64 a5, .int .i64 a7, .string (strOfNums a6), .string ⟨#[]⟩] (0, 0) _ rfl P8.out Try.underlying76 rfl ev_size) rfl ?_
      unfold getVPost
      rw [HG.out]
      exact ⟨rfl, ⟨Bhash.out, n0⟩, HE.out.keep PB.out (by rw [List.mem_singleton]; omega) (fun k hk hm => by rw [List.mem_singleton] at hm; have := HM2.out k hk; omega), BR.out.trans PB.out (by intro z hz; rw [List.mem_singleton] at hz; omega)⟩
    · have d2 : (a0 == 2) = false := beq_eq_false_iff_ne.2 h2
      by_cases h3 : a0 = 3
      · subst h3
        have x0 := X.out.cell 0
        have KC := rdnum_any w2 d G 2 s1 HE.out hd
        have hL2 := decNum_left s1 2
        obtain ⟨a1, s2, e1⟩ : ∃ a s, decNum s1 2 = (a, s) := ⟨_, _, rfl⟩
        rw [e1] at KC hL2
        have E1 := Kept.mk e1
        dsimp only at hL2
        replace hL := Nat.le_trans hL2 hL
        clear e1 hL2
        go_wp2_with fail
        refine KC.mono ?_
        rintro x w3 ⟨rfl, he, b⟩
        have hMl := X.out.lt
        replace HE := Kept.mk he; replace BR := Kept.mk (BR.out.trans b (by simp)); replace Y := Kept.mk (Y.out.bar b (by rw [List.mem_singleton]; omega)); replace X := Kept.mk (X.out.bar b (by rw [List.mem_singleton]; omega))
        clear he b KC hMl x0
        have y5 := X.out.cell 5; have z5 := X.out.frozen 5
        go_upto_region 6 with (fail)
        have X2 : Kept (Blk (w3.setCell ⟨M, 5, none⟩ (.int .i64 a1)) M 76 #[.int .i64 3, .int .i64 0, .int .i64 0, .int .i64 0, .int .i64 0, .int .i64 a1, .int .i64 0, .string ⟨#[]⟩, .string ⟨#[]⟩]) := ⟨(X.out.set_ 5 (.int .i64 a1))⟩
        have bb : Bar [M] w3 (w3.setCell ⟨M, 5, none⟩ (.int .i64 a1)) := ((Bar.refl [M] w3).setCell (p := ⟨M, 5, none⟩) (by simp) (.int .i64 a1))
        replace HE := Kept.mk (HE.out.keep bb (by rw [List.mem_singleton]; omega) (fun k hk hm => by rw [List.mem_singleton] at hm; have := HM.out k hk; omega))
        replace BR := Kept.mk (BR.out.trans bb (by intro z hz; rw [List.mem_singleton] at hz; omega)); replace Y := Kept.mk (Y.out.bar bb (by rw [List.mem_singleton]; omega))
        replace X := X2
        clear X2 bb y5 z5
        generalize (w3.setCell ⟨M, 5, none⟩ (.int .i64 a1)) = w4 at *
        have x0 := X.out.cell 0
        have KC := rdraw_any w4 d G 32 s2 HE.out hd (by omega)
        unfold RawPost at KC
        have hL2 := rawD_len s2 32; have hB := rawD_bytes HE.out.bytes 32
        obtain ⟨a2, s3, e2⟩ : ∃ a s, rawD s2 32 = (a, s) := ⟨_, _, rfl⟩
        rw [e2] at hB
        rw [e2] at KC hL2
        have E2 := Kept.mk e2
        dsimp only at hL2 hB
        replace hL := Nat.le_trans hL2 hL
        clear e2 hL2
        go_wp2_with fail
        refine KC.mono ?_
        rintro x w5 ⟨v, rfl, ho, he, b⟩
        obtain ⟨A1, c1, rfl, -, -, hr⟩ := own_rd ho hB
        have hcv := conv_same (cap := c1) hr
        clear ho hr
        have hMl := X.out.lt
        replace HE := Kept.mk he; replace BR := Kept.mk (BR.out.trans b (by simp)); replace Y := Kept.mk (Y.out.bar b (by rw [List.mem_singleton]; omega)); replace X := Kept.mk (X.out.bar b (by rw [List.mem_singleton]; omega))
        clear he b KC hMl x0
        have Bsec := Kept.mk hB; clear hB
        have y8 := X.out.cell 8; have z8 := X.out.frozen 8
        go_upto_region 11 with (fail)
        have X2 : Kept (Blk (w5.setCell ⟨M, 8, none⟩ (.string (strOfNums a2))) M 76 #[.int .i64 3, .int .i64 0, .int .i64 0, .int .i64 0, .int .i64 0, .int .i64 a1, .int .i64 0, .string ⟨#[]⟩, .string (strOfNums a2)]) := ⟨(X.out.set_ 8 (.string (strOfNums a2)))⟩
        have bb : Bar [M] w5 (w5.setCell ⟨M, 8, none⟩ (.string (strOfNums a2))) := ((Bar.refl [M] w5).setCell (p := ⟨M, 8, none⟩) (by simp) (.string (strOfNums a2)))
        replace HE := Kept.mk (HE.out.keep bb (by rw [List.mem_singleton]; omega) (fun k hk hm => by rw [List.mem_singleton] at hm; have := HM.out k hk; omega))
        replace BR := Kept.mk (BR.out.trans bb (by intro z hz; rw [List.mem_singleton] at hz; omega)); replace Y := Kept.mk (Y.out.bar bb (by rw [List.mem_singleton]; omega))
        replace X := X2
        clear X2 bb y8 z8 hcv
        generalize (w5.setCell ⟨M, 8, none⟩ (.string (strOfNums a2))) = w6 at *
        have x0 := X.out.cell 0; have x1 := X.out.cell 1; have x2 := X.out.cell 2; have x3 := X.out.cell 3; have x4 := X.out.cell 4; have x5 := X.out.cell 5; have x6 := X.out.cell 6; have x7 := X.out.cell 7; have x8 := X.out.cell 8; have y0 := Y.out.cell 0; have z0 := Y.out.frozen 0; have y1 := Y.out.cell 1; have z1 := Y.out.frozen 1; have y2 := Y.out.cell 2; have z2 := Y.out.frozen 2; have y3 := Y.out.cell 3; have z3 := Y.out.frozen 3; have y4 := Y.out.cell 4; have z4 := Y.out.frozen 4; have y5 := Y.out.cell 5; have z5 := Y.out.frozen 5; have y6 := Y.out.cell 6; have z6 := Y.out.frozen 6; have y7 := Y.out.cell 7; have z7 := Y.out.frozen 7; have y8 := Y.out.cell 8; have z8 := Y.out.frozen 8
        have P8 : Kept (Blk (((((((((w6.setCell ⟨N, 0, none⟩ (.int .i64 3)).setCell ⟨N, 1, none⟩ (.int .i64 0)).setCell ⟨N, 2, none⟩ (.int .i64 0)).setCell ⟨N, 3, none⟩ (.int .i64 0)).setCell ⟨N, 4, none⟩ (.int .i64 0)).setCell ⟨N, 5, none⟩ (.int .i64 a1)).setCell ⟨N, 6, none⟩ (.int .i64 0)).setCell ⟨N, 7, none⟩ (.string ⟨#[]⟩)).setCell ⟨N, 8, none⟩ (.string (strOfNums a2))) N 76 #[.int .i64 3, .int .i64 0, .int .i64 0, .int .i64 0, .int .i64 0, .int .i64 a1, .int .i64 0, .string ⟨#[]⟩, .string (strOfNums a2)]) := ⟨(((((((((Y.out.set_ 0 (.int .i64 3)).set_ 1 (.int .i64 0)).set_ 2 (.int .i64 0)).set_ 3 (.int .i64 0)).set_ 4 (.int .i64 0)).set_ 5 (.int .i64 a1)).set_ 6 (.int .i64 0)).set_ 7 (.string ⟨#[]⟩)).set_ 8 (.string (strOfNums a2)))⟩
        have PB : Kept (Bar [N] w6 (((((((((w6.setCell ⟨N, 0, none⟩ (.int .i64 3)).setCell ⟨N, 1, none⟩ (.int .i64 0)).setCell ⟨N, 2, none⟩ (.int .i64 0)).setCell ⟨N, 3, none⟩ (.int .i64 0)).setCell ⟨N, 4, none⟩ (.int .i64 0)).setCell ⟨N, 5, none⟩ (.int .i64 a1)).setCell ⟨N, 6, none⟩ (.int .i64 0)).setCell ⟨N, 7, none⟩ (.string ⟨#[]⟩)).setCell ⟨N, 8, none⟩ (.string (strOfNums a2)))) := ⟨((((((((((Bar.refl [N] w6).setCell (p := ⟨N, 0, none⟩) (by simp) (.int .i64 3)).setCell (p := ⟨N, 1, none⟩) (by simp) (.int .i64 0)).setCell (p := ⟨N, 2, none⟩) (by simp) (.int .i64 0)).setCell (p := ⟨N, 3, none⟩) (by simp) (.int .i64 0)).setCell (p := ⟨N, 4, none⟩) (by simp) (.int .i64 0)).setCell (p := ⟨N, 5, none⟩) (by simp) (.int .i64 a1)).setCell (p := ⟨N, 6, none⟩) (by simp) (.int .i64 0)).setCell (p := ⟨N, 7, none⟩) (by simp) (.string ⟨#[]⟩)).setCell (p := ⟨N, 8, none⟩) (by simp) (.string (strOfNums a2)))⟩
        have HG : Kept (getV st = (⟨3, 0, 0, 0, 0, a1, 0, [], a2⟩, s3)) := ⟨by unfold getV; simp [E0.out, E1.out, E2.out]⟩
        clear X Y
        go_wp2
        (try simp only [Exit.inBlock, Exit.then])
        refine bodyPost_ret (results_cell_row rfl _ _ N 76 #[.int .i64 3, .int .i64 0, .int .i64 0, .int .i64 0, .int .i64 0, .int .i64 a1, .int .i64 0, .string ⟨#[]⟩, .string (strOfNums a2)] (0, 0) _ rfl P8.out Try.underlying76 rfl ev_size) rfl ?_
        unfold getVPost
        rw [HG.out]
        exact ⟨rfl, ⟨n0, Bsec.out⟩, HE.out.keep PB.out (by rw [List.mem_singleton]; omega) (fun k hk hm => by rw [List.mem_singleton] at hm; have := HM2.out k hk; omega), BR.out.trans PB.out (by intro z hz; rw [List.mem_singleton] at hz; omega)⟩
      · have d3 : (a0 == 3) = false := beq_eq_false_iff_ne.2 h3
        by_cases h4 : 1 < a0
        · have h5 : ¬ a0 < 3 := by omega
          have x0 := X.out.cell 0
          have KC := rdnum_any w2 d G 2 s1 HE.out hd
          have hL2 := decNum_left s1 2
          obtain ⟨a1, s2, e1⟩ : ∃ a s, decNum s1 2 = (a, s) := ⟨_, _, rfl⟩
          rw [e1] at KC hL2
          have E1 := Kept.mk e1
          dsimp only at hL2
          replace hL := Nat.le_trans hL2 hL
          clear e1 hL2
          go_wp2_with fail
          refine KC.mono ?_
          rintro x w3 ⟨rfl, he, b⟩
          have hMl := X.out.lt
          replace HE := Kept.mk he; replace BR := Kept.mk (BR.out.trans b (by simp)); replace Y := Kept.mk (Y.out.bar b (by rw [List.mem_singleton]; omega)); replace X := Kept.mk (X.out.bar b (by rw [List.mem_singleton]; omega))
          clear he b KC hMl x0
          have y5 := X.out.cell 5; have z5 := X.out.frozen 5
          go_upto_region 6 with (fail)
          have X2 : Kept (Blk (w3.setCell ⟨M, 5, none⟩ (.int .i64 a1)) M 76 #[.int .i64 a0, .int .i64 0, .int .i64 0, .int .i64 0, .int .i64 0, .int .i64 a1, .int .i64 0, .string ⟨#[]⟩, .string ⟨#[]⟩]) := ⟨(X.out.set_ 5 (.int .i64 a1))⟩
          have bb : Bar [M] w3 (w3.setCell ⟨M, 5, none⟩ (.int .i64 a1)) := ((Bar.refl [M] w3).setCell (p := ⟨M, 5, none⟩) (by simp) (.int .i64 a1))
          replace HE := Kept.mk (HE.out.keep bb (by rw [List.mem_singleton]; omega) (fun k hk hm => by rw [List.mem_singleton] at hm; have := HM.out k hk; omega))
          replace BR := Kept.mk (BR.out.trans bb (by intro z hz; rw [List.mem_singleton] at hz; omega)); replace Y := Kept.mk (Y.out.bar bb (by rw [List.mem_singleton]; omega))
          replace X := X2
          clear X2 bb y5 z5
          generalize (w3.setCell ⟨M, 5, none⟩ (.int .i64 a1)) = w4 at *
          have x0 := X.out.cell 0; have x1 := X.out.cell 1; have x2 := X.out.cell 2; have x3 := X.out.cell 3; have x4 := X.out.cell 4; have x5 := X.out.cell 5; have x6 := X.out.cell 6; have x7 := X.out.cell 7; have x8 := X.out.cell 8; have y0 := Y.out.cell 0; have z0 := Y.out.frozen 0; have y1 := Y.out.cell 1; have z1 := Y.out.frozen 1; have y2 := Y.out.cell 2; have z2 := Y.out.frozen 2; have y3 := Y.out.cell 3; have z3 := Y.out.frozen 3; have y4 := Y.out.cell 4; have z4 := Y.out.frozen 4; have y5 := Y.out.cell 5; have z5 := Y.out.frozen 5; have y6 := Y.out.cell 6; have z6 := Y.out.frozen 6; have y7 := Y.out.cell 7; have z7 := Y.out.frozen 7; have y8 := Y.out.cell 8; have z8 := Y.out.frozen 8
          have P8 : Kept (Blk (((((((((w4.setCell ⟨N, 0, none⟩ (.int .i64 a0)).setCell ⟨N, 1, none⟩ (.int .i64 0)).setCell ⟨N, 2, none⟩ (.int .i64 0)).setCell ⟨N, 3, none⟩ (.int .i64 0)).setCell ⟨N, 4, none⟩ (.int .i64 0)).setCell ⟨N, 5, none⟩ (.int .i64 a1)).setCell ⟨N, 6, none⟩ (.int .i64 0)).setCell ⟨N, 7, none⟩ (.string ⟨#[]⟩)).setCell ⟨N, 8, none⟩ (.string ⟨#[]⟩)) N 76 #[.int .i64 a0, .int .i64 0, .int .i64 0, .int .i64 0, .int .i64 0, .int .i64 a1, .int .i64 0, .string ⟨#[]⟩, .string ⟨#[]⟩]) := ⟨(((((((((Y.out.set_ 0 (.int .i64 a0)).set_ 1 (.int .i64 0)).set_ 2 (.int .i64 0)).set_ 3 (.int .i64 0)).set_ 4 (.int .i64 0)).set_ 5 (.int .i64 a1)).set_ 6 (.int .i64 0)).set_ 7 (.string ⟨#[]⟩)).set_ 8 (.string ⟨#[]⟩))⟩
          have PB : Kept (Bar [N] w4 (((((((((w4.setCell ⟨N, 0, none⟩ (.int .i64 a0)).setCell ⟨N, 1, none⟩ (.int .i64 0)).setCell ⟨N, 2, none⟩ (.int .i64 0)).setCell ⟨N, 3, none⟩ (.int .i64 0)).setCell ⟨N, 4, none⟩ (.int .i64 0)).setCell ⟨N, 5, none⟩ (.int .i64 a1)).setCell ⟨N, 6, none⟩ (.int .i64 0)).setCell ⟨N, 7, none⟩ (.string ⟨#[]⟩)).setCell ⟨N, 8, none⟩ (.string ⟨#[]⟩))) := ⟨((((((((((Bar.refl [N] w4).setCell (p := ⟨N, 0, none⟩) (by simp) (.int .i64 a0)).setCell (p := ⟨N, 1, none⟩) (by simp) (.int .i64 0)).setCell (p := ⟨N, 2, none⟩) (by simp) (.int .i64 0)).setCell (p := ⟨N, 3, none⟩) (by simp) (.int .i64 0)).setCell (p := ⟨N, 4, none⟩) (by simp) (.int .i64 0)).setCell (p := ⟨N, 5, none⟩) (by simp) (.int .i64 a1)).setCell (p := ⟨N, 6, none⟩) (by simp) (.int .i64 0)).setCell (p := ⟨N, 7, none⟩) (by simp) (.string ⟨#[]⟩)).setCell (p := ⟨N, 8, none⟩) (by simp) (.string ⟨#[]⟩))⟩
          have HG : Kept (getV st = (⟨a0, 0, 0, 0, 0, a1, 0, [], []⟩, s2)) := ⟨by unfold getV; simp [E0.out, E1.out, h2, h3, (show 1 < a0 by omega), (show ¬ a0 < 3 by omega)]⟩
          clear X Y
          go_wp2
          (try simp only [Exit.inBlock, Exit.then])
          refine bodyPost_ret (results_cell_row rfl _ _ N 76 #[.int .i64 a0, .int .i64 0, .int .i64 0, .int .i64 0, .int .i64 0, .int .i64 a1, .int .i64 0, .string ⟨#[]⟩, .string ⟨#[]⟩] (0, 0) _ rfl P8.out Try.underlying76 rfl ev_size) rfl ?_
          unfold getVPost
          rw [HG.out]
          exact ⟨rfl, ⟨n0, n0⟩, HE.out.keep PB.out (by rw [List.mem_singleton]; omega) (fun k hk hm => by rw [List.mem_singleton] at hm; have := HM2.out k hk; omega), BR.out.trans PB.out (by intro z hz; rw [List.mem_singleton] at hz; omega)⟩
        · have h5 : a0 < 3 := by omega
          have x0 := X.out.cell 0
          have KC := rdnum_any w2 d G 1 s1 HE.out hd
          have hL2 := decNum_left s1 1
          obtain ⟨a1, s2, e1⟩ : ∃ a s, decNum s1 1 = (a, s) := ⟨_, _, rfl⟩
          rw [e1] at KC hL2
          have E1 := Kept.mk e1
          dsimp only at hL2
          replace hL := Nat.le_trans hL2 hL
          clear e1 hL2
          go_wp2_with fail
          refine KC.mono ?_
          rintro x w3 ⟨rfl, he, b⟩
          have hMl := X.out.lt
          replace HE := Kept.mk he; replace BR := Kept.mk (BR.out.trans b (by simp)); replace Y := Kept.mk (Y.out.bar b (by rw [List.mem_singleton]; omega)); replace X := Kept.mk (X.out.bar b (by rw [List.mem_singleton]; omega))
          clear he b KC hMl x0
          have x0 := X.out.cell 0
          have KC := rdnum_any w3 d G 1 s2 HE.out hd
          have hL2 := decNum_left s2 1
          obtain ⟨a2, s3, e2⟩ : ∃ a s, decNum s2 1 = (a, s) := ⟨_, _, rfl⟩
          rw [e2] at KC hL2
          have E2 := Kept.mk e2
          dsimp only at hL2
          replace hL := Nat.le_trans hL2 hL
          clear e2 hL2
          go_wp2_with fail
          refine KC.mono ?_
          rintro x w4 ⟨rfl, he, b⟩
          have hMl := X.out.lt
          replace HE := Kept.mk he; replace BR := Kept.mk (BR.out.trans b (by simp)); replace Y := Kept.mk (Y.out.bar b (by rw [List.mem_singleton]; omega)); replace X := Kept.mk (X.out.bar b (by rw [List.mem_singleton]; omega))
          clear he b KC hMl x0
          have x0 := X.out.cell 0
          have KC := rdnum_any w4 d G 1 s3 HE.out hd
          have hL2 := decNum_left s3 1
          obtain ⟨a3, s4, e3⟩ : ∃ a s, decNum s3 1 = (a, s) := ⟨_, _, rfl⟩
          rw [e3] at KC hL2
          have E3 := Kept.mk e3
          dsimp only at hL2
          replace hL := Nat.le_trans hL2 hL
          clear e3 hL2
          go_wp2_with fail
          refine KC.mono ?_
          rintro x w5 ⟨rfl, he, b⟩
          have hMl := X.out.lt
          replace HE := Kept.mk he; replace BR := Kept.mk (BR.out.trans b (by simp)); replace Y := Kept.mk (Y.out.bar b (by rw [List.mem_singleton]; omega)); replace X := Kept.mk (X.out.bar b (by rw [List.mem_singleton]; omega))
          clear he b KC hMl x0
          have x0 := X.out.cell 0
          have KC := rdnum_any w5 d G 8 s4 HE.out hd
          have hL2 := decNum_left s4 8
          obtain ⟨a4, s5, e4⟩ : ∃ a s, decNum s4 8 = (a, s) := ⟨_, _, rfl⟩
          rw [e4] at KC hL2
          have E4 := Kept.mk e4
          dsimp only at hL2
          replace hL := Nat.le_trans hL2 hL
          clear e4 hL2
          go_wp2_with fail
          refine KC.mono ?_
          rintro x w6 ⟨rfl, he, b⟩
          have hMl := X.out.lt
          replace HE := Kept.mk he; replace BR := Kept.mk (BR.out.trans b (by simp)); replace Y := Kept.mk (Y.out.bar b (by rw [List.mem_singleton]; omega)); replace X := Kept.mk (X.out.bar b (by rw [List.mem_singleton]; omega))
          clear he b KC hMl x0
          have y1 := X.out.cell 1; have z1 := X.out.frozen 1; have y2 := X.out.cell 2; have z2 := X.out.frozen 2; have y3 := X.out.cell 3; have z3 := X.out.frozen 3; have y4 := X.out.cell 4; have z4 := X.out.frozen 4
          go_upto_region 4 with (fail)
          have X2 : Kept (Blk ((((w6.setCell ⟨M, 1, none⟩ (.int .i64 a1)).setCell ⟨M, 2, none⟩ (.int .i64 a2)).setCell ⟨M, 3, none⟩ (.int .i64 a3)).setCell ⟨M, 4, none⟩ (.int .i64 a4)) M 76 #[.int .i64 a0, .int .i64 a1, .int .i64 a2, .int .i64 a3, .int .i64 a4, .int .i64 0, .int .i64 0, .string ⟨#[]⟩, .string ⟨#[]⟩]) := ⟨((((X.out.set_ 1 (.int .i64 a1)).set_ 2 (.int .i64 a2)).set_ 3 (.int .i64 a3)).set_ 4 (.int .i64 a4))⟩
          have bb : Bar [M] w6 ((((w6.setCell ⟨M, 1, none⟩ (.int .i64 a1)).setCell ⟨M, 2, none⟩ (.int .i64 a2)).setCell ⟨M, 3, none⟩ (.int .i64 a3)).setCell ⟨M, 4, none⟩ (.int .i64 a4)) := (((((Bar.refl [M] w6).setCell (p := ⟨M, 1, none⟩) (by simp) (.int .i64 a1)).setCell (p := ⟨M, 2, none⟩) (by simp) (.int .i64 a2)).setCell (p := ⟨M, 3, none⟩) (by simp) (.int .i64 a3)).setCell (p := ⟨M, 4, none⟩) (by simp) (.int .i64 a4))
          replace HE := Kept.mk (HE.out.keep bb (by rw [List.mem_singleton]; omega) (fun k hk hm => by rw [List.mem_singleton] at hm; have := HM.out k hk; omega))
          replace BR := Kept.mk (BR.out.trans bb (by intro z hz; rw [List.mem_singleton] at hz; omega)); replace Y := Kept.mk (Y.out.bar bb (by rw [List.mem_singleton]; omega))
          replace X := X2
          clear X2 bb y1 z1 y2 z2 y3 z3 y4 z4
          generalize ((((w6.setCell ⟨M, 1, none⟩ (.int .i64 a1)).setCell ⟨M, 2, none⟩ (.int .i64 a2)).setCell ⟨M, 3, none⟩ (.int .i64 a3)).setCell ⟨M, 4, none⟩ (.int .i64 a4)) = w7 at *
          have x0 := X.out.cell 0; have x1 := X.out.cell 1; have x2 := X.out.cell 2; have x3 := X.out.cell 3; have x4 := X.out.cell 4; have x5 := X.out.cell 5; have x6 := X.out.cell 6; have x7 := X.out.cell 7; have x8 := X.out.cell 8; have y0 := Y.out.cell 0; have z0 := Y.out.frozen 0; have y1 := Y.out.cell 1; have z1 := Y.out.frozen 1; have y2 := Y.out.cell 2; have z2 := Y.out.frozen 2; have y3 := Y.out.cell 3; have z3 := Y.out.frozen 3; have y4 := Y.out.cell 4; have z4 := Y.out.frozen 4; have y5 := Y.out.cell 5; have z5 := Y.out.frozen 5; have y6 := Y.out.cell 6; have z6 := Y.out.frozen 6; have y7 := Y.out.cell 7; have z7 := Y.out.frozen 7; have y8 := Y.out.cell 8; have z8 := Y.out.frozen 8
          have P8 : Kept (Blk (((((((((w7.setCell ⟨N, 0, none⟩ (.int .i64 a0)).setCell ⟨N, 1, none⟩ (.int .i64 a1)).setCell ⟨N, 2, none⟩ (.int .i64 a2)).setCell ⟨N, 3, none⟩ (.int .i64 a3)).setCell ⟨N, 4, none⟩ (.int .i64 a4)).setCell ⟨N, 5, none⟩ (.int .i64 0)).setCell ⟨N, 6, none⟩ (.int .i64 0)).setCell ⟨N, 7, none⟩ (.string ⟨#[]⟩)).setCell ⟨N, 8, none⟩ (.string ⟨#[]⟩)) N 76 #[.int .i64 a0, .int .i64 a1, .int .i64 a2, .int .i64 a3, .int .i64 a4, .int .i64 0, .int .i64 0, .string ⟨#[]⟩, .string ⟨#[]⟩]) := ⟨(((((((((Y.out.set_ 0 (.int .i64 a0)).set_ 1 (.int .i64 a1)).set_ 2 (.int .i64 a2)).set_ 3 (.int .i64 a3)).set_ 4 (.int .i64 a4)).set_ 5 (.int .i64 0)).set_ 6 (.int .i64 0)).set_ 7 (.string ⟨#[]⟩)).set_ 8 (.string ⟨#[]⟩))⟩
          have PB : Kept (Bar [N] w7 (((((((((w7.setCell ⟨N, 0, none⟩ (.int .i64 a0)).setCell ⟨N, 1, none⟩ (.int .i64 a1)).setCell ⟨N, 2, none⟩ (.int .i64 a2)).setCell ⟨N, 3, none⟩ (.int .i64 a3)).setCell ⟨N, 4, none⟩ (.int .i64 a4)).setCell ⟨N, 5, none⟩ (.int .i64 0)).setCell ⟨N, 6, none⟩ (.int .i64 0)).setCell ⟨N, 7, none⟩ (.string ⟨#[]⟩)).setCell ⟨N, 8, none⟩ (.string ⟨#[]⟩))) := ⟨((((((((((Bar.refl [N] w7).setCell (p := ⟨N, 0, none⟩) (by simp) (.int .i64 a0)).setCell (p := ⟨N, 1, none⟩) (by simp) (.int .i64 a1)).setCell (p := ⟨N, 2, none⟩) (by simp) (.int .i64 a2)).setCell (p := ⟨N, 3, none⟩) (by simp) (.int .i64 a3)).setCell (p := ⟨N, 4, none⟩) (by simp) (.int .i64 a4)).setCell (p := ⟨N, 5, none⟩) (by simp) (.int .i64 0)).setCell (p := ⟨N, 6, none⟩) (by simp) (.int .i64 0)).setCell (p := ⟨N, 7, none⟩) (by simp) (.string ⟨#[]⟩)).setCell (p := ⟨N, 8, none⟩) (by simp) (.string ⟨#[]⟩))⟩
          have HG : Kept (getV st = (⟨a0, a1, a2, a3, a4, 0, 0, [], []⟩, s5)) := ⟨by unfold getV; simp [E0.out, E1.out, E2.out, E3.out, E4.out, h2, h3, (show ¬ 1 < a0 by omega), (show a0 < 3 by omega)]⟩
          clear X Y
          go_wp2
          (try simp only [Exit.inBlock, Exit.then])
          refine bodyPost_ret (results_cell_row rfl _ _ N 76 #[.int .i64 a0, .int .i64 a1, .int .i64 a2, .int .i64 a3, .int .i64 a4, .int .i64 0, .int .i64 0, .string ⟨#[]⟩, .string ⟨#[]⟩] (0, 0) _ rfl P8.out Try.underlying76 rfl ev_size) rfl ?_
          unfold getVPost
          rw [HG.out]
          exact ⟨rfl, ⟨n0, n0⟩, HE.out.keep PB.out (by rw [List.mem_singleton]; omega) (fun k hk hm => by rw [List.mem_singleton] at hm; have := HM2.out k hk; omega), BR.out.trans PB.out (by intro z hz; rw [List.mem_singleton] at hz; omega)⟩
end Go.Proofs.Ytcafffnkkjnpbaa.Req

namespace Go.Proofs.Ytcafffnkkjnpbaa.Req
open Go.RowKit Go.Proofs.Ytcafffnkkjnpbaa.Sha Go.Proofs.Ytcafffnkkjnpbaa.Wire

set_option maxRecDepth 100000 in
set_option maxHeartbeats 4000000 in
theorem rsameev_any (A1 : Option Addr) (n1 c1 : Nat) (l1 : List VV) (A2 : Option Addr) (n2 c2 : Nat) (l2 : List VV) (w : World) (h1 : Rv w A1 n1 l1) (h2 : Rv w A2 n2 l2) (hm : n1 ≤ 9223372036854775807) (o1 : ∀ r ∈ l1, r.ok) (o2 : ∀ r ∈ l2, r.ok) :
    Calls Try.prog 58 #[.slice A1 n1 c1, .slice A2 n2 c2] w (SamePost (l1 = l2) w) := by
  have H1 := Kept.mk h1; have H2 := Kept.mk h2; have O1 := Kept.mk o1; have O2 := Kept.mk o2
  have L1 := Kept.mk h1.1; have L2 := Kept.mk h2.1
  generalize hP : (l1 = l2) = P
  have HP := Kept.mk hP
  have B := Kept.mk (Below.refl w.heap.size w)
  clear h1 h2 o1 o2 hP
  by_cases hn : n1 = n2
  · subst hn
    go_enter Try.func58, Try.ntmps58
    go_wp2
    have TK : Kept (l1.take 0 = l2.take 0) := ⟨by simp⟩
    go_loopw [5] (fun i wr => ∃ k : Nat, k ≤ n1 ∧ i = .int .i64 k ∧ Kept (l1.take k = l2.take k) ∧ Kept (Below w.heap.size w wr)) (fun i _ => n1 - (Go.RowKit.intOf i).toNat)
    case atStart => exact ⟨0, by omega, rfl, TK, B⟩
    case round =>
      clear TK B
      obtain ⟨k, hk, rfl, TK, B⟩ := hrel
      by_cases hkn : k < n1
      · have hkn' : (k : Int) < n1 := by omega
        obtain ⟨b1, o1, r1, rfl, hx1, hc1⟩ := (H1.out.below B.out).at_ hkn
        obtain ⟨b2, o2, r2, rfl, hx2, hc2⟩ := (H2.out.below B.out).at_ hkn
        have NE := fun w => ev_neq r1 r2 (O1.out r1 (List.mem_of_getElem? hx1)) (O2.out r2 (List.mem_of_getElem? hx2)) w
        obtain ⟨q, hq⟩ : ∃ q, sameV r1 r2 = q := ⟨_, rfl⟩
        rw [hq] at NE
        have X1 := Kept.mk hx1; have X2 := Kept.mk hx2; have HQ := Kept.mk hq
        obtain ⟨p0, p1, p2, p3, p4, p5, p6, p7, p8⟩ := r1
        obtain ⟨q0, q1, q2, q3, q4, q5, q6, q7, q8⟩ := r2
        have u0 := hc1 0 _ rfl; have u1 := hc1 1 _ rfl; have u2 := hc1 2 _ rfl; have u3 := hc1 3 _ rfl; have u4 := hc1 4 _ rfl; have u5 := hc1 5 _ rfl; have u6 := hc1 6 _ rfl; have u7 := hc1 7 _ rfl; have u8 := hc1 8 _ rfl
        have v0 := hc2 0 _ rfl; have v1 := hc2 1 _ rfl; have v2 := hc2 2 _ rfl; have v3 := hc2 3 _ rfl; have v4 := hc2 4 _ rfl; have v5 := hc2 5 _ rfl; have v6 := hc2 6 _ rfl; have v7 := hc2 7 _ rfl; have v8 := hc2 8 _ rfl
        rw [Nat.add_zero] at u0 v0
        dsimp only at u0 v0 u1 v1 u2 v2 u3 v3 u4 v4 u5 v5 u6 v6 u7 v7 u8 v8
        unfold vqv at NE
        dsimp only at NE
        clear hc1 hc2 hx1 hx2 hq
        go_upto_region 6 with (fail)
        go_quiet (fail)
        generalize hd : wr.drewN nq = wd at *
        have BD : Below wr.heap.size wr wd := hd ▸ below_drewN (Below.refl _ _) nq
        replace B := Kept.mk (B.out.trans (BD.mono B.out.size))
        clear BD hd u0 v0 u1 v1 u2 v2 u3 v3 u4 v4 u5 v5 u6 v6 u7 v7 u8 v8
        cases q with
        | true =>
          have TK2 : Kept (l1.take (k + 1) = l2.take (k + 1)) := ⟨take_next X1.out X2.out TK.out (sameV_iff.1 HQ.out)⟩
          go_wp2
          go_roundw
          case rel => exact ⟨k + 1, by omega, by go_num, TK2, B⟩
          case measure => simp [Go.RowKit.intOf]; omega
        | false =>
          have hne : ¬ l1 = l2 := fun h => by
            have a := X1.out
            rw [h, X2.out] at a
            injection a with a
            have := sameV_iff.2 a.symm
            rw [HQ.out] at this
            cases this
          have NO := Kept.mk (fun h : P => by rw [← HP.out] at h; exact hne h)
          clear hne
          go_wp2
          go_ret
          exact ⟨false, rfl, ⟨fun h => (by cases h), fun h => (NO.out h).elim⟩, B.out⟩
      · have hkn' : ¬ (k : Int) < n1 := by omega
        obtain rfl : k = n1 := by omega
        have hall : l1 = l2 := by
          have := TK.out
          rwa [List.take_of_length_le (Nat.le_of_eq H1.out.1), List.take_of_length_le (Nat.le_of_eq H2.out.1)] at this
        have YES : Kept P := ⟨by rw [← HP.out]; exact hall⟩
        clear hall
        go_wp2
        go_ret
        exact ⟨true, rfl, ⟨fun _ => YES.out, fun _ => rfl⟩, B.out⟩
  · have hn2 : ((n1 : Int) != n2) = true := by
      rw [bne_iff_ne]; omega
    have NO := Kept.mk (fun h : P => by
      rw [← HP.out] at h
      exact hn (by rw [← L1.out, ← L2.out, h]))
    go_enter Try.func58, Try.ntmps58
    go_wp2
    go_ret
    exact ⟨false, rfl, ⟨fun h => (by cases h), fun h => (NO.out h).elim⟩, B.out⟩
set_option maxRecDepth 100000 in
set_option maxHeartbeats 4000000 in
theorem rsamea_any (t1 s1 : Int) (A1 : Option Addr) (n1 c1 : Nat) (l1 : List PV) (D1 : Option Addr) (m1 e1 : Nat) (v1 : List VV) (t2 s2 : Int) (A2 : Option Addr) (n2 c2 : Nat) (l2 : List PV) (D2 : Option Addr) (m2 e2 : Nat) (v2 : List VV) (w : World)
    (h1 : Rp w A1 n1 l1) (h2 : Rp w A2 n2 l2) (g1 : Rv w D1 m1 v1) (g2 : Rv w D2 m2 v2) (hm : n1 ≤ 9223372036854775807) (hm2 : m1 ≤ 9223372036854775807) (o1 : ∀ r ∈ v1, r.ok) (o2 : ∀ r ∈ v2, r.ok) :
    Calls Try.prog 23 #[.agg #[.int .i64 t1, .int .i64 s1, .slice A1 n1 c1, .slice D1 m1 e1], .agg #[.int .i64 t2, .int .i64 s2, .slice A2 n2 c2, .slice D2 m2 e2]] w (SamePost ((⟨t1, s1, l1, v1⟩ : AV) = ⟨t2, s2, l2, v2⟩) w) := by
  have H1 := Kept.mk h1; have H2 := Kept.mk h2; have G1 := Kept.mk g1; have G2 := Kept.mk g2; have O1 := Kept.mk o1; have O2 := Kept.mk o2
  have L1 := Kept.mk h1.1; have L2 := Kept.mk h2.1
  generalize hP : ((⟨t1, s1, l1, v1⟩ : AV) = ⟨t2, s2, l2, v2⟩) = P
  have HP := Kept.mk hP
  obtain ⟨N, hN⟩ : ∃ N, w.heap.size = N := ⟨_, rfl⟩
  have X : Kept (Blk ((w.alloc (.cells #[.int .i64 t1, .int .i64 s1, .slice A1 n1 c1, .slice D1 m1 e1] 39)).alloc (.cells #[.int .i64 t2, .int .i64 s2, .slice A2 n2 c2, .slice D2 m2 e2] 39)) N 39 #[.int .i64 t1, .int .i64 s1, .slice A1 n1 c1, .slice D1 m1 e1]) := ⟨(Blk.new_at w _ _ N hN.symm).alloc _⟩
  have Y : Kept (Blk ((w.alloc (.cells #[.int .i64 t1, .int .i64 s1, .slice A1 n1 c1, .slice D1 m1 e1] 39)).alloc (.cells #[.int .i64 t2, .int .i64 s2, .slice A2 n2 c2, .slice D2 m2 e2] 39)) (N + 1) 39 #[.int .i64 t2, .int .i64 s2, .slice A2 n2 c2, .slice D2 m2 e2]) := ⟨Blk.new_at _ _ _ (N + 1) (by simp [hN])⟩
  have B : Kept (Below w.heap.size w ((w.alloc (.cells #[.int .i64 t1, .int .i64 s1, .slice A1 n1 c1, .slice D1 m1 e1] 39)).alloc (.cells #[.int .i64 t2, .int .i64 s2, .slice A2 n2 c2, .slice D2 m2 e2] 39))) := ⟨((Below.refl _ _).alloc (Nat.le_refl _) _).alloc (by simp) _⟩
  clear h1 h2 g1 g2 o1 o2 hP
  go_enter Try.func23, Try.ntmps23
  go_upto_region 1 with (fail)
  generalize ((w.alloc (.cells #[.int .i64 t1, .int .i64 s1, .slice A1 n1 c1, .slice D1 m1 e1] 39)).alloc (.cells #[.int .i64 t2, .int .i64 s2, .slice A2 n2 c2, .slice D2 m2 e2] 39)) = w1 at *
  have x0 := X.out.cell 0; have x1 := X.out.cell 1; have x2 := X.out.cell 2; have y0 := Y.out.cell 0; have y1 := Y.out.cell 1; have y2 := Y.out.cell 2
  by_cases ht : t1 = t2
  · subst ht
    by_cases hs : s1 = s2
    · subst hs
      by_cases hn : n1 = n2
      · subst hn
        go_wp2
        clear x0 x1 x2 y0 y1 y2
        have TK : Kept (l1.take 0 = l2.take 0) := ⟨by simp⟩
        go_loopw [5] (fun i wr => ∃ k : Nat, k ≤ n1 ∧ i = .int .i64 k ∧ Kept (l1.take k = l2.take k) ∧ Kept (Blk wr N 39 #[.int .i64 t1, .int .i64 s1, .slice A1 n1 c1, .slice D1 m1 e1]) ∧ Kept (Blk wr (N + 1) 39 #[.int .i64 t1, .int .i64 s1, .slice A2 n1 c2, .slice D2 m2 e2]) ∧ Kept (Below w.heap.size w wr)) (fun i _ => n1 - (Go.RowKit.intOf i).toNat)
        case atStart => exact ⟨0, by omega, rfl, TK, X, Y, B⟩
        case round =>
          clear TK X Y B
          obtain ⟨k, hk, rfl, TK, X, Y, B⟩ := hrel
          have x2 := X.out.cell 2; have x3 := X.out.cell 3
          have y2 := Y.out.cell 2; have y3 := Y.out.cell 3
          by_cases hkn : k < n1
          · have hkn' : (k : Int) < n1 := by omega
            obtain ⟨b1, o1, r1, rfl, hx1, hc1⟩ := (H1.out.below B.out).at_ hkn
            obtain ⟨b2, o2, r2, rfl, hx2, hc2⟩ := (H2.out.below B.out).at_ hkn
            have NE := fun w => rep_neq r1 r2 w
            obtain ⟨q, hq⟩ : ∃ q, sameP r1 r2 = q := ⟨_, rfl⟩
            rw [hq] at NE
            have X1 := Kept.mk hx1; have X2 := Kept.mk hx2; have HQ := Kept.mk hq
            obtain ⟨p0, p1⟩ := r1
            obtain ⟨q0, q1⟩ := r2
            have u0 := hc1 0 _ rfl; have u1 := hc1 1 _ rfl
            have v0 := hc2 0 _ rfl; have v1 := hc2 1 _ rfl
            rw [Nat.add_zero] at u0 v0
            dsimp only at u0 v0 u1 v1
            unfold pqv at NE
            dsimp only at NE
            clear hc1 hc2 hx1 hx2 hq
            go_upto_region 6 with (fail)
            go_quiet (fail)
            generalize hd : wr.drewN nq = wd at *
            have BD : Below wr.heap.size wr wd := hd ▸ below_drewN (Below.refl _ _) nq
            replace B := Kept.mk (B.out.trans (BD.mono B.out.size))
            replace X := Kept.mk (X.out.below BD X.out.lt)
            replace Y := Kept.mk (Y.out.below BD Y.out.lt)
            clear BD hd u0 v0 u1 v1
            cases q with
            | true =>
              have TK2 : Kept (l1.take (k + 1) = l2.take (k + 1)) := ⟨take_next X1.out X2.out TK.out (sameP_iff.1 HQ.out)⟩
              go_wp2
              go_roundw
              case rel => exact ⟨k + 1, by omega, by go_num, TK2, X, Y, B⟩
              case measure => simp [Go.RowKit.intOf]; omega
            | false =>
              have hne : ¬ l1 = l2 := fun h => by
                have a := X1.out
                rw [h, X2.out] at a
                injection a with a
                have := sameP_iff.2 a.symm
                rw [HQ.out] at this
                cases this
              have NO := Kept.mk (fun h : P => by rw [← HP.out] at h; exact hne (by injection h))
              clear hne
              go_wp2
              go_ret
              exact ⟨false, rfl, ⟨fun h => (by cases h), fun h => (NO.out h).elim⟩, B.out⟩
          · have hkn' : ¬ (k : Int) < n1 := by omega
            obtain rfl : k = n1 := by omega
            have hall : l1 = l2 := by
              have := TK.out
              rwa [List.take_of_length_le (Nat.le_of_eq H1.out.1), List.take_of_length_le (Nat.le_of_eq H2.out.1)] at this
            have KS := rsameev_any D1 m1 e1 v1 D2 m2 e2 v2 wr (G1.out.below B.out) (G2.out.below B.out) hm2 O1.out O2.out
            have HA := Kept.mk hall
            unfold SamePost at KS
            have KS2 := Kept.mk KS
            clear hall KS
            go_wp2_with fail
            refine KS2.out.mono ?_
            rintro e w9 ⟨q, rfl, hq, b9⟩
            replace B := Kept.mk (B.out.trans (b9.mono B.out.size))
            have HQ : Kept (q = true ↔ P) := ⟨by rw [← HP.out, hq, HA.out]; exact ⟨fun h => by rw [h], fun h => by injection h⟩⟩
            clear hq b9 KS2
            go_wp2
            go_ret
            exact ⟨q, rfl, HQ.out, B.out⟩
      · have hn2 : ((n1 : Int) != n2) = true := by
          rw [bne_iff_ne]; omega
        have NO := Kept.mk (fun h : P => by
          rw [← HP.out] at h
          have e : l1 = l2 := by injection h
          exact hn (by rw [← L1.out, ← L2.out, e]))
        go_wp2
        go_ret
        exact ⟨false, rfl, ⟨fun h => (by cases h), fun h => (NO.out h).elim⟩, B.out⟩
    · have hs2 : (s1 != s2) = true := by
        rw [bne_iff_ne]; exact hs
      have NO := Kept.mk (fun h : P => by
        rw [← HP.out] at h
        exact hs (by injection h))
      go_wp2
      go_ret
      exact ⟨false, rfl, ⟨fun h => (by cases h), fun h => (NO.out h).elim⟩, B.out⟩
  · have ht2 : (t1 != t2) = true := by
      rw [bne_iff_ne]; exact ht
    have NO := Kept.mk (fun h : P => by
      rw [← HP.out] at h
      exact ht (by injection h))
    go_wp2
    go_ret
    exact ⟨false, rfl, ⟨fun h => (by cases h), fun h => (NO.out h).elim⟩, B.out⟩
end Go.Proofs.Ytcafffnkkjnpbaa.Req
