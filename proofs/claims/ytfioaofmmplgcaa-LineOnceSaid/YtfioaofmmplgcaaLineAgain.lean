/-
  The law LineAgain, walked.
-/
import Derived.Test.YtfioaofmmplgcaaLineFirst
import Derived.Test.YtfioaofmmplgcaaSealSame
import Derived.Deep.CutBlock
import Derived.Deep.CutRange
namespace Go.Proofs.Ytfioaofmmplgcaa.Line
open Go.RowKit Go.Proofs.Ytfioaofmmplgcaa.Sha Go.Proofs.Ytfioaofmmplgcaa.Seal

theorem and3 : ∀ k : Fin 50, bits .and .i64 ((k.val : Nat) : Int) 3 = 0 ∨ bits .and .i64 ((k.val : Nat) : Int) 3 = 1 ∨ bits .and .i64 ((k.val : Nat) : Int) 3 = 2 ∨ bits .and .i64 ((k.val : Nat) : Int) 3 = 3 := by decide +kernel
/-- a row of new memory lies in none of these, nor in the block that comes next -/
theorem newA_more {A : Option Addr} {l : Nat} {xs : List Int} {F : List Nat} {w w' : World} (h : NewA w A) (r : Rd w' A l xs) (hF : ∀ k ∈ F, k < w.heap.size) : Off A l (w'.heap.size :: F) := by
  rcases newA_off h r hF with h0 | ⟨g, o, hg, hn⟩
  · exact .inl h0
  · rcases r.2.2 with h0 | ⟨g', o', hg', hc⟩
    · exact .inl h0
    · by_cases h0 : l = 0
      · exact .inl h0
      · refine .inr ⟨g, o, hg, ?_⟩
        rw [hg] at hg'; injection hg' with hg'; injection hg' with e1 e2; subst e1
        have := World.block_lt_of_cell? _ _ (hc 0 (by omega))
        simp at this
        simp only [List.mem_cons, not_or]; exact ⟨by omega, hn⟩
set_option maxRecDepth 100000 in
set_option maxHeartbeats 2000000 in
theorem lagain_walk (A : Option Addr) (n c : Nat) (b : List Int) (times : Int) (w : World) (hr : Rd w A n b) : Calls Try.prog 6 #[.slice A n c, .int .i64 times] w fun e w' => e = .returned (.bool true) ∧ Below w.heap.size w w' := by
  obtain ⟨N, hN⟩ : ∃ N, w.heap.size = N := ⟨_, rfl⟩
  have HO : Kept (∀ x, N ≤ x → Off A n [x]) := ⟨fun x hx => hr.off (by simp; omega)⟩
  have D := Kept.mk hr
  clear hr
  go_enter Try.func6, Try.ntmps6
  go_wp2_with fail
  refine (lfirst_any w).mono ?_
  rintro e w1 ⟨rfl, b1⟩
  replace D := Kept.mk (D.out.below b1)
  rw [hN] at b1
  have B := Kept.mk b1
  have hs1 := b1.size
  clear b1
  go_wp2_with fail
  refine (cnew_any 2 1 0 N w1 (by omega)).mono ?_
  rintro e w2 ⟨rfl, l2, b2⟩
  obtain ⟨x, hx⟩ : ∃ x, w1.heap.size = x := ⟨_, rfl⟩
  replace D := Kept.mk (D.out.below b2)
  rw [hx] at l2 b2 ⊢
  have L := Kept.mk (show Ln cellsC 53 N w2 x ⟨2, 1, 0, false, []⟩ from l2)
  replace B := Kept.mk (B.out.trans (b2.mono (by omega)))
  have hNx : N ≤ x := by omega
  clear l2 b2 hx hs1
  have EN : Kept (∀ wz, Below N w wz → Calls Try.prog 7 #[] wz fun e w' => e = .returned (.bool true) ∧ Below N w w') := ⟨fun wz hz => (lfirst_any wz).mono (fun e w' h => ⟨h.1, hz.trans (h.2.mono (by have := hz.size; omega))⟩)⟩
  by_cases q : (1000 : Int) < n
  · go_wp2_with fail
    refine (EN.out w2 B.out).mono ?_
    rintro e wz ⟨rfl, bb⟩
    replace B := Kept.mk bb
    clear bb
    go_wp2
    go_ret
    exact ⟨rfl, hN.symm ▸ B.out⟩
  have qn : ((1000 : Int) < n) = False := eq_false q
  have bn : n ≤ 1000 := by omega
  clear q
  by_cases q : times < 0
  · go_wp2_with fail
    refine (EN.out w2 B.out).mono ?_
    rintro e wz ⟨rfl, bb⟩
    replace B := Kept.mk bb
    clear bb
    go_wp2
    go_ret
    exact ⟨rfl, hN.symm ▸ B.out⟩
  have qt : (times < 0) = False := eq_false q
  have bt : 0 ≤ times := by omega
  clear q
  by_cases q : 50 < times
  · go_wp2_with fail
    refine (EN.out w2 B.out).mono ?_
    rintro e wz ⟨rfl, bb⟩
    replace B := Kept.mk bb
    clear bb
    go_wp2
    go_ret
    exact ⟨rfl, hN.symm ▸ B.out⟩
  have qt2 : (50 < times) = False := eq_false q
  have bt2 : times ≤ 50 := by omega
  clear q
  have CS := Kept.mk (csend_any (cb := c) L.out D.out (by omega) (HO.out x hNx))
  have hxl := L.out.lt
  have e1 : sendE ⟨2, 1, 0, false, []⟩ = 0 := rfl
  have e2 : sendL ⟨2, 1, 0, false, []⟩ b = ⟨2, 1, 1, true, b⟩ := rfl
  have e3 : sendN ⟨2, 1, 0, false, []⟩ b = ⟨2, 1, 0, 1, b⟩ := rfl
  rw [e1, e2, e3] at CS
  unfold NoteP at CS
  clear e1 e2 e3
  go_wp2_with fail
  refine CS.out.mono ?_
  rintro e w3 ⟨A3, n3, c3, rfl, -, -, r3, a3, l3, b3⟩
  replace L := Kept.mk l3
  replace B := bar_step B b3 hNx (by have := B.out.size; omega)
  obtain ⟨M, hM⟩ : ∃ M, w3.heap.size = M := ⟨_, rfl⟩
  have f3 : Off A3 n3 [M, x] := hM ▸ newA_more a3 r3 (by simpa using hxl)
  clear CS l3 b3 a3 hxl D
  have hxM : x < M := by have := L.out.lt; omega
  have bb : Below w3.heap.size w3 (w3.alloc (.cells #[.int .i64 2, .int .i64 1, .int .i64 0, .int .i64 1, .slice A3 n3 c3] 31)) := (Below.refl _ _).alloc (Nat.le_refl _) _
  have Z := Kept.mk (Blk.new_at w3 31 #[.int .i64 2, .int .i64 1, .int .i64 0, .int .i64 1, .slice A3 n3 c3] M hM.symm)
  replace L := Kept.mk (L.out.below bb)
  have RD := Kept.mk (r3.below bb)
  replace B := Kept.mk (B.out.trans (bb.mono (by have := B.out.size; omega)))
  have F3 := Kept.mk f3
  clear bb r3 f3
  go_upto_region 7 with (fail)
  clear hM qn qt qt2 bn
  generalize w3.alloc (.cells #[.int .i64 2, .int .i64 1, .int .i64 0, .int .i64 1, .slice A3 n3 c3] 31) = w4 at *
  go_wp2
  go_loopw [8] (fun i wr => ∃ k : Nat, (k : Int) ≤ times ∧ i = .int .i64 k ∧ Kept (Ln cellsC 53 N wr x ⟨2, 1, 1, true, b⟩) ∧ Kept (Below N w wr) ∧ Kept (Blk wr M 31 #[.int .i64 2, .int .i64 1, .int .i64 0, .int .i64 1, .slice A3 n3 c3]) ∧ Kept (Rd wr A3 n3 b)) (fun i _ => (times - Go.RowKit.intOf i).toNat)
  case atStart => exact ⟨0, by omega, rfl, L, B, Z, RD⟩
  case round =>
    clear L B Z RD
    obtain ⟨k, hk, rfl, L, B, Z, RD⟩ := hrel
    by_cases hlt : (k : Int) < times
    · have CA := Kept.mk (cagain_any L.out)
      have hxw := L.out.lt
      have hMw := Z.out.lt
      unfold NoteP againN noteL at CA
      rw [if_pos rfl] at CA
      go_wp2_with fail
      refine CA.out.mono ?_
      rintro e w5 ⟨A5, n5, c5, rfl, -, -, r5, a5, l5, b5⟩
      replace L := Kept.mk l5
      replace Z := Kept.mk (Z.out.bar b5 (by simp; omega)); replace RD := Kept.mk (RD.out.far b5 (F3.out.mono_ (by simp)))
      replace B := bar_step B b5 hNx (by have := B.out.size; omega)
      have bb : Below w5.heap.size w5 (w5.alloc (.cells #[.int .i64 2, .int .i64 1, .int .i64 0, .int .i64 1, .slice A5 n5 c5] 31)) := (Below.refl _ _).alloc (Nat.le_refl _) _
      obtain ⟨R, hR⟩ : ∃ R, w5.heap.size = R := ⟨_, rfl⟩
      have Y := Kept.mk (Blk.new_at w5 31 #[.int .i64 2, .int .i64 1, .int .i64 0, .int .i64 1, .slice A5 n5 c5] R hR.symm)
      have R5 := Kept.mk (r5.below bb)
      replace L := Kept.mk (L.out.below bb); replace Z := Kept.mk (Z.out.below bb Z.out.lt); replace RD := Kept.mk (RD.out.below bb)
      replace B := Kept.mk (B.out.trans (bb.mono (by have := B.out.size; omega)))
      clear bb r5 a5 l5 b5 CA hxw hMw
      go_upto_region 11 with (fail)
      clear hR
      generalize w5.alloc (.cells #[.int .i64 2, .int .i64 1, .int .i64 0, .int .i64 1, .slice A5 n5 c5] 31) = w6 at *
      have y0 := Y.out.cell 0; have y1 := Y.out.cell 1; have y2 := Y.out.cell 2; have y3 := Y.out.cell 3; have y4 := Y.out.cell 4
      have z0 := Z.out.cell 0; have z1 := Z.out.cell 1; have z2 := Z.out.cell 2; have z3 := Z.out.cell 3; have z4 := Z.out.cell 4
      have CC := Kept.mk (rsame_yes ⟨2, 1, 0, 1, b⟩ A5 A3 n5 c5 n3 c3 w6 R5.out RD.out)
      go_wp2_with fail
      refine CC.out.mono ?_
      rintro e w7 ⟨rfl, b7⟩
      replace L := Kept.mk (L.out.below b7); replace Z := Kept.mk (Z.out.below b7 Z.out.lt); replace RD := Kept.mk (RD.out.below b7)
      replace B := Kept.mk (B.out.trans (b7.mono (by have := B.out.size; omega)))
      clear b7 CC Y R5 y0 y1 y2 y3 y4 z0 z1 z2 z3 z4
      obtain ⟨S, hS⟩ : ∃ S, w7.heap.size = S := ⟨_, rfl⟩
      have hMS : M < S := by have := Z.out.lt; omega
      have SA := Kept.mk (RD.out.off (F := [S]) (by simp; omega))
      have bb : Below w7.heap.size w7 (w7.alloc (.cells #[.int .i64 2, .int .i64 1, .int .i64 1, .int .i64 1, .slice none 0 0] 31)) := (Below.refl _ _).alloc (Nat.le_refl _) _
      have Q := Kept.mk (Blk.new_at w7 31 #[.int .i64 2, .int .i64 1, .int .i64 1, .int .i64 1, .slice none 0 0] S hS.symm)
      replace L := Kept.mk (L.out.below bb); replace Z := Kept.mk (Z.out.below bb Z.out.lt); replace RD := Kept.mk (RD.out.below bb)
      replace B := Kept.mk (B.out.trans (bb.mono (by have := B.out.size; omega)))
      clear bb
      go_upto_region 14 with (fail)
      clear hS
      generalize w7.alloc (.cells #[.int .i64 2, .int .i64 1, .int .i64 1, .int .i64 1, .slice none 0 0] 31) = w8 at *
      obtain ⟨r, hrk, hr0⟩ : ∃ r : Int, bits .and .i64 (k : Int) 3 = r ∧ (r = 0 ∨ r = 1 ∨ r = 2 ∨ r = 3) := ⟨_, rfl, and3 ⟨k, by omega⟩⟩
      replace hr0 := Kept.mk hr0
      go_upto_block 2 with (fail)
      go_cut [12] from 69 to 82 (fun e wx => ∃ (pv hv yv sv er : Int), e = .int .i64 er ∧ Kept (gotE ⟨2, 1, 1, true, b⟩ ⟨pv, hv, yv, sv, []⟩ = er ∧ er ≠ 0) ∧ Kept (Blk wx S 31 #[.int .i64 pv, .int .i64 hv, .int .i64 yv, .int .i64 sv, .slice none 0 0]) ∧ Kept (Ln cellsC 53 N wx x ⟨2, 1, 1, true, b⟩) ∧ Kept (Blk wx M 31 #[.int .i64 2, .int .i64 1, .int .i64 0, .int .i64 1, .slice A3 n3 c3]) ∧ Kept (Rd wx A3 n3 b) ∧ Kept (Below N w wx))
      case first =>
        clear hrk
        rcases hr0.out with rfl | rfl | rfl | rfl
        · have b9 : Bar [S] w8 (w8.setCell ⟨S, 3, none⟩ (.int .i64 (2 + (k : Int)))) := (Bar.refl _ _).setCell (by simp) _
          have E9 := Kept.mk (And.intro (Q.out.set_ 3 (.int .i64 (2 + (k : Int)))) (And.intro (L.out.keep b9 Q.out (by omega) (by decide)) (And.intro (Z.out.bar b9 (by simp; omega)) (And.intro (RD.out.far b9 SA.out) (bar_step B b9 (by omega) (by have := B.out.size; omega)).out))))
          clear b9
          have q3 := Q.out.cell 3; have f3 := Q.out.frozen 3
          go_wp2
          go_meet
          case rel => exact ⟨2, 1, 1, 2 + k, 5, rfl, ⟨by simp [gotE]; omega, by decide⟩, ⟨E9.out.1⟩, ⟨E9.out.2.1⟩, ⟨E9.out.2.2.1⟩, ⟨E9.out.2.2.2.1⟩, ⟨E9.out.2.2.2.2⟩⟩
        · have b9 : Bar [S] w8 (w8.setCell ⟨S, 2, none⟩ (.int .i64 0)) := (Bar.refl _ _).setCell (by simp) _
          have E9 := Kept.mk (And.intro (Q.out.set_ 2 (.int .i64 0)) (And.intro (L.out.keep b9 Q.out (by omega) (by decide)) (And.intro (Z.out.bar b9 (by simp; omega)) (And.intro (RD.out.far b9 SA.out) (bar_step B b9 (by omega) (by have := B.out.size; omega)).out))))
          clear b9
          have q2 := Q.out.cell 2; have f2 := Q.out.frozen 2
          go_wp2
          go_meet
          case rel => exact ⟨2, 1, 0, 1, 14, rfl, ⟨by simp [gotE], by decide⟩, ⟨E9.out.1⟩, ⟨E9.out.2.1⟩, ⟨E9.out.2.2.1⟩, ⟨E9.out.2.2.2.1⟩, ⟨E9.out.2.2.2.2⟩⟩
        · have b9 : Bar [S] w8 (w8.setCell ⟨S, 0, none⟩ (.int .i64 3)) := (Bar.refl _ _).setCell (by simp) _
          have E9 := Kept.mk (And.intro (Q.out.set_ 0 (.int .i64 3)) (And.intro (L.out.keep b9 Q.out (by omega) (by decide)) (And.intro (Z.out.bar b9 (by simp; omega)) (And.intro (RD.out.far b9 SA.out) (bar_step B b9 (by omega) (by have := B.out.size; omega)).out))))
          clear b9
          have q0 := Q.out.cell 0; have f0 := Q.out.frozen 0
          go_wp2
          go_meet
          case rel => exact ⟨3, 1, 1, 1, 14, rfl, ⟨by simp [gotE], by decide⟩, ⟨E9.out.1⟩, ⟨E9.out.2.1⟩, ⟨E9.out.2.2.1⟩, ⟨E9.out.2.2.2.1⟩, ⟨E9.out.2.2.2.2⟩⟩
        · have b9 : Bar [S] w8 (w8.setCell ⟨S, 1, none⟩ (.int .i64 0)) := (Bar.refl _ _).setCell (by simp) _
          have E9 := Kept.mk (And.intro (Q.out.set_ 1 (.int .i64 0)) (And.intro (L.out.keep b9 Q.out (by omega) (by decide)) (And.intro (Z.out.bar b9 (by simp; omega)) (And.intro (RD.out.far b9 SA.out) (bar_step B b9 (by omega) (by have := B.out.size; omega)).out))))
          clear b9
          have q1 := Q.out.cell 1; have f1 := Q.out.frozen 1
          go_wp2
          go_meet
          case rel => exact ⟨2, 0, 1, 1, 14, rfl, ⟨by simp [gotE], by decide⟩, ⟨E9.out.1⟩, ⟨E9.out.2.1⟩, ⟨E9.out.2.2.1⟩, ⟨E9.out.2.2.2.1⟩, ⟨E9.out.2.2.2.2⟩⟩
      case rest =>
      clear Q L Z RD B SA hrk hr0
      obtain ⟨pv, hv, yv, sv, er, rfl, HE, Q, L, Z, RD, B⟩ := hcut
      have q0 := Q.out.cell 0; have q1 := Q.out.cell 1; have q2 := Q.out.cell 2; have q3 := Q.out.cell 3; have q4 := Q.out.cell 4
      have CG := Kept.mk (cgot_any (m := ⟨pv, hv, yv, sv, []⟩) (Ab := none) (n := 0) (cb := 0) L.out Rd.nil_ (by omega) (.inl rfl))
      have hsz := Z.out.lt
      unfold BodyP gotB gotL at CG
      rw [HE.out.1, if_neg HE.out.2, if_neg HE.out.2] at CG
      go_wp2_with fail
      refine CG.out.mono ?_
      rintro e w9 ⟨A9, n9, c9, rfl, -, -, r9, -, l9, b9⟩
      have hn9 : n9 = 0 := r9.1.symm
      subst hn9
      replace Z := Kept.mk (Z.out.bar b9 (by simp; omega)); replace RD := Kept.mk (RD.out.far b9 (F3.out.mono_ (by simp)))
      replace L := Kept.mk l9
      replace B := bar_step B b9 hNx (by have := B.out.size; omega)
      clear CG r9 l9 b9 q0 q1 q2 q3 q4 Q HE
      go_wp2_with fail
      refine (cbusy_any L.out).mono ?_
      rintro e w3 ⟨rfl, rfl⟩
      go_wp2_with fail
      refine (cseq_any L.out).mono ?_
      rintro e w3 ⟨rfl, rfl⟩
      go_wp2
      go_round
      case rel => exact ⟨k + 1, by omega, by go_num, L, B, Z, RD⟩
      case measure => simp [Go.RowKit.intOf]; omega
    · have CG := Kept.mk (cgot_any (m := ⟨2, 1, 1, 1, []⟩) (Ab := none) (n := 0) (cb := 0) L.out Rd.nil_ (by omega) (.inl rfl))
      have e1 : gotE ⟨2, 1, 1, true, b⟩ ⟨2, 1, 1, 1, []⟩ = 0 := by simp [gotE]
      unfold BodyP gotB gotL at CG
      rw [e1, if_pos rfl, if_pos rfl] at CG
      clear e1
      go_wp2_with fail
      refine CG.out.mono ?_
      rintro e w9 ⟨A9, n9, c9, rfl, -, -, r9, -, l9, b9⟩
      replace L := Kept.mk l9
      replace B := bar_step B b9 hNx (by have := B.out.size; omega)
      clear CG r9 l9 b9 RD Z
      have CA := Kept.mk (cagain_any L.out)
      unfold NoteP againN at CA
      rw [if_neg (by decide)] at CA
      unfold zeroN at CA
      go_wp2_with fail
      refine CA.out.mono ?_
      rintro e w5 ⟨A5, n5, c5, rfl, -, -, r5, a5, l5, b5⟩
      replace L := Kept.mk l5
      replace B := bar_step B b5 hNx (by have := B.out.size; omega)
      have bb : Below w5.heap.size w5 (w5.alloc (.cells #[.int .i64 0, .int .i64 0, .int .i64 0, .int .i64 0, .slice A5 n5 c5] 31)) := (Below.refl _ _).alloc (Nat.le_refl _) _
      replace L := Kept.mk (L.out.below bb)
      replace B := Kept.mk (B.out.trans (bb.mono (by have := B.out.size; omega)))
      clear bb r5 a5 l5 b5 CA
      go_upto_region 29 with (fail)
      generalize w5.alloc (.cells #[.int .i64 0, .int .i64 0, .int .i64 0, .int .i64 0, .slice A5 n5 c5] 31) = w6 at *
      go_wp2_with fail
      refine (lfirst_any w6).mono ?_
      rintro e w7 ⟨rfl, b7⟩
      replace L := Kept.mk (L.out.below b7)
      replace B := Kept.mk (B.out.trans (b7.mono (by have := B.out.size; omega)))
      clear b7
      go_wp2_with fail
      refine (cbusy_any L.out).mono ?_
      rintro e w8 ⟨rfl, rfl⟩
      go_wp2
      go_ret
      exact ⟨rfl, hN.symm ▸ B.out⟩
end Go.Proofs.Ytfioaofmmplgcaa.Line
