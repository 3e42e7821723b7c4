/-
  The law LineNumbers, walked.
-/
import Derived.Test.YtfioaofmmplgcaaLineFirst
import Derived.Deep.CutBlock
import Derived.Deep.CutRange
namespace Go.Proofs.Ytfioaofmmplgcaa.Line
open Go.RowKit Go.Proofs.Ytfioaofmmplgcaa.Sha Go.Proofs.Ytfioaofmmplgcaa.Seal

set_option maxRecDepth 100000 in
set_option maxHeartbeats 2000000 in
theorem lnumbers_walk (p h s : Int) (w : World) : Calls Try.prog 5 #[.int .i64 p, .int .i64 h, .int .i64 s] w fun e w' => e = .returned (.bool true) ∧ Below w.heap.size w w' := by
  obtain ⟨N, hN⟩ : ∃ N, w.heap.size = N := ⟨_, rfl⟩
  obtain ⟨u, hu⟩ : ∃ u, (if 0 ≤ s ∧ s ≤ 4294967295 then s else 0) = u := ⟨_, rfl⟩
  have hub : 0 ≤ u ∧ u ≤ 4294967295 := by rw [← hu]; split <;> omega
  have HU := Kept.mk hu
  have NL : Kept (newL p h s = ⟨p, h, u, false, []⟩) := ⟨by unfold newL; rw [hu]⟩
  obtain ⟨t, ht⟩ : ∃ t, decide (0 ≤ s ∧ s ≤ 4294967295) = t := ⟨_, rfl⟩
  have HT := Kept.mk ht
  clear hu ht
  go_enter Try.func5, Try.ntmps5
  go_wp2_with fail
  refine (lfirst_any w).mono ?_
  rintro e w1 ⟨rfl, b1⟩
  rw [hN] at b1
  have B := Kept.mk b1
  have hs1 := b1.size
  clear b1
  go_wp2_with fail
  refine (cnew_any p h s N w1 (by omega)).mono ?_
  rintro e w2 ⟨rfl, l2, b2⟩
  obtain ⟨x, hx⟩ : ∃ x, w1.heap.size = x := ⟨_, rfl⟩
  rw [hx, NL.out] at l2
  rw [hx] at b2 ⊢
  have L := Kept.mk l2
  replace B := Kept.mk (B.out.trans (b2.mono (by omega)))
  have hNx : N ≤ x := by omega
  clear l2 b2 NL hx hs1
  go_upto_region 6 with (fail)
  go_cut [8] from 23 to 28 (fun q wx => q = .bool t ∧ Kept (w2 = wx))
  case first =>
    by_cases h1 : 0 ≤ s
    · by_cases h2 : s ≤ 4294967295
      · go_wp2
        go_meet
        case rel => exact ⟨by rw [← HT.out, decide_eq_true (by omega)], ⟨rfl⟩⟩
      · go_wp2
        go_meet
        case rel => exact ⟨by rw [← HT.out, decide_eq_false (by omega)], ⟨rfl⟩⟩
    · go_wp2
      go_meet
      case rel => exact ⟨by rw [← HT.out, decide_eq_false (by omega)], ⟨rfl⟩⟩
  case rest =>
  obtain ⟨rfl, ⟨rfl⟩⟩ := hcut
  go_upto_if 29 with (fail)
  go_cut [9] from 30 to 30 (fun q wx => q = .int .i64 u ∧ Kept (w2 = wx))
  case first =>
    cases t with
    | true =>
      have hu := HU.out
      rw [if_pos (of_decide_eq_true HT.out)] at hu
      subst hu
      go_wp2
      go_meet
      case rel => exact ⟨rfl, ⟨rfl⟩⟩
    | false =>
      have hu := HU.out
      rw [if_neg (of_decide_eq_false HT.out)] at hu
      subst hu
      go_wp2
      go_meet
      case rel => exact ⟨rfl, ⟨rfl⟩⟩
  case rest =>
  obtain ⟨rfl, ⟨rfl⟩⟩ := hcut
  clear HU HT
  go_wp2_with fail
  refine (cseq_any L.out).mono ?_
  rintro e w3 ⟨rfl, rfl⟩
  go_wp2_with fail
  refine (cbusy_any L.out).mono ?_
  rintro e w3 ⟨rfl, rfl⟩
  go_wp2
  go_loopw [9, 10] (fun q i wr => ∃ (k : Nat) (z : Int), k ≤ 3 ∧ i = .int .i64 k ∧ q = .int .i64 z ∧ z ≤ 4294967295 ∧ Kept (Ln cellsC 53 N wr x ⟨p, h, z, false, []⟩) ∧ Kept (Below N w wr)) (fun _ i _ => 3 - (Go.RowKit.intOf i).toNat)
  case atStart => exact ⟨0, u, by omega, rfl, rfl, hub.2, L, B⟩
  case round =>
    clear L B
    obtain ⟨k, z, hk, rfl, rfl, hz, L, B⟩ := hrel
    by_cases hlt : (k : Int) < 3
    · have hk3 : k = 0 ∨ k = 1 ∨ k = 2 := by omega
      have hkw : IntKind.u8.wrap (k : Int) = k := by rcases hk3 with rfl | rfl | rfl <;> rfl
      have bA : Below wr.heap.size wr (wr.alloc (.cells #[.int .u8 (k : Int)] 5)) := (Below.refl _ _).alloc (Nat.le_refl _) _
      have hr : Rd (wr.alloc (.cells #[.int .u8 (k : Int)] 5)) (some ⟨wr.heap.size, 0, none⟩) 1 [(k : Int)] := rd_one wr k (by omega)
      have hxl := L.out.lt
      have CS := Kept.mk (csend_any (cb := 1) (L.out.below bA) hr (by omega) (.inr ⟨wr.heap.size, 0, rfl, by simp; omega⟩))
      have BA := Kept.mk bA
      unfold NoteP at CS
      clear hr bA
      by_cases hm : z = 4294967295
      · subst hm
        have e1 : sendE ⟨p, h, 4294967295, false, []⟩ = 1 := rfl
        have e2 : sendL ⟨p, h, 4294967295, false, []⟩ [(k : Int)] = ⟨p, h, 4294967295, false, []⟩ := rfl
        have e3 : sendN ⟨p, h, 4294967295, false, []⟩ [(k : Int)] = zeroN := rfl
        rw [e1, e2, e3] at CS
        unfold zeroN at CS
        clear e1 e2 e3
        go_wp2_with fail
        refine CS.out.mono ?_
        rintro e w3 ⟨A3, n3, c3, rfl, -, -, -, -, l3, b3⟩
        replace L := Kept.mk l3
        replace B := bar_step (N := N) ⟨B.out.trans (BA.out.mono (by have := B.out.size; omega))⟩ b3 hNx (by have := BA.out.size; have := B.out.size; omega)
        clear CS BA l3 b3
        have bb : Below w3.heap.size w3 (w3.alloc (.cells #[.int .i64 0, .int .i64 0, .int .i64 0, .int .i64 0, .slice A3 n3 c3] 31)) := (Below.refl _ _).alloc (Nat.le_refl _) _
        replace L := Kept.mk (L.out.below bb)
        replace B := Kept.mk (B.out.trans (bb.mono (by have := B.out.size; omega)))
        clear bb
        go_upto_region 16 with (fail)
        generalize w3.alloc (.cells #[.int .i64 0, .int .i64 0, .int .i64 0, .int .i64 0, .slice A3 n3 c3] 31) = w4 at *
        go_wp2_with fail
        refine (lfirst_any w4).mono ?_
        rintro e w5 ⟨rfl, b5⟩
        replace L := Kept.mk (L.out.below b5)
        replace B := Kept.mk (B.out.trans (b5.mono (by have := B.out.size; omega)))
        clear b5
        go_wp2_with fail
        refine (cbusy_any L.out).mono ?_
        rintro e w6 ⟨rfl, rfl⟩
        go_wp2_with fail
        refine (cseq_any L.out).mono ?_
        rintro e w6 ⟨rfl, rfl⟩
        go_wp2
        go_ret
        exact ⟨rfl, hN.symm ▸ B.out⟩
      · have e1 : sendE ⟨p, h, z, false, []⟩ = 0 := by simp [sendE, hm]
        have e2 : sendL ⟨p, h, z, false, []⟩ [(k : Int)] = ⟨p, h, z + 1, true, [(k : Int)]⟩ := by unfold sendL; rw [if_pos e1]
        have e3 : sendN ⟨p, h, z, false, []⟩ [(k : Int)] = ⟨p, h, 0, z + 1, [(k : Int)]⟩ := by unfold sendN; rw [if_pos e1]
        rw [e1, e2, e3] at CS
        clear e1 e2 e3
        have hz0 := L.out.seq.1
        have hzm : ((4294967295 : Int) ≤ z) = False := eq_false (by omega)
        go_wp2_with fail
        refine CS.out.mono ?_
        rintro e w3 ⟨A3, n3, c3, rfl, h1, h2, r3, a3, l3, b3⟩
        replace L := Kept.mk l3
        replace B := bar_step (N := N) ⟨B.out.trans (BA.out.mono (by have := B.out.size; omega))⟩ b3 hNx (by have := BA.out.size; have := B.out.size; omega)
        have f3 : Off A3 n3 [x, w3.heap.size] := by
          have hA := newA_off a3 r3 (F := [x]) (by have := BA.out.size; simp; omega)
          rcases r3.2.2 with h0 | ⟨g, o, hg, hc⟩
          · exact .inl h0
          · by_cases h0 : n3 = 0
            · exact .inl h0
            · have hgl := World.block_lt_of_cell? _ _ (hc 0 (by omega))
              refine .inr ⟨g, o, hg, ?_⟩
              rcases hA with hA | ⟨g', o', hg', hn⟩
              · exact absurd hA h0
              · rw [hg] at hg'; injection hg' with hg'; injection hg' with e1 e2; subst e1
                simp at hn hgl ⊢; omega
        clear CS BA l3 b3 a3
        obtain ⟨M, hM⟩ : ∃ M, w3.heap.size = M := ⟨_, rfl⟩
        rw [hM] at f3
        have hxM : x < M := by have := L.out.lt; omega
        have bb : Below w3.heap.size w3 (w3.alloc (.cells #[.int .i64 p, .int .i64 h, .int .i64 0, .int .i64 (z + 1), .slice A3 n3 c3] 31)) := (Below.refl _ _).alloc (Nat.le_refl _) _
        have Z := Kept.mk (Blk.new_at w3 31 #[.int .i64 p, .int .i64 h, .int .i64 0, .int .i64 (z + 1), .slice A3 n3 c3] M hM.symm)
        replace L := Kept.mk (L.out.below bb)
        have RD := Kept.mk (r3.below bb)
        replace B := Kept.mk (B.out.trans (bb.mono (by have := B.out.size; omega)))
        have hNM : N ≤ M := by omega
        have F3 := Kept.mk f3
        clear bb r3 f3
        go_upto_region 16 with (fail)
        clear hM
        generalize w3.alloc (.cells #[.int .i64 p, .int .i64 h, .int .i64 0, .int .i64 (z + 1), .slice A3 n3 c3] 31) = w4 at *
        have z0 := Z.out.cell 0; have z1 := Z.out.cell 1; have z2 := Z.out.cell 2; have z3 := Z.out.cell 3; have z4 := Z.out.cell 4
        have q2 := Z.out.frozen 2
        go_upto_region 22 with (fail)
        have Z5 : Kept (Blk (w4.setCell ⟨M, 2, none⟩ (.int .i64 1)) M 31 #[.int .i64 p, .int .i64 h, .int .i64 1, .int .i64 (z + 1), .slice A3 n3 c3]) := ⟨Z.out.set_ 2 (.int .i64 1)⟩
        have b5 : Bar [M] w4 (w4.setCell ⟨M, 2, none⟩ (.int .i64 1)) := (Bar.refl _ _).setCell (by simp) _
        replace L := Kept.mk (L.out.keep b5 Z.out (by omega) (by decide)); replace RD := Kept.mk (RD.out.far b5 (F3.out.mono_ (by simp)))
        replace B := bar_step B b5 hNM (by have := B.out.size; omega)
        clear b5 z0 z1 z2 z3 z4 q2 Z
        generalize w4.setCell ⟨M, 2, none⟩ (.int .i64 1) = w5 at *
        have z0 := Z5.out.cell 0; have z1 := Z5.out.cell 1; have z2 := Z5.out.cell 2; have z3 := Z5.out.cell 3; have z4 := Z5.out.cell 4
        have hn3 : n3 = 1 := RD.out.1.symm
        subst hn3
        have CG := Kept.mk (cgot_any (m := ⟨p, h, 1, z + 1, [(k : Int)]⟩) (cb := c3) L.out RD.out (by omega) (F3.out.mono_ (by simp)))
        have e1 : gotE ⟨p, h, z + 1, true, [(k : Int)]⟩ ⟨p, h, 1, z + 1, [(k : Int)]⟩ = 0 := by simp [gotE]
        unfold BodyP gotB gotL at CG
        rw [e1, if_pos rfl, if_pos rfl] at CG
        clear e1 RD F3
        go_wp2_with fail
        refine CG.out.mono ?_
        rintro e w6 ⟨A6, n6, c6, rfl, -, -, r6, -, l6, b6⟩
        have hn6 : n6 = 1 := r6.1.symm
        subst hn6
        replace L := Kept.mk l6
        replace B := bar_step B b6 hNx (by have := B.out.size; omega)
        clear CG l6 b6 z0 z1 z2 z3 z4 Z5
        obtain ⟨g, o, rfl, hc⟩ := r6.2.2.resolve_left (by omega)
        have c0 : w6.cell? ⟨g, o, none⟩ = some (.int .u8 k) := hc 0 (by omega)
        clear hc r6
        go_wp2
        go_round
        case rel => exact ⟨k + 1, z + 1, by omega, by go_num, by go_num, by omega, L, B⟩
        case measure => simp [Go.RowKit.intOf]; omega
    · go_wp2_with fail
      refine (lfirst_any wr).mono ?_
      rintro e w3 ⟨rfl, b3⟩
      replace B := Kept.mk (B.out.trans (b3.mono (by have := B.out.size; omega)))
      clear b3
      go_wp2
      go_ret
      exact ⟨rfl, hN.symm ▸ B.out⟩
end Go.Proofs.Ytfioaofmmplgcaa.Line
