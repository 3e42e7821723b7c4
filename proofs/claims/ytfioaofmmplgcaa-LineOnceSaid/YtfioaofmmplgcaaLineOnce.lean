/-
  The law LineOnce, walked.
-/
import Derived.Test.YtfioaofmmplgcaaTakes
import Derived.Test.YtfioaofmmplgcaaLineFirst
import Derived.Test.YtfioaofmmplgcaaLineAgain
import Derived.Test.YtfioaofmmplgcaaSealSame
import Derived.Test.YtfioaofmmplgcaaFew
import Derived.Test.YtfioaofmmplgcaaTakes
namespace Go.Proofs.Ytfioaofmmplgcaa.Line
open Go.RowKit Go.Proofs.Ytfioaofmmplgcaa.Sha Go.Proofs.Ytfioaofmmplgcaa.Seal

set_option maxRecDepth 100000 in
set_option maxHeartbeats 4000000 in
theorem lonce_walk (A : Option Addr) (n c : Nat) (X : Nat → List Int) (w : World) (hr : Rws w A n X) : Calls Try.prog 4 #[.slice A n c] w fun e w' => e = .returned (.bool true) ∧ Below w.heap.size w w' := by
  obtain ⟨N, hN⟩ : ∃ N, w.heap.size = N := ⟨_, rfl⟩
  have HX := Kept.mk hr
  clear hr
  have EN : Kept (∀ wz, Below N w wz → Calls Try.prog 7 #[] wz fun e w' => e = .returned (.bool true) ∧ Below N w w') := ⟨fun wz hz => (lfirst_any wz).mono (fun e w' h => ⟨h.1, hz.trans (h.2.mono (by have := hz.size; omega))⟩)⟩
  go_enter Try.func4, Try.ntmps4
  go_wp2_with fail
  refine (EN.out w (Below.refl _ _)).mono ?_
  rintro e w1 ⟨rfl, b1⟩
  have B := Kept.mk b1
  have hs1 := b1.size
  clear b1
  go_wp2_with fail
  refine (cnew_any 3 1 7 N w1 (by omega)).mono ?_
  rintro e w2 ⟨rfl, l2, b2⟩
  obtain ⟨x, hx⟩ : ∃ x, w1.heap.size = x := ⟨_, rfl⟩
  rw [hx] at l2 b2 ⊢
  have L := Kept.mk (show Ln cellsC 53 N w2 x ⟨3, 1, 7, false, []⟩ from l2)
  replace B := Kept.mk (B.out.trans (b2.mono (by omega)))
  have hNx : N ≤ x := by omega
  clear l2 b2 hx hs1
  have CF := fews_any A n c 200 20000 X w2 (HX.out.below (hN.symm ▸ B.out)) (by omega) (by omega)
  unfold FewsPost at CF
  replace CF := Kept.mk CF
  go_wp2_with fail
  refine CF.out.mono ?_
  rintro e w3 ⟨t, rfl, ht, rfl⟩
  clear CF
  cases t with
  | false =>
    go_wp2_with fail
    refine (EN.out w2 B.out).mono ?_
    rintro e wz ⟨rfl, bb⟩
    replace B := Kept.mk bb
    clear bb
    go_wp2
    go_ret
    exact ⟨rfl, hN.symm ▸ B.out⟩
  | true =>
    obtain ⟨hn, hX⟩ := ht rfl
    have HL := Kept.mk hX
    clear ht hX
    go_wp2
    go_loopw [4] (fun i wr => ∃ (k : Nat) (s : Int), k ≤ n ∧ i = .int .i64 k ∧ Kept (s = 7 + k) ∧ Kept (Ln cellsC 53 N wr x ⟨3, 1, s, false, []⟩) ∧ Kept (Below N w wr)) (fun i _ => n - (Go.RowKit.intOf i).toNat)
    case atStart => exact ⟨0, 7, by omega, rfl, ⟨by omega⟩, L, B⟩
    case round =>
      clear L B
      obtain ⟨k, s, hk, rfl, HS, L, B⟩ := hrel
      by_cases hlt : k < n
      · have hlt' : (k : Int) < n := by omega
        obtain ⟨g, o, rfl, hc⟩ := HX.out.resolve_left (by omega)
        obtain ⟨a, l, cl, h1, h2, h3, h4⟩ := hc k hlt
        clear hc
        have hl := HL.out k hlt
        obtain ⟨xs, hxs⟩ : ∃ xs, X k = xs := ⟨_, rfl⟩
        rw [hxs] at h4 hl
        clear hxs
        have hll : l ≤ 20000 := by rw [← h4.1]; exact hl
        have TX : Kept (∀ w', Below N w w' → w'.cell? ⟨g, o + k, none⟩ = some (.slice a l cl) ∧ Rd w' a l xs) := ⟨fun w' hb => ⟨by rw [hb.cell (by have := World.block_lt_of_cell? _ _ h1; simp at this ⊢; omega)]; exact h1, h4.below (hN.symm ▸ hb)⟩⟩
        have OX : Kept (Off a l [x]) := ⟨h4.off (by simp; omega)⟩
        clear h1 h4 h2 h3 hl
        have hs7 : 7 ≤ s ∧ s ≤ 1000 := by have := HS.out; omega
        have CS := Kept.mk (csend_any (cb := cl) L.out (TX.out wr B.out).2 (by omega) OX.out)
        have hxl := L.out.lt
        have e1 : sendE ⟨3, 1, s, false, []⟩ = 0 := by unfold sendE; rw [if_neg (by simp), if_neg (show ¬ s = 4294967295 by omega)]
        have e2 : sendL ⟨3, 1, s, false, []⟩ xs = ⟨3, 1, s + 1, true, xs⟩ := by unfold sendL; rw [if_pos e1]
        have e3 : sendN ⟨3, 1, s, false, []⟩ xs = ⟨3, 1, 0, s + 1, xs⟩ := by unfold sendN; rw [if_pos e1]
        rw [e1, e2, e3] at CS
        unfold NoteP at CS
        clear e1 e2 e3
        have t1 := (TX.out wr B.out).1
        go_wp2_with fail
        refine CS.out.mono ?_
        rintro e w3 ⟨A3, n3, c3, rfl, -, -, r3, a3, l3, b3⟩
        replace L := Kept.mk l3
        replace B := bar_step B b3 hNx (by have := B.out.size; omega)
        obtain ⟨M, hM⟩ : ∃ M, w3.heap.size = M := ⟨_, rfl⟩
        have f3 : Off A3 n3 [M, x] := hM ▸ newA_more a3 r3 (by simpa using hxl)
        clear CS l3 b3 a3 hxl t1
        have hxM : x < M := by have := L.out.lt; omega
        have bb : Below w3.heap.size w3 (w3.alloc (.cells #[.int .i64 3, .int .i64 1, .int .i64 0, .int .i64 (s + 1), .slice A3 n3 c3] 31)) := (Below.refl _ _).alloc (Nat.le_refl _) _
        have Z := Kept.mk (Blk.new_at w3 31 #[.int .i64 3, .int .i64 1, .int .i64 0, .int .i64 (s + 1), .slice A3 n3 c3] M hM.symm)
        replace L := Kept.mk (L.out.below bb)
        have RD := Kept.mk (r3.below bb)
        replace B := Kept.mk (B.out.trans (bb.mono (by have := B.out.size; omega)))
        have F3 := Kept.mk f3
        clear bb r3 f3
        go_upto_region 10 with (fail)
        clear hM
        generalize w3.alloc (.cells #[.int .i64 3, .int .i64 1, .int .i64 0, .int .i64 (s + 1), .slice A3 n3 c3] 31) = w4 at *
        have CA := Kept.mk (cagain_any L.out)
        have hMw := Z.out.lt
        unfold NoteP againN noteL at CA
        rw [if_pos rfl] at CA
        go_wp2_with fail
        refine CA.out.mono ?_
        rintro e w5 ⟨A5, n5, c5, rfl, -, -, r5, a5, l5, b5⟩
        replace L := Kept.mk l5
        replace Z := Kept.mk (Z.out.bar b5 (by simp; omega)); replace RD := Kept.mk (RD.out.far b5 (F3.out.mono_ (by simp)))
        replace B := bar_step B b5 hNx (by have := B.out.size; omega)
        have bb : Below w5.heap.size w5 (w5.alloc (.cells #[.int .i64 3, .int .i64 1, .int .i64 0, .int .i64 (s + 1), .slice A5 n5 c5] 31)) := (Below.refl _ _).alloc (Nat.le_refl _) _
        obtain ⟨R, hR⟩ : ∃ R, w5.heap.size = R := ⟨_, rfl⟩
        have Y := Kept.mk (Blk.new_at w5 31 #[.int .i64 3, .int .i64 1, .int .i64 0, .int .i64 (s + 1), .slice A5 n5 c5] R hR.symm)
        have R5 := Kept.mk (r5.below bb)
        replace L := Kept.mk (L.out.below bb); replace Z := Kept.mk (Z.out.below bb Z.out.lt); replace RD := Kept.mk (RD.out.below bb)
        replace B := Kept.mk (B.out.trans (bb.mono (by have := B.out.size; omega)))
        clear bb r5 a5 l5 b5 CA hMw
        go_upto_region 11 with (fail)
        clear hR
        generalize w5.alloc (.cells #[.int .i64 3, .int .i64 1, .int .i64 0, .int .i64 (s + 1), .slice A5 n5 c5] 31) = w6 at *
        have bd : Below w6.heap.size w6 w6.drew := (Below.refl _ _).drew
        have HB6 : Kept (∀ w', Below w6.heap.size w6 w' → (w'.cell? ⟨M, 0, none⟩ = some (.int .i64 3) ∧ w'.cell? ⟨M, 1, none⟩ = some (.int .i64 1) ∧ w'.cell? ⟨M, 2, none⟩ = some (.int .i64 0) ∧ w'.cell? ⟨M, 3, none⟩ = some (.int .i64 (s + 1)) ∧ w'.cell? ⟨M, 4, none⟩ = some (.slice A3 n3 c3)) ∧ (w'.cell? ⟨R, 0, none⟩ = some (.int .i64 3) ∧ w'.cell? ⟨R, 1, none⟩ = some (.int .i64 1) ∧ w'.cell? ⟨R, 2, none⟩ = some (.int .i64 0) ∧ w'.cell? ⟨R, 3, none⟩ = some (.int .i64 (s + 1)) ∧ w'.cell? ⟨R, 4, none⟩ = some (.slice A5 n5 c5)) ∧ w'.cell? ⟨g, o + k, none⟩ = some (.slice a l cl)) := ⟨fun w' hb => by
          have k1 := Z.out.below hb Z.out.lt
          have k2 := Y.out.below hb Y.out.lt
          exact ⟨⟨k1.cell 0, k1.cell 1, k1.cell 2, k1.cell 3, k1.cell 4⟩, ⟨k2.cell 0, k2.cell 1, k2.cell 2, k2.cell 3, k2.cell 4⟩, (TX.out w' (B.out.trans (hb.mono (by have := B.out.size; omega)))).1⟩⟩
        have hS0 := HB6.out w6.drew bd
        have WR : IntKind.i64.wrap (8 + (k : Int)) = s + 1 := by simp only [IntKind.wrap_i64]; have := HS.out; omega
        have CC := Kept.mk (rsame_yes ⟨3, 1, 0, s + 1, xs⟩ A5 A3 n5 c5 n3 c3 w6.drew (R5.out.below bd) (RD.out.below bd))
        refine wp_region_noPanic ?_
        refine wp_region_held_drew (S := fun w' : World => (w'.cell? ⟨M, 0, none⟩ = some (.int .i64 3) ∧ w'.cell? ⟨M, 1, none⟩ = some (.int .i64 1) ∧ w'.cell? ⟨M, 2, none⟩ = some (.int .i64 0) ∧ w'.cell? ⟨M, 3, none⟩ = some (.int .i64 (s + 1)) ∧ w'.cell? ⟨M, 4, none⟩ = some (.slice A3 n3 c3)) ∧ (w'.cell? ⟨R, 0, none⟩ = some (.int .i64 3) ∧ w'.cell? ⟨R, 1, none⟩ = some (.int .i64 1) ∧ w'.cell? ⟨R, 2, none⟩ = some (.int .i64 0) ∧ w'.cell? ⟨R, 3, none⟩ = some (.int .i64 (s + 1)) ∧ w'.cell? ⟨R, 4, none⟩ = some (.slice A5 n5 c5)) ∧ w'.cell? ⟨g, o + k, none⟩ = some (.slice a l cl)) (by kernel_rfl) hS0 (fun hHeld => ?_)
        clear hS0
        refine tk 0 ?_
        simp only [Act.put, List.setIfInBounds_toArray, List.set_cons_zero, List.set_cons_succ]
        refine tk 1 ?_
        simp only [Act.put, List.setIfInBounds_toArray, List.set_cons_zero, List.set_cons_succ]
        refine tk 2 ?_
        simp only [Act.put, List.setIfInBounds_toArray, List.set_cons_zero, List.set_cons_succ]
        refine tk 3 ?_
        simp only [Act.put, List.setIfInBounds_toArray, List.set_cons_zero, List.set_cons_succ]
        refine tk 4 ?_
        simp only [Act.put, List.setIfInBounds_toArray, List.set_cons_zero, List.set_cons_succ]
        refine tk 5 ?_
        simp only [Act.put, List.setIfInBounds_toArray, List.set_cons_zero, List.set_cons_succ]
        refine tk 6 ?_
        simp only [Act.put, List.setIfInBounds_toArray, List.set_cons_zero, List.set_cons_succ]
        refine tk 7 ?_
        simp only [Act.put, List.setIfInBounds_toArray, List.set_cons_zero, List.set_cons_succ]
        refine tk 8 ?_
        simp only [Act.put, List.setIfInBounds_toArray, List.set_cons_zero, List.set_cons_succ]
        refine tk 9 ?_
        simp only [Act.put, List.setIfInBounds_toArray, List.set_cons_zero, List.set_cons_succ]
        refine tk 10 ?_
        simp only [Act.put, List.setIfInBounds_toArray, List.set_cons_zero, List.set_cons_succ]
        refine tk 11 ?_
        simp only [Act.put, List.setIfInBounds_toArray, List.set_cons_zero, List.set_cons_succ]
        refine tk 12 ?_
        simp only [Act.put, List.setIfInBounds_toArray, List.set_cons_zero, List.set_cons_succ]
        refine tk 13 ?_
        simp only [Act.put, List.setIfInBounds_toArray, List.set_cons_zero, List.set_cons_succ]
        refine tk 14 ?_
        simp only [Act.put, List.setIfInBounds_toArray, List.set_cons_zero, List.set_cons_succ]
        refine tk 15 ?_
        simp only [Act.put, List.setIfInBounds_toArray, List.set_cons_zero, List.set_cons_succ]
        clear WR
        refine ld 16 (fun K hK => ?_)
        go_simp
        go_at_call 13
        refine CC.out.mono ?_
        rintro e w7 ⟨rfl, b7⟩
        replace b7 : Below w6.heap.size w6 w7 := bd.trans b7
        refine hK.out _ _ (HB6.out w7 b7) (fun hHeld2 => ?_)
        clear hK K hHeld CC
        try simp only [Act.put, List.setIfInBounds_toArray, List.set_cons_zero, List.set_cons_succ]
        refine tk 17 ?_
        simp only [Act.put, List.setIfInBounds_toArray, List.set_cons_zero, List.set_cons_succ]
        refine tk 18 ?_
        simp only [Act.put, List.setIfInBounds_toArray, List.set_cons_zero, List.set_cons_succ]
        refine tk 19 ?_
        simp only [Act.put, List.setIfInBounds_toArray, List.set_cons_zero, List.set_cons_succ]
        refine tk 20 ?_
        simp only [Act.put, List.setIfInBounds_toArray, List.set_cons_zero, List.set_cons_succ]
        refine tk 21 ?_
        simp only [Act.put, List.setIfInBounds_toArray, List.set_cons_zero, List.set_cons_succ]
        refine tk 22 ?_
        simp only [Act.put, List.setIfInBounds_toArray, List.set_cons_zero, List.set_cons_succ]
        refine tk 23 ?_
        simp only [Act.put, List.setIfInBounds_toArray, List.set_cons_zero, List.set_cons_succ]
        refine tk 24 ?_
        simp only [Act.put, List.setIfInBounds_toArray, List.set_cons_zero, List.set_cons_succ]
        refine tk 25 ?_
        simp only [Act.put, List.setIfInBounds_toArray, List.set_cons_zero, List.set_cons_succ]
        have CB := Kept.mk (bytes_same A3 a n3 l c3 cl xs w7 (RD.out.below b7) (TX.out w7 (B.out.trans (b7.mono (by have := B.out.size; omega)))).2)
        refine ld 26 (fun K hK => ?_)
        go_simp
        go_at_call 18
        refine CB.out.mono ?_
        rintro e w8 ⟨rfl, rfl⟩
        refine hK.out _ _ (HB6.out w7 b7) (fun hHeld3 => ?_)
        clear hK K hHeld2 CB
        try simp only [Act.put, List.setIfInBounds_toArray, List.set_cons_zero, List.set_cons_succ]
        refine tk 27 ?_
        simp only [Act.put, List.setIfInBounds_toArray, List.set_cons_zero, List.set_cons_succ]
        refine tk 28 ?_
        simp only [Act.put, List.setIfInBounds_toArray, List.set_cons_zero, List.set_cons_succ]
        refine wpAnyH_done (by kernel_rfl) ?_ _
        refine NoPanic.normal ?_
        clear hHeld3 HB6 bd
        replace L := Kept.mk (L.out.below b7); replace Z := Kept.mk (Z.out.below b7 Z.out.lt)
        replace B := Kept.mk (B.out.trans (b7.mono (by have := B.out.size; omega)))
        clear b7 RD F3 Y R5 hxM
        go_upto_region 13 with (fail)
        have bd : Below w7.heap.size w7 w7.drew := (Below.refl _ _).drew
        replace L := Kept.mk (L.out.below bd); replace Z := Kept.mk (Z.out.below bd Z.out.lt)
        replace B := Kept.mk (B.out.trans (bd.mono (by have := B.out.size; omega)))
        clear bd
        have hS0 : (fun w' : World => w'.cell? ⟨M, 3, none⟩ = some (.int .i64 (s + 1)) ∧ w'.cell? ⟨g, o + k, none⟩ = some (.slice a l cl)) w7.drew := ⟨Z.out.cell 3, (TX.out _ B.out).1⟩
        refine wp_region_noPanic ?_
        refine wp_region_held_drew (S := fun w' : World => w'.cell? ⟨M, 3, none⟩ = some (.int .i64 (s + 1)) ∧ w'.cell? ⟨g, o + k, none⟩ = some (.slice a l cl)) (by kernel_rfl) hS0 (fun hHeld => ?_)
        clear hS0
        generalize w7.drew = w8 at *
        refine tk 0 ?_
        simp only [Act.put, List.setIfInBounds_toArray, List.set_cons_zero, List.set_cons_succ]
        refine tk 1 ?_
        simp only [Act.put, List.setIfInBounds_toArray, List.set_cons_zero, List.set_cons_succ]
        refine tk 2 ?_
        simp only [Act.put, List.setIfInBounds_toArray, List.set_cons_zero, List.set_cons_succ]
        refine tk 3 ?_
        simp only [Act.put, List.setIfInBounds_toArray, List.set_cons_zero, List.set_cons_succ]
        refine tk 4 ?_
        simp only [Act.put, List.setIfInBounds_toArray, List.set_cons_zero, List.set_cons_succ]
        refine tk 5 ?_
        simp only [Act.put, List.setIfInBounds_toArray, List.set_cons_zero, List.set_cons_succ]
        refine tk 6 ?_
        simp only [Act.put, List.setIfInBounds_toArray, List.set_cons_zero, List.set_cons_succ]
        obtain ⟨T, hT⟩ : ∃ T, w8.heap.size = T := ⟨_, rfl⟩
        have hMT : M < T := by have := Z.out.lt; omega
        refine ld 7 (fun K hK => ?_)
        go_simp
        have bb : Below w8.heap.size w8 (w8.alloc (.cells #[.int .i64 0, .int .i64 0, .int .i64 0, .int .i64 0, .slice none 0 0] 31)) := (Below.refl _ _).alloc (Nat.le_refl _) _
        have Q := Kept.mk (Blk.new_at w8 31 #[.int .i64 0, .int .i64 0, .int .i64 0, .int .i64 0, .slice none 0 0] T hT.symm)
        have OT : Kept (Off a l [T]) := ⟨(TX.out w8 B.out).2.off (by simp; omega)⟩
        have hxT : x < T := by have := L.out.lt; omega
        have hgT : g ≠ T := by have := World.block_lt_of_cell? _ _ (TX.out w8 B.out).1; simp at this; omega
        replace L := Kept.mk (L.out.below bb); replace Z := Kept.mk (Z.out.below bb Z.out.lt)
        replace B := Kept.mk (B.out.trans (bb.mono (by have := B.out.size; omega)))
        clear bb hT
        refine hK.out _ _ ⟨Z.out.cell 3, (TX.out _ B.out).1⟩ (fun hHeld2 => ?_)
        clear hK K hHeld
        try simp only [Act.put, List.setIfInBounds_toArray, List.set_cons_zero, List.set_cons_succ]
        generalize w8.alloc (.cells #[.int .i64 0, .int .i64 0, .int .i64 0, .int .i64 0, .slice none 0 0] 31) = w9 at *
        have z0 := Q.out.cell 0; have z1 := Q.out.cell 1; have z2 := Q.out.cell 2; have z3 := Q.out.cell 3; have z4 := Q.out.cell 4
        have q0 := Q.out.frozen 0; have q1 := Q.out.frozen 1; have q2 := Q.out.frozen 2; have q3 := Q.out.frozen 3; have q4 := Q.out.frozen 4
        have p5 := put5 Q.out (.int .i64 3) (.int .i64 1) (.int .i64 1) (.int .i64 (s + 1)) (.slice a l cl)
        have Q2 := Kept.mk p5.1
        have L2 := Kept.mk (L.out.keep p5.2 Q.out (by omega) (by decide))
        have Z2 := Kept.mk (Z.out.bar p5.2 (by simp; omega))
        have B2 := bar_step B p5.2 (by omega) (by have := B.out.size; omega)
        clear p5
        refine ld 8 (fun K hK => ?_)
        go_simp
        refine hK.out _ _ ⟨Z2.out.cell 3, (TX.out _ B2.out).1⟩ (fun hHeld3 => ?_)
        clear hK K hHeld2 z0 z1 z2 z3 z4 q0 q1 q2 q3 q4 Q L Z B
        try simp only [Act.put, List.setIfInBounds_toArray, List.set_cons_zero, List.set_cons_succ]
        refine wpAnyH_done (by kernel_rfl) ?_ _
        refine NoPanic.normal ?_
        clear hHeld3
        generalize ((((w9.setCell ⟨T, 0, none⟩ (.int .i64 3)).setCell ⟨T, 1, none⟩ (.int .i64 1)).setCell ⟨T, 2, none⟩ (.int .i64 1)).setCell ⟨T, 3, none⟩ (.int .i64 (s + 1))).setCell ⟨T, 4, none⟩ (.slice a l cl) = w10 at *
        clear Z2 hMT
        obtain ⟨U, hU⟩ : ∃ U, w10.heap.size = U := ⟨_, rfl⟩
        have hTU : T < U := by have := Q2.out.lt; omega
        have z0 := Q2.out.cell 0; have z1 := Q2.out.cell 1; have z2 := Q2.out.cell 2; have z3 := Q2.out.cell 3; have z4 := Q2.out.cell 4
        go_upto_region 15 with (fail)
        have bb : Below w10.heap.size w10 (w10.alloc (.cells #[.int .i64 3, .int .i64 1, .int .i64 1, .int .i64 (s + 1), .slice a l cl] 31)) := (Below.refl _ _).alloc (Nat.le_refl _) _
        have V := Kept.mk (Blk.new_at w10 31 #[.int .i64 3, .int .i64 1, .int .i64 1, .int .i64 (s + 1), .slice a l cl] U hU.symm)
        have L := Kept.mk (L2.out.below bb)
        have Q := Kept.mk (Q2.out.below bb Q2.out.lt)
        have B := Kept.mk (B2.out.trans (bb.mono (by have := B2.out.size; omega)))
        clear bb hU L2 Q2 B2 z0 z1 z2 z3 z4
        generalize w10.alloc (.cells #[.int .i64 3, .int .i64 1, .int .i64 1, .int .i64 (s + 1), .slice a l cl] 31) = w11 at *
        have v3 : w11.cell? ⟨U, 3, none⟩ = some (.int .i64 (s + 1)) := V.out.cell 3
        have f3 := V.out.frozen 3
        go_upto_region 16 with (fail)
        have V2 : Kept (Blk (w11.setCell ⟨U, 3, none⟩ (.int .i64 s)) U 31 #[.int .i64 3, .int .i64 1, .int .i64 1, .int .i64 s, .slice a l cl]) := ⟨V.out.set_ 3 (.int .i64 s)⟩
        have b5 : Bar [U] w11 (w11.setCell ⟨U, 3, none⟩ (.int .i64 s)) := (Bar.refl _ _).setCell (by simp) _
        replace L := Kept.mk (L.out.keep b5 V.out (by omega) (by decide)); replace Q := Kept.mk (Q.out.bar b5 (by simp; omega))
        replace B := bar_step B b5 (by omega) (by have := B.out.size; omega)
        clear b5 v3 f3 V
        generalize w11.setCell ⟨U, 3, none⟩ (.int .i64 s) = w12 at *
        have z0 := V2.out.cell 0; have z1 := V2.out.cell 1; have z2 := V2.out.cell 2; have z3 := V2.out.cell 3; have z4 := V2.out.cell 4
        have CG := Kept.mk (cgot_any (m := ⟨3, 1, 1, s, xs⟩) (cb := cl) L.out (TX.out w12 B.out).2 (by omega) OX.out)
        have e1 : gotE ⟨3, 1, s + 1, true, xs⟩ ⟨3, 1, 1, s, xs⟩ = 5 := by unfold gotE; rw [if_pos ⟨rfl, rfl, rfl⟩, if_neg (fun h => by have h2 : s = s + 1 := h.2; omega)]
        unfold BodyP gotB gotL at CG
        rw [e1, if_neg (by decide), if_neg (by decide)] at CG
        clear e1
        go_wp2_with fail
        refine CG.out.mono ?_
        rintro e w13 ⟨A9, n9, c9, rfl, -, -, -, -, l9, b9⟩
        replace L := Kept.mk l9
        replace Q := Kept.mk (Q.out.bar b9 (by simp; omega))
        replace B := bar_step B b9 hNx (by have := B.out.size; omega)
        clear CG l9 b9 V2 z0 z1 z2 z3 z4
        have z0 := Q.out.cell 0; have z1 := Q.out.cell 1; have z2 := Q.out.cell 2; have z3 := Q.out.cell 3; have z4 := Q.out.cell 4
        have CG := Kept.mk (cgot_any (m := ⟨3, 1, 1, s + 1, xs⟩) (cb := cl) L.out (TX.out w13 B.out).2 (by omega) OX.out)
        have hxl := L.out.lt
        have e1 : gotE ⟨3, 1, s + 1, true, xs⟩ ⟨3, 1, 1, s + 1, xs⟩ = 0 := by unfold gotE; rw [if_pos ⟨rfl, rfl, rfl⟩, if_pos ⟨rfl, rfl⟩]
        unfold BodyP gotB gotL at CG
        rw [e1, if_pos rfl, if_pos rfl] at CG
        clear e1
        go_wp2_with fail
        refine CG.out.mono ?_
        rintro e w14 ⟨A10, n10, c10, rfl, -, -, r10, a10, l9, b9⟩
        replace L := Kept.mk l9
        replace Q := Kept.mk (Q.out.bar b9 (by simp; omega))
        replace B := bar_step B b9 hNx (by have := B.out.size; omega)
        have F10 := Kept.mk (newA_off a10 r10 (F := [x]) (by simpa using hxl))
        have R10 := Kept.mk r10
        clear CG l9 b9 r10 a10 hxl z0 z1 z2 z3 z4
        have z0 := Q.out.cell 0; have z1 := Q.out.cell 1; have z2 := Q.out.cell 2; have z3 := Q.out.cell 3; have z4 := Q.out.cell 4
        have CG := Kept.mk (cgot_any (m := ⟨3, 1, 1, s + 1, xs⟩) (cb := cl) L.out (TX.out w14 B.out).2 (by omega) OX.out)
        have e1 : gotE ⟨3, 1, s + 1, false, []⟩ ⟨3, 1, 1, s + 1, xs⟩ = 5 := by unfold gotE; rw [if_pos ⟨rfl, rfl, rfl⟩, if_neg (by simp)]
        unfold BodyP gotB gotL at CG
        rw [e1, if_neg (by decide), if_neg (by decide)] at CG
        clear e1
        go_wp2_with fail
        refine CG.out.mono ?_
        rintro e w15 ⟨A11, n11, c11, rfl, -, -, -, -, l9, b9⟩
        replace L := Kept.mk l9
        replace R10 := Kept.mk (R10.out.far b9 F10.out)
        replace B := bar_step B b9 hNx (by have := B.out.size; omega)
        clear CG l9 b9 z0 z1 z2 z3 z4 Q
        obtain ⟨t1, t2⟩ := TX.out w15 B.out
        have CB := Kept.mk (bytes_same A10 a n10 l c10 cl xs w15 R10.out t2)
        clear t2
        go_wp2_with fail
        refine CB.out.mono ?_
        rintro e w16 ⟨rfl, rfl⟩
        clear CB R10 F10 t1
        go_wp2_with fail
        refine (cbusy_any L.out).mono ?_
        rintro e w16 ⟨rfl, rfl⟩
        go_wp2
        go_round
        case rel => exact ⟨k + 1, s + 1, by omega, by go_num, ⟨by have := HS.out; omega⟩, L, B⟩
        case measure => simp [Go.RowKit.intOf]; omega
      · have hlt' : ((k : Int) < n) = False := eq_false (by omega)
        go_wp2_with fail
        refine (EN.out wr B.out).mono ?_
        rintro e wz ⟨rfl, bb⟩
        replace B := Kept.mk bb
        clear bb
        go_wp2
        go_ret
        exact ⟨rfl, hN.symm ▸ B.out⟩
end Go.Proofs.Ytfioaofmmplgcaa.Line
