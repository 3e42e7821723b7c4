/-
  The law LinePlays, walked.
-/
import Derived.Test.YtfioaofmmplgcaaTakes
import Derived.Test.YtfioaofmmplgcaaLineFirst
import Derived.Test.YtfioaofmmplgcaaLineAgain
import Derived.Test.YtfioaofmmplgcaaLineOps
import Derived.Test.YtfioaofmmplgcaaLineR2
import Derived.Test.YtfioaofmmplgcaaLineR3
import Derived.Test.YtfioaofmmplgcaaSealSame
import Derived.Test.YtfioaofmmplgcaaTakes
import Derived.Deep.CutBlock
import Derived.Deep.CutRange
namespace Go.Proofs.Ytfioaofmmplgcaa.Line
open Go.RowKit Go.Proofs.Ytfioaofmmplgcaa.Sha Go.Proofs.Ytfioaofmmplgcaa.Seal

/-- the other line's turn -/
theorem ln_far {C C' : LV → Value → Array Value} {T T' : TypeId} {N x y : Nat} {w w' : World} {v v' : LV} (h : Ln C T N w x v) (b : Bar [y] w w') (hy : Ln C' T' N w y v') (hx : x ≠ y) (h8 : 5 ≠ T') : Ln C T N w' x v := by
  obtain ⟨-, -, -, A, l, c, k, -⟩ := hy
  exact h.keep b k hx h8
set_option maxRecDepth 100000 in
set_option maxHeartbeats 4000000 in
theorem lplays_walk (p h s : Int) (A : Option Addr) (n c : Nat) (X : Nat → OpV) (w : World) (hr : Ops w A n X) : Calls Try.prog 3 #[.int .i64 p, .int .i64 h, .int .i64 s, .slice A n c] w fun e w' => e = .returned (.bool true) ∧ Below w.heap.size w w' := by
  obtain ⟨N, hN⟩ : ∃ N, w.heap.size = N := ⟨_, rfl⟩
  have HX := Kept.mk hr
  clear hr
  have EN : Kept (∀ wz, Below N w wz → Calls Try.prog 7 #[] wz fun e w' => e = .returned (.bool true) ∧ Below N w w') := ⟨fun wz hz => (lfirst_any wz).mono (fun e w' h => ⟨h.1, hz.trans (h.2.mono (by have := hz.size; omega))⟩)⟩
  obtain ⟨v0, hv0⟩ : ∃ v, newL p h s = v := ⟨_, rfl⟩
  have HV0 := Kept.mk hv0
  clear hv0
  go_enter Try.func3, Try.ntmps3
  go_wp2_with fail
  refine (EN.out w (Below.refl _ _)).mono ?_
  rintro e w1 ⟨rfl, b1⟩
  have B := Kept.mk b1
  clear b1
  have CF := lfew_any A n c X w1 (HX.out.imp id (fun ⟨b, o, e, hc⟩ => ⟨b, o, e, fun r hr => (hc r hr).below (hN.symm ▸ B.out)⟩))
  unfold LFewPost at CF
  replace CF := Kept.mk CF
  go_wp2_with fail
  refine CF.out.mono ?_
  rintro e w2 ⟨t, rfl, ht, b2⟩
  replace B := Kept.mk (B.out.trans (b2.mono (by have := B.out.size; omega)))
  clear CF b2
  cases t with
  | false =>
    go_wp2_with fail
    refine (EN.out w2 B.out).mono ?_
    rintro e wz ⟨rfl, bb⟩
    replace B := Kept.mk bb
    clear bb
    go_wp2
    go_ret
    exact ⟨rfl, hN.symm ▸ B.out⟩
  | true =>
    obtain ⟨hn, hX⟩ := ht rfl
    have HL := Kept.mk hX
    clear ht hX
    have hs2 := B.out.size
    go_wp2_with fail
    refine (cnew_any p h s N w2 (by omega)).mono ?_
    rintro e w3 ⟨rfl, l3, b3⟩
    obtain ⟨x, hx⟩ : ∃ x, w2.heap.size = x := ⟨_, rfl⟩
    rw [hx, HV0.out] at l3
    rw [hx] at b3 ⊢
    have L := Kept.mk l3
    replace B := Kept.mk (B.out.trans (b3.mono (by omega)))
    have hNx : N ≤ x := by omega
    clear l3 b3 hx hs2
    have hs2 := B.out.size
    go_wp2_with fail
    refine (rnew_any p h s N w3 (by omega)).mono ?_
    rintro e w4 ⟨rfl, l3, b3⟩
    obtain ⟨y, hy⟩ : ∃ y, w3.heap.size = y := ⟨_, rfl⟩
    have hxy : x ≠ y := by have := L.out.lt; omega
    replace L := Kept.mk (L.out.below b3)
    rw [hy, HV0.out] at l3
    rw [hy] at b3 ⊢
    have LY := Kept.mk l3
    replace B := Kept.mk (B.out.trans (b3.mono (by omega)))
    have hNy : N ≤ y := by omega
    clear l3 b3 hy hs2 HV0
    go_wp2
    go_loopw [11] (fun i wr => ∃ (k : Nat) (v : LV), k ≤ n ∧ i = .int .i64 k ∧ Kept (Ln cellsC 53 N wr x v) ∧ Kept (Ln cellsR 41 N wr y v) ∧ Kept (Below N w wr)) (fun i _ => n - (Go.RowKit.intOf i).toNat)
    case atStart => exact ⟨0, v0, by omega, rfl, L, LY, B⟩
    case round =>
      clear L LY B
      obtain ⟨k, v, hk, rfl, L, LY, B⟩ := hrel
      by_cases hlt : k < n
      · have hlt' : (k : Int) < n := by omega
        obtain ⟨g, o, rfl, hc⟩ := HX.out.resolve_left (by omega)
        have hb := hc k hlt
        obtain ⟨hl1, hl2⟩ := HL.out k hlt
        obtain ⟨ox, hox⟩ : ∃ q, X k = q := ⟨_, rfl⟩
        rw [hox] at hb hl1 hl2
        clear hc hox
        obtain ⟨kd, xs, mp, mh, my, ms, mb⟩ := ox
        obtain ⟨aB, lB, cB, Am, nm, cm, h1, h2, h3⟩ := hb
        dsimp only at h1 h2 h3 hl1 hl2
        have TX : Kept (∀ w', Below N w w' → (∀ (j : Nat) u, (opC ⟨kd, xs, mp, mh, my, ms, mb⟩ (.slice aB lB cB) (.slice Am nm cm))[j]? = some u → w'.cell? ⟨g, o + k * 7 + j, none⟩ = some u) ∧ Rd w' aB lB xs ∧ Rd w' Am nm mb) := ⟨fun w' hb => ⟨fun j u hu => by
          have hh := h1 j u hu
          rw [hb.cell (by have := World.block_lt_of_cell? _ _ hh; simp at this ⊢; omega)]; exact hh, h2.below (hN.symm ▸ hb), h3.below (hN.symm ▸ hb)⟩⟩
        have OX : Kept (Off aB lB [x]) := ⟨h2.off (by simp; omega)⟩
        have OY : Kept (Off aB lB [y]) := ⟨h2.off (by simp; omega)⟩
        have OMX : Kept (Off Am nm [x]) := ⟨h3.off (by simp; omega)⟩
        have OMY : Kept (Off Am nm [y]) := ⟨h3.off (by simp; omega)⟩
        have hlB : lB ≤ 20000 := by rw [← h2.1]; exact hl1
        have hnm : nm ≤ 20000 := by rw [← h3.1]; exact hl2
        clear h1 h2 h3 hl1 hl2
        have t0 : wr.cell? ⟨g, o + k * 7, none⟩ = some (.int .i64 kd) := (TX.out wr B.out).1 0 _ rfl
        have t1 : wr.cell? ⟨g, o + k * 7 + 1, none⟩ = some (.slice aB lB cB) := (TX.out wr B.out).1 1 _ rfl
        have t2 : wr.cell? ⟨g, o + k * 7 + 2, none⟩ = some (.int .i64 mp) := (TX.out wr B.out).1 2 _ rfl
        have t3 : wr.cell? ⟨g, o + k * 7 + 3, none⟩ = some (.int .i64 mh) := (TX.out wr B.out).1 3 _ rfl
        have t4 : wr.cell? ⟨g, o + k * 7 + 4, none⟩ = some (.int .i64 my) := (TX.out wr B.out).1 4 _ rfl
        have t5 : wr.cell? ⟨g, o + k * 7 + 5, none⟩ = some (.int .i64 ms) := (TX.out wr B.out).1 5 _ rfl
        have t6 : wr.cell? ⟨g, o + k * 7 + 6, none⟩ = some (.slice Am nm cm) := (TX.out wr B.out).1 6 _ rfl
        obtain ⟨O, hO⟩ : ∃ O, wr.heap.size = O := ⟨_, rfl⟩
        have hxO : x < O := by have := L.out.lt; omega
        have hyO : y < O := by have := LY.out.lt; omega
        have bb : Below wr.heap.size wr (wr.alloc (.cells #[.int .i64 kd, .slice aB lB cB, .int .i64 mp, .int .i64 mh, .int .i64 my, .int .i64 ms, .slice Am nm cm] 33)) := (Below.refl _ _).alloc (Nat.le_refl _) _
        have OB := Kept.mk (Blk.new_at wr 33 #[.int .i64 kd, .slice aB lB cB, .int .i64 mp, .int .i64 mh, .int .i64 my, .int .i64 ms, .slice Am nm cm] O hO.symm)
        go_upto_region 12 with (fail)
        replace L := Kept.mk (L.out.below bb); replace LY := Kept.mk (LY.out.below bb)
        replace B := Kept.mk (B.out.trans (bb.mono (by have := B.out.size; omega)))
        clear bb hO t0 t1 t2 t3 t4 t5 t6
        generalize wr.alloc (.cells #[.int .i64 kd, .slice aB lB cB, .int .i64 mp, .int .i64 mh, .int .i64 my, .int .i64 ms, .slice Am nm cm] 33) = w4 at *
        have LX := L
        have o0 := OB.out.cell 0
        go_upto_block 2 with (fail)
        clear o0
        go_cut [13, 14, 15, 16, 17, 18, 19, 20, 21, 22, 23, 24, 25, 26] from 55 to 132 (fun tb _ _ _ _ _ _ _ _ _ _ _ _ _ wx => ∃ v : LV, tb = .bool true ∧ Kept (Ln cellsC 53 N wx x v) ∧ Kept (Ln cellsR 41 N wx y v) ∧ Kept (Below N w wx))
        case first =>
          by_cases h0 : kd = 0
          · subst h0
            obtain ⟨NN, hNN⟩ : ∃ q, sendN v xs = q := ⟨_, rfl⟩
            obtain ⟨er, hER⟩ : ∃ q, sendE v = q := ⟨_, rfl⟩
            obtain ⟨vx, hVX⟩ : ∃ q, sendL v xs = q := ⟨_, rfl⟩
            have CS := Kept.mk (csend_any (cb := cB) L.out (TX.out _ B.out).2.1 (by omega) OX.out)
            rw [hNN, hER, hVX] at CS
            obtain ⟨np, nh, ny, ns, nb⟩ := NN
            unfold NoteP at CS
            have HNN := Kept.mk hNN; have HER := Kept.mk hER; have HVX := Kept.mk hVX
            clear hNN hER hVX
            have hxl := L.out.lt; have hyl := LY.out.lt
            have o1 := OB.out.cell 1
            have o0 := OB.out.cell 0
            go_wp2_with fail
            refine CS.out.mono ?_
            rintro e w5 ⟨A3, n3, c3, rfl, -, -, r3, a3, l3, b3⟩
            replace L := Kept.mk l3
            replace LY := Kept.mk (ln_far LY.out b3 LX.out hxy.symm (by decide))
            replace OB := Kept.mk (OB.out.bar b3 (by simp; omega))
            replace B := bar_step B b3 hNx (by have := B.out.size; omega)
            obtain ⟨M, hM⟩ : ∃ M, w5.heap.size = M := ⟨_, rfl⟩
            have f3 : Off A3 n3 [M, x, y] := hM ▸ newA_more a3 r3 (by intro z hz; simp at hz; omega)
            have hxM : x < M := by have := L.out.lt; omega
            have hyM : y < M := by have := LY.out.lt; omega
            have hOM : O < M := by have := OB.out.lt; omega
            have bb : Below w5.heap.size w5 (w5.alloc (.cells #[.int .i64 np, .int .i64 nh, .int .i64 ny, .int .i64 ns, .slice A3 n3 c3] 31)) := (Below.refl _ _).alloc (Nat.le_refl _) _
            have Z := Kept.mk (Blk.new_at w5 31 #[.int .i64 np, .int .i64 nh, .int .i64 ny, .int .i64 ns, .slice A3 n3 c3] M hM.symm)
            replace L := Kept.mk (L.out.below bb); replace LY := Kept.mk (LY.out.below bb); replace OB := Kept.mk (OB.out.below bb OB.out.lt)
            have RD := Kept.mk (r3.below bb)
            replace B := Kept.mk (B.out.trans (bb.mono (by have := B.out.size; omega)))
            have F3 := Kept.mk f3
            clear bb r3 f3 a3 l3 b3 CS hxl hyl o1 o0 LX
            go_upto_region 22 with (fail)
            clear hM
            generalize w5.alloc (.cells #[.int .i64 np, .int .i64 nh, .int .i64 ny, .int .i64 ns, .slice A3 n3 c3] 31) = w6 at *
            have CS := Kept.mk (rsend_any (cb := cB) LY.out (TX.out _ B.out).2.1 (by omega) OY.out)
            rw [HNN.out, HER.out, HVX.out] at CS
            unfold NoteP at CS
            have LY0 := LY
            have o1 := OB.out.cell 1
            have hMl := Z.out.lt
            go_wp2_with fail
            refine CS.out.mono ?_
            rintro e w7 ⟨A5, n5, c5, rfl, -, -, r5, -, l5, b5⟩
            replace LY := Kept.mk l5
            replace L := Kept.mk (ln_far L.out b5 LY0.out hxy (by decide))
            replace Z := Kept.mk (Z.out.bar b5 (by simp; omega)); replace RD := Kept.mk (RD.out.far b5 (F3.out.mono_ (by simp)))
            replace B := bar_step B b5 hNy (by have := B.out.size; omega)
            obtain ⟨R, hR⟩ : ∃ R, w7.heap.size = R := ⟨_, rfl⟩
            have bb : Below w7.heap.size w7 (w7.alloc (.cells #[.int .i64 np, .int .i64 nh, .int .i64 ny, .int .i64 ns, .slice A5 n5 c5] 31)) := (Below.refl _ _).alloc (Nat.le_refl _) _
            have Y := Kept.mk (Blk.new_at w7 31 #[.int .i64 np, .int .i64 nh, .int .i64 ny, .int .i64 ns, .slice A5 n5 c5] R hR.symm)
            have R5 := Kept.mk (r5.below bb)
            replace L := Kept.mk (L.out.below bb); replace LY := Kept.mk (LY.out.below bb); replace Z := Kept.mk (Z.out.below bb Z.out.lt); replace RD := Kept.mk (RD.out.below bb)
            replace B := Kept.mk (B.out.trans (bb.mono (by have := B.out.size; omega)))
            clear bb r5 l5 b5 CS LY0 hMl OB hOM o1
            go_upto_region 23 with (fail)
            clear hR
            generalize w7.alloc (.cells #[.int .i64 np, .int .i64 nh, .int .i64 ny, .int .i64 ns, .slice A5 n5 c5] 31) = w8 at *
            have y0 := Y.out.cell 0; have y1 := Y.out.cell 1; have y2 := Y.out.cell 2; have y3 := Y.out.cell 3; have y4 := Y.out.cell 4
            have z0 := Z.out.cell 0; have z1 := Z.out.cell 1; have z2 := Z.out.cell 2; have z3 := Z.out.cell 3; have z4 := Z.out.cell 4
            have CC := Kept.mk (rsame_yes ⟨np, nh, ny, ns, nb⟩ A3 A5 n3 c3 n5 c5 w8 RD.out R5.out)
            go_wp2_with fail
            refine CC.out.mono ?_
            rintro e w9 ⟨rfl, b9⟩
            replace L := Kept.mk (L.out.below b9); replace LY := Kept.mk (LY.out.below b9)
            replace B := Kept.mk (B.out.trans (b9.mono (by have := B.out.size; omega)))
            clear b9 CC Y Z R5 RD F3 y0 y1 y2 y3 y4 z0 z1 z2 z3 z4
            go_wp2
            go_meet
            case rel => exact ⟨vx, rfl, L, LY, B⟩
          · have h0f : (kd == 0) = false := by simpa using h0
            clear h0
            by_cases h1 : kd = 1
            · subst h1
              obtain ⟨NN, hNN⟩ : ∃ q, againN v = q := ⟨_, rfl⟩
              obtain ⟨er, hER⟩ : ∃ q, v.busy = q := ⟨_, rfl⟩
              have CS := Kept.mk (cagain_any L.out)
              rw [hNN, hER] at CS
              obtain ⟨np, nh, ny, ns, nb⟩ := NN
              unfold NoteP at CS
              have HNN := Kept.mk hNN; have HER := Kept.mk hER
              clear hNN hER
              have hxl := L.out.lt; have hyl := LY.out.lt
              have o0 := OB.out.cell 0
              go_wp2_with fail
              refine CS.out.mono ?_
              rintro e w5 ⟨A3, n3, c3, rfl, -, -, r3, a3, l3, b3⟩
              replace L := Kept.mk l3
              replace LY := Kept.mk (ln_far LY.out b3 LX.out hxy.symm (by decide))
              replace OB := Kept.mk (OB.out.bar b3 (by simp; omega))
              replace B := bar_step B b3 hNx (by have := B.out.size; omega)
              obtain ⟨M, hM⟩ : ∃ M, w5.heap.size = M := ⟨_, rfl⟩
              have f3 : Off A3 n3 [M, x, y] := hM ▸ newA_more a3 r3 (by intro z hz; simp at hz; omega)
              have hxM : x < M := by have := L.out.lt; omega
              have hyM : y < M := by have := LY.out.lt; omega
              have hOM : O < M := by have := OB.out.lt; omega
              have bb : Below w5.heap.size w5 (w5.alloc (.cells #[.int .i64 np, .int .i64 nh, .int .i64 ny, .int .i64 ns, .slice A3 n3 c3] 31)) := (Below.refl _ _).alloc (Nat.le_refl _) _
              have Z := Kept.mk (Blk.new_at w5 31 #[.int .i64 np, .int .i64 nh, .int .i64 ny, .int .i64 ns, .slice A3 n3 c3] M hM.symm)
              replace L := Kept.mk (L.out.below bb); replace LY := Kept.mk (LY.out.below bb); replace OB := Kept.mk (OB.out.below bb OB.out.lt)
              have RD := Kept.mk (r3.below bb)
              replace B := Kept.mk (B.out.trans (bb.mono (by have := B.out.size; omega)))
              have F3 := Kept.mk f3
              clear bb r3 f3 a3 l3 b3 CS hxl hyl o0 LX
              go_upto_region 26 with (fail)
              clear hM
              generalize w5.alloc (.cells #[.int .i64 np, .int .i64 nh, .int .i64 ny, .int .i64 ns, .slice A3 n3 c3] 31) = w6 at *
              have CS := Kept.mk (ragain_any LY.out)
              rw [HNN.out, HER.out] at CS
              unfold NoteP at CS
              have LY0 := LY
              have hMl := Z.out.lt
              go_wp2_with fail
              refine CS.out.mono ?_
              rintro e w7 ⟨A5, n5, c5, rfl, -, -, r5, -, l5, b5⟩
              replace LY := Kept.mk l5
              replace L := Kept.mk (ln_far L.out b5 LY0.out hxy (by decide))
              replace Z := Kept.mk (Z.out.bar b5 (by simp; omega)); replace RD := Kept.mk (RD.out.far b5 (F3.out.mono_ (by simp)))
              replace B := bar_step B b5 hNy (by have := B.out.size; omega)
              obtain ⟨R, hR⟩ : ∃ R, w7.heap.size = R := ⟨_, rfl⟩
              have bb : Below w7.heap.size w7 (w7.alloc (.cells #[.int .i64 np, .int .i64 nh, .int .i64 ny, .int .i64 ns, .slice A5 n5 c5] 31)) := (Below.refl _ _).alloc (Nat.le_refl _) _
              have Y := Kept.mk (Blk.new_at w7 31 #[.int .i64 np, .int .i64 nh, .int .i64 ny, .int .i64 ns, .slice A5 n5 c5] R hR.symm)
              have R5 := Kept.mk (r5.below bb)
              replace L := Kept.mk (L.out.below bb); replace LY := Kept.mk (LY.out.below bb); replace Z := Kept.mk (Z.out.below bb Z.out.lt); replace RD := Kept.mk (RD.out.below bb)
              replace B := Kept.mk (B.out.trans (bb.mono (by have := B.out.size; omega)))
              clear bb r5 l5 b5 CS LY0 hMl OB hOM
              go_upto_region 27 with (fail)
              clear hR
              generalize w7.alloc (.cells #[.int .i64 np, .int .i64 nh, .int .i64 ny, .int .i64 ns, .slice A5 n5 c5] 31) = w8 at *
              have y0 := Y.out.cell 0; have y1 := Y.out.cell 1; have y2 := Y.out.cell 2; have y3 := Y.out.cell 3; have y4 := Y.out.cell 4
              have z0 := Z.out.cell 0; have z1 := Z.out.cell 1; have z2 := Z.out.cell 2; have z3 := Z.out.cell 3; have z4 := Z.out.cell 4
              have CC := Kept.mk (rsame_yes ⟨np, nh, ny, ns, nb⟩ A3 A5 n3 c3 n5 c5 w8 RD.out R5.out)
              go_wp2_with fail
              refine CC.out.mono ?_
              rintro e w9 ⟨rfl, b9⟩
              replace L := Kept.mk (L.out.below b9); replace LY := Kept.mk (LY.out.below b9)
              replace B := Kept.mk (B.out.trans (b9.mono (by have := B.out.size; omega)))
              clear b9 CC Y Z R5 RD F3 y0 y1 y2 y3 y4 z0 z1 z2 z3 z4
              go_wp2
              go_meet
              case rel => exact ⟨v, rfl, L, LY, B⟩
            · have h1f : (kd == 1) = false := by simpa using h1
              clear h1
              have o2 := OB.out.cell 2; have o3 := OB.out.cell 3; have o4 := OB.out.cell 4; have o5 := OB.out.cell 5; have o6 := OB.out.cell 6; have o0 := OB.out.cell 0
              obtain ⟨T, hT⟩ : ∃ T, w4.heap.size = T := ⟨_, rfl⟩
              have hxT : x < T := by have := L.out.lt; omega
              have hyT : y < T := by have := LY.out.lt; omega
              have hOT : O < T := by have := OB.out.lt; omega
              have bb : Below w4.heap.size w4 (w4.alloc (.cells #[.int .i64 mp, .int .i64 mh, .int .i64 my, .int .i64 ms, .slice Am nm cm] 31)) := (Below.refl _ _).alloc (Nat.le_refl _) _
              have Q := Kept.mk (Blk.new_at w4 31 #[.int .i64 mp, .int .i64 mh, .int .i64 my, .int .i64 ms, .slice Am nm cm] T hT.symm)
              go_upto_region 15 with (fail)
              replace L := Kept.mk (L.out.below bb); replace LY := Kept.mk (LY.out.below bb); replace LX := Kept.mk (LX.out.below bb); replace OB := Kept.mk (OB.out.below bb OB.out.lt)
              replace B := Kept.mk (B.out.trans (bb.mono (by have := B.out.size; omega)))
              clear bb hT o0 o2 o3 o4 o5 o6
              generalize w4.alloc (.cells #[.int .i64 mp, .int .i64 mh, .int .i64 my, .int .i64 ms, .slice Am nm cm] 31) = w5 at *
              have o0 := OB.out.cell 0
              go_upto_if 59 with (fail)
              go_cut [] from 60 to 68 (fun wx => ∃ (m : NV) (A' : Option Addr) (n' c' : Nat), n' ≤ 20000 ∧ Kept (Blk wx T 31 #[.int .i64 m.party, .int .i64 m.which, .int .i64 m.way, .int .i64 m.seq, .slice A' n' c']) ∧ Kept (∀ w', Below N w w' → Rd w' A' n' m.body) ∧ Kept (Off A' n' [x]) ∧ Kept (Off A' n' [y]) ∧ Kept (Ln cellsC 53 N wx x v) ∧ Kept (Ln cellsR 41 N wx y v) ∧ Kept (Below N w wx))
              case first =>
                by_cases h3 : kd = 3
                · subst h3
                  have bd : Below w5.heap.size w5 w5.drew := (Below.refl _ _).drew
                  replace L := Kept.mk (L.out.below bd); replace LY := Kept.mk (LY.out.below bd); replace OB := Kept.mk (OB.out.below bd OB.out.lt); replace Q := Kept.mk (Q.out.below bd Q.out.lt)
                  replace B := Kept.mk (B.out.trans (bd.mono (by have := B.out.size; omega)))
                  clear bd o0
                  obtain ⟨As, ls, cs, ky, -⟩ := LY.out.mem
                  have KY := Kept.mk ky
                  have hS0 : (fun w' : World => w'.cell? ⟨y, 2, none⟩ = some (.int .i64 v.seq) ∧ w'.cell? ⟨O, 1, none⟩ = some (.slice aB lB cB)) w5.drew := ⟨ky.cell 2, OB.out.cell 1⟩
                  clear ky
                  go_upto_region 16 with (fail)
                  refine wp_region_noPanic ?_
                  refine wp_region_held_drew (S := fun w' : World => w'.cell? ⟨y, 2, none⟩ = some (.int .i64 v.seq) ∧ w'.cell? ⟨O, 1, none⟩ = some (.slice aB lB cB)) (by kernel_rfl) hS0 (fun hHeld => ?_)
                  clear hS0
                  generalize w5.drew = w6 at *
                  refine tk 0 ?_
                  simp only [Act.put, List.setIfInBounds_toArray, List.set_cons_zero, List.set_cons_succ]
                  refine tk 1 ?_
                  simp only [Act.put, List.setIfInBounds_toArray, List.set_cons_zero, List.set_cons_succ]
                  refine tk 2 ?_
                  simp only [Act.put, List.setIfInBounds_toArray, List.set_cons_zero, List.set_cons_succ]
                  refine tk 3 ?_
                  simp only [Act.put, List.setIfInBounds_toArray, List.set_cons_zero, List.set_cons_succ]
                  refine tk 4 ?_
                  simp only [Act.put, List.setIfInBounds_toArray, List.set_cons_zero, List.set_cons_succ]
                  refine tk 5 ?_
                  simp only [Act.put, List.setIfInBounds_toArray, List.set_cons_zero, List.set_cons_succ]
                  refine tk 6 ?_
                  simp only [Act.put, List.setIfInBounds_toArray, List.set_cons_zero, List.set_cons_succ]
                  refine tk 7 ?_
                  simp only [Act.put, List.setIfInBounds_toArray, List.set_cons_zero, List.set_cons_succ]
                  refine tk 8 ?_
                  simp only [Act.put, List.setIfInBounds_toArray, List.set_cons_zero, List.set_cons_succ]
                  have z0 := Q.out.cell 0; have z1 := Q.out.cell 1; have z2 := Q.out.cell 2; have z3 := Q.out.cell 3; have z4 := Q.out.cell 4
                  have q0 := Q.out.frozen 0; have q1 := Q.out.frozen 1; have q2 := Q.out.frozen 2; have q3 := Q.out.frozen 3; have q4 := Q.out.frozen 4
                  have p5 := put5 Q.out (.int .i64 p) (.int .i64 h) (.int .i64 1) (.int .i64 v.seq) (.slice aB lB cB)
                  have Q2 := Kept.mk p5.1
                  have L2 := Kept.mk (L.out.keep p5.2 Q.out (by omega) (by decide))
                  have LY2 := Kept.mk (LY.out.keep p5.2 Q.out (by omega) (by decide))
                  have KY2 := Kept.mk (KY.out.bar p5.2 (by simp; omega)); have OB2 := Kept.mk (OB.out.bar p5.2 (by simp; omega))
                  have B2 := bar_step B p5.2 (by omega) (by have := B.out.size; omega)
                  clear p5
                  refine ld 9 (fun K hK => ?_)
                  go_simp
                  refine hK.out _ _ ⟨KY2.out.cell 2, OB2.out.cell 1⟩ (fun hHeld3 => ?_)
                  clear hK K hHeld z0 z1 z2 z3 z4 q0 q1 q2 q3 q4 Q L LY B KY KY2 OB OB2
                  try simp only [Act.put, List.setIfInBounds_toArray, List.set_cons_zero, List.set_cons_succ]
                  refine wpAnyH_done (by kernel_rfl) ?_ _
                  refine NoPanic.normal ?_
                  clear hHeld3
                  go_wp2
                  go_meet
                  case rel => exact ⟨⟨p, h, 1, v.seq, xs⟩, aB, lB, cB, hlB, Q2, ⟨fun w' hb => (TX.out w' hb).2.1⟩, OX, OY, L2, LY2, B2⟩
                · have h3f : (kd == 3) = false := by simpa using h3
                  clear h3
                  go_wp2
                  go_meet
                  case rel => exact ⟨⟨mp, mh, my, ms, mb⟩, Am, nm, cm, hnm, Q, ⟨fun w' hb => (TX.out w' hb).2.2⟩, OMX, OMY, L, LY, B⟩
              case rest =>
              clear Q OB L LY LX B TX OX OY OMX OMY
              obtain ⟨⟨np, nh, ny, ns, nb⟩, A', n', c', hn', Q, TM, OA, OC, L, LY, B⟩ := hcut
              obtain ⟨er, hER⟩ : ∃ q, gotE v ⟨np, nh, ny, ns, nb⟩ = q := ⟨_, rfl⟩
              obtain ⟨vx, hVX⟩ : ∃ q, gotL v ⟨np, nh, ny, ns, nb⟩ = q := ⟨_, rfl⟩
              obtain ⟨ob, hOB⟩ : ∃ q, gotB v ⟨np, nh, ny, ns, nb⟩ = q := ⟨_, rfl⟩
              have CG := Kept.mk (cgot_any (m := ⟨np, nh, ny, ns, nb⟩) (cb := c') L.out (TM.out _ B.out) (by omega) OA.out)
              rw [hER, hVX, hOB] at CG
              unfold BodyP at CG
              have HER := Kept.mk hER; have HVX := Kept.mk hVX; have HOB := Kept.mk hOB
              clear hER hVX hOB
              have LX := L
              have hyl := LY.out.lt
              have z0 := Q.out.cell 0; have z1 := Q.out.cell 1; have z2 := Q.out.cell 2; have z3 := Q.out.cell 3; have z4 := Q.out.cell 4
              go_wp2_with fail
              refine CG.out.mono ?_
              rintro e w13 ⟨A9, n9, c9, rfl, -, -, r9, a9, l9, b9⟩
              have F9 := Kept.mk (newA_off a9 r9 (F := [y]) (by simpa using hyl))
              have R9 := Kept.mk r9
              replace L := Kept.mk l9
              replace LY := Kept.mk (ln_far LY.out b9 LX.out hxy.symm (by decide))
              replace Q := Kept.mk (Q.out.bar b9 (by simp; omega))
              replace B := bar_step B b9 hNx (by have := B.out.size; omega)
              clear CG l9 b9 a9 r9 LX hyl z0 z1 z2 z3 z4
              have LX := LY
              have CG := Kept.mk (rgot_any (m := ⟨np, nh, ny, ns, nb⟩) (cb := c') LY.out (TM.out _ B.out) (by omega) OC.out)
              rw [HER.out, HVX.out, HOB.out] at CG
              unfold BodyP at CG
              have z0 := Q.out.cell 0; have z1 := Q.out.cell 1; have z2 := Q.out.cell 2; have z3 := Q.out.cell 3; have z4 := Q.out.cell 4
              go_wp2_with fail
              refine CG.out.mono ?_
              rintro e w14 ⟨A10, n10, c10, rfl, -, -, r10, -, l9, b9⟩
              replace LY := Kept.mk l9
              replace L := Kept.mk (ln_far L.out b9 LX.out hxy (by decide))
              replace R9 := Kept.mk (R9.out.far b9 F9.out)
              replace B := bar_step B b9 hNy (by have := B.out.size; omega)
              have R10 := Kept.mk r10
              clear CG l9 b9 LX z0 z1 z2 z3 z4 Q F9 r10
              have CB := Kept.mk (bytes_same A9 A10 n9 n10 c9 c10 ob w14 R9.out R10.out)
              go_wp2_with fail
              refine CB.out.mono ?_
              rintro e w16 ⟨rfl, rfl⟩
              clear CB R9 R10
              go_wp2
              go_meet
              case rel => exact ⟨vx, rfl, L, LY, B⟩
        case rest =>
        clear L LY LX B OB TX OX OY OMX OMY
        obtain ⟨v, rfl, L, LY, B⟩ := hcut
        obtain ⟨As, ls, cs, ky, -⟩ := LY.out.mem
        have c2 : wc.cell? ⟨y, 2, none⟩ = some (.int .i64 v.seq) := ky.cell 2
        have c3 : wc.cell? ⟨y, 3, none⟩ = some (.bool v.busy) := ky.cell 3
        clear ky
        have h1 : Kept (∀ k, Calls Try.prog 19 #[.pointer (some ⟨x, 0, none⟩)] (wc.drewN k) fun e w' => e = .returned (.int .i64 v.seq) ∧ wc.drewN k = w') := ⟨fun k => cseq_any (L.out.below (below_drewN (Below.refl _ _) _))⟩
        have h2 : Kept (∀ k, Calls Try.prog 20 #[.pointer (some ⟨x, 0, none⟩)] (wc.drewN k) fun e w' => e = .returned (.bool v.busy) ∧ wc.drewN k = w') := ⟨fun k => cbusy_any (L.out.below (below_drewN (Below.refl _ _) _))⟩
        obtain ⟨sv, hsv⟩ : ∃ q, v.seq = q := ⟨_, rfl⟩
        obtain ⟨bv, hbv⟩ : ∃ q, v.busy = q := ⟨_, rfl⟩
        rw [hsv] at c2 h1
        rw [hbv] at c3 h2
        clear hsv hbv
        go_upto_region 28 with (fail)
        go_quiet (first | (go_at_call 19; exact Calls.quiet_of_same (still_of (h1.out _))) | (go_at_call 20; exact Calls.quiet_of_same (still_of (h2.out _))))
        have bb : Below wc.heap.size wc (wc.drewN nq) := below_drewN (Below.refl _ _) _
        replace L := Kept.mk (L.out.below bb); replace LY := Kept.mk (LY.out.below bb)
        replace B := Kept.mk (B.out.trans (bb.mono (by have := B.out.size; omega)))
        clear bb c2 c3 h1 h2
        generalize wc.drewN nq = wd at *
        go_wp2
        go_round
        case rel => exact ⟨k + 1, v, by omega, by go_num, L, LY, B⟩
        case measure => simp [Go.RowKit.intOf]; omega
      · have hlt' : ((k : Int) < n) = False := eq_false (by omega)
        go_wp2_with fail
        refine (EN.out wr B.out).mono ?_
        rintro e wz ⟨rfl, bb⟩
        replace B := Kept.mk bb
        clear bb
        go_wp2
        go_ret
        exact ⟨rfl, hN.symm ▸ B.out⟩
end Go.Proofs.Ytfioaofmmplgcaa.Line
