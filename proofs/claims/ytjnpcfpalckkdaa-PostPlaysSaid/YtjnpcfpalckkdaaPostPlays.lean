/-
  The law PostPlays, walked.
-/
import Derived.Test.YtjnpcfpalckkdaaTakes
import Derived.Test.YtjnpcfpalckkdaaPostFirst
import Derived.Test.YtjnpcfpalckkdaaPostOps
import Derived.Test.YtjnpcfpalckkdaaPostTwo
import Derived.Test.YtjnpcfpalckkdaaPostRDrop
import Derived.Test.YtjnpcfpalckkdaaPostRCopy
import Derived.Test.YtjnpcfpalckkdaaPostRAt
import Derived.Test.YtjnpcfpalckkdaaTakes
import Derived.Deep.CutBlock
import Derived.Deep.CutRange
namespace Go.Proofs.Ytjnpcfpalckkdaa.Post
open Go.RowKit Go.Proofs.Ytjnpcfpalckkdaa.Sha

set_option maxRecDepth 100000 in
set_option maxHeartbeats 4000000 in
theorem pplays_walk (m0 : Int) (A : Option Addr) (n c : Nat) (X : Nat → OpV) (w : World) (hr : Ops w A n X) : Calls Try.prog 3 #[.int .i64 m0, .slice A n c] w fun e w' => e = .returned (.bool true) ∧ Below w.heap.size w w' := by
  obtain ⟨N, hN⟩ : ∃ N, w.heap.size = N := ⟨_, rfl⟩
  have HX := Kept.mk hr
  clear hr
  have EN : Kept (∀ wz, Below N w wz → Calls Try.prog 7 #[] wz fun e w' => e = .returned (.bool true) ∧ Below N w w') := ⟨fun wz hz => (first_any wz).mono (fun e w' h => ⟨h.1, hz.trans (h.2.mono (by have := hz.size; omega))⟩)⟩
  go_enter Try.func3, Try.ntmps3
  go_wp2_with fail
  refine (EN.out w (Below.refl _ _)).mono ?_
  rintro e w1 ⟨rfl, b1⟩
  have B := Kept.mk b1
  clear b1
  have CF := few_any A n c X w1 (HX.out.below (hN.symm ▸ B.out))
  unfold FewP at CF
  replace CF := Kept.mk CF
  go_wp2_with fail
  refine CF.out.mono ?_
  rintro e w2 ⟨t, rfl, ht, b2⟩
  replace B := Kept.mk (low_trans B.out b2 (by have := B.out.size; omega))
  clear CF b2
  cases t with
  | false =>
    go_wp2_with fail
    refine (EN.out w2 B.out).mono ?_
    rintro e wz ⟨rfl, bb⟩
    replace B := Kept.mk bb
    clear bb
    go_wp2
    go_ret
    exact ⟨rfl, hN.symm ▸ B.out⟩
  | true =>
    have hn := ht rfl
    clear ht
    by_cases hm : 1 ≤ m0 ∧ m0 ≤ 200
    · obtain ⟨m, hmm⟩ : ∃ z, m0 = z := ⟨_, rfl⟩
      rw [hmm] at hm ⊢
      have hs2 := B.out.size
      go_wp2_with fail
      refine (cnew_any m N w2 hm (by omega)).mono ?_
      rintro e w3 ⟨rfl, hp, bb⟩
      obtain ⟨x, hx⟩ : ∃ x, w2.heap.size = x := ⟨_, rfl⟩
      rw [hx] at hp ⊢
      have P := Kept.mk hp
      replace B := Kept.mk (low_trans B.out bb (by omega))
      clear hp bb hx hs2
      have hs2 := P.out.root
      go_wp2_with fail
      refine (rnew_any m N w3 hm (by omega)).mono ?_
      rintro e w4 ⟨rfl, hp, bb⟩
      obtain ⟨y, hy⟩ : ∃ y, w3.heap.size = y := ⟨_, rfl⟩
      rw [hy] at hp ⊢
      have W : Kept (Tw N w4 x y m [x] [y] [] []) := ⟨P.out.below bb, hp, fun z hz hz2 => by rw [List.mem_singleton] at hz hz2; omega⟩
      replace B := Kept.mk (low_trans B.out bb (by omega))
      clear hp bb hy hs2 P hmm
      go_wp2_with fail
      go_loopw [9] (fun i wr => ∃ (k : Nat) (l : List PV) (F G : List Nat), k ≤ n ∧ i = .int .i64 k ∧ Kept (Tw N wr x y m F G l l) ∧ Kept (Below N w wr)) (fun i _ => n - (Go.RowKit.intOf i).toNat)
      case atStart => exact ⟨0, [], [x], [y], by omega, rfl, W, B⟩
      case round =>
        clear W B
        obtain ⟨k, l, F, G, hk, rfl, W, B⟩ := hrel
        by_cases hlt : k < n
        · have hlt' : (k : Int) < n := by omega
          obtain ⟨g, o, rfl, hc⟩ := HX.out.resolve_left (by omega)
          have hb := hc k hlt
          obtain ⟨ox, hox⟩ : ∃ q, X k = q := ⟨_, rfl⟩
          rw [hox] at hb
          clear hc hox
          obtain ⟨kd, nn, xs⟩ := ox
          obtain ⟨aB, lB, cB, h1, h2⟩ := hb
          dsimp only at h1 h2
          have TX : Kept (∀ w', Below N w w' → (∀ (j : Nat) u, (opC ⟨kd, nn, xs⟩ (.slice aB lB cB))[j]? = some u → w'.cell? ⟨g, o + k * 3 + j, none⟩ = some u) ∧ Rd w' aB lB xs) := ⟨fun w' hb => ⟨fun j u hu => by
            have hh := h1 j u hu
            rw [hb.cell (by have := World.block_lt_of_cell? _ _ hh; simp at this ⊢; omega)]; exact hh, h2.below (hN.symm ▸ hb)⟩⟩
          clear h1 h2
          have t0 : wr.cell? ⟨g, o + k * 3, none⟩ = some (.int .i64 kd) := (TX.out wr B.out).1 0 _ rfl
          have t1 : wr.cell? ⟨g, o + k * 3 + 1, none⟩ = some (.int .i64 nn) := (TX.out wr B.out).1 1 _ rfl
          have t2 : wr.cell? ⟨g, o + k * 3 + 2, none⟩ = some (.slice aB lB cB) := (TX.out wr B.out).1 2 _ rfl
          obtain ⟨O, hO⟩ : ∃ O, wr.heap.size = O := ⟨_, rfl⟩
          have bb : Below wr.heap.size wr (wr.alloc (.cells #[.int .i64 kd, .int .i64 nn, .slice aB lB cB] 34)) := (Below.refl _ _).alloc (Nat.le_refl _) _
          have OB := Kept.mk (Hd.new (E := F ++ G) 34 #[.int .i64 kd, .int .i64 nn, .slice aB lB cB] hO.symm W.out.lt)
          go_upto_region 13 with (fail)
          replace B := Kept.mk (low_trans B.out bb W.out.low); replace W := Kept.mk (W.out.below bb)
          clear bb hO t0 t1 t2
          generalize wr.alloc (.cells #[.int .i64 kd, .int .i64 nn, .slice aB lB cB] 34) = w4 at *
          have o0 := OB.out.blk.cell 0
          have hlow := W.out.low
          go_upto_block 2 with (fail)
          go_cut [11, 12, 13, 14, 15] from 62 to 122 (fun tb _ _ _ _ wx => ∃ (l : List PV) (F G : List Nat), tb = .bool true ∧ Kept (Tw N wx x y m F G l l) ∧ Kept (Below N w wx) ∧ Kept (Hd wx (F ++ G) O 34 #[.int .i64 kd, .int .i64 nn, .slice aB lB cB]))
          case first =>
            by_cases h0 : kd = 0
            · subst h0
              go_upto_region 16 with (fail)
              refine wp_region_noPanic ?_
              have bd : Below w4.heap.size w4 w4.drew := (Below.refl _ _).drew
              replace W := Kept.mk (W.out.below bd); replace OB := Kept.mk (OB.out.below bd); replace B := Kept.mk (low_trans B.out bd hlow)
              have hS0 : (fun u : World => u.cell? ⟨O, 0, none⟩ = some (.int .i64 0) ∧ u.cell? ⟨O, 1, none⟩ = some (.int .i64 nn) ∧ u.cell? ⟨O, 2, none⟩ = some (.slice aB lB cB)) w4.drew := ⟨OB.out.blk.cell 0, OB.out.blk.cell 1, OB.out.blk.cell 2⟩
              refine wp_region_held_drew (S := fun u : World => u.cell? ⟨O, 0, none⟩ = some (.int .i64 0) ∧ u.cell? ⟨O, 1, none⟩ = some (.int .i64 nn) ∧ u.cell? ⟨O, 2, none⟩ = some (.slice aB lB cB)) (by kernel_rfl) hS0 (fun hHeld => ?_)
              clear bd hS0 o0 hlow
              generalize w4.drew = w5 at *
              obtain ⟨er, hres⟩ : ∃ z, putE m l xs = z := ⟨_, rfl⟩
              obtain ⟨l2, hl2⟩ : ∃ z, putP m l nn xs = z := ⟨_, rfl⟩
              have C := cput_any (c := cB) nn W.out.p (TX.out w5 B.out).2
              have HR := Kept.mk hres; have HL := Kept.mk hl2
              rw [hres, hl2] at C
              unfold NumP at C
              replace C := Kept.mk C
              clear hres hl2
              refine tk 0 ?_
              simp only [Act.put, List.setIfInBounds_toArray, List.set_cons_zero, List.set_cons_succ]
              refine tk 1 ?_
              simp only [Act.put, List.setIfInBounds_toArray, List.set_cons_zero, List.set_cons_succ]
              refine tk 2 ?_
              simp only [Act.put, List.setIfInBounds_toArray, List.set_cons_zero, List.set_cons_succ]
              refine tk 3 ?_
              simp only [Act.put, List.setIfInBounds_toArray, List.set_cons_zero, List.set_cons_succ]
              refine tk 4 ?_
              simp only [Act.put, List.setIfInBounds_toArray, List.set_cons_zero, List.set_cons_succ]
              refine tk 6 ?_
              simp only [Act.put, List.setIfInBounds_toArray, List.set_cons_zero, List.set_cons_succ]
              refine tk 7 ?_
              simp only [Act.put, List.setIfInBounds_toArray, List.set_cons_zero, List.set_cons_succ]
              refine tk 8 ?_
              simp only [Act.put, List.setIfInBounds_toArray, List.set_cons_zero, List.set_cons_succ]
              refine tk 9 ?_
              simp only [Act.put, List.setIfInBounds_toArray, List.set_cons_zero, List.set_cons_succ]
              refine tk 10 ?_
              simp only [Act.put, List.setIfInBounds_toArray, List.set_cons_zero, List.set_cons_succ]
              refine ld 5 (fun K hK => ?_)
              go_simp
              go_at_call 11
              refine C.out.mono ?_
              rintro e w6 ⟨F2, rfl, hp, fp⟩
              replace OB := Kept.mk (OB.out.step (fp_left fp G)); replace B := Kept.mk (W.out.p.step B.out fp); replace W := Kept.mk (W.out.left hp fp)
              clear hHeld C hp fp
              refine hK.out _ _ ⟨OB.out.blk.cell 0, OB.out.blk.cell 1, OB.out.blk.cell 2⟩ (fun hHeld => ?_)
              clear hK K
              try simp only [Act.put, List.setIfInBounds_toArray, List.set_cons_zero, List.set_cons_succ]
              have C := rput_any (c := cB) nn W.out.q (TX.out w6 B.out).2
              rw [HR.out, HL.out] at C
              unfold NumP at C
              replace C := Kept.mk C
              refine ld 11 (fun K hK => ?_)
              go_simp
              go_at_call 12
              refine C.out.mono ?_
              rintro e w7 ⟨G2, rfl, hp, fp⟩
              replace OB := Kept.mk (OB.out.step (fp_right F2 fp)); replace B := Kept.mk (W.out.q.step B.out fp); replace W := Kept.mk (W.out.right hp fp)
              clear hHeld C hp fp HR HL
              refine hK.out _ _ ⟨OB.out.blk.cell 0, OB.out.blk.cell 1, OB.out.blk.cell 2⟩ (fun hHeld => ?_)
              clear hK K
              try simp only [Act.put, List.setIfInBounds_toArray, List.set_cons_zero, List.set_cons_succ]
              refine tk 12 ?_
              simp only [Act.put, List.setIfInBounds_toArray, List.set_cons_zero, List.set_cons_succ]
              refine tk 13 ?_
              simp only [Act.put, List.setIfInBounds_toArray, List.set_cons_zero, List.set_cons_succ]
              refine wpAnyH_done (by kernel_rfl) ?_ _
              refine NoPanic.normal ?_
              clear hHeld
              go_wp2
              go_meet
              case rel => exact ⟨l2, F2, G2, rfl, W, B, OB⟩
            · have h0f : (kd == 0) = false := by simpa using h0
              by_cases h1 : kd = 1
              · subst h1
                clear h0 h0f
                obtain ⟨P0, hP⟩ : ∃ z, atP nn l = z := ⟨_, rfl⟩
                obtain ⟨t0, hT⟩ : ∃ z, hasB nn l = z := ⟨_, rfl⟩
                obtain ⟨l2, hL⟩ : ∃ z, delP nn l = z := ⟨_, rfl⟩
                obtain ⟨pt, pb⟩ := P0
                have HP := Kept.mk hP; have HT := Kept.mk hT; have HL := Kept.mk hL
                clear hP hT hL hlow
                have o1 := OB.out.blk.cell 1
                have C := ctake_any nn W.out.p
                rw [HP.out, HT.out, HL.out] at C
                unfold ParP at C
                dsimp only at C
                replace C := Kept.mk C
                go_wp2_with fail
                refine C.out.mono ?_
                rintro e w5 ⟨A1, n1, c1, Fa, rfl, -, -, rb, hp, fp⟩
                replace OB := Kept.mk (OB.out.step (fp_left fp G)); replace B := Kept.mk (W.out.p.step B.out fp)
                replace W := Kept.mk (W.out.left hp fp)
                obtain ⟨L, hL⟩ : ∃ z, w5.heap.size = z := ⟨_, rfl⟩
                have bb : Below w5.heap.size w5 (w5.alloc (.cells #[.int .i64 pt, .slice A1 n1 c1] 37)) := (Below.refl _ _).alloc (Nat.le_refl _) _
                have YA := Kept.mk (Hd.new 37 #[.int .i64 pt, .slice A1 n1 c1] hL.symm W.out.lt)
                replace OB := Kept.mk (OB.out.below bb); replace B := Kept.mk (low_trans B.out bb W.out.low); replace W := Kept.mk (W.out.below bb)
                have R1 := Kept.mk (rb.below bb)
                clear C hp fp rb bb
                go_upto_region 19 with (fail)
                clear hL
                generalize w5.alloc (.cells #[.int .i64 pt, .slice A1 n1 c1] 37) = w6 at *
                clear o0 o1
                have o0 := OB.out.blk.cell 0; have o1 := OB.out.blk.cell 1
                have C := rtake_any nn W.out.q
                rw [HP.out, HT.out, HL.out] at C
                unfold ParP at C
                dsimp only at C
                replace C := Kept.mk C
                go_wp2_with fail
                refine C.out.mono ?_
                rintro e w7 ⟨A2, n2, c2, Ga, rfl, -, -, rb, hp, fp⟩
                replace OB := Kept.mk (OB.out.step (fp_right Fa fp)); replace B := Kept.mk (W.out.q.step B.out fp)
                have nQ := W.out.q.nb (by decide)
                replace YA := Kept.mk (YA.out.step (fp_right Fa fp))
                replace R1 := Kept.mk (R1.out.keep fp.1 nQ)
                clear nQ
                replace W := Kept.mk (W.out.right hp fp)
                obtain ⟨M, hM⟩ : ∃ z, w7.heap.size = z := ⟨_, rfl⟩
                have bb : Below w7.heap.size w7 (w7.alloc (.cells #[.int .i64 pt, .slice A2 n2 c2] 37)) := (Below.refl _ _).alloc (Nat.le_refl _) _
                have YB := Kept.mk (Hd.new 37 #[.int .i64 pt, .slice A2 n2 c2] hM.symm W.out.lt)
                replace OB := Kept.mk (OB.out.below bb); replace B := Kept.mk (low_trans B.out bb W.out.low); replace W := Kept.mk (W.out.below bb)
                have R2 := Kept.mk (rb.below bb)
                replace YA := Kept.mk (YA.out.below bb); replace R1 := Kept.mk (R1.out.below bb)
                clear C hp fp rb bb
                go_upto_region 20 with (fail)
                clear hM
                generalize w7.alloc (.cells #[.int .i64 pt, .slice A2 n2 c2] 37) = w8 at *
                clear o0 o1
                have a0 := YA.out.blk.cell 0; have a1 := YA.out.blk.cell 1; have b0 := YB.out.blk.cell 0; have b1 := YB.out.blk.cell 1
                have C := Kept.mk (rsame_yes pt A1 A2 n1 c1 n2 c2 pb w8 R1.out.1 R2.out.1)
                go_wp2_with fail
                refine C.out.mono ?_
                rintro e w9 ⟨rfl, bb⟩
                replace OB := Kept.mk (OB.out.below bb); replace B := Kept.mk (low_trans B.out bb W.out.low); replace W := Kept.mk (W.out.below bb)
                clear C bb YA YB R1 R2 a0 a1 b0 b1 HP HT HL
                go_wp2
                go_meet
                case rel => exact ⟨l2, Fa, Ga, rfl, W, B, OB⟩
              · have h1f : (kd == 1) = false := by simpa using h1
                by_cases h2 : kd = 2
                · subst h2
                  clear h0 h0f h1 h1f
                  go_upto_region 22 with (fail)
                  refine wp_region_noPanic ?_
                  have bd : Below w4.heap.size w4 w4.drew := (Below.refl _ _).drew
                  replace W := Kept.mk (W.out.below bd); replace OB := Kept.mk (OB.out.below bd); replace B := Kept.mk (low_trans B.out bd hlow)
                  have hS0 : (fun u : World => u.cell? ⟨O, 0, none⟩ = some (.int .i64 2) ∧ u.cell? ⟨O, 1, none⟩ = some (.int .i64 nn) ∧ u.cell? ⟨O, 2, none⟩ = some (.slice aB lB cB)) w4.drew := ⟨OB.out.blk.cell 0, OB.out.blk.cell 1, OB.out.blk.cell 2⟩
                  refine wp_region_held_drew (S := fun u : World => u.cell? ⟨O, 0, none⟩ = some (.int .i64 2) ∧ u.cell? ⟨O, 1, none⟩ = some (.int .i64 nn) ∧ u.cell? ⟨O, 2, none⟩ = some (.slice aB lB cB)) (by kernel_rfl) hS0 (fun hHeld => ?_)
                  clear bd hS0 o0 hlow
                  generalize w4.drew = w5 at *
                  obtain ⟨er, hres⟩ : ∃ z, hasB nn l = z := ⟨_, rfl⟩
                  obtain ⟨l2, hl2⟩ : ∃ z, delP nn l = z := ⟨_, rfl⟩
                  have C := cdrop_any nn W.out.p
                  have HR := Kept.mk hres; have HL := Kept.mk hl2
                  rw [hres, hl2] at C
                  unfold NumP at C
                  replace C := Kept.mk C
                  clear hres hl2
                  refine tk 0 ?_
                  simp only [Act.put, List.setIfInBounds_toArray, List.set_cons_zero, List.set_cons_succ]
                  refine tk 1 ?_
                  simp only [Act.put, List.setIfInBounds_toArray, List.set_cons_zero, List.set_cons_succ]
                  refine tk 2 ?_
                  simp only [Act.put, List.setIfInBounds_toArray, List.set_cons_zero, List.set_cons_succ]
                  refine tk 4 ?_
                  simp only [Act.put, List.setIfInBounds_toArray, List.set_cons_zero, List.set_cons_succ]
                  refine tk 5 ?_
                  simp only [Act.put, List.setIfInBounds_toArray, List.set_cons_zero, List.set_cons_succ]
                  refine tk 6 ?_
                  simp only [Act.put, List.setIfInBounds_toArray, List.set_cons_zero, List.set_cons_succ]
                  refine ld 3 (fun K hK => ?_)
                  go_simp
                  go_at_call 16
                  refine C.out.mono ?_
                  rintro e w6 ⟨F2, rfl, hp, fp⟩
                  replace OB := Kept.mk (OB.out.step (fp_left fp G)); replace B := Kept.mk (W.out.p.step B.out fp); replace W := Kept.mk (W.out.left hp fp)
                  clear hHeld C hp fp
                  refine hK.out _ _ ⟨OB.out.blk.cell 0, OB.out.blk.cell 1, OB.out.blk.cell 2⟩ (fun hHeld => ?_)
                  clear hK K
                  try simp only [Act.put, List.setIfInBounds_toArray, List.set_cons_zero, List.set_cons_succ]
                  have C := rdrop_any nn W.out.q
                  rw [HR.out, HL.out] at C
                  unfold NumP at C
                  replace C := Kept.mk C
                  refine ld 7 (fun K hK => ?_)
                  go_simp
                  go_at_call 17
                  refine C.out.mono ?_
                  rintro e w7 ⟨G2, rfl, hp, fp⟩
                  replace OB := Kept.mk (OB.out.step (fp_right F2 fp)); replace B := Kept.mk (W.out.q.step B.out fp); replace W := Kept.mk (W.out.right hp fp)
                  clear hHeld C hp fp HR HL
                  refine hK.out _ _ ⟨OB.out.blk.cell 0, OB.out.blk.cell 1, OB.out.blk.cell 2⟩ (fun hHeld => ?_)
                  clear hK K
                  try simp only [Act.put, List.setIfInBounds_toArray, List.set_cons_zero, List.set_cons_succ]
                  refine tk 8 ?_
                  simp only [Act.put, List.setIfInBounds_toArray, List.set_cons_zero, List.set_cons_succ]
                  refine tk 9 ?_
                  simp only [Act.put, List.setIfInBounds_toArray, List.set_cons_zero, List.set_cons_succ]
                  refine wpAnyH_done (by kernel_rfl) ?_ _
                  refine NoPanic.normal ?_
                  clear hHeld
                  go_wp2
                  go_meet
                  case rel => exact ⟨l2, F2, G2, rfl, W, B, OB⟩
                · have h2f : (kd == 2) = false := by simpa using h2
                  by_cases h3 : kd = 3
                  · subst h3
                    clear h0 h0f h1 h1f h2 h2f
                    go_upto_region 24 with (fail)
                    refine wp_region_noPanic ?_
                    have bd : Below w4.heap.size w4 w4.drew := (Below.refl _ _).drew
                    replace W := Kept.mk (W.out.below bd); replace OB := Kept.mk (OB.out.below bd); replace B := Kept.mk (low_trans B.out bd hlow)
                    have hS0 : (fun u : World => u.cell? ⟨O, 0, none⟩ = some (.int .i64 3) ∧ u.cell? ⟨O, 1, none⟩ = some (.int .i64 nn) ∧ u.cell? ⟨O, 2, none⟩ = some (.slice aB lB cB)) w4.drew := ⟨OB.out.blk.cell 0, OB.out.blk.cell 1, OB.out.blk.cell 2⟩
                    refine wp_region_held_drew (S := fun u : World => u.cell? ⟨O, 0, none⟩ = some (.int .i64 3) ∧ u.cell? ⟨O, 1, none⟩ = some (.int .i64 nn) ∧ u.cell? ⟨O, 2, none⟩ = some (.slice aB lB cB)) (by kernel_rfl) hS0 (fun hHeld => ?_)
                    clear bd hS0 o0 hlow
                    generalize w4.drew = w5 at *
                    obtain ⟨er, hres⟩ : ∃ z, copyE m nn l = z := ⟨_, rfl⟩
                    obtain ⟨l2, hl2⟩ : ∃ z, copyP m nn l = z := ⟨_, rfl⟩
                    have C := ccopy_any nn W.out.p
                    have HR := Kept.mk hres; have HL := Kept.mk hl2
                    rw [hres, hl2] at C
                    unfold NumP at C
                    replace C := Kept.mk C
                    clear hres hl2
                    refine tk 0 ?_
                    simp only [Act.put, List.setIfInBounds_toArray, List.set_cons_zero, List.set_cons_succ]
                    refine tk 1 ?_
                    simp only [Act.put, List.setIfInBounds_toArray, List.set_cons_zero, List.set_cons_succ]
                    refine tk 2 ?_
                    simp only [Act.put, List.setIfInBounds_toArray, List.set_cons_zero, List.set_cons_succ]
                    refine tk 4 ?_
                    simp only [Act.put, List.setIfInBounds_toArray, List.set_cons_zero, List.set_cons_succ]
                    refine tk 5 ?_
                    simp only [Act.put, List.setIfInBounds_toArray, List.set_cons_zero, List.set_cons_succ]
                    refine tk 6 ?_
                    simp only [Act.put, List.setIfInBounds_toArray, List.set_cons_zero, List.set_cons_succ]
                    refine ld 3 (fun K hK => ?_)
                    go_simp
                    go_at_call 18
                    refine C.out.mono ?_
                    rintro e w6 ⟨F2, rfl, hp, fp⟩
                    replace OB := Kept.mk (OB.out.step (fp_left fp G)); replace B := Kept.mk (W.out.p.step B.out fp); replace W := Kept.mk (W.out.left hp fp)
                    clear hHeld C hp fp
                    refine hK.out _ _ ⟨OB.out.blk.cell 0, OB.out.blk.cell 1, OB.out.blk.cell 2⟩ (fun hHeld => ?_)
                    clear hK K
                    try simp only [Act.put, List.setIfInBounds_toArray, List.set_cons_zero, List.set_cons_succ]
                    have C := rcopy_any nn W.out.q
                    rw [HR.out, HL.out] at C
                    unfold NumP at C
                    replace C := Kept.mk C
                    refine ld 7 (fun K hK => ?_)
                    go_simp
                    go_at_call 19
                    refine C.out.mono ?_
                    rintro e w7 ⟨G2, rfl, hp, fp⟩
                    replace OB := Kept.mk (OB.out.step (fp_right F2 fp)); replace B := Kept.mk (W.out.q.step B.out fp); replace W := Kept.mk (W.out.right hp fp)
                    clear hHeld C hp fp HR HL
                    refine hK.out _ _ ⟨OB.out.blk.cell 0, OB.out.blk.cell 1, OB.out.blk.cell 2⟩ (fun hHeld => ?_)
                    clear hK K
                    try simp only [Act.put, List.setIfInBounds_toArray, List.set_cons_zero, List.set_cons_succ]
                    refine tk 8 ?_
                    simp only [Act.put, List.setIfInBounds_toArray, List.set_cons_zero, List.set_cons_succ]
                    refine tk 9 ?_
                    simp only [Act.put, List.setIfInBounds_toArray, List.set_cons_zero, List.set_cons_succ]
                    refine wpAnyH_done (by kernel_rfl) ?_ _
                    refine NoPanic.normal ?_
                    clear hHeld
                    go_wp2
                    go_meet
                    case rel => exact ⟨l2, F2, G2, rfl, W, B, OB⟩
                  · have h3f : (kd == 3) = false := by simpa using h3
                    clear h0 h1 h2 h3
                    go_wp2
                    go_meet
                    case rel => exact ⟨l, F, G, rfl, W, B, OB⟩
          case rest =>
            clear W B OB TX hlow o0
            obtain ⟨l, F, G, rfl, W, B, OB⟩ := hcut
            obtain ⟨P0, hP⟩ : ∃ z, atP nn l = z := ⟨_, rfl⟩
            obtain ⟨t0, hT⟩ : ∃ z, hasB nn l = z := ⟨_, rfl⟩
            obtain ⟨pt, pb⟩ := P0
            have HP := Kept.mk hP; have HT := Kept.mk hT
            clear hP hT
            have o0 := OB.out.blk.cell 0; have o1 := OB.out.blk.cell 1
            have C := cat_any nn W.out.p
            rw [HP.out, HT.out] at C
            unfold ParP at C
            dsimp only at C
            replace C := Kept.mk C
            go_wp2_with fail
            refine C.out.mono ?_
            rintro e w5 ⟨A1, n1, c1, Fa, rfl, -, -, rb, hp, fp⟩
            replace OB := Kept.mk (OB.out.step (fp_left fp G)); replace B := Kept.mk (W.out.p.step B.out fp)
            replace W := Kept.mk (W.out.left hp fp)
            obtain ⟨L, hL⟩ : ∃ z, w5.heap.size = z := ⟨_, rfl⟩
            have bb : Below w5.heap.size w5 (w5.alloc (.cells #[.int .i64 pt, .slice A1 n1 c1] 37)) := (Below.refl _ _).alloc (Nat.le_refl _) _
            have YA := Kept.mk (Hd.new 37 #[.int .i64 pt, .slice A1 n1 c1] hL.symm W.out.lt)
            replace OB := Kept.mk (OB.out.below bb); replace B := Kept.mk (low_trans B.out bb W.out.low); replace W := Kept.mk (W.out.below bb)
            have R1 := Kept.mk (rb.below bb)
            clear C hp fp rb bb
            go_upto_region 26 with (fail)
            clear hL
            generalize w5.alloc (.cells #[.int .i64 pt, .slice A1 n1 c1] 37) = w6 at *
            clear o0 o1
            have o0 := OB.out.blk.cell 0; have o1 := OB.out.blk.cell 1
            have C := rat_any nn W.out.q
            rw [HP.out, HT.out] at C
            unfold ParP at C
            dsimp only at C
            replace C := Kept.mk C
            go_wp2_with fail
            refine C.out.mono ?_
            rintro e w7 ⟨A2, n2, c2, Ga, rfl, -, -, rb, hp, fp⟩
            replace OB := Kept.mk (OB.out.step (fp_right Fa fp)); replace B := Kept.mk (W.out.q.step B.out fp)
            have nQ := W.out.q.nb (by decide)
            replace YA := Kept.mk (YA.out.step (fp_right Fa fp))
            replace R1 := Kept.mk (R1.out.keep fp.1 nQ)
            clear nQ
            replace W := Kept.mk (W.out.right hp fp)
            obtain ⟨M, hM⟩ : ∃ z, w7.heap.size = z := ⟨_, rfl⟩
            have bb : Below w7.heap.size w7 (w7.alloc (.cells #[.int .i64 pt, .slice A2 n2 c2] 37)) := (Below.refl _ _).alloc (Nat.le_refl _) _
            have YB := Kept.mk (Hd.new 37 #[.int .i64 pt, .slice A2 n2 c2] hM.symm W.out.lt)
            replace OB := Kept.mk (OB.out.below bb); replace B := Kept.mk (low_trans B.out bb W.out.low); replace W := Kept.mk (W.out.below bb)
            have R2 := Kept.mk (rb.below bb)
            replace YA := Kept.mk (YA.out.below bb); replace R1 := Kept.mk (R1.out.below bb)
            clear C hp fp rb bb
            go_upto_region 27 with (fail)
            clear hM
            generalize w7.alloc (.cells #[.int .i64 pt, .slice A2 n2 c2] 37) = w8 at *
            clear o0 o1
            refine wp_region_noPanic ?_
            have bd : Below w8.heap.size w8 w8.drew := (Below.refl _ _).drew
            replace W := Kept.mk (W.out.below bd); replace YA := Kept.mk (YA.out.below bd); replace YB := Kept.mk (YB.out.below bd); replace B := Kept.mk (low_trans B.out bd (by have := W.out.low; exact this))
            replace R1 := Kept.mk (R1.out.below bd); replace R2 := Kept.mk (R2.out.below bd)
            obtain ⟨yA, yc, hy⟩ := W.out.q.cell1
            have hS0 : (fun u : World => u.cell? ⟨L, 0, none⟩ = some (.int .i64 pt) ∧ u.cell? ⟨L, 1, none⟩ = some (.slice A1 n1 c1) ∧ u.cell? ⟨M, 0, none⟩ = some (.int .i64 pt) ∧ u.cell? ⟨M, 1, none⟩ = some (.slice A2 n2 c2) ∧ u.cell? ⟨y, 1, none⟩ = some (.slice yA l.length yc)) w8.drew := ⟨YA.out.blk.cell 0, YA.out.blk.cell 1, YB.out.blk.cell 0, YB.out.blk.cell 1, hy⟩
            refine wp_region_held_drew (S := fun u : World => u.cell? ⟨L, 0, none⟩ = some (.int .i64 pt) ∧ u.cell? ⟨L, 1, none⟩ = some (.slice A1 n1 c1) ∧ u.cell? ⟨M, 0, none⟩ = some (.int .i64 pt) ∧ u.cell? ⟨M, 1, none⟩ = some (.slice A2 n2 c2) ∧ u.cell? ⟨y, 1, none⟩ = some (.slice yA l.length yc)) (by kernel_rfl) hS0 (fun hHeld => ?_)
            clear bd hS0 hy
            generalize w8.drew = w9 at *
            refine tk 0 ?_
            simp only [Act.put, List.setIfInBounds_toArray, List.set_cons_zero, List.set_cons_succ]
            refine tk 1 ?_
            simp only [Act.put, List.setIfInBounds_toArray, List.set_cons_zero, List.set_cons_succ]
            refine tk 2 ?_
            simp only [Act.put, List.setIfInBounds_toArray, List.set_cons_zero, List.set_cons_succ]
            refine tk 3 ?_
            simp only [Act.put, List.setIfInBounds_toArray, List.set_cons_zero, List.set_cons_succ]
            refine tk 4 ?_
            simp only [Act.put, List.setIfInBounds_toArray, List.set_cons_zero, List.set_cons_succ]
            refine tk 5 ?_
            simp only [Act.put, List.setIfInBounds_toArray, List.set_cons_zero, List.set_cons_succ]
            refine tk 6 ?_
            simp only [Act.put, List.setIfInBounds_toArray, List.set_cons_zero, List.set_cons_succ]
            refine tk 7 ?_
            simp only [Act.put, List.setIfInBounds_toArray, List.set_cons_zero, List.set_cons_succ]
            refine tk 8 ?_
            simp only [Act.put, List.setIfInBounds_toArray, List.set_cons_zero, List.set_cons_succ]
            refine tk 9 ?_
            simp only [Act.put, List.setIfInBounds_toArray, List.set_cons_zero, List.set_cons_succ]
            have C := Kept.mk (rsame_yes pt A1 A2 n1 c1 n2 c2 pb w9 R1.out.1 R2.out.1)
            refine ld 10 (fun K hK => ?_)
            go_simp
            go_at_call 15
            refine C.out.mono ?_
            rintro e w10 ⟨rfl, bb⟩
            have S2 := hHeld
            have hlow := W.out.low
            replace W := Kept.mk (W.out.below bb); replace B := Kept.mk (low_trans B.out bb hlow)
            have kc : ∀ (a : Addr) (v : Value), w9.cell? a = some v → w10.cell? a = some v := fun a v h => by rw [bb.cell (by have := World.block_lt_of_cell? _ _ h; exact this)]; exact h
            refine hK.out _ _ ⟨kc _ _ S2.1, kc _ _ S2.2.1, kc _ _ S2.2.2.1, kc _ _ S2.2.2.2.1, kc _ _ S2.2.2.2.2⟩ (fun hHeld => ?_)
            clear hK K C bb kc S2 R1 R2 YA YB hlow
            try simp only [Act.put, List.setIfInBounds_toArray, List.set_cons_zero, List.set_cons_succ]
            have C := Kept.mk (clen_any W.out.p)
            refine tk 11 ?_
            simp only [Act.put, List.setIfInBounds_toArray, List.set_cons_zero, List.set_cons_succ]
            refine tk 12 ?_
            simp only [Act.put, List.setIfInBounds_toArray, List.set_cons_zero, List.set_cons_succ]
            refine tk 13 ?_
            simp only [Act.put, List.setIfInBounds_toArray, List.set_cons_zero, List.set_cons_succ]
            refine tk 14 ?_
            simp only [Act.put, List.setIfInBounds_toArray, List.set_cons_zero, List.set_cons_succ]
            refine tk 16 ?_
            simp only [Act.put, List.setIfInBounds_toArray, List.set_cons_zero, List.set_cons_succ]
            refine tk 17 ?_
            simp only [Act.put, List.setIfInBounds_toArray, List.set_cons_zero, List.set_cons_succ]
            refine tk 18 ?_
            simp only [Act.put, List.setIfInBounds_toArray, List.set_cons_zero, List.set_cons_succ]
            refine tk 19 ?_
            simp only [Act.put, List.setIfInBounds_toArray, List.set_cons_zero, List.set_cons_succ]
            refine tk 20 ?_
            simp only [Act.put, List.setIfInBounds_toArray, List.set_cons_zero, List.set_cons_succ]
            refine ld 15 (fun K hK => ?_)
            go_simp
            go_at_call 22
            refine C.out.mono ?_
            rintro e w11 ⟨rfl, rfl⟩
            refine hK.out _ _ hHeld (fun hHeld => ?_)
            clear hK K C
            try simp only [Act.put, List.setIfInBounds_toArray, List.set_cons_zero, List.set_cons_succ]
            refine tk 21 ?_
            simp only [Act.put, List.setIfInBounds_toArray, List.set_cons_zero, List.set_cons_succ]
            refine tk 22 ?_
            simp only [Act.put, List.setIfInBounds_toArray, List.set_cons_zero, List.set_cons_succ]
            refine wpAnyH_done (by kernel_rfl) ?_ _
            refine NoPanic.normal ?_
            clear hHeld
            go_wp2
            go_round
            case rel => exact ⟨k + 1, l, Fa, Ga, by omega, by go_num, W, B⟩
            case measure => simp only [Go.RowKit.intOf]; omega
        · have hlt' : ((k : Int) < n) = False := eq_false (by omega)
          go_wp2_with fail
          refine (EN.out wr B.out).mono ?_
          rintro e wz ⟨rfl, bb⟩
          replace B := Kept.mk bb
          clear bb
          go_wp2
          go_ret
          exact ⟨rfl, hN.symm ▸ B.out⟩
    · have CN := fun wz => cnew_no m0 wz hm
      have RN := fun wz => rnew_no m0 wz hm
      go_wp2_with fail
      refine (CN w2).mono ?_
      rintro e w3 ⟨rfl, rfl⟩
      go_wp2_with fail
      refine (RN w2).mono ?_
      rintro e w3 ⟨rfl, rfl⟩
      clear CN RN hm
      go_wp2_with fail
      refine wp_loop_rounds 1 ?_
      rw [rounds_succ]
      go_wp2_with fail
      refine (EN.out w2 B.out).mono ?_
      rintro e wz ⟨rfl, bb⟩
      replace B := Kept.mk bb
      clear bb
      go_wp2
      go_ret
      exact ⟨rfl, hN.symm ▸ B.out⟩
end Go.Proofs.Ytjnpcfpalckkdaa.Post
