/-
  The law PostOrder, walked.
-/
import Derived.Test.YtjnpcfpalckkdaaPostOrderV
import Derived.Deep.CutBlock
import Derived.Deep.CutRange
namespace Go.Proofs.Ytjnpcfpalckkdaa.Post
open Go.RowKit Go.Proofs.Ytjnpcfpalckkdaa.Sha

set_option maxRecDepth 100000 in
set_option maxHeartbeats 4000000 in
theorem porder_walk (n0 a0 : Int) (w : World) : Calls Try.prog 5 #[.int .i64 n0, .int .i64 a0] w fun e w' => e = .returned (.bool true) ∧ Below w.heap.size w w' := by
  obtain ⟨N, hN⟩ : ∃ N, w.heap.size = N := ⟨_, rfl⟩
  have EN : Kept (∀ wz, Below N w wz → Calls Try.prog 7 #[] wz fun e w' => e = .returned (.bool true) ∧ Below N w w' ∧ Below wz.heap.size wz w') := ⟨fun wz hz => (first_any wz).mono (fun e w' h => ⟨h.1, hz.trans (h.2.mono (by have := hz.size; omega)), h.2⟩)⟩
  go_enter Try.func5, Try.ntmps5
  go_wp2_with fail
  refine (EN.out w (Below.refl _ _)).mono ?_
  rintro e w1 ⟨rfl, b1, -⟩
  have B := Kept.mk b1
  have hs1 := b1.size
  clear b1
  go_wp2_with fail
  refine (cnew_any 150 N w1 (by omega) (by omega)).mono ?_
  rintro e w2 ⟨rfl, hp, bb⟩
  obtain ⟨x, hx⟩ : ∃ x, w1.heap.size = x := ⟨_, rfl⟩
  rw [hx] at hp bb ⊢
  have P := Kept.mk hp
  replace B := Kept.mk (B.out.trans (bb.mono (by omega)))
  clear hp bb hx hs1
  by_cases h1 : n0 < 1
  · go_wp2_with fail
    refine (EN.out w2 B.out).mono ?_
    rintro e w3 ⟨rfl, b3, -⟩
    replace B := Kept.mk b3
    clear b3
    go_wp2
    go_ret
    exact ⟨rfl, hN.symm ▸ B.out⟩
  · have q1 : (n0 < 1) = False := eq_false h1
    by_cases h2 : 100 < n0
    · clear h1
      go_wp2_with fail
      refine (EN.out w2 B.out).mono ?_
      rintro e w3 ⟨rfl, b3, -⟩
      replace B := Kept.mk b3
      clear b3
      go_wp2
      go_ret
      exact ⟨rfl, hN.symm ▸ B.out⟩
    · have q2 : (100 < n0) = False := eq_false h2
      by_cases h3 : a0 < 0
      · clear h1 h2
        go_wp2_with fail
        refine (EN.out w2 B.out).mono ?_
        rintro e w3 ⟨rfl, b3, -⟩
        replace B := Kept.mk b3
        clear b3
        go_wp2
        go_ret
        exact ⟨rfl, hN.symm ▸ B.out⟩
      · have q3 : (a0 < 0) = False := eq_false h3
        by_cases h4 : n0 ≤ a0
        · clear h1 h2 h3
          go_wp2_with fail
          refine (EN.out w2 B.out).mono ?_
          rintro e w3 ⟨rfl, b3, -⟩
          replace B := Kept.mk b3
          clear b3
          go_wp2
          go_ret
          exact ⟨rfl, hN.symm ▸ B.out⟩
        · obtain ⟨n, rfl⟩ : ∃ z : Nat, n0 = z := ⟨n0.toNat, by omega⟩
          obtain ⟨a, rfl⟩ : ∃ z : Nat, a0 = z := ⟨a0.toNat, by omega⟩
          have q4 : ((n : Int) ≤ a) = False := eq_false h4
          have han : a < n := by omega
          have hn : n ≤ 100 := by omega
          have han' : (a : Int) < n := by omega
          have HA := Kept.mk han
          clear h1 h2 h3 h4
          go_wp2_with fail
          go_loopw [7, 8] (fun i f wr => ∃ (k : Nat) (F : List Nat) (u : Value), k ≤ n ∧ i = .int .i64 k ∧ u = f ∧ Kept (Ps 52 F N wr x 150 (row k)) ∧ Kept (Below N w wr)) (fun i _ _ => n - (Go.RowKit.intOf i).toNat)
          case atStart => exact ⟨0, _, _, by omega, rfl, rfl, P, B⟩
          case round =>
            clear P B q1 q2 q3
            obtain ⟨k, F, u, hk, rfl, rfl, P, B⟩ := hrel
            by_cases hlt : k < n
            · have hlt' : (k : Int) < n := by omega
              have hw8 : IntKind.u8.wrap (k : Int) = k := by rw [IntKind.wrap_u8]; omega
              obtain ⟨M, hM⟩ : ∃ z, wr.heap.size = z := ⟨_, rfl⟩
              obtain ⟨q, hq, PO⟩ := P.out
              have bb : Below wr.heap.size wr (wr.alloc (.cells #[.int .u8 (k : Int), .int .u8 1] 5)) := (Below.refl _ _).alloc (Nat.le_refl _) _
              have OF : Kept (∀ p ∈ q, Off p.A p.n [M]) := ⟨fun p hp => (PO.each p hp).2.2.2.1.off (by rw [← hM]; simp)⟩
              have MF : Kept (M ∉ F ∧ N ≤ M) := ⟨fun hm => by have := (P.out.lt M hm).2; omega, by have := P.out.root; omega⟩
              have Y := Kept.mk (Blk.new_at wr 5 #[.int .u8 (k : Int), .int .u8 1] M hM.symm)
              have PM := Kept.mk (PO.below bb)
              replace B := Kept.mk (B.out.trans (bb.mono (by have := P.out.root; omega)))
              clear bb PO P
              go_upto_region 10 with (fail)
              clear hM
              generalize wr.alloc (.cells #[.int .u8 (k : Int), .int .u8 1] 5) = w3 at *
              have RD : Rd w3 (some ⟨M, 0, none⟩) 2 [(k : Int), 1] := Rd.blk (show Blk w3 M 5 (arr .u8 [(k : Int), 1]) from Y.out) (by intro y hy; simp at hy; omega) rfl
              have C := cput_of (c := 2) k PM.out RD
              have e1 := row_put k (by omega)
              rw [hq, show [(k : Int), 1] = (tx k).b from rfl, e1.1, e1.2] at C
              unfold NumQ at C
              replace C := Kept.mk C
              clear RD e1 hq hw8
              go_wp2_with fail
              refine C.out.mono ?_
              rintro e w4 ⟨F4, q4, rfl, hq4, p4, new4, fp4⟩
              have OF4 : ∀ p ∈ q4, Off p.A p.n [M] := fun p hp => (new4 p hp).elim (fun h => OF.out p h) (fun h => newA_off1 h (p4.each p hp).2.2.2.1 Y.out.lt)
              have MF4 : M ∉ F4 := fun hm => (fp4.2 M hm).elim MF.out.1 (fun h => by have := Y.out.lt; omega)
              replace B := Kept.mk ((show Ps _ F N w3 x 150 (q.map PA.val) from ⟨q, rfl, PM.out⟩).step B.out fp4)
              have b5 : Bar [M] w4 (w4.setCell ⟨M, 1, none⟩ (.int .u8 9)) := (Bar.refl _ _).setCell (by simp) _
              have P5 : Kept (Ps 52 F4 N (w4.setCell ⟨M, 1, none⟩ (.int .u8 9)) x 150 (row (k + 1))) := ⟨q4, hq4, p4.far b5 MF4 OF4⟩
              have Y4 := Y.out.bar fp4.1 MF.out.1
              have B5 : Kept (Below N w (w4.setCell ⟨M, 1, none⟩ (.int .u8 9))) := ⟨B.out.trans (b5.below (by have := Y4.lt; have := MF.out.2; omega) (by have := MF.out.2; simpa using this))⟩
              have y1 : w4.cell? ⟨M, 1, none⟩ = some (.int .u8 1) := Y4.cell 1
              have z1 := Y4.frozen 1
              clear C OF4 MF4 b5 Y4 p4 hq4 new4 fp4 B PM OF MF Y
              go_wp2
              go_roundw
              case rel => exact ⟨k + 1, F4, _, by omega, by go_num, rfl, P5, B5⟩
              case measure => simp only [Go.RowKit.intOf]; omega
            · obtain rfl : k = n := by omega
              clear hlt hk
              have C := ccopy_any (a : Int) P.out
              have e1 := row_copy HA.out (by omega)
              rw [e1.1, e1.2] at C
              unfold NumP at C
              replace C := Kept.mk C
              clear e1
              go_wp2_with fail
              refine C.out.mono ?_
              rintro e w3 ⟨F3, rfl, hp, hf⟩
              replace B := Kept.mk (P.out.step B.out hf)
              replace P := Kept.mk hp
              clear C hp hf
              have C := cat_any (k : Int) P.out
              rw [rowC_last.1, rowC_last.2] at C
              unfold ParP at C
              dsimp only [tx] at C
              replace C := Kept.mk C
              go_wp2_with fail
              refine C.out.mono ?_
              rintro e w4 ⟨A4, n4, c4, F4, rfl, -, -, rb, hp, hf⟩
              obtain ⟨L, hL⟩ : ∃ z, w4.heap.size = z := ⟨_, rfl⟩
              have bb : Below w4.heap.size w4 (w4.alloc (.cells #[.int .i64 (a : Int), .slice A4 n4 c4] 37)) := (Below.refl _ _).alloc (Nat.le_refl _) _
              have Y := Kept.mk (Blk.new_at w4 37 #[.int .i64 (a : Int), .slice A4 n4 c4] L hL.symm)
              have LF : Kept (L ∉ F4) := ⟨fun hm => by have := (hp.lt L hm).2; omega⟩
              replace B := Kept.mk ((P.out.step B.out hf).trans (bb.mono (by have := hp.root; omega)))
              replace P := Kept.mk (hp.below bb)
              have RL := Kept.mk (rb.below bb)
              clear C hp hf rb bb
              go_upto_region 16 with (fail)
              clear hL
              generalize w4.alloc (.cells #[.int .i64 (a : Int), .slice A4 n4 c4] 37) = w5 at *
              have C := ctake_any (a : Int) P.out
              rw [(rowC_at HA.out).1, (rowC_at HA.out).2, show delP (a : Int) (rowC k a) = rowD k a from rfl] at C
              unfold ParP at C
              dsimp only [tx] at C
              replace C := Kept.mk C
              go_wp2_with fail
              refine C.out.mono ?_
              rintro e w6 ⟨A6, n6, c6, F6, rfl, -, -, rb, hp, hf⟩
              have nF := P.out.nb (by decide)
              have hLl := Y.out.lt
              replace Y := Kept.mk (Y.out.bar hf.1 LF.out)
              replace RL := Kept.mk (RL.out.keep hf.1 nF)
              obtain ⟨X, hX⟩ : ∃ z, w6.heap.size = z := ⟨_, rfl⟩
              have bb : Below w6.heap.size w6 (w6.alloc (.cells #[.int .i64 (a : Int), .slice A6 n6 c6] 37)) := (Below.refl _ _).alloc (Nat.le_refl _) _
              have Z := Kept.mk (Blk.new_at w6 37 #[.int .i64 (a : Int), .slice A6 n6 c6] X hX.symm)
              replace B := Kept.mk ((P.out.step B.out hf).trans (bb.mono (by have := hp.root; omega)))
              replace P := Kept.mk (hp.below bb)
              replace RL := Kept.mk (RL.out.below bb)
              have RX := Kept.mk (rb.below bb)
              replace Y := Kept.mk (Y.out.below bb Y.out.lt)
              clear C hp hf rb bb nF hLl LF
              go_upto_region 17 with (fail)
              clear hX
              generalize w6.alloc (.cells #[.int .i64 (a : Int), .slice A6 n6 c6] 37) = w7 at *
              have l0 := Y.out.cell 0; have l1 := Y.out.cell 1; have x0 := Z.out.cell 0; have x1 := Z.out.cell 1
              have hw8 : IntKind.u8.wrap (a : Int) = a := by rw [IntKind.wrap_u8]; omega
              obtain rfl : 2 = n4 := RL.out.1.1
              obtain rfl : 2 = n6 := RX.out.1.1
              obtain ⟨b4, o4, rfl, h4⟩ := RL.out.1.2.2.resolve_left (by omega)
              obtain ⟨b6, o6, rfl, h6⟩ := RX.out.1.2.2.resolve_left (by omega)
              have d4 : w7.cell? ⟨b4, o4, none⟩ = some (.int .u8 a) := h4 0 (by omega)
              have d6 : w7.cell? ⟨b6, o6 + 1, none⟩ = some (.int .u8 1) := h6 1 (by omega)
              clear h4 h6 RL RX
              go_wp2_with fail
              clear d4 d6 l0 l1 x0 x1 hw8 Y Z
              have HN : Kept (∀ j : Nat, j < k → hasB (j : Int) (rowD k a) = true ∧ (atP (j : Int) (rowD k a)).to = if j = k - 1 then (a : Int) else if a ≤ j then (j : Int) + 1 else j) := ⟨fun j hj => rowD_at HA.out hj⟩
              have HL : Kept ((rowD k a).length = k) := ⟨rowD_len HA.out⟩
              generalize rowD k a = ld at *
              go_loopw [13, 14, 15, 16] (fun i y t z wr => ∃ (j : Nat) (F : List Nat) (u1 u2 u3 : Value), j ≤ k ∧ i = .int .i64 j ∧ u1 = y ∧ u2 = t ∧ u3 = z ∧ Kept (Ps 52 F N wr x 150 ld) ∧ Kept (Below N w wr)) (fun i _ _ _ _ => k - (Go.RowKit.intOf i).toNat)
              case atStart => exact ⟨0, _, _, _, _, by omega, rfl, rfl, rfl, rfl, P, B⟩
              case round =>
                clear P B
                obtain ⟨j, F, u1, u2, u3, hj, rfl, rfl, rfl, rfl, P, B⟩ := hrel
                by_cases hlt : j < k
                · have hlt' : (j : Int) < k := by omega
                  obtain ⟨e1, e2⟩ := HN.out j hlt
                  have C := cat_any (j : Int) P.out
                  rw [e1] at C
                  unfold ParP at C
                  obtain ⟨pt, hpt⟩ : ∃ z, (atP (j : Int) ld).to = z := ⟨_, rfl⟩
                  rw [hpt] at C e2
                  replace C := Kept.mk C
                  clear e1 hpt
                  go_wp2_with fail
                  refine C.out.mono ?_
                  rintro e w8 ⟨A8, n8, c8, F8, rfl, -, -, -, hp, hf⟩
                  have bb : Below w8.heap.size w8 (w8.alloc (.cells #[.int .i64 pt, .slice A8 n8 c8] 37)) := (Below.refl _ _).alloc (Nat.le_refl _) _
                  have P8 := Kept.mk (hp.below bb)
                  have B8 := Kept.mk ((P.out.step B.out hf).trans (bb.mono (by have := hp.root; omega)))
                  clear C hp hf bb P B
                  by_cases h1 : j = k - 1
                  · rw [if_pos h1] at e2
                    subst e2
                    have h2 : ((j : Int) == (k : Int) - 1) = true := by simp; omega
                    have h3 : (a : Int) ≤ j := by omega
                    clear h1
                    go_wp2
                    go_roundw
                    case rel => exact ⟨j + 1, F8, _, _, _, by omega, by go_num, rfl, rfl, rfl, P8, B8⟩
                    case measure => simp only [Go.RowKit.intOf]; omega
                  · rw [if_neg h1] at e2
                    have h2 : ((j : Int) == (k : Int) - 1) = false := by simp; omega
                    by_cases h3 : a ≤ j
                    · rw [if_pos h3] at e2
                      subst e2
                      have h4 : (a : Int) ≤ j := by omega
                      clear h1 h3
                      go_wp2
                      go_roundw
                      case rel => exact ⟨j + 1, F8, _, _, _, by omega, by go_num, rfl, rfl, rfl, P8, B8⟩
                      case measure => simp only [Go.RowKit.intOf]; omega
                    · rw [if_neg h3] at e2
                      subst e2
                      have h4 : ((a : Int) ≤ j) = False := eq_false (by omega)
                      clear h1 h3
                      go_wp2
                      go_roundw
                      case rel => exact ⟨j + 1, F8, _, _, _, by omega, by go_num, rfl, rfl, rfl, P8, B8⟩
                      case measure => simp only [Go.RowKit.intOf]; omega
                · obtain rfl : j = k := by omega
                  go_wp2_with fail
                  refine (EN.out wr B.out).mono ?_
                  rintro e w9 ⟨rfl, b3, b4⟩
                  have C := clen_any (P.out.below b4)
                  rw [HL.out] at C
                  replace C := Kept.mk C
                  replace B := Kept.mk b3
                  clear b3 b4
                  go_wp2_with fail
                  refine C.out.mono ?_
                  rintro e w10 ⟨rfl, rfl⟩
                  clear C
                  go_wp2
                  go_ret
                  exact ⟨rfl, hN.symm ▸ B.out⟩
end Go.Proofs.Ytjnpcfpalckkdaa.Post
