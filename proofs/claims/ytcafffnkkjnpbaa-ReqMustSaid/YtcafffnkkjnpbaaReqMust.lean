/-
  The law ReqMust, walked over contracts.
-/
import Derived.Test.YtcafffnkkjnpbaaPart8
import Derived.Test.YtcafffnkkjnpbaaPart20
import Derived.Deep.Cut
import Derived.Deep.CutRange
namespace Go.Proofs.Ytcafffnkkjnpbaa.Req
open Go.RowKit Go.Proofs.Ytcafffnkkjnpbaa.Sha Go.Proofs.Ytcafffnkkjnpbaa.Wire

theorem okB_one (r : RV) : OkB ⟨0, [r]⟩ ↔ MayR r := by
  constructor
  · intro h; exact h.2.2 r (by simp)
  · intro h
    refine ⟨⟨by dsimp only; omega, by dsimp only; omega⟩, by simp, fun x hx => ?_⟩
    dsimp only at hx
    rw [List.mem_singleton] at hx
    subst hx; exact h
theorem enc_one_yes {r : RV} (h : MayR r) : (encB ⟨0, [r]⟩).1 = 0 := by rw [encB_yes ((okB_one r).2 h)]
theorem enc_one_no {r : RV} (h : ¬ MayR r) : (encB ⟨0, [r]⟩).1 = 1 := by rw [encB_no (fun k => h ((okB_one r).1 k))]
theorem rr_one {w : World} {M : Nat} {r : RV} (h : Blk w M 48 (rvC r).toArray) : Rr w (some ⟨M, 0, none⟩) 1 [r] := by
  refine ⟨rfl, .inr ⟨M, 0, rfl, fun k x hx j v hv => ?_⟩⟩
  have hk : k = 0 := by
    have := (List.getElem?_eq_some_iff.1 hx).1
    simpa using this
  subst hk
  obtain rfl : r = x := by simpa using hx
  have := h.cell j
  rw [List.getElem?_toArray, hv] at this
  simpa using this
theorem str_x (xs : List Int) : strOfNums xs ++ ⟨#[120]⟩ = strOfNums (xs ++ [120]) := by
  apply ByteArray.ext
  apply Array.toList_inj.1
  rw [ByteArray.data_append, Array.toList_append, strOfNums_data, strOfNums_data, List.map_append]
  rfl

set_option maxRecDepth 100000 in
set_option maxHeartbeats 4000000 in
theorem reqmust_walk (api : ReqApi) (r : RV) (js : List Int) (w : World) (hr : r.ok) (hj : Bytes js) :
    Calls Try.prog 7 #[rqv r, .string (strOfNums js)] w (Yes w) := by
  obtain ⟨N, hN⟩ : ∃ N, w.heap.size = N := ⟨_, rfl⟩
  obtain ⟨kind, dst, asset, amount, id, due, hash, sec⟩ := r
  unfold rqv
  dsimp only
  have X : Kept (Blk (w.alloc (.cells #[.int .i64 kind, .int .i64 dst, .int .i64 asset, .int .i64 amount, .int .i64 id, .int .i64 due, .string (strOfNums hash), .string (strOfNums sec)] 48)) N 48 #[.int .i64 kind, .int .i64 dst, .int .i64 asset, .int .i64 amount, .int .i64 id, .int .i64 due, .string (strOfNums hash), .string (strOfNums sec)]) := ⟨Blk.new_at w _ _ N hN.symm⟩
  have B : Kept (Below w.heap.size w (w.alloc (.cells #[.int .i64 kind, .int .i64 dst, .int .i64 asset, .int .i64 amount, .int .i64 id, .int .i64 due, .string (strOfNums hash), .string (strOfNums sec)] 48))) := ⟨(Below.refl _ _).alloc (Nat.le_refl _) _⟩
  have OK := Kept.mk hr; have OJ := Kept.mk hj
  have n0 := Kept.mk nil_bytes
  obtain ⟨zj, hzj⟩ : ∃ z, (strOfNums js).size = z := ⟨_, rfl⟩
  obtain ⟨zh, hzh⟩ : ∃ z, (strOfNums hash).size = z := ⟨_, rfl⟩
  obtain ⟨zs, hzs⟩ : ∃ z, (strOfNums sec).size = z := ⟨_, rfl⟩
  have ZJ : Kept (js.length = zj) := ⟨by rw [← hzj, strOfNums_size]⟩
  have ZH : Kept (hash.length = zh) := ⟨by rw [← hzh, strOfNums_size]⟩
  have ZS : Kept (sec.length = zs) := ⟨by rw [← hzs, strOfNums_size]⟩
  clear hr hj
  go_enter Try.func7, Try.ntmps7
  go_upto_region 1 with (fail)
  generalize (w.alloc (.cells #[.int .i64 kind, .int .i64 dst, .int .i64 asset, .int .i64 amount, .int .i64 id, .int .i64 due, .string (strOfNums hash), .string (strOfNums sec)] 48)) = w1 at *
  go_wp2_with fail
  refine (first_any api _).mono ?_
  rintro e w2 ⟨rfl, bb⟩
  replace X := Kept.mk (X.out.below bb X.out.lt); replace B := Kept.mk (B.out.trans (bb.mono B.out.size))
  clear bb
  by_cases hj : (100 : Int) < zj
  · skip
    have x6 := X.out.cell 6; have x7 := X.out.cell 7
    go_wp2_with fail
    refine (first_any api _).mono ?_
    rintro e w3 ⟨rfl, bb⟩
    replace X := Kept.mk (X.out.below bb X.out.lt); replace B := Kept.mk (B.out.trans (bb.mono B.out.size))
    clear bb x6 x7
    go_wp2
    go_ret
    exact ⟨rfl, B.out⟩
  · have hj' : ¬ (100 : Int) < zj := hj
    by_cases hh : (100 : Int) < zh
    · skip
      have x6 := X.out.cell 6; have x7 := X.out.cell 7
      go_wp2_with fail
      refine (first_any api _).mono ?_
      rintro e w3 ⟨rfl, bb⟩
      replace X := Kept.mk (X.out.below bb X.out.lt); replace B := Kept.mk (B.out.trans (bb.mono B.out.size))
      clear bb x6 x7
      go_wp2
      go_ret
      exact ⟨rfl, B.out⟩
    · have hh' : ¬ (100 : Int) < zh := hh
      by_cases hs : (100 : Int) < zs
      · skip
        have x6 := X.out.cell 6; have x7 := X.out.cell 7
        go_wp2_with fail
        refine (first_any api _).mono ?_
        rintro e w3 ⟨rfl, bb⟩
        replace X := Kept.mk (X.out.below bb X.out.lt); replace B := Kept.mk (B.out.trans (bb.mono B.out.size))
        clear bb x6 x7
        go_wp2
        go_ret
        exact ⟨rfl, B.out⟩
      · have hs' : ¬ (100 : Int) < zs := hs
        have x0 := X.out.cell 0; have x1 := X.out.cell 1; have x2 := X.out.cell 2; have x3 := X.out.cell 3; have x4 := X.out.cell 4; have x5 := X.out.cell 5; have x6 := X.out.cell 6; have x7 := X.out.cell 7
        have bb : Below w2.heap.size w2 (w2.alloc (.cells #[.int .i64 kind, .int .i64 dst, .int .i64 asset, .int .i64 amount, .int .i64 id, .int .i64 due, .string (strOfNums hash), .string (strOfNums sec)] 48)) := (Below.refl _ _).alloc (Nat.le_refl _) _
        have rr : Rr (w2.alloc (.cells #[.int .i64 kind, .int .i64 dst, .int .i64 asset, .int .i64 amount, .int .i64 id, .int .i64 due, .string (strOfNums hash), .string (strOfNums sec)] 48)) (some ⟨w2.heap.size, 0, none⟩) 1 [⟨kind, dst, asset, amount, id, due, hash, sec⟩] := rr_one (Blk.new w2 _ _)
        have KE := api.encb 0 rr (Nat.le_refl _) (by omega) (by omega) (by intro x hx; rw [List.mem_singleton] at hx; subst hx; exact OK.out) (by intro x hx; rw [List.mem_singleton] at hx; subst hx; exact ⟨by have := ZH.out; dsimp only; omega, by have := ZS.out; dsimp only; omega⟩)
        obtain ⟨⟨r1, b1⟩, hR⟩ : ∃ R, encB ⟨0, [⟨kind, dst, asset, amount, id, due, hash, sec⟩]⟩ = R := ⟨_, rfl⟩
        rw [hR] at KE
        unfold EncPost at KE
        have KE2 := Kept.mk KE
        have E1 : Kept ((encB ⟨0, [⟨kind, dst, asset, amount, id, due, hash, sec⟩]⟩).1 = r1) := ⟨by rw [hR]⟩
        have bb2 := Kept.mk bb
        clear KE hR rr bb
        go_wp2_with fail
        refine KE2.out.mono ?_
        rintro e w3 ⟨P1, p1, k1, rfl, -, -, -, bb⟩
        have b3 := bb2.out.trans (bb.mono bb2.out.size)
        replace X := Kept.mk (X.out.below b3 X.out.lt); replace B := Kept.mk (B.out.trans (b3.mono B.out.size))
        clear bb b3 bb2 KE2
        clear x0 x1 x2 x3 x4 x5 x6 x7
        by_cases hmay : MayR ⟨kind, dst, asset, amount, id, due, hash, sec⟩
        · skip
          obtain rfl : 0 = r1 := by rw [← E1.out]; exact (enc_one_yes hmay).symm
          clear E1
          rcases hmay with ⟨h1, h2, h3, h4, h5, h6, h7, h8⟩ | ⟨h1, h2, h3, h4, h5, h6, h7, h8⟩ | ⟨h1, h2, h3, h4, h5, h6, h7, h8⟩ | ⟨h1, h2, h3, h4, h5, h6, h7, h8⟩ <;> dsimp only at h1 h2 h3 h4 h5 h6 h7 h8
          · subst h1 h5 h6 h7 h8
            have x0 := X.out.cell 0; have x1 := X.out.cell 1; have x2 := X.out.cell 2; have x3 := X.out.cell 3; have x4 := X.out.cell 4; have x5 := X.out.cell 5; have x6 := X.out.cell 6; have x7 := X.out.cell 7
            have bb : Below w3.heap.size w3 (w3.alloc (.cells #[.int .i64 1, .int .i64 dst, .int .i64 asset, .int .i64 amount, .int .i64 0, .int .i64 0, .string (strOfNums []), .string (strOfNums [])] 48)) := (Below.refl _ _).alloc (Nat.le_refl _) _
            have Y : Kept (Blk (w3.alloc (.cells #[.int .i64 1, .int .i64 dst, .int .i64 asset, .int .i64 amount, .int .i64 0, .int .i64 0, .string (strOfNums []), .string (strOfNums [])] 48)) w3.heap.size 48 #[.int .i64 1, .int .i64 dst, .int .i64 asset, .int .i64 amount, .int .i64 0, .int .i64 0, .string (strOfNums []), .string (strOfNums [])]) := ⟨Blk.new _ _ _⟩
            have hNM := X.out.lt
            go_upto_region 9 with (fail)
            clear x0 x1 x2 x3 x4 x5 x6 x7
            replace X := Kept.mk (X.out.below bb X.out.lt); replace B := Kept.mk (B.out.trans (bb.mono B.out.size))
            clear bb
            generalize w3.alloc (.cells #[.int .i64 1, .int .i64 dst, .int .i64 asset, .int .i64 amount, .int .i64 0, .int .i64 0, .string (strOfNums []), .string (strOfNums [])] 48) = w4 at *
            generalize w3.heap.size = M at *
            have x0 := X.out.cell 0; have y4 := Y.out.cell 4; have z4 := Y.out.frozen 4
            go_upto_region 18 with (fail)
            have Y2 : Kept (Blk (w4.setCell ⟨M, 4, none⟩ (.int .i64 1)) M 48 #[.int .i64 1, .int .i64 dst, .int .i64 asset, .int .i64 amount, .int .i64 1, .int .i64 0, .string (strOfNums []), .string (strOfNums [])]) := ⟨Y.out.set_ 4 _⟩
            replace X := Kept.mk (X.out.far (p := ⟨M, 4, none⟩) (by show N ≠ M; omega) (.int .i64 1))
            replace B := Kept.mk (B.out.setCell (p := ⟨M, 4, none⟩) (by show w.heap.size ≤ M; omega) (.int .i64 1))
            clear x0 y4 z4 Y
            generalize w4.setCell ⟨M, 4, none⟩ (.int .i64 1) = w5 at *
            have y0 := Y2.out.cell 0; have y1 := Y2.out.cell 1; have y2 := Y2.out.cell 2; have y3 := Y2.out.cell 3; have y4 := Y2.out.cell 4; have y5 := Y2.out.cell 5; have y6 := Y2.out.cell 6; have y7 := Y2.out.cell 7
            have bb : Below w5.heap.size w5 (w5.alloc (.cells #[.int .i64 1, .int .i64 dst, .int .i64 asset, .int .i64 amount, .int .i64 1, .int .i64 0, .string (strOfNums []), .string (strOfNums [])] 48)) := (Below.refl _ _).alloc (Nat.le_refl _) _
            have rr : Rr (w5.alloc (.cells #[.int .i64 1, .int .i64 dst, .int .i64 asset, .int .i64 amount, .int .i64 1, .int .i64 0, .string (strOfNums []), .string (strOfNums [])] 48)) (some ⟨w5.heap.size, 0, none⟩) 1 [⟨1, dst, asset, amount, 1, 0, [], []⟩] := rr_one (Blk.new w5 _ _)
            have KE := api.encb 0 rr (Nat.le_refl _) (by omega) (by omega) (by intro x hx; rw [List.mem_singleton] at hx; subst hx; exact ⟨n0.out, n0.out⟩) (by intro x hx; rw [List.mem_singleton] at hx; subst hx; exact ⟨by simp, by simp⟩)
            obtain ⟨⟨r2, b2⟩, hR⟩ : ∃ R, encB ⟨0, [⟨1, dst, asset, amount, 1, 0, [], []⟩]⟩ = R := ⟨_, rfl⟩
            rw [hR] at KE
            unfold EncPost at KE
            have KE2 := Kept.mk KE
            have E2 : Kept ((encB ⟨0, [⟨1, dst, asset, amount, 1, 0, [], []⟩]⟩).1 = r2) := ⟨by rw [hR]⟩
            have bb2 := Kept.mk bb
            clear KE hR rr bb
            go_wp2_with fail
            refine KE2.out.mono ?_
            rintro e w6 ⟨P2, p2, k2, rfl, -, -, -, bb⟩
            have b3 := bb2.out.trans (bb.mono bb2.out.size)
            replace X := Kept.mk (X.out.below b3 X.out.lt); replace B := Kept.mk (B.out.trans (b3.mono B.out.size))
            clear bb b3 bb2 KE2
            clear y0 y1 y2 y3 y4 y5 y6 y7 Y2
            have x0 := X.out.cell 0
            obtain rfl : 1 = r2 := by rw [← E2.out]; exact (enc_one_no (by unfold MayR; simp)).symm
            clear E2
            go_wp2_with fail
            refine (first_any api _).mono ?_
            rintro e w7 ⟨rfl, bb⟩
            replace X := Kept.mk (X.out.below bb X.out.lt); replace B := Kept.mk (B.out.trans (bb.mono B.out.size))
            clear bb x0
            go_wp2
            go_ret
            exact ⟨rfl, B.out⟩
          · subst h1 h5 h8
            have x0 := X.out.cell 0; have x1 := X.out.cell 1; have x2 := X.out.cell 2; have x3 := X.out.cell 3; have x4 := X.out.cell 4; have x5 := X.out.cell 5; have x6 := X.out.cell 6; have x7 := X.out.cell 7
            have bb : Below w3.heap.size w3 (w3.alloc (.cells #[.int .i64 2, .int .i64 dst, .int .i64 asset, .int .i64 amount, .int .i64 0, .int .i64 due, .string (strOfNums hash), .string (strOfNums [])] 48)) := (Below.refl _ _).alloc (Nat.le_refl _) _
            have Y : Kept (Blk (w3.alloc (.cells #[.int .i64 2, .int .i64 dst, .int .i64 asset, .int .i64 amount, .int .i64 0, .int .i64 due, .string (strOfNums hash), .string (strOfNums [])] 48)) w3.heap.size 48 #[.int .i64 2, .int .i64 dst, .int .i64 asset, .int .i64 amount, .int .i64 0, .int .i64 due, .string (strOfNums hash), .string (strOfNums [])]) := ⟨Blk.new _ _ _⟩
            have hNM := X.out.lt
            go_upto_region 9 with (fail)
            clear x0 x1 x2 x3 x4 x5 x6 x7
            replace X := Kept.mk (X.out.below bb X.out.lt); replace B := Kept.mk (B.out.trans (bb.mono B.out.size))
            clear bb
            generalize w3.alloc (.cells #[.int .i64 2, .int .i64 dst, .int .i64 asset, .int .i64 amount, .int .i64 0, .int .i64 due, .string (strOfNums hash), .string (strOfNums [])] 48) = w4 at *
            generalize w3.heap.size = M at *
            have x0 := X.out.cell 0; have y6 := Y.out.cell 6; have z6 := Y.out.frozen 6
            go_upto_region 18 with (fail)
            have Y2 : Kept (Blk (w4.setCell ⟨M, 6, none⟩ (.string (strOfNums js))) M 48 #[.int .i64 2, .int .i64 dst, .int .i64 asset, .int .i64 amount, .int .i64 0, .int .i64 due, .string (strOfNums js), .string (strOfNums [])]) := ⟨Y.out.set_ 6 _⟩
            replace X := Kept.mk (X.out.far (p := ⟨M, 6, none⟩) (by show N ≠ M; omega) (.string (strOfNums js)))
            replace B := Kept.mk (B.out.setCell (p := ⟨M, 6, none⟩) (by show w.heap.size ≤ M; omega) (.string (strOfNums js)))
            clear x0 y6 z6 Y
            generalize w4.setCell ⟨M, 6, none⟩ (.string (strOfNums js)) = w5 at *
            have y0 := Y2.out.cell 0; have y1 := Y2.out.cell 1; have y2 := Y2.out.cell 2; have y3 := Y2.out.cell 3; have y4 := Y2.out.cell 4; have y5 := Y2.out.cell 5; have y6 := Y2.out.cell 6; have y7 := Y2.out.cell 7
            have bb : Below w5.heap.size w5 (w5.alloc (.cells #[.int .i64 2, .int .i64 dst, .int .i64 asset, .int .i64 amount, .int .i64 0, .int .i64 due, .string (strOfNums js), .string (strOfNums [])] 48)) := (Below.refl _ _).alloc (Nat.le_refl _) _
            have rr : Rr (w5.alloc (.cells #[.int .i64 2, .int .i64 dst, .int .i64 asset, .int .i64 amount, .int .i64 0, .int .i64 due, .string (strOfNums js), .string (strOfNums [])] 48)) (some ⟨w5.heap.size, 0, none⟩) 1 [⟨2, dst, asset, amount, 0, due, js, []⟩] := rr_one (Blk.new w5 _ _)
            have KE := api.encb 0 rr (Nat.le_refl _) (by omega) (by omega) (by intro x hx; rw [List.mem_singleton] at hx; subst hx; exact ⟨OJ.out, n0.out⟩) (by intro x hx; rw [List.mem_singleton] at hx; subst hx; exact ⟨by have := ZJ.out; dsimp only; omega, by simp⟩)
            obtain ⟨⟨r2, b2⟩, hR⟩ : ∃ R, encB ⟨0, [⟨2, dst, asset, amount, 0, due, js, []⟩]⟩ = R := ⟨_, rfl⟩
            rw [hR] at KE
            unfold EncPost at KE
            have KE2 := Kept.mk KE
            have E2 : Kept ((encB ⟨0, [⟨2, dst, asset, amount, 0, due, js, []⟩]⟩).1 = r2) := ⟨by rw [hR]⟩
            have bb2 := Kept.mk bb
            clear KE hR rr bb
            go_wp2_with fail
            refine KE2.out.mono ?_
            rintro e w6 ⟨P2, p2, k2, rfl, -, -, -, bb⟩
            have b3 := bb2.out.trans (bb.mono bb2.out.size)
            replace X := Kept.mk (X.out.below b3 X.out.lt); replace B := Kept.mk (B.out.trans (b3.mono B.out.size))
            clear bb b3 bb2 KE2
            clear y0 y1 y2 y3 y4 y5 y6 y7 Y2
            have x0 := X.out.cell 0
            by_cases h32 : zj = 32
            · subst h32
              obtain rfl : 0 = r2 := by rw [← E2.out]; exact (enc_one_yes (.inr (.inl ⟨rfl, h2, h3, h4, rfl, h6, ZJ.out, rfl⟩))).symm
              clear E2
              go_wp2_with fail
              refine (first_any api _).mono ?_
              rintro e w7 ⟨rfl, bb⟩
              replace X := Kept.mk (X.out.below bb X.out.lt); replace B := Kept.mk (B.out.trans (bb.mono B.out.size))
              clear bb x0
              go_wp2
              go_ret
              exact ⟨rfl, B.out⟩
            · have h32' : ((zj : Int) == 32) = false := beq_eq_false_iff_ne.2 (by omega)
              obtain rfl : 1 = r2 := by
                rw [← E2.out]
                refine (enc_one_no (fun h => h32 ?_)).symm
                rw [← ZJ.out]
                unfold MayR at h
                simp at h
                simp_all
              clear E2
              go_wp2_with fail
              refine (first_any api _).mono ?_
              rintro e w7 ⟨rfl, bb⟩
              replace X := Kept.mk (X.out.below bb X.out.lt); replace B := Kept.mk (B.out.trans (bb.mono B.out.size))
              clear bb x0
              go_wp2
              go_ret
              exact ⟨rfl, B.out⟩
          · subst h1 h2 h3 h4 h6 h7
            have x0 := X.out.cell 0; have x1 := X.out.cell 1; have x2 := X.out.cell 2; have x3 := X.out.cell 3; have x4 := X.out.cell 4; have x5 := X.out.cell 5; have x6 := X.out.cell 6; have x7 := X.out.cell 7
            have bb : Below w3.heap.size w3 (w3.alloc (.cells #[.int .i64 3, .int .i64 0, .int .i64 0, .int .i64 0, .int .i64 id, .int .i64 0, .string (strOfNums []), .string (strOfNums sec)] 48)) := (Below.refl _ _).alloc (Nat.le_refl _) _
            have Y : Kept (Blk (w3.alloc (.cells #[.int .i64 3, .int .i64 0, .int .i64 0, .int .i64 0, .int .i64 id, .int .i64 0, .string (strOfNums []), .string (strOfNums sec)] 48)) w3.heap.size 48 #[.int .i64 3, .int .i64 0, .int .i64 0, .int .i64 0, .int .i64 id, .int .i64 0, .string (strOfNums []), .string (strOfNums sec)]) := ⟨Blk.new _ _ _⟩
            have hNM := X.out.lt
            go_upto_region 9 with (fail)
            clear x0 x1 x2 x3 x4 x5 x6 x7
            replace X := Kept.mk (X.out.below bb X.out.lt); replace B := Kept.mk (B.out.trans (bb.mono B.out.size))
            clear bb
            generalize w3.alloc (.cells #[.int .i64 3, .int .i64 0, .int .i64 0, .int .i64 0, .int .i64 id, .int .i64 0, .string (strOfNums []), .string (strOfNums sec)] 48) = w4 at *
            generalize w3.heap.size = M at *
            have x0 := X.out.cell 0; have y7 := Y.out.cell 7; have z7 := Y.out.frozen 7
            go_upto_region 18 with (fail)
            have Y2 : Kept (Blk (w4.setCell ⟨M, 7, none⟩ (.string (strOfNums js))) M 48 #[.int .i64 3, .int .i64 0, .int .i64 0, .int .i64 0, .int .i64 id, .int .i64 0, .string (strOfNums []), .string (strOfNums js)]) := ⟨Y.out.set_ 7 _⟩
            replace X := Kept.mk (X.out.far (p := ⟨M, 7, none⟩) (by show N ≠ M; omega) (.string (strOfNums js)))
            replace B := Kept.mk (B.out.setCell (p := ⟨M, 7, none⟩) (by show w.heap.size ≤ M; omega) (.string (strOfNums js)))
            clear x0 y7 z7 Y
            generalize w4.setCell ⟨M, 7, none⟩ (.string (strOfNums js)) = w5 at *
            have y0 := Y2.out.cell 0; have y1 := Y2.out.cell 1; have y2 := Y2.out.cell 2; have y3 := Y2.out.cell 3; have y4 := Y2.out.cell 4; have y5 := Y2.out.cell 5; have y6 := Y2.out.cell 6; have y7 := Y2.out.cell 7
            have bb : Below w5.heap.size w5 (w5.alloc (.cells #[.int .i64 3, .int .i64 0, .int .i64 0, .int .i64 0, .int .i64 id, .int .i64 0, .string (strOfNums []), .string (strOfNums js)] 48)) := (Below.refl _ _).alloc (Nat.le_refl _) _
            have rr : Rr (w5.alloc (.cells #[.int .i64 3, .int .i64 0, .int .i64 0, .int .i64 0, .int .i64 id, .int .i64 0, .string (strOfNums []), .string (strOfNums js)] 48)) (some ⟨w5.heap.size, 0, none⟩) 1 [⟨3, 0, 0, 0, id, 0, [], js⟩] := rr_one (Blk.new w5 _ _)
            have KE := api.encb 0 rr (Nat.le_refl _) (by omega) (by omega) (by intro x hx; rw [List.mem_singleton] at hx; subst hx; exact ⟨n0.out, OJ.out⟩) (by intro x hx; rw [List.mem_singleton] at hx; subst hx; exact ⟨by simp, by have := ZJ.out; dsimp only; omega⟩)
            obtain ⟨⟨r2, b2⟩, hR⟩ : ∃ R, encB ⟨0, [⟨3, 0, 0, 0, id, 0, [], js⟩]⟩ = R := ⟨_, rfl⟩
            rw [hR] at KE
            unfold EncPost at KE
            have KE2 := Kept.mk KE
            have E2 : Kept ((encB ⟨0, [⟨3, 0, 0, 0, id, 0, [], js⟩]⟩).1 = r2) := ⟨by rw [hR]⟩
            have bb2 := Kept.mk bb
            clear KE hR rr bb
            go_wp2_with fail
            refine KE2.out.mono ?_
            rintro e w6 ⟨P2, p2, k2, rfl, -, -, -, bb⟩
            have b3 := bb2.out.trans (bb.mono bb2.out.size)
            replace X := Kept.mk (X.out.below b3 X.out.lt); replace B := Kept.mk (B.out.trans (b3.mono B.out.size))
            clear bb b3 bb2 KE2
            clear y0 y1 y2 y3 y4 y5 y6 y7 Y2
            have x0 := X.out.cell 0
            by_cases h32 : zj = 32
            · subst h32
              obtain rfl : 0 = r2 := by rw [← E2.out]; exact (enc_one_yes (.inr (.inr (.inl ⟨rfl, rfl, rfl, rfl, h5, rfl, rfl, ZJ.out⟩)))).symm
              clear E2
              go_wp2_with fail
              refine (first_any api _).mono ?_
              rintro e w7 ⟨rfl, bb⟩
              replace X := Kept.mk (X.out.below bb X.out.lt); replace B := Kept.mk (B.out.trans (bb.mono B.out.size))
              clear bb x0
              go_wp2
              go_ret
              exact ⟨rfl, B.out⟩
            · have h32' : ((zj : Int) == 32) = false := beq_eq_false_iff_ne.2 (by omega)
              obtain rfl : 1 = r2 := by
                rw [← E2.out]
                refine (enc_one_no (fun h => h32 ?_)).symm
                rw [← ZJ.out]
                unfold MayR at h
                simp at h
                simp_all
              clear E2
              go_wp2_with fail
              refine (first_any api _).mono ?_
              rintro e w7 ⟨rfl, bb⟩
              replace X := Kept.mk (X.out.below bb X.out.lt); replace B := Kept.mk (B.out.trans (bb.mono B.out.size))
              clear bb x0
              go_wp2
              go_ret
              exact ⟨rfl, B.out⟩
          · subst h1 h2 h3 h4 h6 h7 h8
            have x0 := X.out.cell 0; have x1 := X.out.cell 1; have x2 := X.out.cell 2; have x3 := X.out.cell 3; have x4 := X.out.cell 4; have x5 := X.out.cell 5; have x6 := X.out.cell 6; have x7 := X.out.cell 7
            have bb : Below w3.heap.size w3 (w3.alloc (.cells #[.int .i64 4, .int .i64 0, .int .i64 0, .int .i64 0, .int .i64 id, .int .i64 0, .string (strOfNums []), .string (strOfNums [])] 48)) := (Below.refl _ _).alloc (Nat.le_refl _) _
            have Y : Kept (Blk (w3.alloc (.cells #[.int .i64 4, .int .i64 0, .int .i64 0, .int .i64 0, .int .i64 id, .int .i64 0, .string (strOfNums []), .string (strOfNums [])] 48)) w3.heap.size 48 #[.int .i64 4, .int .i64 0, .int .i64 0, .int .i64 0, .int .i64 id, .int .i64 0, .string (strOfNums []), .string (strOfNums [])]) := ⟨Blk.new _ _ _⟩
            have hNM := X.out.lt
            go_upto_region 9 with (fail)
            clear x0 x1 x2 x3 x4 x5 x6 x7
            replace X := Kept.mk (X.out.below bb X.out.lt); replace B := Kept.mk (B.out.trans (bb.mono B.out.size))
            clear bb
            generalize w3.alloc (.cells #[.int .i64 4, .int .i64 0, .int .i64 0, .int .i64 0, .int .i64 id, .int .i64 0, .string (strOfNums []), .string (strOfNums [])] 48) = w4 at *
            generalize w3.heap.size = M at *
            have x0 := X.out.cell 0; have y6 := Y.out.cell 6; have z6 := Y.out.frozen 6
            go_upto_region 18 with (fail)
            have Y2 : Kept (Blk (w4.setCell ⟨M, 6, none⟩ (.string (strOfNums js ++ ⟨#[120]⟩))) M 48 #[.int .i64 4, .int .i64 0, .int .i64 0, .int .i64 0, .int .i64 id, .int .i64 0, .string (strOfNums js ++ ⟨#[120]⟩), .string (strOfNums [])]) := ⟨Y.out.set_ 6 _⟩
            replace X := Kept.mk (X.out.far (p := ⟨M, 6, none⟩) (by show N ≠ M; omega) (.string (strOfNums js ++ ⟨#[120]⟩)))
            replace B := Kept.mk (B.out.setCell (p := ⟨M, 6, none⟩) (by show w.heap.size ≤ M; omega) (.string (strOfNums js ++ ⟨#[120]⟩)))
            clear x0 y6 z6 Y
            generalize w4.setCell ⟨M, 6, none⟩ (.string (strOfNums js ++ ⟨#[120]⟩)) = w5 at *
            rw [str_x] at Y2
            have y0 := Y2.out.cell 0; have y1 := Y2.out.cell 1; have y2 := Y2.out.cell 2; have y3 := Y2.out.cell 3; have y4 := Y2.out.cell 4; have y5 := Y2.out.cell 5; have y6 := Y2.out.cell 6; have y7 := Y2.out.cell 7
            have bb : Below w5.heap.size w5 (w5.alloc (.cells #[.int .i64 4, .int .i64 0, .int .i64 0, .int .i64 0, .int .i64 id, .int .i64 0, .string (strOfNums (js ++ [120])), .string (strOfNums [])] 48)) := (Below.refl _ _).alloc (Nat.le_refl _) _
            have rr : Rr (w5.alloc (.cells #[.int .i64 4, .int .i64 0, .int .i64 0, .int .i64 0, .int .i64 id, .int .i64 0, .string (strOfNums (js ++ [120])), .string (strOfNums [])] 48)) (some ⟨w5.heap.size, 0, none⟩) 1 [⟨4, 0, 0, 0, id, 0, (js ++ [120]), []⟩] := rr_one (Blk.new w5 _ _)
            have KE := api.encb 0 rr (Nat.le_refl _) (by omega) (by omega) (by intro x hx; rw [List.mem_singleton] at hx; subst hx; exact ⟨OJ.out.append (by intro x hx; rw [List.mem_singleton] at hx; omega), n0.out⟩) (by intro x hx; rw [List.mem_singleton] at hx; subst hx; exact ⟨by have := ZJ.out; simp; omega, by simp⟩)
            obtain ⟨⟨r2, b2⟩, hR⟩ : ∃ R, encB ⟨0, [⟨4, 0, 0, 0, id, 0, (js ++ [120]), []⟩]⟩ = R := ⟨_, rfl⟩
            rw [hR] at KE
            unfold EncPost at KE
            have KE2 := Kept.mk KE
            have E2 : Kept ((encB ⟨0, [⟨4, 0, 0, 0, id, 0, (js ++ [120]), []⟩]⟩).1 = r2) := ⟨by rw [hR]⟩
            have bb2 := Kept.mk bb
            clear KE hR rr bb
            go_wp2_with fail
            refine KE2.out.mono ?_
            rintro e w6 ⟨P2, p2, k2, rfl, -, -, -, bb⟩
            have b3 := bb2.out.trans (bb.mono bb2.out.size)
            replace X := Kept.mk (X.out.below b3 X.out.lt); replace B := Kept.mk (B.out.trans (b3.mono B.out.size))
            clear bb b3 bb2 KE2
            clear y0 y1 y2 y3 y4 y5 y6 y7 Y2
            have x0 := X.out.cell 0
            obtain rfl : 1 = r2 := by rw [← E2.out]; exact (enc_one_no (by unfold MayR; simp)).symm
            clear E2
            go_wp2_with fail
            refine (first_any api _).mono ?_
            rintro e w7 ⟨rfl, bb⟩
            replace X := Kept.mk (X.out.below bb X.out.lt); replace B := Kept.mk (B.out.trans (bb.mono B.out.size))
            clear bb x0
            go_wp2
            go_ret
            exact ⟨rfl, B.out⟩
        · obtain rfl : 1 = r1 := by rw [← E1.out]; exact (enc_one_no hmay).symm
          clear E1
          go_wp2_with fail
          refine (first_any api _).mono ?_
          rintro e w4 ⟨rfl, bb⟩
          replace X := Kept.mk (X.out.below bb X.out.lt); replace B := Kept.mk (B.out.trans (bb.mono B.out.size))
          clear bb
          go_wp2
          go_ret
          exact ⟨rfl, B.out⟩
/-- with a text that came in -/
theorem reqmust_str (api : ReqApi) (r : RV) (s : ByteArray) (w : World) (hr : r.ok) : Calls Try.prog 7 #[rqv r, .string s] w (Yes w) := by
  obtain ⟨js, rfl, hj, -⟩ := str_back s
  exact reqmust_walk api r js w hr hj
end Go.Proofs.Ytcafffnkkjnpbaa.Req
