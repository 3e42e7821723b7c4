/-
  Parts laid together: DiskRef6.
-/
import Derived.Test.YtkbehjdglgpgjaaGreatPart19
import Derived.Test.YtkbehjdglgpgjaaGreatPart7

namespace Go.Proofs.YtkbehjdglgpgjaaGreat.Disk
open Go.RowKit Go.Proofs.YtkbehjdglgpgjaaGreat.Sha

theorem set_same (l : List (List Int)) (i : Nat) : l.set i (rowOf l i) = l := rows_ext (by simp) (fun j hj => by
 rw [rowOf_set _ _ _ _ (by simpa using hj)]
 split
 ·rename_i e; rw [e]
 ·rfl)
theorem crash_fin {w : World} {d n : Nat} {s : DS} {gn cn gl cl : Nat} {vp : Value} (h1 : Blk w d 50 #[.slice (some ⟨gn, 0, none⟩) n cn, .slice (some ⟨gl, 0, none⟩) n cl, vp, .int .i64 s.fuse, .bool s.down])
  (h2 : Strs w gn s.now) (h3 : Strs w gl s.last) (h4 : gn ≠ gl) :
  Drm (((w.setCell ⟨d, 2, none⟩ (.slice none 0 0)).setCell ⟨d, 3, none⟩ (.int .i64 (-1))).setCell ⟨d, 4, none⟩ (.bool false)) (d :: gn :: gl :: []) d n ⟨s.now, s.last, [], -1, false⟩ ∧
   Fp (d :: gn :: gl :: vp.ownBlock.toList) (d :: gn :: gl :: []) w (((w.setCell ⟨d, 2, none⟩ (.slice none 0 0)).setCell ⟨d, 3, none⟩ (.int .i64 (-1))).setCell ⟨d, 4, none⟩ (.bool false)) := by
 have hb : Bar [d] w (((w.setCell ⟨d, 2, none⟩ (.slice none 0 0)).setCell ⟨d, 3, none⟩ (.int .i64 (-1))).setCell ⟨d, 4, none⟩ (.bool false)) := (((Bar.refl _ _).setCell (by simp) _).setCell (by simp) _).setCell (by simp) _
 have hdn := blk_ne h1 h2.choose_spec.1 (by decide)
 have hdl := blk_ne h1 h3.choose_spec.1 (by decide)
 refine ⟨⟨gn, cn, gl, cl, .slice none 0 0, ((h1.set_ 2 (.slice none 0 0)).set_ 3 (.int .i64 (-1))).set_ 4 (.bool false), h2.bar hb (by simpa using hdn.symm), h3.bar hb (by simpa using hdl.symm), h4, World.ownsRow_nil _ _ _ _, rfl⟩, hb.mono (by simp), fun k hk => .inl ?_⟩
 simp only [List.mem_cons, List.not_mem_nil, or_false] at hk ⊢
 rcases hk with rfl | rfl | rfl <;> simp
set_option maxRecDepth 100000 in
set_option maxHeartbeats 1000000 in
theorem rcrash_any (w : World) (F : List Nat) (d n : Nat) (s : DS) (A : Option Addr) (m c : Nat) (bs : List Bool) (h : Dr w F d n s) (r : Rb w A m bs) (hO : Off A m F) :
    Calls Tryz.prog 16 #[.pointer (some ⟨d, 0, none⟩), .slice A m c] w fun e w' => e = .returned (.tuple #[]) ∧ ∃ F', Dr w' F' d n (crashD s bs) ∧ Fp F F' w w' := by
  have hwf := wf_crash h.1 bs
  have HR := Kept.mk r
  have HM := Kept.mk r.1
  have hp := Kept.mk h.1.pend
  have hpl := pend_len h.1
  have hn2 := h.1.n2
  have hnow := h.1.now
  have hlast := h.1.last
  obtain ⟨p, hpp⟩ : ∃ p, s.pend = p := ⟨_, rfl⟩
  rw [hpp] at hpl hp
  have DM : Kept (Drm w F d n ⟨s.now, s.last, p, s.fuse, s.down⟩) := ⟨by rw [← hpp]; exact h.mem⟩
  have FIN : Kept (∀ q, crashGo bs p.length (p.drop p.length) q = crashGo bs 0 s.pend (s.now, s.last) → (⟨q.1, q.2, [], -1, false⟩ : DS) = crashD s bs) := ⟨fun q hq => by
    rw [List.drop_length] at hq
    rw [show crashGo bs p.length [] q = q from rfl] at hq
    rw [hq]; rfl⟩
  have ST : Kept (crashGo bs 0 (p.drop 0) (s.now, s.last) = crashGo bs 0 s.pend (s.now, s.last)) := ⟨by rw [List.drop_zero, hpp]⟩
  obtain ⟨Z, hZ⟩ : ∃ Z, crashGo bs 0 s.pend (s.now, s.last) = Z := ⟨_, rfl⟩
  rw [hZ] at FIN ST
  clear h r hpp hZ
  go_enter Tryz.func16, Tryz.ntmps16
  go_wp2
  go_loopw [4] (fun j wr => ∃ (k : Nat) (P L : List (List Int)), k ≤ p.length ∧ j = .int .i64 k ∧ P.length = n ∧ L.length = n ∧ Kept (crashGo bs k (p.drop k) (P, L) = Z) ∧ Kept (Drm wr F d n ⟨P, L, p, s.fuse, s.down⟩) ∧ Kept (Fp F F w wr)) (fun j _ => p.length - (intOf j).toNat)
  case atStart => exact ⟨0, s.now, s.last, by omega, rfl, hnow, hlast, ST, DM, ⟨Fp.refl _ _⟩⟩
  case round =>
    clear DM ST
    obtain ⟨k, P, L, hk, rfl, hP, hL, HG, DM, FF⟩ := hrel
    obtain ⟨gn, cn, gl, cl, vp, h1, h2, h3, h4, h5, hF⟩ := DM.out
    obtain ⟨AP, cp, rfl⟩ := own_shape h5
    simp only at h1 h2 h3 h5 hF
    have c0 : wr.cell? ⟨d, 0, none⟩ = some (.slice (some ⟨gn, 0, none⟩) n cn) := h1.cell 0
    have c1 : wr.cell? ⟨d, 1, none⟩ = some (.slice (some ⟨gl, 0, none⟩) n cl) := h1.cell 1
    have c2 : wr.cell? ⟨d, 2, none⟩ = some (.slice AP p.length cp) := h1.cell 2
    by_cases hkn : k < p.length
    · have hkn' : (k : Int) < p.length := by omega
      obtain ⟨gp, rfl, xk⟩ := pend_cell h5 k hkn
      obtain ⟨i, hi⟩ : ∃ i, p.getD k 0 = i := ⟨_, rfl⟩
      rw [hi] at xk
      have hin : i < n := hp.out i (by rw [← hi, List.getD_eq_getElem?_getD, List.getElem?_eq_getElem hkn]; exact List.getElem_mem hkn)
      have hin' : (i : Int) < n := by omega
      have hdr : p.drop k = i :: p.drop (k + 1) := by
        rw [List.drop_eq_getElem_cons hkn]
        congr 1
        rw [← hi]; simp [hkn]
      rw [hdr, crashGo_cons] at HG
      have x0 := h2.cell i (by (try simp only); omega)
      have x1 := h3.cell i (by (try simp only); omega)
      have z0 := h2.frozen i
      have z1 := h3.frozen i
      try simp only at x0 x1
      by_cases hkm : k < m
      · have hkm' : (k : Int) < m := by omega
        obtain ⟨bb, oo, rfl, hc⟩ := (HR.out.far FF.out.1 hO).2.resolve_left (by omega)
        have xb := hc k hkm
        clear hc
        cases hkeep : bs.getD k false with
        | true =>
          rw [hkeep] at xb
          have HG2 : Kept (crashGo bs (k + 1) (p.drop (k + 1)) (P, L.set i (rowOf P i)) = Z) := ⟨by
            rw [← HG.out]; unfold crash1; rw [if_pos hkeep]⟩
          have PUT := Drm.putLast (w := wr.drew) (s := ⟨P, L, p, s.fuse, s.down⟩) (n := n) (xs := rowOf P i) h1 h2 h3 h4 h5 (i := i) (by (try simp only); omega)
          try simp only at PUT
          rw [← hF] at PUT
          have PUT := Kept.mk PUT
          have F0 := Kept.mk (fp_drew F wr)
          have HF := Kept.mk hF
          clear h1 h2 h3 h4 h5 HG hF
          generalize hZ : strOfNums (rowOf P i) = Z1 at *
          generalize strOfNums (rowOf L i) = Z0 at *
          have HZ := Kept.mk hZ
          clear hZ
          go_upto_region 5 with (fail)
          refine wp_region_still_tail 13 (by kernel_rfl) (by kernel_rfl) ?_
          simp only [List.take_succ_cons, List.take_zero, List.drop_succ_cons, List.drop_zero]
          repeat still_step
          refine wpStill_nil ?_
          change wpList _ _ _ _ _ wr.drew
          go_upto_region 6 with (fail)
          replace PUT : Kept (Drm (wr.setCell ⟨gl, i, none⟩ (.string Z1)).drew F d n ⟨P, L.set i (rowOf P i), p, s.fuse, s.down⟩ ∧ Fp F F wr.drew (wr.setCell ⟨gl, i, none⟩ (.string Z1)).drew) := PUT
          generalize (wr.setCell ⟨gl, i, none⟩ (.string Z1)).drew = w5 at *
          obtain ⟨gn, cn, gl, cl, vp, h1, h2, h3, h4, h5, hF⟩ := PUT.out.1
          have c0 : w5.cell? ⟨d, 0, none⟩ = some (.slice (some ⟨gn, 0, none⟩) n cn) := h1.cell 0
          have c1 : w5.cell? ⟨d, 1, none⟩ = some (.slice (some ⟨gl, 0, none⟩) n cl) := h1.cell 1
          have x0 := h2.cell i (by (try simp only); omega)
          have x1 := h3.cell i (by simp only [List.length_set]; omega)
          have z0 := h2.frozen i
          try simp only at x0 x1
          rw [rowOf_set _ _ _ _ (by omega), if_pos rfl, HZ.out] at x1
          rw [HZ.out] at x0
          have PUT2 := Drm.put (w := w5.drew) (s := ⟨P, L.set i (rowOf P i), p, s.fuse, s.down⟩) (n := n) (xs := rowOf P i) h1 h2 h3 h4 h5 (i := i) (by (try simp only); omega)
          simp only [set_same, HZ.out] at PUT2
          rw [← hF] at PUT2
          have PUT2 := Kept.mk PUT2
          have F2 := Kept.mk (fp_drew F w5)
          clear h1 h2 h3 h4 h5 hF
          refine wp_region_still_tail 13 (by kernel_rfl) (by kernel_rfl) ?_
          simp only [List.take_succ_cons, List.take_zero, List.drop_succ_cons, List.drop_zero]
          repeat still_step
          refine wpStill_nil ?_
          change wpList _ _ _ _ _ w5.drew
          go_wp2
          go_roundw
          case rel => exact ⟨k + 1, P, L.set i (rowOf P i), by omega, by go_num, hP, by simpa using hL, HG2, ⟨PUT2.out.1⟩, ⟨FF.out.trans ((F0.out.trans PUT.out.2).trans (F2.out.trans PUT2.out.2))⟩⟩
          case measure => simp [intOf]; omega
        | false =>
          rw [hkeep] at xb
          have HG2 : Kept (crashGo bs (k + 1) (p.drop (k + 1)) (P.set i (rowOf L i), L) = Z) := ⟨by
            rw [← HG.out]; unfold crash1; rw [if_neg (by rw [hkeep]; decide)]⟩
          have PUT := Drm.put (w := wr.drew) (s := ⟨P, L, p, s.fuse, s.down⟩) (n := n) (xs := rowOf L i) h1 h2 h3 h4 h5 (i := i) (by (try simp only); omega)
          try simp only at PUT
          rw [← hF] at PUT
          have PUT := Kept.mk PUT
          have F0 := Kept.mk (fp_drew F wr)
          have HF := Kept.mk hF
          clear h1 h2 h3 h4 h5 HG hF
          generalize hZ : strOfNums (rowOf L i) = Z1 at *
          generalize strOfNums (rowOf P i) = Z0 at *
          have HZ := Kept.mk hZ
          clear hZ
          go_upto_region 6 with (fail)
          refine wp_region_still_tail 13 (by kernel_rfl) (by kernel_rfl) ?_
          simp only [List.take_succ_cons, List.take_zero, List.drop_succ_cons, List.drop_zero]
          repeat still_step
          refine wpStill_nil ?_
          change wpList _ _ _ _ _ wr.drew
          go_wp2
          go_roundw
          case rel => exact ⟨k + 1, P.set i (rowOf L i), L, by omega, by go_num, by simpa using hP, hL, HG2, ⟨PUT.out.1⟩, ⟨FF.out.trans (F0.out.trans PUT.out.2)⟩⟩
          case measure => simp [intOf]; omega
      · have hkm' : ¬ (k : Int) < m := by omega
        have hkeep : bs.getD k false = false := by
          rw [List.getD_eq_getElem?_getD, List.getElem?_eq_none (by rw [HM.out]; omega)]; rfl
        have HG2 : Kept (crashGo bs (k + 1) (p.drop (k + 1)) (P.set i (rowOf L i), L) = Z) := ⟨by
          rw [← HG.out]; unfold crash1; rw [if_neg (by rw [hkeep]; decide)]⟩
        have PUT := Drm.put (w := wr.drew) (s := ⟨P, L, p, s.fuse, s.down⟩) (n := n) (xs := rowOf L i) h1 h2 h3 h4 h5 (i := i) (by (try simp only); omega)
        try simp only at PUT
        rw [← hF] at PUT
        have PUT := Kept.mk PUT
        have F0 := Kept.mk (fp_drew F wr)
        have HF := Kept.mk hF
        clear h1 h2 h3 h4 h5 HG hF
        generalize hZ : strOfNums (rowOf L i) = Z1 at *
        generalize strOfNums (rowOf P i) = Z0 at *
        have HZ := Kept.mk hZ
        clear hZ
        go_upto_region 6 with (fail)
        refine wp_region_still_tail 13 (by kernel_rfl) (by kernel_rfl) ?_
        simp only [List.take_succ_cons, List.take_zero, List.drop_succ_cons, List.drop_zero]
        repeat still_step
        refine wpStill_nil ?_
        change wpList _ _ _ _ _ wr.drew
        go_wp2
        go_roundw
        case rel => exact ⟨k + 1, P.set i (rowOf L i), L, by omega, by go_num, by simpa using hP, hL, HG2, ⟨PUT.out.1⟩, ⟨FF.out.trans (F0.out.trans PUT.out.2)⟩⟩
        case measure => simp [intOf]; omega
    · have hkn' : ¬ (k : Int) < p.length := by omega
      obtain rfl : k = p.length := by omega
      have e1 := FIN.out (P, L) HG.out
      have FF2 := Kept.mk (crash_fin (s := ⟨P, L, p, s.fuse, s.down⟩) h1 h2 h3 h4)
      have z2 := h1.frozen 2
      have z3 := h1.frozen 3
      have z4 := h1.frozen 4
      have c3 : wr.cell? ⟨d, 3, none⟩ = some (.int .i64 s.fuse) := h1.cell 3
      have c4 : wr.cell? ⟨d, 4, none⟩ = some (.bool s.down) := h1.cell 4
      have HE := Kept.mk e1
      have HF := Kept.mk hF
      clear h1 h2 h3 h4 h5 e1 hF
      generalize s.fuse = fz at *
      generalize s.down = dz at *
      go_wp2
      go_end0
      refine ⟨rfl, d :: gn :: gl :: [], ⟨hwf, ?_⟩, ?_⟩
      · rw [← HE.out]; exact FF2.out.1
      · refine FF.out.trans ?_
        rw [HF.out]
        exact FF2.out.2
end Go.Proofs.YtkbehjdglgpgjaaGreat.Disk
