/-
  Parts laid together: DiskRef4 DiskRef5.
-/
import Derived.Test.YtkbehjdglgpgjaaGreatPart18

namespace Go.Proofs.YtkbehjdglgpgjaaGreat.Disk
open Go.RowKit Go.Proofs.YtkbehjdglgpgjaaGreat.Sha

theorem pend_len {n : Nat} {s : DS} (h : WF n s) : s.pend.length ≤ n := by
  have h1 := h.rise
  have h2 := h.pend
  generalize s.pend = l at *
  clear h
  have : ∀ (l : List Nat) (a : Nat), l.Pairwise (· < ·) → (∀ i ∈ l, a ≤ i ∧ i < n) → l.length + a ≤ n ∨ l = [] := by
    intro l
    induction l with
    | nil => intro a _ _; exact .inr rfl
    | cons x l ih =>
      intro a hp hb
      rw [List.pairwise_cons] at hp
      have hx := hb x (by simp)
      rcases ih (x + 1) hp.2 (fun i hi => ⟨hp.1 i hi, (hb i (by simp [hi])).2⟩) with h3 | h3
      · left; simp; omega
      · subst h3; left; simp; omega
  rcases this l 0 h1 (fun i hi => ⟨Nat.zero_le _, h2 i hi⟩) with h3 | h3
  · omega
  · subst h3; simp
theorem Drm.put {w : World} {d n : Nat} {s : DS} {gn cn gl cl i : Nat} {vp : Value} {xs : List Int} (h1 : Blk w d 50 #[.slice (some ⟨gn, 0, none⟩) n cn, .slice (some ⟨gl, 0, none⟩) n cl, vp, .int .i64 s.fuse, .bool s.down])
  (h2 : Strs w gn s.now) (h3 : Strs w gl s.last) (h4 : gn ≠ gl) (h5 : w.ownsRow 0 3 1 vp s.pend.length (pints s.pend)) (hi : i < s.now.length) :
  Drm (w.setCell ⟨gn, i, none⟩ (.string (strOfNums xs))) (d :: gn :: gl :: vp.ownBlock.toList) d n { s with now := s.now.set i xs } ∧ Fp (d :: gn :: gl :: vp.ownBlock.toList) (d :: gn :: gl :: vp.ownBlock.toList) w (w.setCell ⟨gn, i, none⟩ (.string (strOfNums xs))) := by
 have hb : Bar [gn] w (w.setCell ⟨gn, i, none⟩ (.string (strOfNums xs))) := (Bar.refl _ _).setCell (by simp) _
 have hdn := blk_ne h1 h2.choose_spec.1 (by decide)
 have hpn := own_far h5 h2.choose_spec.1 (by decide)
 exact ⟨⟨gn, cn, gl, cl, vp, h1.bar hb (by simpa using hdn), h2.set i xs hi, h3.bar hb (by simpa using h4.symm), h4, own_keep h5 hb (fun g hg => by simp at hg ⊢; rintro rfl; exact hpn hg), rfl⟩, hb.mono (by simp), fun k hk => .inl hk⟩
def WritePost (D : World → List Nat → DS → Prop) (w : World) (F : List Nat) (r : Int × DS) (e : Ending) (w' : World) : Prop := e = .returned (.int .i64 r.1) ∧ ∃ F', D w' F' r.2 ∧ Fp F F' w w'
set_option maxRecDepth 100000 in
set_option maxHeartbeats 1000000 in
theorem rwrite_any (w : World) (F : List Nat) (d n : Nat) (s : DS) (i : Int) (A : Option Addr) (l c : Nat) (xs : List Int) (h : Dr w F d n s) (r : Rd w A l xs) (hO : Off A l F) :
    Calls Tryz.prog 21 #[.pointer (some ⟨d, 0, none⟩), .int .i64 i, .slice A l c] w (WritePost (fun w' F' s' => Dr w' F' d n s') w F (writeD s i xs)) := by
  have HD := Kept.mk h
  have hwf := wf_write h.1 i xs r.2.1
  have HR := Kept.mk r
  have HL := Kept.mk r.1
  obtain ⟨h0, gn, cn, gl, cl, vp, h1, h2, h3, h4, h5, hF⟩ := h
  have c0 : w.cell? ⟨d, 0, none⟩ = some (.slice (some ⟨gn, 0, none⟩) n cn) := h1.cell 0
  have c4 : w.cell? ⟨d, 4, none⟩ = some (.bool s.down) := h1.cell 4
  have hlen := h0.now
  have hpl := pend_len h0
  have hn2 := h0.n2
  have still : ∀ k : Int, writeD s i xs = (k, s) → Kept (WritePost (fun w' F' s' => Dr w' F' d n s') w F (writeD s i xs) (.returned (.int .i64 k)) w) := fun k hk => ⟨by rw [hk]; exact ⟨rfl, F, HD.out, Fp.refl _ _⟩⟩
  clear h0 h1 h2 h3 h4 h5 hF r
  cases hd : s.down with
  | true =>
    have P1 := still 13 (by unfold writeD; rw [if_pos hd])
    rw [hd] at c4
    clear hd still hwf c0
    go_enter Tryz.func21, Tryz.ntmps21
    go_wp2
    go_ret
    exact P1.out
  | false =>
    have hdn : ¬ s.down = true := by simp [hd]
    rw [hd] at c4
    by_cases hi : noSector s i
    · have P1 := still 1 (by unfold writeD; rw [if_neg hdn, if_pos hi])
      clear hd still hwf hdn
      by_cases hi0 : i < 0
      · clear hi
        go_enter Tryz.func21, Tryz.ntmps21
        go_wp2
        go_ret
        exact P1.out
      · have hin : (n : Int) ≤ i := by unfold noSector at hi; omega
        clear hi
        go_enter Tryz.func21, Tryz.ntmps21
        go_wp2
        go_ret
        exact P1.out
    · obtain ⟨j, rfl⟩ : ∃ j : Nat, i = j := ⟨i.toNat, by unfold noSector at hi; omega⟩
      have hj : j < n := by unfold noSector at hi; omega
      have hj' : (j : Int) < n := by omega
      by_cases h64 : l = 64
      · have e0 : writeD s j xs = if (burnD s).1 = true then (13, (burnD s).2) else (0, putD (burnD s).2 j xs) := by
          unfold writeD
          rw [if_neg hdn, if_neg hi, if_neg (by rw [HL.out]; simp [h64])]
          rfl
        have cb := Kept.mk (rburns_any w F d n s HD.out)
        rw [e0] at hwf ⊢
        clear hd still hdn hi e0
        subst h64
        cases hb : (burnD s).1 with
        | true =>
          rw [hb] at cb
          go_enter Tryz.func21, Tryz.ntmps21
          go_wp2_with fail
          refine cb.out.mono ?_
          rintro e w1 ⟨rfl, dr, fp⟩
          have DD := Kept.mk dr; have FF := Kept.mk fp
          clear dr fp cb
          go_wp2
          go_ret
          exact ⟨rfl, F, DD.out, FF.out⟩
        | false =>
          rw [hb] at cb hwf
          go_enter Tryz.func21, Tryz.ntmps21
          go_wp2_with fail
          refine cb.out.mono ?_
          rintro e w1 ⟨rfl, dr, fp⟩
          have FF := Kept.mk fp
          have hcv := conv_same (cap := c) (HR.out.far fp.1.drew hO)
          obtain ⟨-, gn, cn, gl, cl, vp, h1, h2, h3, h4, h5, rfl⟩ := dr
          have x0 : w1.cell? ⟨d, 0, none⟩ = some (.slice (some ⟨gn, 0, none⟩) n cn) := h1.cell 0
          have x1 := h2.cell j (by rw [burn_now, hlen]; exact hj)
          have x2 := h2.frozen j
          have PUT := Kept.mk (Drm.put (w := w1.drew) (n := n) (xs := xs) h1 h2 h3 h4 h5 (i := j) (by rw [burn_now, hlen]; exact hj))
          have hF0 : Fp (d :: gn :: gl :: vp.ownBlock.toList) (d :: gn :: gl :: vp.ownBlock.toList) w1 w1.drew := ⟨(Bar.refl _ _).drew, fun k hk => .inl hk⟩
          have F0 := Kept.mk hF0
          generalize strOfNums xs = Z at *
          generalize strOfNums (rowOf (burnD s).2.now j) = Z0 at *
          clear hF0
          clear h1 h2 h3 h4 h5 cb fp c0 c4
          go_wp2_with fail
          refine wp_region_still_tail 8 (by kernel_rfl) (by kernel_rfl) ?_
          simp only [List.take_succ_cons, List.take_zero, List.drop_succ_cons, List.drop_zero]
          repeat still_step
          refine wpStill_nil ?_
          change wpList _ _ _ _ _ w1.drew
          go_wp2_with fail
          refine (rdirty_any _ _ d n _ j PUT.out.1 (by simp only [burn_pend]; omega)).mono ?_
          rintro e w2 ⟨rfl, F2, dm, fp2⟩
          have P2 : Kept (WritePost (fun w' F' s' => Dr w' F' d n s') w (d :: gn :: gl :: vp.ownBlock.toList) (0, putD (burnD s).2 j xs) (.returned (.int .i64 0)) w2) := ⟨rfl, F2, ⟨hwf, dm⟩, (FF.out.trans (F0.out.trans PUT.out.2)).trans fp2⟩
          clear dm fp2
          go_wp2
          go_ret
          exact P2.out
      · have P1 := still 2 (by unfold writeD; rw [if_neg hdn, if_neg hi, if_pos (by rw [HL.out]; exact h64)])
        have h64' : ¬ (l : Int) = 64 := by omega
        clear hd still hwf hdn hi
        go_enter Tryz.func21, Tryz.ntmps21
        go_wp2
        go_ret
        exact P1.out
end Go.Proofs.YtkbehjdglgpgjaaGreat.Disk

namespace Go.Proofs.YtkbehjdglgpgjaaGreat.Disk
open Go.RowKit Go.Proofs.YtkbehjdglgpgjaaGreat.Sha

theorem rows_ext {l m : List (List Int)} (hl : l.length = m.length) (h : ∀ j, j < l.length → rowOf l j = rowOf m j) : l = m := by
 apply List.ext_getElem hl
 intro i h1 h2
 have := h i h1
 simpa [rowOf, h1, h2] using this
theorem Drm.putLast {w : World} {d n : Nat} {s : DS} {gn cn gl cl i : Nat} {vp : Value} {xs : List Int} (h1 : Blk w d 50 #[.slice (some ⟨gn, 0, none⟩) n cn, .slice (some ⟨gl, 0, none⟩) n cl, vp, .int .i64 s.fuse, .bool s.down])
  (h2 : Strs w gn s.now) (h3 : Strs w gl s.last) (h4 : gn ≠ gl) (h5 : w.ownsRow 0 3 1 vp s.pend.length (pints s.pend)) (hi : i < s.last.length) :
  Drm (w.setCell ⟨gl, i, none⟩ (.string (strOfNums xs))) (d :: gn :: gl :: vp.ownBlock.toList) d n { s with last := s.last.set i xs } ∧ Fp (d :: gn :: gl :: vp.ownBlock.toList) (d :: gn :: gl :: vp.ownBlock.toList) w (w.setCell ⟨gl, i, none⟩ (.string (strOfNums xs))) := by
 have hb : Bar [gl] w (w.setCell ⟨gl, i, none⟩ (.string (strOfNums xs))) := (Bar.refl _ _).setCell (by simp) _
 have hdn := blk_ne h1 h3.choose_spec.1 (by decide)
 have hpn := own_far h5 h3.choose_spec.1 (by decide)
 exact ⟨⟨gn, cn, gl, cl, vp, h1.bar hb (by simpa using hdn), h2.bar hb (by simpa using h4), h3.set i xs hi, h4, own_keep h5 hb (fun g hg => by simp at hg ⊢; rintro rfl; exact hpn hg), rfl⟩, hb.mono (by simp), fun k hk => .inl hk⟩
theorem fp_drew (F : List Nat) (w : World) : Fp F F w w.drew := ⟨(Bar.refl _ _).drew, fun _ hk => .inl hk⟩
set_option maxRecDepth 100000 in
set_option maxHeartbeats 1000000 in
theorem rsync_any (w : World) (F : List Nat) (d n : Nat) (s : DS) (h : Dr w F d n s) :
    Calls Tryz.prog 61 #[.pointer (some ⟨d, 0, none⟩)] w (WritePost (fun w' F' s' => Dr w' F' d n s') w F (syncD s)) := by
  have HD := Kept.mk h
  have hwf := wf_sync h.1
  have c4 : w.cell? ⟨d, 4, none⟩ = some (.bool s.down) := by obtain ⟨-, gn, cn, gl, cl, vp, h1, -⟩ := h; exact h1.cell 4
  cases hd : s.down with
  | true =>
    have e0 : syncD s = (13, s) := by unfold syncD; rw [if_pos hd]
    rw [hd] at c4
    rw [e0]
    clear hd hwf e0 h
    go_enter Tryz.func61, Tryz.ntmps61
    go_wp2
    go_ret
    exact ⟨rfl, F, HD.out, Fp.refl _ _⟩
  | false =>
    have e0 : syncD s = if (burnD s).1 = true then (13, (burnD s).2) else (0, keptD (burnD s).2) := by unfold syncD; rw [if_neg (by simp [hd])]
    have cb := Kept.mk (rburns_any w F d n s HD.out)
    rw [hd] at c4
    rw [e0] at hwf ⊢
    have hnow := h.1.now
    have hlast := h.1.last
    have hn2 := h.1.n2
    clear hd e0 h
    cases hb : (burnD s).1 with
    | true =>
      rw [hb] at cb
      go_enter Tryz.func61, Tryz.ntmps61
      go_wp2_with fail
      refine cb.out.mono ?_
      rintro e w1 ⟨rfl, dr, fp⟩
      have DD := Kept.mk dr; have FF := Kept.mk fp
      clear dr fp cb
      go_wp2
      go_ret
      exact ⟨rfl, F, DD.out, FF.out⟩
    | false =>
      rw [hb] at cb hwf
      have b1 : (burnD s).2.now.length = n := by rw [burn_now]; exact hnow
      have b2 : (burnD s).2.last.length = n := by rw [burn_last]; exact hlast
      obtain ⟨t, ht⟩ : ∃ t, (burnD s).2 = t := ⟨_, rfl⟩
      rw [ht] at cb hwf b1 b2 ⊢
      clear ht
      go_enter Tryz.func61, Tryz.ntmps61
      go_wp2_with fail
      refine cb.out.mono ?_
      rintro e w1 ⟨rfl, dr, fp⟩
      have FF := Kept.mk fp
      have DM := Kept.mk dr.mem
      clear dr fp cb c4
      go_wp2
      go_loopw [3] (fun j wr => ∃ (k : Nat) (L : List (List Int)), k ≤ n ∧ j = .int .i64 k ∧ L.length = n ∧ Kept (∀ j, j < n → rowOf L j = if j < k then rowOf t.now j else rowOf t.last j) ∧ Kept (Drm wr F d n { t with last := L }) ∧ Kept (Fp F F w wr)) (fun j _ => n - (intOf j).toNat)
      case atStart => exact ⟨0, t.last, by omega, rfl, b2, ⟨fun j hj => by rw [if_neg (by omega)]⟩, DM, FF⟩
      case round =>
        clear DM FF
        obtain ⟨k, L, hk, rfl, hL, HL, DM, FF⟩ := hrel
        obtain ⟨gn, cn, gl, cl, vp, h1, h2, h3, h4, h5, rfl⟩ := DM.out
        have c0 : wr.cell? ⟨d, 0, none⟩ = some (.slice (some ⟨gn, 0, none⟩) n cn) := h1.cell 0
        have c1 : wr.cell? ⟨d, 1, none⟩ = some (.slice (some ⟨gl, 0, none⟩) n cl) := h1.cell 1
        by_cases hkn : k < n
        · have hkn' : (k : Int) < n := by omega
          have x0 := h2.cell k (by simp only; omega)
          have x1 := h3.cell k (by simp only; omega)
          have z1 := h3.frozen k
          simp only at x0 x1
          have PUT := Kept.mk (Drm.putLast (w := wr.drew) (n := n) (xs := rowOf t.now k) h1 h2 h3 h4 h5 (i := k) (by simp only; omega))
          have F0 := Kept.mk (fp_drew (d :: gn :: gl :: vp.ownBlock.toList) wr)
          have HL2 : Kept (∀ j, j < n → rowOf (L.set k (rowOf t.now k)) j = if j < k + 1 then rowOf t.now j else rowOf t.last j) := ⟨fun j hj => by
            rw [rowOf_set _ _ _ _ (by omega)]
            by_cases hjk : k = j
            · subst hjk; rw [if_pos rfl, if_pos (by omega)]
            · rw [if_neg hjk, HL.out j hj]
              by_cases hj2 : j < k
              · rw [if_pos hj2, if_pos (by omega)]
              · rw [if_neg hj2, if_neg (by omega)]⟩
          clear h1 h2 h3 h4 h5 HL
          generalize hZ : strOfNums (rowOf t.now k) = Z at *
          generalize strOfNums (rowOf L k) = Z0 at *
          have HZ := Kept.mk hZ
          clear hZ
          go_wp2_with fail
          refine wp_region_still_tail 13 (by kernel_rfl) (by kernel_rfl) ?_
          simp only [List.take_succ_cons, List.take_zero, List.drop_succ_cons, List.drop_zero]
          repeat still_step
          refine wpStill_nil ?_
          change wpList _ _ _ _ _ wr.drew
          go_wp2
          go_roundw
          case rel => exact ⟨k + 1, L.set k (rowOf t.now k), by omega, by go_num, by simpa using hL, HL2, ⟨PUT.out.1⟩, ⟨FF.out.trans (F0.out.trans PUT.out.2)⟩⟩
          case measure => simp [intOf]; omega
        · have hkn' : ¬ (k : Int) < n := by omega
          obtain rfl : k = n := by omega
          have hLe : L = t.now := rows_ext (by omega) (fun j hj => by rw [HL.out j (by omega), if_pos (by omega)])
          subst hLe
          have z2 := h1.frozen 2
          have c2 : ∃ u, wr.cell? ⟨d, 2, none⟩ = some u := ⟨_, h1.cell 2⟩
          obtain ⟨u, c2⟩ := c2
          have FIN := Kept.mk (dirty_fin (s := { t with last := t.now }) (q := []) (v' := .slice none 0 0) rfl h1 h2 h3 h4 (Below.refl _ _) (World.ownsRow_nil _ _ _ _))
          clear h1 h2 h3 h4 h5
          go_wp2
          go_ret
          exact ⟨rfl, _, ⟨hwf, FIN.out.1⟩, FF.out.trans FIN.out.2⟩
end Go.Proofs.YtkbehjdglgpgjaaGreat.Disk
