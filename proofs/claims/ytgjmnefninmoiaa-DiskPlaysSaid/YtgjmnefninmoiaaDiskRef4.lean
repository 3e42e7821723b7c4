/-
  The document's own disk: Write, Sync.
-/
import Derived.Test.YtgjmnefninmoiaaDiskRef3
namespace Go.Proofs.Ytgjmnefninmoiaa.Disk
open Go.RowKit Go.Proofs.Ytgjmnefninmoiaa.Sha

theorem pend_len {n : Nat} {s : DS} (h : WF n s) : s.pend.length ≤ n := by
  have h1 := h.rise
  have h2 := h.pend
  generalize s.pend = l at *
  clear h
  have : ∀ (l : List Nat) (a : Nat), l.Pairwise (· < ·) → (∀ i ∈ l, a ≤ i ∧ i < n) → l.length + a ≤ n ∨ l = [] := by
    intro l
    induction l with
    | nil => intro a _ _; exact .inr rfl
    | cons x l ih =>
      intro a hp hb
      rw [List.pairwise_cons] at hp
      have hx := hb x (by simp)
      rcases ih (x + 1) hp.2 (fun i hi => ⟨hp.1 i hi, (hb i (by simp [hi])).2⟩) with h3 | h3
      · left; simp; omega
      · subst h3; left; simp; omega
  rcases this l 0 h1 (fun i hi => ⟨Nat.zero_le _, h2 i hi⟩) with h3 | h3
  · omega
  · subst h3; simp
/-- one sector is written -/
theorem Drm.put {w : World} {d n : Nat} {s : DS} {gn cn gl cl i : Nat} {vp : Value} {xs : List Int} (h1 : Blk w d 48 #[.slice (some ⟨gn, 0, none⟩) n cn, .slice (some ⟨gl, 0, none⟩) n cl, vp, .int .i64 s.fuse, .bool s.down])
    (h2 : Strs w gn s.now) (h3 : Strs w gl s.last) (h4 : gn ≠ gl) (h5 : w.ownsRow 0 3 1 vp s.pend.length (pints s.pend)) (hi : i < s.now.length) :
    Drm (w.setCell ⟨gn, i, none⟩ (.string (strOfNums xs))) (d :: gn :: gl :: vp.ownBlock.toList) d n { s with now := s.now.set i xs } ∧ Fp (d :: gn :: gl :: vp.ownBlock.toList) (d :: gn :: gl :: vp.ownBlock.toList) w (w.setCell ⟨gn, i, none⟩ (.string (strOfNums xs))) := by
  have hb : Bar [gn] w (w.setCell ⟨gn, i, none⟩ (.string (strOfNums xs))) := (Bar.refl _ _).setCell (by simp) _
  have hdn := blk_ne h1 h2.choose_spec.1 (by decide)
  have hpn := own_far h5 h2.choose_spec.1 (by decide)
  exact ⟨⟨gn, cn, gl, cl, vp, h1.bar hb (by simpa using hdn), h2.set i xs hi, h3.bar hb (by simpa using h4.symm), h4, own_keep h5 hb (fun g hg => by simp at hg ⊢; rintro rfl; exact hpn hg), rfl⟩, hb.mono (by simp), fun k hk => .inl hk⟩
def WritePost (D : World → List Nat → DS → Prop) (w : World) (F : List Nat) (r : Int × DS) (e : Ending) (w' : World) : Prop := e = .returned (.int .i64 r.1) ∧ ∃ F', D w' F' r.2 ∧ Fp F F' w w'
set_option maxRecDepth 100000 in
set_option maxHeartbeats 1000000 in
theorem rwrite_any (w : World) (F : List Nat) (d n : Nat) (s : DS) (i : Int) (A : Option Addr) (l c : Nat) (xs : List Int) (h : Dr w F d n s) (r : Rd w A l xs) (hO : Off A l F) :
    Calls Try.prog 14 #[.pointer (some ⟨d, 0, none⟩), .int .i64 i, .slice A l c] w (WritePost (fun w' F' s' => Dr w' F' d n s') w F (writeD s i xs)) := by
  have HD := Kept.mk h
  have hwf := wf_write h.1 i xs r.2.1
  have HR := Kept.mk r
  have HL := Kept.mk r.1
  obtain ⟨h0, gn, cn, gl, cl, vp, h1, h2, h3, h4, h5, hF⟩ := h
  have c0 : w.cell? ⟨d, 0, none⟩ = some (.slice (some ⟨gn, 0, none⟩) n cn) := h1.cell 0
  have c4 : w.cell? ⟨d, 4, none⟩ = some (.bool s.down) := h1.cell 4
  have hlen := h0.now
  have hpl := pend_len h0
  have hn2 := h0.n2
  have still : ∀ k : Int, writeD s i xs = (k, s) → Kept (WritePost (fun w' F' s' => Dr w' F' d n s') w F (writeD s i xs) (.returned (.int .i64 k)) w) := fun k hk => ⟨by rw [hk]; exact ⟨rfl, F, HD.out, Fp.refl _ _⟩⟩
  clear h0 h1 h2 h3 h4 h5 hF r
  cases hd : s.down with
  | true =>
    have P1 := still 13 (by unfold writeD; rw [if_pos hd])
    rw [hd] at c4
    clear hd still hwf c0
    go_enter Try.func14, Try.ntmps14
    go_wp2
    go_ret
    exact P1.out
  | false =>
    have hdn : ¬ s.down = true := by simp [hd]
    rw [hd] at c4
    by_cases hi : noSector s i
    · have P1 := still 1 (by unfold writeD; rw [if_neg hdn, if_pos hi])
      clear hd still hwf hdn
      by_cases hi0 : i < 0
      · clear hi
        go_enter Try.func14, Try.ntmps14
        go_wp2
        go_ret
        exact P1.out
      · have hin : (n : Int) ≤ i := by unfold noSector at hi; omega
        clear hi
        go_enter Try.func14, Try.ntmps14
        go_wp2
        go_ret
        exact P1.out
    · obtain ⟨j, rfl⟩ : ∃ j : Nat, i = j := ⟨i.toNat, by unfold noSector at hi; omega⟩
      have hj : j < n := by unfold noSector at hi; omega
      have hj' : (j : Int) < n := by omega
      by_cases h64 : l = 64
      · have e0 : writeD s j xs = if (burnD s).1 = true then (13, (burnD s).2) else (0, putD (burnD s).2 j xs) := by
          unfold writeD
          rw [if_neg hdn, if_neg hi, if_neg (by rw [HL.out]; simp [h64])]
          rfl
        have cb := Kept.mk (rburns_any w F d n s HD.out)
        rw [e0] at hwf ⊢
        clear hd still hdn hi e0
        subst h64
        cases hb : (burnD s).1 with
        | true =>
          rw [hb] at cb
          go_enter Try.func14, Try.ntmps14
          go_wp2_with fail
          refine cb.out.mono ?_
          rintro e w1 ⟨rfl, dr, fp⟩
          have DD := Kept.mk dr; have FF := Kept.mk fp
          clear dr fp cb
          go_wp2
          go_ret
          exact ⟨rfl, F, DD.out, FF.out⟩
        | false =>
          rw [hb] at cb hwf
          go_enter Try.func14, Try.ntmps14
          go_wp2_with fail
          refine cb.out.mono ?_
          rintro e w1 ⟨rfl, dr, fp⟩
          have FF := Kept.mk fp
          have hcv := conv_same (cap := c) (HR.out.far fp.1.drew hO)
          obtain ⟨-, gn, cn, gl, cl, vp, h1, h2, h3, h4, h5, rfl⟩ := dr
          have x0 : w1.cell? ⟨d, 0, none⟩ = some (.slice (some ⟨gn, 0, none⟩) n cn) := h1.cell 0
          have x1 := h2.cell j (by rw [burn_now, hlen]; exact hj)
          have x2 := h2.frozen j
          have PUT := Kept.mk (Drm.put (w := w1.drew) (n := n) (xs := xs) h1 h2 h3 h4 h5 (i := j) (by rw [burn_now, hlen]; exact hj))
          have hF0 : Fp (d :: gn :: gl :: vp.ownBlock.toList) (d :: gn :: gl :: vp.ownBlock.toList) w1 w1.drew := ⟨(Bar.refl _ _).drew, fun k hk => .inl hk⟩
          have F0 := Kept.mk hF0
          generalize strOfNums xs = Z at *
          generalize strOfNums (rowOf (burnD s).2.now j) = Z0 at *
          clear hF0
          clear h1 h2 h3 h4 h5 cb fp c0 c4
          go_wp2_with fail
          refine wp_region_still_tail 8 (by kernel_rfl) (by kernel_rfl) ?_
          simp only [List.take_succ_cons, List.take_zero, List.drop_succ_cons, List.drop_zero]
          repeat still_step
          refine wpStill_nil ?_
          change wpList _ _ _ _ _ w1.drew
          go_wp2_with fail
          refine (rdirty_any _ _ d n _ j PUT.out.1 (by simp only [burn_pend]; omega)).mono ?_
          rintro e w2 ⟨rfl, F2, dm, fp2⟩
          have P2 : Kept (WritePost (fun w' F' s' => Dr w' F' d n s') w (d :: gn :: gl :: vp.ownBlock.toList) (0, putD (burnD s).2 j xs) (.returned (.int .i64 0)) w2) := ⟨rfl, F2, ⟨hwf, dm⟩, (FF.out.trans (F0.out.trans PUT.out.2)).trans fp2⟩
          clear dm fp2
          go_wp2
          go_ret
          exact P2.out
      · have P1 := still 2 (by unfold writeD; rw [if_neg hdn, if_neg hi, if_pos (by rw [HL.out]; exact h64)])
        have h64' : ¬ (l : Int) = 64 := by omega
        clear hd still hwf hdn hi
        go_enter Try.func14, Try.ntmps14
        go_wp2
        go_ret
        exact P1.out
end Go.Proofs.Ytgjmnefninmoiaa.Disk
