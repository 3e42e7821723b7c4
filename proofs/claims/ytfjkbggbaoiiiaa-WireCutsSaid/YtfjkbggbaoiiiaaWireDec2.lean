/-
  Package wire, reading: Num, Bytes, Left, Err, End.
-/
import Derived.Test.YtfjkbggbaoiiiaaWireDec
namespace Go.Proofs.Ytfjkbggbaoiiiaa.Wire
open Go.RowKit Go.Proofs.Ytfjkbggbaoiiiaa.Sha

/-- what is left and the error stored anew -/
theorem De.set {T : TypeId} {w w' : World} {d : Nat} {G : List Nat} {st' : St} {A : Option Addr} {n c : Nat} (hG : ∀ k ∈ G, k < w.heap.size) (hd : d ∉ G) (hn : n = st'.2.length) (hb : Blk w' d T #[.slice A n c, .int .i64 st'.1]) (hbar : Bar [d] w w') (hr : Rd w A n st'.2) (hc : n ≤ c) (hm : c ≤ 9223372036854775807) (ho : ∀ F : List Nat, Disj G F → Off A n F) : De T w' d G st' := by
  subst hn
  exact ⟨fun k hk => Nat.lt_of_lt_of_le (hG k hk) hbar.size, A, c, hb, hr.far hbar (ho _ (fun k hk => by simp; rintro rfl; exact hd hk)), hc, hm, ho⟩

set_option maxRecDepth 100000 in
set_option maxHeartbeats 1000000 in
theorem dnum_any (w : World) (d : Nat) (G : List Nat) (s : Int) (st : St) (h : De 62 w d G st) (hd : d ∉ G) :
    Calls Try.prog 20 #[.pointer (some ⟨d, 0, none⟩), .int .i64 s] w fun x w' => x = .returned (.int .i64 (decNum st s).1) ∧ De 62 w' d G (decNum st s).2 ∧ Bar [d] w w' := by
  obtain ⟨err, xs⟩ := st
  have HD := Kept.mk h
  obtain ⟨hG, A, c, hb, hr, hc, hm, ho⟩ := h
  simp only at hb hr hc hm ho
  have c0 : w.cell? ⟨d, 0, none⟩ = some (.slice A xs.length c) := hb.cell 0
  have c1 : w.cell? ⟨d, 1, none⟩ = some (.int .i64 err) := hb.cell 1
  have z0 := hb.frozen 0
  have z1 := hb.frozen 1
  have HB := Kept.mk hb; have HR := Kept.mk hr; have HO := Kept.mk ho
  clear hb hr ho
  by_cases he : err = 0
  · subst he
    by_cases hs : 1 ≤ s ∧ s ≤ 8
    · have ci := Kept.mk fun w => issize_any s w
      rw [decide_eq_true hs] at ci
      obtain ⟨k, rfl⟩ : ∃ k : Nat, s = k := ⟨s.toNat, by omega⟩
      have cf := Kept.mk fun w' (r : Rd w' A xs.length xs) => first_any A xs.length c k xs w' r hc (by omega) (by omega)
      have hf := decNum_frst xs k (by omega) (by omega)
      cases hk : (frst xs k).2 with
      | true =>
        have hkl := frst_true hk
        rw [if_pos hk] at hf
        rw [hk] at cf
        generalize (frst xs k).1 = v at *
        have HF := Kept.mk hf
        obtain ⟨A', hsl, r', o'⟩ := slice_l HR.out hc k hkl k rfl
        have R' := Kept.mk r'; have O' := Kept.mk o'
        have hmk : c - k ≤ 9223372036854775807 := by omega
        have hck : xs.length - k ≤ c - k := by omega
        clear hf hk r' o' HD
        go_enter Try.func20, Try.ntmps20
        go_wp2_with (first
          | (go_at_call 31; refine (ci.out _).mono ?_; rintro x w' ⟨rfl, rfl⟩)
          | (go_at_call 40; refine (cf.out _ HR.out).mono ?_; rintro x w' ⟨rfl, rfl⟩))
        go_ret
        have hbar : Bar [d] w (w.setCell ⟨d, 0, none⟩ (.slice A' (xs.length - k) (c - k))) := (Bar.refl _ _).setCell (by simp) _
        rw [HF.out]
        exact ⟨rfl, De.set (n := xs.length - k) hG hd (by simp) (HB.out.set_ 0 _) hbar R'.out hck hmk (fun F hF => O'.out F (HO.out F hF)), hbar⟩
      | false =>
        rw [if_neg (by rw [hk]; simp)] at hf
        rw [hk] at cf
        generalize (frst xs k).1 = v at *
        have HF := Kept.mk hf
        clear hf hk HD
        go_enter Try.func20, Try.ntmps20
        go_wp2_with (first
          | (go_at_call 31; refine (ci.out _).mono ?_; rintro x w' ⟨rfl, rfl⟩)
          | (go_at_call 40; refine (cf.out _ HR.out).mono ?_; rintro x w' ⟨rfl, rfl⟩))
        go_ret
        have hbar : Bar [d] w (w.setCell ⟨d, 1, none⟩ (.int .i64 2)) := (Bar.refl _ _).setCell (by simp) _
        rw [HF.out]
        exact ⟨rfl, De.set (n := xs.length) hG hd rfl (HB.out.set_ 1 _) hbar HR.out hc hm HO.out, hbar⟩
    · have ci := Kept.mk fun w => issize_any s w
      rw [decide_eq_false hs] at ci
      have HF := Kept.mk (decNum_size xs s hs)
      clear HD
      go_enter Try.func20, Try.ntmps20
      go_wp2_with (go_at_call 31; refine (ci.out _).mono ?_; rintro x w' ⟨rfl, rfl⟩)
      go_ret
      have hbar : Bar [d] w (w.setCell ⟨d, 1, none⟩ (.int .i64 1)) := (Bar.refl _ _).setCell (by simp) _
      rw [HF.out]
      exact ⟨rfl, De.set (n := xs.length) hG hd rfl (HB.out.set_ 1 _) hbar HR.out hc hm HO.out, hbar⟩
  · have HF := Kept.mk (decNum_err (err, xs) s he)
    have he2 : (err != 0) = true := by simpa using he
    go_enter Try.func20, Try.ntmps20
    go_wp2
    go_ret
    rw [HF.out]
    exact ⟨rfl, HD.out, Bar.refl _ _⟩

set_option maxHeartbeats 400000 in
theorem left_any (w : World) (d : Nat) (G : List Nat) (st : St) (h : De 62 w d G st) :
    Calls Try.prog 24 #[.pointer (some ⟨d, 0, none⟩)] w fun x w' => x = .returned (.int .i64 st.2.length) ∧ w = w' := by
  obtain ⟨-, A, c, hb, -⟩ := h
  have c0 : w.cell? ⟨d, 0, none⟩ = some (.slice A st.2.length c) := hb.cell 0
  clear hb
  go_enter Try.func24, Try.ntmps24
  go_wp2
  go_ret
  exact ⟨rfl, rfl⟩
set_option maxHeartbeats 400000 in
theorem err_any (w : World) (d : Nat) (G : List Nat) (st : St) (h : De 62 w d G st) :
    Calls Try.prog 25 #[.pointer (some ⟨d, 0, none⟩)] w fun x w' => x = .returned (.int .i64 st.1) ∧ w = w' := by
  obtain ⟨-, A, c, hb, -⟩ := h
  have c0 : w.cell? ⟨d, 1, none⟩ = some (.int .i64 st.1) := hb.cell 1
  clear hb
  go_enter Try.func25, Try.ntmps25
  go_wp2
  go_ret
  exact ⟨rfl, rfl⟩
set_option maxHeartbeats 400000 in
theorem end_any (w : World) (d : Nat) (G : List Nat) (st : St) (h : De 62 w d G st) :
    Calls Try.prog 26 #[.pointer (some ⟨d, 0, none⟩)] w fun x w' => x = .returned (.int .i64 (endOf st)) ∧ w = w' := by
  obtain ⟨err, xs⟩ := st
  obtain ⟨-, A, c, hb, -⟩ := h
  have c0 : w.cell? ⟨d, 0, none⟩ = some (.slice A xs.length c) := hb.cell 0
  have c1 : w.cell? ⟨d, 1, none⟩ = some (.int .i64 err) := hb.cell 1
  clear hb
  by_cases he : err = 0
  · subst he
    by_cases hl : xs.length = 0
    · have hl' : ¬ (0 : Int) < xs.length := by omega
      have HE := Kept.mk (show endOf (0, xs) = 0 by unfold endOf; simp [hl])
      generalize xs.length = n at *
      go_enter Try.func26, Try.ntmps26
      go_wp2
      go_ret
      exact ⟨by rw [HE.out]; rfl, rfl⟩
    · have hl' : (0 : Int) < xs.length := by omega
      have HE := Kept.mk (show endOf (0, xs) = 2 by unfold endOf; simp only [if_true]; rw [if_neg hl])
      generalize xs.length = n at *
      go_enter Try.func26, Try.ntmps26
      go_wp2
      go_ret
      exact ⟨by rw [HE.out]; rfl, rfl⟩
  · have HE := Kept.mk (show endOf (err, xs) = err by unfold endOf; rw [if_neg he])
    have he2 : (err == 0) = false := by simpa using he
    go_enter Try.func26, Try.ntmps26
    go_wp2
    go_ret
    exact ⟨by rw [HE.out]; rfl, rfl⟩
end Go.Proofs.Ytfjkbggbaoiiiaa.Wire
