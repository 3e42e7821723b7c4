/-
  The document's own Enc: fail, Num, Raw, Bytes, Done.
-/
import Derived.Test.YtfjkbggbaoiiiaaWireREnc
namespace Go.Proofs.Ytfjkbggbaoiiiaa.Wire
open Go.RowKit Go.Proofs.Ytfjkbggbaoiiiaa.Sha

def failE (st : St) (e : Int) : St := (if st.1 = 0 then e else st.1, st.2)
def rencNum (st : St) (n s : Int) : St := if fits n s = true then (st.1, st.2 ++ be n.toNat s.toNat) else failE st 1
def rencTxt (st : St) (b : List Int) : St := if b.length ≤ 65535 then (st.1, (st.2 ++ be b.length 2) ++ b) else failE st 3

set_option maxRecDepth 100000 in
set_option maxHeartbeats 1000000 in
theorem rfail_any (w : World) (F : List Nat) (e : Nat) (st : St) (err : Int) (h : En 30 w F e st) : Calls Try.prog 36 #[.pointer (some ⟨e, 0, none⟩), .int .i64 err] w fun x w' => x = .returned (.tuple #[]) ∧ En 30 w' F e (failE st err) ∧ Fp F F w w' := by
  obtain ⟨er, xs⟩ := st
  have HE := Kept.mk h
  obtain ⟨v, h1, h2, rfl⟩ := h
  have c1 : w.cell? ⟨e, 1, none⟩ = some (.int .i64 er) := h1.cell 1
  have z1 := h1.frozen 1
  have H1 := Kept.mk h1; have H2 := Kept.mk h2
  have hfar := Kept.mk (own_far h2 h1 (by decide))
  clear h1 h2
  by_cases he : er = 0
  · subst he
    go_enter Try.func36, Try.ntmps36
    go_wp2
    go_end0
    have hbar : Bar [e] w (w.setCell ⟨e, 1, none⟩ (.int .i64 err)) := (Bar.refl _ _).setCell (by simp) _
    refine ⟨rfl, ⟨v, H1.out.set_ 1 _, own_keep H2.out hbar (fun g hg hm => hfar.out ?_), rfl⟩, hbar.mono ?_, fun k hk => .inl hk⟩
    · simp at hg hm; rw [hg, hm]
    · intro x hx; simp at hx; simp [hx]
  · have HR := Kept.mk (show failE (er, xs) err = (er, xs) by unfold failE; simp [he])
    have he2 : (er == 0) = false := by simpa using he
    go_enter Try.func36, Try.ntmps36
    go_wp2
    go_end0
    rw [HR.out]
    exact ⟨rfl, HE.out, Fp.refl _ _⟩

set_option maxRecDepth 100000 in
set_option maxHeartbeats 1000000 in
theorem rraw_any (w : World) (F : List Nat) (e : Nat) (A : Option Addr) (m c : Nat) (b : List Int) (st : St) (h : En 30 w F e st) (hr : Rd w A m b) (hl : st.2.length + m ≤ 4294967296) :
    Calls Try.prog 38 #[.pointer (some ⟨e, 0, none⟩), .slice A m c] w fun x w' => x = .returned (.tuple #[]) ∧ ∃ F', En 30 w' F' e (st.1, st.2 ++ b) ∧ Fp F F' w w' := by
  obtain ⟨er, xs⟩ := st
  obtain ⟨v, hb, ho, hG⟩ := h
  have c0 : w.cell? ⟨e, 0, none⟩ = some v := hb.cell 0
  have HB := Kept.mk hb; have HO := Kept.mk ho; have HR := Kept.mk hr
  have hfar := own_far ho hb (by decide)
  simp only at hl
  clear hb ho hr
  go_enter Try.func38, Try.ntmps38
  go_wp2_with ((with_reducible refine sel 10 ?_); refine wpList_append_rda rfl (.tmp 8) (.tmp 9) 27 rfl 0 5 Try.underlying27 info_u8 v xs.length _ rfl HO.out A m c b rfl HR.out hl (by omega) ?_; intro v7 w7 o7 g7 a7; obtain ⟨A7, c7, rfl⟩ := own_shape o7.out; have d0 : w7.cell? ⟨e, 0, none⟩ = some v := (HB.out.grown g7 (Ne.symm hfar)).cell 0; have z0 : w7.frozen? ⟨e, 0, none⟩ = false := (HB.out.grown g7 (Ne.symm hfar)).frozen 0)
  go_end0
  have hst := en_store (by decide) HB.out (Bar.refl [] w) g7 hfar (ys := xs ++ b) (by
      have := o7.out
      rw [← ints_append] at this
      exact this) (by
      rcases a7 with h | h
      · exact .inl h
      · exact .inr ⟨_, h, Nat.le_refl _⟩)
  subst hG
  exact ⟨rfl, _, hst.1, hst.2⟩

set_option maxRecDepth 100000 in
set_option maxHeartbeats 1000000 in
theorem rnum_any (w : World) (F : List Nat) (e : Nat) (n s : Int) (st : St) (h : En 30 w F e st) (hl : st.2.length ≤ 2147483648) :
    Calls Try.prog 13 #[.pointer (some ⟨e, 0, none⟩), .int .i64 n, .int .i64 s] w fun x w' => x = .returned (.tuple #[]) ∧ ∃ F', En 30 w' F' e (rencNum st n s) ∧ Fp F F' w w' := by
  obtain ⟨er, xs⟩ := st
  have HE := Kept.mk h
  have cf := Kept.mk fun w => rfits_any n s w
  cases hf : fits n s with
  | false =>
    rw [hf] at cf
    have HR := Kept.mk (show rencNum (er, xs) n s = failE (er, xs) 1 by unfold rencNum; rw [hf]; simp)
    have cr := Kept.mk (rfail_any w F e (er, xs) 1 HE.out)
    clear hf h
    go_enter Try.func13, Try.ntmps13
    go_wp2_with (go_at_call 35; refine (cf.out _).mono ?_; rintro x w' ⟨rfl, rfl⟩)
    refine cr.out.mono ?_
    rintro x w' ⟨rfl, h1, h2⟩
    rw [← HR.out] at h1
    have H1 := Kept.mk h1; have H2 := Kept.mk h2
    clear h1 h2
    go_wp2
    (first | go_end0 | ((try simp only [Exit.inBlock, Exit.then]); refine bodyPost_ret (results_none rfl _ _ _) rfl ?_))
    exact ⟨rfl, _, H1.out, H2.out⟩
  | true =>
    rw [hf] at cf
    obtain ⟨-, -, h1, h8, h0⟩ := fits_be hf
    have HR := Kept.mk (show rencNum (er, xs) n s = (er, xs ++ be n.toNat s.toNat) by unfold rencNum; rw [hf]; simp)
    obtain ⟨v, hb, ho, hG⟩ := h
    have c0 : w.cell? ⟨e, 0, none⟩ = some v := hb.cell 0
    have z0 := hb.frozen 0
    obtain ⟨sz, hsz⟩ : ∃ sz : Nat, s = sz := ⟨s.toNat, by omega⟩
    obtain ⟨nn, hnn⟩ : ∃ nn : Nat, n = nn := ⟨n.toNat, by omega⟩
    subst hsz hnn
    simp only [Int.toNat_natCast] at HR
    have cp := Kept.mk fun w => rput_any nn sz w (by omega) (by omega)
    have HB := Kept.mk hb; have HO := Kept.mk ho
    have hfar := own_far ho hb (by decide)
    have hlt := hb.lt
    simp only at hl ho
    clear hb ho hf HE
    obtain ⟨iu, hi, hz0, hz1, hz2⟩ := info_parts info_u8
    go_enter Try.func13, Try.ntmps13
    go_wp2_with (go_at_call 35; refine (cf.out _).mono ?_; rintro x w' ⟨rfl, rfl⟩)
    go_region_law
      (first
        | (refine step_append_lies _ (by rfl) _ _ _ (by rfl) 0 5 iu _ 1 1 Try.underlying27 hi hz0 hz1 hz2 rfl (by omega) v xs.length (ints .u8 xs) (by rfl) HO8.out
            ⟨g8, 0, none⟩ sz c8 (ints .u8 (be nn sz)) (by rfl) (by rw [ints_len, be_len]; omega) HC8.out (ints_one _ _)
            (by omega) (by unfold maxLen; omega) (by omega) (by simp) w8.heap.size rfl ?_; intro gg cg w1 hown1 hgrow hat hlt1; have U0 := ((HB8.out.grown hgrow (Ne.symm hfar)).cell 0); have U1 := ((HB8.out.grown hgrow (Ne.symm hfar)).frozen 0))
        | (go_simp; go_at_call 37; refine (cp.out w.drew).mono ?_; rintro x w8 ⟨g8, c8, rfl, hg8, r8, b8⟩; have HB8 := Kept.mk (Blk.below HB.out.drew b8 hlt); have T0 := HB8.out.cell 0; have HO8 := Kept.mk (own_keep HO.out.drew (barOf b8 []) (by simp)); have HC8 := Kept.mk (rd_cells r8)))
    all_goals
      have hst := en_store (by decide) HB.out (barOf b8 []).drewL hgrow hfar (ys := xs ++ be nn sz) (by rw [ints_append]; exact hown1) (by
        rcases hat with h | h
        · exact .inl h.symm
        · exact .inr ⟨gg, rfl, by have := b8.size; simp at this; omega⟩)
      have HST := Kept.mk hst
      clear hst hgrow hown1 U0 U1 T0 HO8 HC8 HB8
      subst hG
      go_wp2
      go_end0
      rw [HR.out]
      exact ⟨rfl, _, HST.out.1, HST.out.2⟩
end Go.Proofs.Ytfjkbggbaoiiiaa.Wire
