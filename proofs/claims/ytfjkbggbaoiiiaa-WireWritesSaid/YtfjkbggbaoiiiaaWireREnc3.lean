/-
  The document's own Enc: Bytes, Done; held against the program's, as lists.
-/
import Derived.Test.YtfjkbggbaoiiiaaWireREnc2
import Derived.Test.YtfjkbggbaoiiiaaWireOps
namespace Go.Proofs.Ytfjkbggbaoiiiaa.Wire
open Go.RowKit Go.Proofs.Ytfjkbggbaoiiiaa.Sha

theorem fits_len (m : Nat) (h : m ≤ 65535) : fits (m : Nat) 2 = true := by
  unfold fits
  apply decide_eq_true
  refine ⟨by omega, by omega, by omega, by omega, ?_⟩
  have : (256 : Int) ^ (2 : Int).toNat = 65536 := by decide +kernel
  rw [this]; omega

set_option maxRecDepth 100000 in
set_option maxHeartbeats 1000000 in
theorem rtxt_any (w : World) (F : List Nat) (e : Nat) (A : Option Addr) (m c : Nat) (b : List Int) (st : St) (h : En 30 w F e st) (hr : Rd w A m b) (hF : Off A m F) (hl : st.2.length ≤ 2147483648) :
    Calls Try.prog 15 #[.pointer (some ⟨e, 0, none⟩), .slice A m c] w fun x w' => x = .returned (.tuple #[]) ∧ ∃ F', En 30 w' F' e (rencTxt st b) ∧ Fp F F' w w' := by
  have HE := Kept.mk h
  have RB := Kept.mk hr
  have LB := Kept.mk hr.1
  have HO := Kept.mk hF
  clear h hr hF
  by_cases hm : m ≤ 65535
  · have hm' : ¬ (65535 : Int) < m := by omega
    have HR := Kept.mk (show rencTxt st b = (st.1, (st.2 ++ be m 2) ++ b) by unfold rencTxt; rw [LB.out, if_pos hm])
    have hn := Kept.mk (rnum_any w F e (m : Nat) 2 st HE.out hl)
    have hq := Kept.mk (show rencNum st (m : Nat) 2 = (st.1, st.2 ++ be m 2) by unfold rencNum; rw [fits_len m hm]; rfl)
    clear HE
    go_enter Try.func15, Try.ntmps15
    go_wp2_with fail
    refine hn.out.mono ?_
    rw [hq.out]
    rintro x w1 ⟨rfl, F1, h1, h2⟩
    have R1 := Kept.mk (RB.out.far h2.1 HO.out)
    have H1 := Kept.mk h1; have H2 := Kept.mk h2
    clear h1 h2 hn
    go_wp2_with fail
    refine (rraw_any w1 F1 e A m c b (st.1, st.2 ++ be m 2) H1.out R1.out (by simp only [List.length_append, be_len]; omega)).mono ?_
    rintro x w2 ⟨rfl, F2, h1, h2⟩
    have H3 := Kept.mk h1; have H4 := Kept.mk (H2.out.trans h2)
    clear h1 h2
    go_wp2
    go_end0
    rw [HR.out]
    exact ⟨rfl, F2, H3.out, H4.out⟩
  · have hm' : (65535 : Int) < m := by omega
    have HR := Kept.mk (show rencTxt st b = failE st 3 by unfold rencTxt; rw [LB.out, if_neg hm])
    have hp := Kept.mk (rfail_any w F e st 3 HE.out)
    clear HE
    go_enter Try.func15, Try.ntmps15
    go_wp2_with fail
    refine hp.out.mono ?_
    rintro x w' ⟨rfl, h1, h2⟩
    rw [← HR.out] at h1
    have H1 := Kept.mk h1; have H2 := Kept.mk h2
    clear h1 h2
    go_wp2
    (first | go_end0 | ((try simp only [Exit.inBlock, Exit.then]); refine bodyPost_ret (results_none rfl _ _ _) rfl ?_))
    exact ⟨rfl, _, H1.out, H2.out⟩

def RDonePost (st : St) (w : World) (x : Ending) (w' : World) : Prop := ∃ A n c, x = .returned (.tuple #[.slice A n c, .int .i64 st.1]) ∧ Rd w' A n (if st.1 = 0 then st.2 else []) ∧ Below w.heap.size w w'
set_option maxRecDepth 100000 in
set_option maxHeartbeats 1000000 in
theorem rdone_any (w : World) (F : List Nat) (e : Nat) (st : St) (h : En 30 w F e st) (hb : st.1 = 0 → Bytes st.2) :
    Calls Try.prog 17 #[.pointer (some ⟨e, 0, none⟩)] w (RDonePost st w) := by
  obtain ⟨er, xs⟩ := st
  obtain ⟨v, hbk, ho, hF⟩ := h
  have c0 : w.cell? ⟨e, 0, none⟩ = some v := hbk.cell 0
  have c1 : w.cell? ⟨e, 1, none⟩ = some (.int .i64 er) := hbk.cell 1
  by_cases he : er = 0
  · subst he
    obtain ⟨A, cap, rfl, -, -, hr⟩ := own_rd ho (hb rfl)
    have HR := Kept.mk hr
    clear ho hbk hr hb
    go_enter Try.func17, Try.ntmps17
    go_wp2
    go_ret2
    exact ⟨A, _, cap, rfl, HR.out, Below.refl _ _⟩
  · have he2 : (er != 0) = true := by simpa using he
    have HE := Kept.mk he
    clear ho hbk hb he
    go_enter Try.func17, Try.ntmps17
    go_wp2
    go_quiet (fail)
    go_wp2
    go_ret2
    refine ⟨none, 0, 0, rfl, ?_, below_drewN (Below.refl _ _) _⟩
    rw [if_neg HE.out]
    exact Rd.nil_

/-- what the document's own has behind the first k of them -/
def rencOp (st : St) (x : OpV) : St := if x.kind = 0 then rencNum st x.n x.size else rencTxt st x.b
def rencAll (X : Nat → OpV) : Nat → St
  | 0 => (0, [])
  | k + 1 => rencOp (rencAll X k) (X k)
theorem renc_is (X : Nat → OpV) (k : Nat) : (rencAll X k).1 = (encAll X k).1 ∧ ((encAll X k).1 = 0 → (rencAll X k).2 = (encAll X k).2) ∧ (rencAll X k).2.length ≤ 65537 * k := by
  induction k with
  | zero => exact ⟨rfl, fun _ => rfl, Nat.le_refl _⟩
  | succ k ih =>
    obtain ⟨h1, h2, h3⟩ := ih
    rw [encAll, rencAll]
    unfold encOp rencOp
    by_cases hk : (X k).kind = 0
    · rw [if_pos hk, if_pos hk]
      unfold encNum rencNum failE
      cases hf : fits (X k).n (X k).size with
      | true =>
        have := (fits_be hf).2.2.2.1
        by_cases h0 : (encAll X k).1 = 0
        · simp only [if_true, h0, h1]
          refine ⟨trivial, fun _ => by rw [h2 h0], ?_⟩
          rw [List.length_append, be_len]; omega
        · simp only [if_true, if_neg h0]
          refine ⟨h1, fun h => absurd h h0, ?_⟩
          rw [List.length_append, be_len]; omega
      | false =>
        by_cases h0 : (encAll X k).1 = 0
        · simp only [h0, h1, if_true]
          refine ⟨by simp, fun h => by simp at h, ?_⟩
          simp only [Bool.false_eq_true, if_false]; omega
        · simp only [if_neg h0, h1, Bool.false_eq_true, if_false]
          exact ⟨trivial, fun h => absurd h h0, by omega⟩
    · rw [if_neg hk, if_neg hk]
      unfold encTxt rencTxt failE
      by_cases hl : (X k).b.length ≤ 65535
      · by_cases h0 : (encAll X k).1 = 0
        · simp only [if_pos hl, h0, h1, if_true]
          refine ⟨trivial, fun _ => by rw [h2 h0, List.append_assoc], ?_⟩
          simp only [List.length_append, be_len]; omega
        · simp only [if_pos hl, if_neg h0]
          refine ⟨h1, fun h => absurd h h0, ?_⟩
          simp only [List.length_append, be_len]; omega
      · by_cases h0 : (encAll X k).1 = 0
        · simp only [if_neg hl, h0, h1, if_true]
          exact ⟨trivial, fun h => by simp at h, by omega⟩
        · simp only [if_neg hl, if_neg h0, h1]
          exact ⟨trivial, fun h => absurd h h0, by omega⟩
end Go.Proofs.Ytfjkbggbaoiiiaa.Wire
