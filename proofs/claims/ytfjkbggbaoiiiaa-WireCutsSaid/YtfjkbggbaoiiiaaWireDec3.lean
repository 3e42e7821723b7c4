/-
  Package wire, reading: Bytes.
-/
import Derived.Test.YtfjkbggbaoiiiaaWireDec2
namespace Go.Proofs.Ytfjkbggbaoiiiaa.Wire
open Go.RowKit Go.Proofs.Ytfjkbggbaoiiiaa.Sha

def TxtPost (T : TypeId) (d : Nat) (G : List Nat) (st : St) (w : World) (x : Ending) (w' : World) : Prop :=
  ∃ v, x = .returned v ∧ w'.ownsRow w.heap.size 5 1 v (decTxt st).1.length (ints .u8 (decTxt st).1) ∧ De T w' d G (decTxt st).2 ∧ Bar [d] w w'

set_option maxRecDepth 100000 in
set_option maxHeartbeats 1000000 in
theorem dtxt_any (w : World) (d : Nat) (G : List Nat) (st : St) (h : De 62 w d G st) (hd : d ∉ G) (hl : st.2.length < 2147483648) :
    Calls Try.prog 22 #[.pointer (some ⟨d, 0, none⟩)] w (TxtPost 62 d G st w) := by
  obtain ⟨err, xs⟩ := st
  have HD := Kept.mk h
  obtain ⟨hG, A, c, hb, hr, hc, hm, ho⟩ := h
  simp only at hb hr hc hm ho hl
  have c0 : w.cell? ⟨d, 0, none⟩ = some (.slice A xs.length c) := hb.cell 0
  have c1 : w.cell? ⟨d, 1, none⟩ = some (.int .i64 err) := hb.cell 1
  have z0 := hb.frozen 0
  have z1 := hb.frozen 1
  have HB := Kept.mk hb; have HR := Kept.mk hr; have HO := Kept.mk ho
  clear hb ho
  by_cases he : err = 0
  · subst he
    have cf := Kept.mk fun w' (r : Rd w' A xs.length xs) => first_any A xs.length c 2 xs w' r hc (by omega) (by omega)
    have hf2 := frst_two xs hr.2.1
    by_cases h2 : 2 ≤ xs.length
    · rw [if_pos h2] at hf2
      rw [hf2] at cf
      have hlt := val_take_lt xs hr.2.1 2 h2
      by_cases hok : 2 + val (xs.take 2) ≤ xs.length
      · have HF := Kept.mk (decTxt_ok xs hok)
        obtain ⟨v, hv⟩ : ∃ v, val (xs.take 2) = v := ⟨_, rfl⟩
        rw [hv] at hok hlt cf HF
        obtain ⟨A1, hs1, r1, -⟩ := slice_lh hr hc 2 (2 + v) (by omega) hok 2 (2 + (v : Int)) rfl (by omega)
        obtain ⟨A2, hs2, r2, o2⟩ := slice_l hr hc (2 + v) hok (2 + (v : Int)) (by omega)
        have e1 : (xs.take (2 + v)).drop 2 = (xs.drop 2).take v := by rw [List.drop_take]; congr 1; omega
        rw [e1] at r1
        have hsub : 2 + v - 2 = v := by omega
        rw [hsub] at r1 hs1
        have hcl := Kept.mk (clone_any A1 v (c - 2) ((xs.drop 2).take v) w r1 (by omega))
        have R2 := Kept.mk r2; have O2 := Kept.mk o2
        have hL1 := Kept.mk r1.1
        have hL2 := Kept.mk r2.1
        have hmk : c - (2 + v) ≤ 9223372036854775807 := by omega
        have hck : xs.length - (2 + v) ≤ c - (2 + v) := by omega
        have hw : IntKind.i64.wrap (2 + (v : Int)) = 2 + v := by rw [IntKind.wrap_i64]; omega
        have hnl : ¬ (xs.length : Int) < 2 + v := by omega
        clear hf2 hv hr r1 r2 o2 e1 HD
        go_enter Try.func22, Try.ntmps22
        go_wp2_with (go_at_call 40; refine (cf.out _ HR.out).mono ?_; rintro x w' ⟨rfl, rfl⟩)
        refine hcl.out.mono ?_
        rintro x w1 ⟨u, rfl, own, b1⟩
        have HB1 := Kept.mk (HB.out.below b1 HB.out.lt)
        have d0 : w1.cell? ⟨d, 0, none⟩ = some (.slice A xs.length c) := HB1.out.cell 0
        have f0 := HB1.out.frozen 0
        have R3 := Kept.mk (R2.out.below b1)
        have OW := Kept.mk own
        have B1 := Kept.mk b1
        clear own b1 hcl R2 HB
        go_wp2
        go_ret
        have hdw : d < w.heap.size := World.block_lt_of_cell? _ _ c0
        have hbar1 : Bar [d] w1 (w1.setCell ⟨d, 0, none⟩ (.slice A2 (xs.length - (2 + v)) (c - (2 + v)))) := (Bar.refl _ _).setCell (by simp) _
        refine ⟨u, rfl, ?_⟩
        rw [HF.out]
        simp only [hL1.out]
        refine ⟨own_bar OW.out hbar1 (by simpa using hdw), ?_, ?_⟩
        · exact De.set (n := xs.length - (2 + v)) (fun k hk => Nat.lt_of_lt_of_le (hG k hk) B1.out.size) hd hL2.out.symm (HB1.out.set_ 0 _) hbar1 R3.out hck hmk (fun F hF => O2.out F (HO.out F hF))
        · exact (barOf B1.out [d]).trans hbar1 (by simp)
      · have HF := Kept.mk (decTxt_no xs hok)
        obtain ⟨v, hv⟩ : ∃ v, val (xs.take 2) = v := ⟨_, rfl⟩
        rw [hv] at hok hlt cf
        have hw : IntKind.i64.wrap (2 + (v : Int)) = 2 + v := by rw [IntKind.wrap_i64]; omega
        have hnl : (xs.length : Int) < 2 + v := by omega
        clear hf2 hv hr HD
        go_enter Try.func22, Try.ntmps22
        go_wp2_with (go_at_call 40; refine (cf.out _ HR.out).mono ?_; rintro x w' ⟨rfl, rfl⟩)
        go_ret
        have hbar1 : Bar [d] w (w.setCell ⟨d, 1, none⟩ (.int .i64 2)) := (Bar.refl _ _).setCell (by simp) _
        refine ⟨_, rfl, ?_⟩
        rw [HF.out]
        exact ⟨World.ownsRow_nil _ _ _ _, De.set (n := xs.length) hG hd rfl (HB.out.set_ 1 _) hbar1 HR.out hc hm HO.out, hbar1⟩
    · rw [if_neg h2] at hf2
      rw [hf2] at cf
      have HF := Kept.mk (decTxt_no xs (by omega))
      have hw : IntKind.i64.wrap (2 + (0 : Int)) = 2 := by rw [IntKind.wrap_i64]; omega
      clear hf2 hr HD
      go_enter Try.func22, Try.ntmps22
      go_wp2_with (go_at_call 40; refine (cf.out _ HR.out).mono ?_; rintro x w' ⟨rfl, rfl⟩)
      go_ret
      have hbar1 : Bar [d] w (w.setCell ⟨d, 1, none⟩ (.int .i64 2)) := (Bar.refl _ _).setCell (by simp) _
      refine ⟨_, rfl, ?_⟩
      rw [HF.out]
      exact ⟨World.ownsRow_nil _ _ _ _, De.set (n := xs.length) hG hd rfl (HB.out.set_ 1 _) hbar1 HR.out hc hm HO.out, hbar1⟩
  · have HF := Kept.mk (decTxt_err (err, xs) he)
    have he2 : (err != 0) = true := by simpa using he
    go_enter Try.func22, Try.ntmps22
    go_wp2
    go_ret
    refine ⟨_, rfl, ?_⟩
    rw [HF.out]
    exact ⟨World.ownsRow_nil _ _ _ _, HD.out, Bar.refl _ _⟩
end Go.Proofs.Ytfjkbggbaoiiiaa.Wire
