/-
  The document's own Dec: Num, Raw.
-/
import Derived.Test.YtfjkbggbaoiiiaaWireDec2
import Derived.Test.YtfjkbggbaoiiiaaCopy
namespace Go.Proofs.Ytfjkbggbaoiiiaa.Wire
open Go.RowKit Go.Proofs.Ytfjkbggbaoiiiaa.Sha

theorem decNum_yes (xs : List Int) (s : Nat) (h1 : 1 ≤ s) (h8 : s ≤ 8) (h : s ≤ xs.length ∧ val (xs.take s) ≤ 4611686018427387904) : decNum (0, xs) s = (((val (xs.take s) : Nat) : Int), (0, xs.drop s)) := by
  unfold decNum
  simp only [if_true, Int.toNat_natCast]
  rw [if_pos (by omega), if_pos h]
theorem decNum_no (xs : List Int) (s : Nat) (h1 : 1 ≤ s) (h8 : s ≤ 8) (h : ¬ (s ≤ xs.length ∧ val (xs.take s) ≤ 4611686018427387904)) : decNum (0, xs) s = (0, (2, xs)) := by
  unfold decNum
  simp only [if_true, Int.toNat_natCast]
  rw [if_pos (by omega), if_neg h]

set_option maxRecDepth 100000 in
set_option maxHeartbeats 2000000 in
theorem rdnum_any (w : World) (d : Nat) (G : List Nat) (s : Int) (st : St) (h : De 42 w d G st) (hd : d ∉ G) :
    Calls Try.prog 21 #[.pointer (some ⟨d, 0, none⟩), .int .i64 s] w fun x w' => x = .returned (.int .i64 (decNum st s).1) ∧ De 42 w' d G (decNum st s).2 ∧ Bar [d] w w' := by
  obtain ⟨err, xs⟩ := st
  have HD := Kept.mk h
  obtain ⟨hG, A, c, hb, hr, hc, hm, ho⟩ := h
  simp only at hb hr hc hm ho
  have c0 : w.cell? ⟨d, 0, none⟩ = some (.slice A xs.length c) := hb.cell 0
  have c1 : w.cell? ⟨d, 1, none⟩ = some (.int .i64 err) := hb.cell 1
  have z0 := hb.frozen 0
  have z1 := hb.frozen 1
  have HB := Kept.mk hb; have HR := Kept.mk hr; have HO := Kept.mk ho
  clear hb hr ho
  by_cases he : err = 0
  · subst he
    by_cases h1 : 1 ≤ s
    · by_cases h8 : s ≤ 8
      · have h1' : ¬ s < 1 := by omega
        have h8' : ¬ 8 < s := by omega
        obtain ⟨k, rfl⟩ : ∃ k : Nat, s = k := ⟨s.toNat, by omega⟩
        by_cases hl : k ≤ xs.length
        · have hl' : ¬ (xs.length : Int) < k := by omega
          obtain ⟨A', hsl, r', o'⟩ := slice_l HR.out hc k hl k rfl
          have R' := Kept.mk r'; have O' := Kept.mk o'
          have hmk : c - k ≤ 9223372036854775807 := by omega
          have hck : xs.length - k ≤ c - k := by omega
          have BX := Kept.mk HR.out.2.1
          obtain ⟨n, hn⟩ : ∃ n, xs.length = n := ⟨_, rfl⟩
          have HN := Kept.mk hn
          rw [hn] at c0 HR hsl R' O' hl hl' hck hc HO HB
          clear HD r' o' hn
          go_enter Try.func21, Try.ntmps21
          go_wp2
          go_loop [5, 6] (fun u i => ∃ j : Nat, j ≤ k ∧ u = .int .u64 (val (xs.take j) : Nat) ∧ i = .int .i64 j) (fun _ i => k - (intOf i).toNat)
          case atStart => exact ⟨0, by omega, rfl, rfl⟩
          case round =>
            obtain ⟨j, hj, rfl, rfl⟩ := hrel
            by_cases hjk : j < k
            · have hjk' : (j : Int) < k := by omega
              have hjn : (j : Int) < n := by omega
              obtain ⟨b, o, rfl, hcell⟩ := HR.out.2.2.resolve_left (by omega)
              have x0 := hcell j (by omega)
              have hx := BX.out.at_ j
              have hst := val_step xs j (by rw [HN.out]; omega)
              have hlt := val_take_lt xs BX.out j (by rw [HN.out]; omega)
              have hlt7 : 256 ^ j ≤ 256 ^ 7 := Nat.pow_le_pow_right (by omega) (by omega)
              generalize at_ xs j = x at *
              generalize val (xs.take j) = v at *
              have ho := or_step v x hx (by omega)
              rw [← hst] at ho
              have hw : IntKind.u64.wrap ((v : Int) * 256) = (v : Int) * 256 := by rw [IntKind.wrap_u64]; omega
              have hw2 : IntKind.u64.wrap x = x := by rw [IntKind.wrap_u64]; omega
              clear hcell hst
              go_wp2
              go_round
              case rel => exact ⟨j + 1, by omega, rfl, by go_num⟩
              case measure => simp [intOf]; omega
            · have hjk' : ¬ (j : Int) < k := by omega
              obtain rfl : j = k := by omega
              have hlt := val_take_lt xs BX.out j (by rw [HN.out]; omega)
              have hlt8 : 256 ^ j ≤ 256 ^ 8 := Nat.pow_le_pow_right (by omega) (by omega)
              obtain ⟨v, hv0⟩ : ∃ v, val (xs.take j) = v := ⟨_, rfl⟩
              rw [hv0] at hlt ⊢
              have HV := Kept.mk hv0
              clear hv0
              by_cases hv : v ≤ 4611686018427387904
              · have hv' : ¬ (4611686018427387904 : Int) < v := by omega
                have hw : IntKind.i64.wrap (v : Int) = v := by rw [IntKind.wrap_i64]; omega
                have HE := Kept.mk (show decNum (0, xs) (j : Nat) = ((v : Int), (0, xs.drop j)) by
                  rw [decNum_yes xs j (by omega) (by omega) ⟨by rw [HN.out]; exact hl, by rw [HV.out]; exact hv⟩, HV.out])
                go_wp2
                go_ret
                have hbar : Bar [d] w (w.setCell ⟨d, 0, none⟩ (.slice A' (n - j) (c - j))) := (Bar.refl _ _).setCell (by simp) _
                rw [HE.out]
                exact ⟨rfl, De.set (n := n - j) hG hd (by simp [HN.out]) (HB.out.set_ 0 _) hbar R'.out hck hmk (fun F hF => O'.out F (HO.out F hF)), hbar⟩
              · have hv' : (4611686018427387904 : Int) < v := by omega
                have HE := Kept.mk (show decNum (0, xs) (j : Nat) = (0, (2, xs)) from decNum_no xs j (by omega) (by omega) (fun hh => hv (by rw [← HV.out]; exact hh.2)))
                go_wp2
                go_ret
                have hbar : Bar [d] w (w.setCell ⟨d, 1, none⟩ (.int .i64 2)) := (Bar.refl _ _).setCell (by simp) _
                rw [HE.out]
                exact ⟨rfl, De.set (n := n) hG hd HN.out.symm (HB.out.set_ 1 _) hbar HR.out hc hm HO.out, hbar⟩
        · have hl' : (xs.length : Int) < k := by omega
          have HE := Kept.mk (show decNum (0, xs) (k : Nat) = (0, (2, xs)) from decNum_no xs k (by omega) (by omega) (fun hh => hl hh.1))
          clear HD
          go_enter Try.func21, Try.ntmps21
          go_wp2
          go_ret
          have hbar : Bar [d] w (w.setCell ⟨d, 1, none⟩ (.int .i64 2)) := (Bar.refl _ _).setCell (by simp) _
          rw [HE.out]
          exact ⟨rfl, De.set (n := xs.length) hG hd rfl (HB.out.set_ 1 _) hbar HR.out hc hm HO.out, hbar⟩
      · have h1' : ¬ s < 1 := by omega
        have h1d : decide (s < 1) = false := by simpa using h1'
        have h8' : 8 < s := by omega
        have HE := Kept.mk (decNum_size xs s (fun hh => h8 hh.2))
        clear HD
        go_enter Try.func21, Try.ntmps21
        go_wp2
        go_ret
        have hbar : Bar [d] w (w.setCell ⟨d, 1, none⟩ (.int .i64 1)) := (Bar.refl _ _).setCell (by simp) _
        rw [HE.out]
        exact ⟨rfl, De.set (n := xs.length) hG hd rfl (HB.out.set_ 1 _) hbar HR.out hc hm HO.out, hbar⟩
    · have h1' : s < 1 := by omega
      have HE := Kept.mk (decNum_size xs s (fun hh => h1 hh.1))
      clear HD
      go_enter Try.func21, Try.ntmps21
      go_wp2
      go_ret
      have hbar : Bar [d] w (w.setCell ⟨d, 1, none⟩ (.int .i64 1)) := (Bar.refl _ _).setCell (by simp) _
      rw [HE.out]
      exact ⟨rfl, De.set (n := xs.length) hG hd rfl (HB.out.set_ 1 _) hbar HR.out hc hm HO.out, hbar⟩
  · have HE := Kept.mk (decNum_err (err, xs) s he)
    have he2 : (err == 0) = false := by simpa using he
    have he3 : (err != 0) = true := by simpa using he
    go_enter Try.func21, Try.ntmps21
    go_wp2
    go_ret
    rw [HE.out]
    exact ⟨rfl, HD.out, Bar.refl _ _⟩

def rawD (st : St) (k : Nat) : List Int × St := if st.1 = 0 then (if k ≤ st.2.length then (st.2.take k, (0, st.2.drop k)) else ([], (2, st.2))) else ([], st)
def RawPost (d : Nat) (G : List Nat) (st : St) (k : Nat) (w : World) (x : Ending) (w' : World) : Prop :=
  ∃ v, x = .returned v ∧ w'.ownsRow w.heap.size 5 1 v (rawD st k).1.length (ints .u8 (rawD st k).1) ∧ De 42 w' d G (rawD st k).2 ∧ Bar [d] w w'
set_option maxRecDepth 100000 in
set_option maxHeartbeats 1000000 in
theorem rdraw_any (w : World) (d : Nat) (G : List Nat) (k : Nat) (st : St) (h : De 42 w d G st) (hd : d ∉ G) (hl : st.2.length < 2147483648) :
    Calls Try.prog 41 #[.pointer (some ⟨d, 0, none⟩), .int .i64 k] w (RawPost d G st k w) := by
  obtain ⟨err, xs⟩ := st
  have HD := Kept.mk h
  obtain ⟨hG, A, c, hb, hr, hc, hm, ho⟩ := h
  simp only at hb hr hc hm ho hl
  have c0 : w.cell? ⟨d, 0, none⟩ = some (.slice A xs.length c) := hb.cell 0
  have c1 : w.cell? ⟨d, 1, none⟩ = some (.int .i64 err) := hb.cell 1
  have z1 := hb.frozen 1
  have HB := Kept.mk hb; have HR := Kept.mk hr; have HO := Kept.mk ho
  clear hb ho
  have hk0 : ¬ (k : Int) < 0 := by omega
  have hk0d : decide ((k : Int) < 0) = false := decide_eq_false hk0
  by_cases he : err = 0
  · subst he
    by_cases hk : k ≤ xs.length
    · have hk' : ¬ (xs.length : Int) < k := by omega
      have HF := Kept.mk (show rawD (0, xs) k = (xs.take k, (0, xs.drop k)) by unfold rawD; simp only [if_true]; rw [if_pos hk])
      obtain ⟨A1, hs1, r1, -⟩ := slice_h hr hc k hk k rfl
      obtain ⟨A2, hs2, r2, o2⟩ := slice_l hr hc k hk k rfl
      have hcl := Kept.mk (copy_any A1 k c (xs.take k) w r1 (by omega))
      have R2 := Kept.mk r2; have O2 := Kept.mk o2
      have hL1 := Kept.mk r1.1
      have hL2 := Kept.mk r2.1
      have hmk : c - k ≤ 9223372036854775807 := by omega
      have hck : xs.length - k ≤ c - k := by omega
      clear hr r1 r2 o2 HD
      go_enter Try.func41, Try.ntmps41
      go_wp2_with fail
      refine hcl.out.mono ?_
      rintro x w1 ⟨u, rfl, own, b1⟩
      have HB1 := Kept.mk (HB.out.below b1 HB.out.lt)
      have d0 : w1.cell? ⟨d, 0, none⟩ = some (.slice A xs.length c) := HB1.out.cell 0
      have f0 := HB1.out.frozen 0
      have R3 := Kept.mk (R2.out.below b1)
      have OW := Kept.mk own
      have B1 := Kept.mk b1
      clear own b1 hcl R2 HB
      go_wp2
      go_ret
      have hdw : d < w.heap.size := World.block_lt_of_cell? _ _ c0
      have hbar1 : Bar [d] w1 (w1.setCell ⟨d, 0, none⟩ (.slice A2 (xs.length - k) (c - k))) := (Bar.refl _ _).setCell (by simp) _
      refine ⟨u, rfl, ?_⟩
      rw [HF.out]
      simp only [hL1.out]
      refine ⟨own_bar OW.out hbar1 (by simpa using hdw), ?_, ?_⟩
      · exact De.set (n := xs.length - k) (fun k hk => Nat.lt_of_lt_of_le (hG k hk) B1.out.size) hd hL2.out.symm (HB1.out.set_ 0 _) hbar1 R3.out hck hmk (fun F hF => O2.out F (HO.out F hF))
      · exact (barOf B1.out [d]).trans hbar1 (by simp)
    · have hk' : (xs.length : Int) < k := by omega
      have HF := Kept.mk (show rawD (0, xs) k = ([], (2, xs)) by unfold rawD; simp only [if_true]; rw [if_neg hk])
      clear hr HD
      go_enter Try.func41, Try.ntmps41
      go_wp2
      go_ret
      have hbar1 : Bar [d] w (w.setCell ⟨d, 1, none⟩ (.int .i64 2)) := (Bar.refl _ _).setCell (by simp) _
      refine ⟨_, rfl, ?_⟩
      rw [HF.out]
      exact ⟨World.ownsRow_nil _ _ _ _, De.set (n := xs.length) hG hd rfl (HB.out.set_ 1 _) hbar1 HR.out hc hm HO.out, hbar1⟩
  · have HF := Kept.mk (show rawD (err, xs) k = ([], (err, xs)) by unfold rawD; rw [if_neg he])
    have he2 : (err == 0) = false := by simpa using he
    have he3 : (err != 0) = true := by simpa using he
    clear hr
    go_enter Try.func41, Try.ntmps41
    go_wp2
    go_ret
    refine ⟨_, rfl, ?_⟩
    rw [HF.out]
    exact ⟨World.ownsRow_nil _ _ _ _, HD.out, Bar.refl _ _⟩
end Go.Proofs.Ytfjkbggbaoiiiaa.Wire
