/-
  The document's own Dec: Bytes, End; the law WireReads, walked.
-/
import Derived.Test.YtfjkbggbaoiiiaaWireDone
import Derived.Test.YtfjkbggbaoiiiaaWireDec3
import Derived.Test.YtfjkbggbaoiiiaaWireRDec
import Derived.Test.YtfjkbggbaoiiiaaWireOps
import Derived.Deep.RegionHeld3
import Derived.Deep.QuietTactic
import Derived.BigQuiet
namespace Go.Proofs.Ytfjkbggbaoiiiaa.Wire
open Go.RowKit Go.Proofs.Ytfjkbggbaoiiiaa.Sha

theorem own_mono {w : World} {base base' size : Nat} {e : TypeId} {v : Value} {n : Nat} {xs : List Value} (h : w.ownsRow base e size v n xs) (hb : base' ≤ base) : w.ownsRow base' e size v n xs :=
  ⟨h.1, h.2.imp id fun ⟨g, cap, cur, h1, h2, h3⟩ => ⟨g, cap, cur, h1, Nat.le_trans hb h2, h3⟩⟩
/-- the document reads a text in two steps, and takes them back -/
theorem rdtxt_is (st : St) (hb : Bytes st.2) : ∃ k : Nat, (decNum st 2).1 = k ∧ (rawD (decNum st 2).2 k).1 = (decTxt st).1 ∧ (rawD (decNum st 2).2 k).2.1 = (decTxt st).2.1 ∧
    ((rawD (decNum st 2).2 k).2.1 = 0 → (rawD (decNum st 2).2 k).2.2 = (decTxt st).2.2) ∧ ((rawD (decNum st 2).2 k).2.1 ≠ 0 → (decTxt st).2.2 = st.2) ∧ (decNum st 2).2.2.length ≤ st.2.length := by
  obtain ⟨err, xs⟩ := st
  by_cases he : err = 0
  · subst he
    by_cases h2 : 2 ≤ xs.length
    · have hlt := val_take_lt xs hb 2 h2
      have e1 := decNum_yes xs 2 (by omega) (by omega) ⟨h2, by omega⟩
      rw [show ((2 : Nat) : Int) = 2 from rfl] at e1
      refine ⟨val (xs.take 2), ?_⟩
      rw [e1]
      by_cases hok : 2 + val (xs.take 2) ≤ xs.length
      · have e3 : rawD (0, xs.drop 2) (val (xs.take 2)) = ((xs.drop 2).take (val (xs.take 2)), (0, (xs.drop 2).drop (val (xs.take 2)))) := by
          unfold rawD; simp only [if_true]; rw [if_pos (by rw [List.length_drop]; omega)]
        rw [e3, decTxt_ok xs hok]
        exact ⟨rfl, rfl, rfl, fun _ => by rw [List.drop_drop], fun h => absurd rfl h, by simp⟩
      · have e3 : rawD (0, xs.drop 2) (val (xs.take 2)) = ([], (2, xs.drop 2)) := by
          unfold rawD; simp only [if_true]; rw [if_neg (by rw [List.length_drop]; omega)]
        rw [e3, decTxt_no xs hok]
        exact ⟨rfl, rfl, rfl, fun h => by simp at h, fun _ => rfl, by simp⟩
    · have e1 := decNum_no xs 2 (by omega) (by omega) (fun hh => h2 hh.1)
      rw [show ((2 : Nat) : Int) = 2 from rfl] at e1
      refine ⟨0, ?_⟩
      have e3 : rawD (2, xs) 0 = ([], (2, xs)) := by unfold rawD; rw [if_neg (by simp)]
      rw [e1, e3, decTxt_no xs (by omega)]
      exact ⟨rfl, rfl, rfl, fun h => by simp at h, fun _ => rfl, Nat.le_refl _⟩
  · refine ⟨0, ?_⟩
    have e3 : rawD (err, xs) 0 = ([], (err, xs)) := by unfold rawD; rw [if_neg he]
    rw [decNum_err (err, xs) 2 he, e3, decTxt_err (err, xs) he]
    exact ⟨rfl, rfl, rfl, fun h => absurd h he, fun _ => rfl, Nat.le_refl _⟩

set_option maxRecDepth 100000 in
set_option maxHeartbeats 1000000 in
theorem rdtxt_any (w : World) (d : Nat) (G : List Nat) (st : St) (h : De 42 w d G st) (hd : d ∉ G) (hl : st.2.length < 2147483648) :
    Calls Try.prog 23 #[.pointer (some ⟨d, 0, none⟩)] w (TxtPost 42 d G st w) := by
  obtain ⟨k, q1, q2, q3, q4, q5, q6⟩ := rdtxt_is st h.bytes
  have cn := Kept.mk (rdnum_any w d G 2 st h hd)
  rw [q1] at cn
  obtain ⟨hG, A, c, hb, hr, hc, hm, ho⟩ := h
  have c0 : w.cell? ⟨d, 0, none⟩ = some (.slice A st.2.length c) := hb.cell 0
  have HR := Kept.mk hr; have HO := Kept.mk ho
  have Q2 := Kept.mk q2; have Q3 := Kept.mk q3; have Q4 := Kept.mk q4; have Q5 := Kept.mk q5
  obtain ⟨st1, hst1⟩ : ∃ st1, (decNum st 2).2 = st1 := ⟨_, rfl⟩
  rw [hst1] at cn Q2 Q3 Q4 Q5 q6
  clear hb hr ho q1 q2 q3 q4 q5 hst1
  go_enter Try.func23, Try.ntmps23
  go_wp2_with fail
  refine cn.out.mono ?_
  rintro x w1 ⟨rfl, de, bd⟩
  have DE := Kept.mk de; have BD := Kept.mk bd
  clear de bd cn
  go_wp2_with fail
  refine (rdraw_any w1 d G k st1 DE.out hd (by omega)).mono ?_
  rintro x w2 ⟨v, rfl, own, de, bd⟩
  rw [Q2.out] at own
  obtain ⟨st2, hst2⟩ : ∃ st2, (rawD st1 k).2 = st2 := ⟨_, rfl⟩
  rw [hst2] at de Q3 Q4 Q5
  obtain ⟨hG2, A2, c2, hb2, hr2, hc2, hm2, ho2⟩ := de
  have d1 : w2.cell? ⟨d, 1, none⟩ = some (.int .i64 st2.1) := hb2.cell 1
  have d0 := hb2.cell 0
  have z0 := hb2.frozen 0
  have HB2 := Kept.mk hb2; have HR2 := Kept.mk hr2; have HO2 := Kept.mk ho2
  have OW := Kept.mk own
  have BD2 := Kept.mk (BD.out.trans bd (by simp))
  have hs1 := BD.out.size
  have hwd : d < w.heap.size := World.block_lt_of_cell? _ _ c0
  clear own bd hb2 hr2 ho2 DE BD hst2
  by_cases h0 : st2.1 = 0
  · have e1 := Kept.mk (show (decTxt st).2 = st2 from Prod.ext (by rw [← Q3.out]) (by rw [← Q4.out h0]))
    rw [h0] at d1
    go_wp2
    go_ret
    refine ⟨v, rfl, ?_, ?_, BD2.out⟩
    · exact (own_mono OW.out hs1)
    · rw [e1.out]
      exact ⟨hG2, A2, c2, HB2.out, HR2.out, hc2, hm2, HO2.out⟩
  · have e1 := Kept.mk (show (decTxt st).2 = (st2.1, st.2) from Prod.ext (by rw [← Q3.out]) (by rw [Q5.out h0]))
    have h0b : (st2.1 != 0) = true := by simpa using h0
    clear h0
    generalize st2.1 = e2 at *
    go_wp2
    go_ret
    have hbar : Bar [d] w2 (w2.setCell ⟨d, 0, none⟩ (.slice A st.2.length c)) := (Bar.refl _ _).setCell (by simp) _
    have hbw := BD2.out.trans hbar (by simp)
    refine ⟨v, rfl, ?_, ?_, hbw⟩
    · exact own_mono (own_bar OW.out hbar (by simp; omega)) hs1
    · rw [e1.out]
      exact De.set (n := st.2.length) (w := w) hG hd rfl (HB2.out.set_ 0 _) hbw HR.out hc hm HO.out
set_option maxHeartbeats 400000 in
theorem rdend_any (w : World) (d : Nat) (G : List Nat) (st : St) (h : De 42 w d G st) :
    Calls Try.prog 27 #[.pointer (some ⟨d, 0, none⟩)] w fun x w' => x = .returned (.int .i64 (endOf st)) ∧ w = w' := by
  obtain ⟨err, xs⟩ := st
  obtain ⟨-, A, c, hb, -⟩ := h
  have c0 : w.cell? ⟨d, 0, none⟩ = some (.slice A xs.length c) := hb.cell 0
  have c1 : w.cell? ⟨d, 1, none⟩ = some (.int .i64 err) := hb.cell 1
  clear hb
  by_cases he : err = 0
  · subst he
    by_cases hl : xs.length = 0
    · have hl' : ¬ (0 : Int) < xs.length := by omega
      have HE := Kept.mk (show endOf (0, xs) = 0 by unfold endOf; simp [hl])
      generalize xs.length = n at *
      go_enter Try.func27, Try.ntmps27
      go_wp2
      go_ret
      exact ⟨by rw [HE.out]; rfl, rfl⟩
    · have hl' : (0 : Int) < xs.length := by omega
      have HE := Kept.mk (show endOf (0, xs) = 2 by unfold endOf; simp only [if_true]; rw [if_neg hl])
      generalize xs.length = n at *
      go_enter Try.func27, Try.ntmps27
      go_wp2
      go_ret
      exact ⟨by rw [HE.out]; rfl, rfl⟩
  · have HE := Kept.mk (show endOf (err, xs) = err by unfold endOf; rw [if_neg he])
    have he2 : (err == 0) = false := by simpa using he
    go_enter Try.func27, Try.ntmps27
    go_wp2
    go_ret
    exact ⟨by rw [HE.out]; rfl, rfl⟩

/-- the block that an argument's bytes lie in -/
theorem arg_block {w : World} {A : Option Addr} {n : Nat} {xs : List Int} (r : Rd w A n xs) : ∃ G : List Nat, (∀ k ∈ G, k < w.heap.size) ∧ ∀ F : List Nat, Disj G F → Off A n F := by
  rcases r.2.2 with h0 | ⟨b, o, rfl, hc⟩
  · exact ⟨[], by simp, fun F _ => .inl h0⟩
  · by_cases h0 : n = 0
    · exact ⟨[], by simp, fun F _ => .inl h0⟩
    · exact ⟨[b], by
        intro k hk
        rw [List.mem_singleton] at hk
        subst hk
        exact World.block_lt_of_cell? _ _ (hc 0 (by omega)), fun F hF => .inr ⟨b, o, rfl, hF b (by simp)⟩⟩
def ReadsLPost (w : World) (e : Ending) (w' : World) : Prop := e = .returned (.bool true) ∧ Below w.heap.size w w'

set_option maxRecDepth 100000 in
set_option maxHeartbeats 2000000 in
theorem wreads_walk (A0 : Option Addr) (m c0 : Nat) (xs : List Int) (A : Option Addr) (n c : Nat) (X : Nat → OpV) (w : World) (hr0 : Rd w A0 m xs) (hc0 : m ≤ c0) (hm0 : c0 ≤ 9223372036854775807) (hr : Ops w A n X) :
    Calls Try.prog 4 #[.slice A0 m c0, .slice A n c] w (ReadsLPost w) := by
  have HR := Kept.mk hr
  have R0 := Kept.mk hr0
  have LM := hr0.1
  clear hr hr0
  by_cases hbig : m ≤ 2000 ∧ n ≤ 200
  · obtain ⟨hm, hn⟩ := hbig
    have hm' : ¬ (2000 : Int) < m := by omega
    have hn' : ¬ (200 : Int) < n := by omega
    go_enter Try.func4, Try.ntmps4
    go_wp2_with fail
    refine (wfirst_any w).mono ?_
    rintro x w1 ⟨rfl, b1⟩
    have B1 := Kept.mk b1
    clear b1
    go_wp2_with fail
    refine (newdec_any A0 m c0 xs w1 (R0.out.below B1.out) (by omega)).mono ?_
    rintro x w2 ⟨d, G, rfl, de, hd1, hd2, hd3, b2⟩
    have hGl := de.1
    have hdl := de.lt
    have DE := Kept.mk de
    have B2 := Kept.mk (B1.out.trans (b2.mono B1.out.size))
    have hs1 := B1.out.size
    have hs2 := b2.size
    have hdB : w.heap.size ≤ d := by omega
    clear de b2 B1
    obtain ⟨GA, hGA, hOA⟩ := arg_block R0.out
    obtain ⟨R, hR⟩ : ∃ R, w2.heap.size = R := ⟨_, rfl⟩
    subst LM
    have RE : Kept (De 42 (w2.alloc (.cells #[.slice A0 xs.length c0, .int .i64 0] 42)) R GA (0, xs)) := by
      refine ⟨fun k hk => ?_, A0, c0, Blk.new_at _ _ _ R hR.symm, ?_, hc0, hm0, hOA⟩
      · have := hGA k hk; simp; omega
      · exact R0.out.below (B2.out.alloc B2.out.size _)
    replace DE := Kept.mk (DE.out.below ((Below.refl _ w2).alloc (Nat.le_refl _) (.cells #[.slice A0 xs.length c0, .int .i64 0] 42)))
    replace B2 := Kept.mk (B2.out.alloc B2.out.size (.cells #[.slice A0 xs.length c0, .int .i64 0] 42))
    have hRG : R ∉ GA := fun hk => by have := hGA R hk; omega
    have hdR : d ∉ [R] := by simp; omega
    have hRd : R ∉ [d] := by simp; omega
    have hGR : Disj G [R] := fun k hk hk2 => by rw [List.mem_singleton] at hk2; have := hGl k hk; omega
    have hGAd : Disj GA [d] := fun k hk hk2 => by rw [List.mem_singleton] at hk2; have := hGA k hk; omega
    have hRB : w.heap.size ≤ R := by omega
    go_wp2
    generalize w2.alloc (.cells #[.slice A0 xs.length c0, .int .i64 0] 42) = w3 at *
    clear hR hGl hdl hs2
    go_loopw [7] (fun i wr => ∃ (k : Nat) (st : St), k ≤ n ∧ i = .int .i64 k ∧ st.2.length ≤ 2000 ∧ Kept (De 62 wr d G st) ∧ Kept (De 42 wr R GA st) ∧ Kept (Below w.heap.size w wr)) (fun i _ => n - (intOf i).toNat)
    case atStart => exact ⟨0, (0, xs), by omega, rfl, by simpa using hm, DE, RE, B2⟩
    case round =>
      clear DE RE B2
      obtain ⟨k, st, hk, rfl, hlen, DE, RE, BW⟩ := hrel
      by_cases hkn : k < n
      · have hkn' : (k : Int) < n := by omega
        obtain ⟨b, o, rfl, hc⟩ := (HR.out.below BW.out).resolve_left (by omega)
        obtain ⟨g0, g1, g2, a, l, c2, g3, g4, g5, g6⟩ := hc k hkn
        have hbB := HR.out.block (by omega)
        have hbd : b ∉ [d] := by simp; omega
        have hbR : b ∉ [R] := by simp; omega
        by_cases hkd : (X k).kind = 0
        · rw [hkd] at g0
          clear hc g1 g3 g6
          generalize (X k).size = zs at *
          have cn := Kept.mk fun w' (D : De 62 w' d G st) => dnum_any w' d G zs st D hd3
          have cr := Kept.mk fun w' (D : De 42 w' R GA st) => rdnum_any w' R GA zs st D hRG
          have hl2 := decNum_len st zs
          obtain ⟨nv, hnv⟩ : ∃ nv, (decNum st zs).1 = nv := ⟨_, rfl⟩
          obtain ⟨st2, hst2⟩ : ∃ st2, (decNum st zs).2 = st2 := ⟨_, rfl⟩
          rw [hnv, hst2] at cn cr
          rw [hst2] at hl2
          clear hnv hst2
          go_wp2_with fail
          go_region_held3 (fun w' => w'.cell? ⟨b, o + k * 4 + 2, none⟩ = some (.int .i64 zs))
            (first
              | go_keep
              | exact cell_bar (cell_bar g2 bd.drewL hbd) bd2 hbR
              | exact cell_bar g2 bd.drewL hbd)
            (first
              | (go_at_call 20; refine (cn.out wr.drew DE.out).mono ?_; rintro x w5 ⟨rfl, de, bd⟩)
              | (go_at_call 21; refine (cr.out w5 ((show De 42 wr.drew R GA st from RE.out).keep bd hRd hGAd)).mono ?_; rintro x w6 ⟨rfl, re, bd2⟩))
          have D6 := Kept.mk (de.keep bd2 hdR hGR)
          have R6 := Kept.mk re
          have b5 := BW.out.drew.trans (bd.below (B := w.heap.size) BW.out.drew.size (by simpa using hdB))
          have B6 := Kept.mk (b5.trans (bd2.below (B := w.heap.size) b5.size (by simpa using hRB)))
          clear de re bd bd2 b5 DE RE BW cn cr
          obtain ⟨-, Ar, cr2, hbr, -⟩ := R6.out
          have f0 : w6.cell? ⟨R, 0, none⟩ = some (.slice Ar st2.2.length cr2) := hbr.cell 0
          have f1 : w6.cell? ⟨R, 1, none⟩ = some (.int .i64 st2.1) := hbr.cell 1
          have hl3 : st2.2.length ≤ 2000 := by omega
          clear hbr
          go_wp2
          go_quiet ((first
            | (go_at_call 24; exact Calls.quiet_of_same (still_of (left_any _ d G st2 D6.out)))
            | (go_at_call 25; exact Calls.quiet_of_same (still_of (err_any _ d G st2 D6.out)))))
          replace B6 : Kept (Below w.heap.size w (w6.drewN nq)) := ⟨below_drewN B6.out _⟩
          replace D6 : Kept (De 62 (w6.drewN nq) d G st2) := ⟨D6.out⟩
          replace R6 : Kept (De 42 (w6.drewN nq) R GA st2) := ⟨R6.out⟩
          clear f0 f1
          generalize w6.drewN nq = wq at *
          go_wp2
          go_roundw
          case rel => exact ⟨k + 1, st2, by omega, by go_num, hl3, D6, R6, B6⟩
          case measure => simp [intOf]; omega
        · have hby := Kept.mk (decTxt_bytes st DE.out.bytes).2
          have hl2 := decTxt_len st
          clear hc g1 g2 g3 g6
          generalize (X k).kind = zk at *
          have hz : (zk == 0) = false := by simpa using hkd
          have ct := Kept.mk (dtxt_any wr d G st DE.out hd3 (by omega))
          have cr := Kept.mk fun w' (D : De 42 w' R GA st) => rdtxt_any w' R GA st D hRG (by omega)
          unfold TxtPost at ct cr
          obtain ⟨ys, hys⟩ : ∃ ys, (decTxt st).1 = ys := ⟨_, rfl⟩
          obtain ⟨st2, hst2⟩ : ∃ st2, (decTxt st).2 = st2 := ⟨_, rfl⟩
          rw [hys, hst2] at ct cr
          rw [hst2] at hl2
          rw [hys] at hby
          clear hys hst2
          go_wp2_with fail
          refine ct.out.mono ?_
          rintro x w5 ⟨v, rfl, own, de, bd⟩
          obtain ⟨A5, c5, rfl, -, -, r5⟩ := own_rd own hby.out
          have hO5 : Off A5 ys.length [R] := own_off own (fun k hk hk2 => by
            have := (own.lt k (by simpa using hk)).1
            rw [List.mem_singleton] at hk2
            have := RE.out.lt
            omega)
          have D5 := Kept.mk de
          have R5 := Kept.mk (RE.out.keep bd hRd hGAd)
          have Y5 := Kept.mk r5
          have B5 := Kept.mk (BW.out.trans (bd.below (B := w.heap.size) BW.out.size (by simpa using hdB)))
          clear own de bd r5 DE RE BW ct g0
          go_wp2_with fail
          refine (cr.out w5 R5.out).mono ?_
          rintro x w6 ⟨v, rfl, own, re, bd2⟩
          obtain ⟨A6, c6, rfl, -, -, r6⟩ := own_rd own hby.out
          have D6 := Kept.mk (D5.out.keep bd2 hdR hGR)
          have R6 := Kept.mk re
          have Y6 := Kept.mk (Y5.out.far bd2 hO5)
          have Z6 := Kept.mk r6
          have B6 := Kept.mk (B5.out.trans (bd2.below (B := w.heap.size) B5.out.size (by simpa using hRB)))
          clear own re bd2 r6 D5 R5 Y5 B5 cr
          go_wp2_with fail
          refine (bytes_same A5 A6 _ _ c5 c6 ys w6 Y6.out Z6.out).mono ?_
          rintro x w7 ⟨rfl, rfl⟩
          clear Y6 Z6
          obtain ⟨-, Ar, cr2, hbr, -⟩ := R6.out
          have f0 : w6.cell? ⟨R, 0, none⟩ = some (.slice Ar st2.2.length cr2) := hbr.cell 0
          have f1 : w6.cell? ⟨R, 1, none⟩ = some (.int .i64 st2.1) := hbr.cell 1
          have hl3 : st2.2.length ≤ 2000 := by omega
          clear hbr
          go_wp2
          go_quiet ((first
            | (go_at_call 24; exact Calls.quiet_of_same (still_of (left_any _ d G st2 D6.out)))
            | (go_at_call 25; exact Calls.quiet_of_same (still_of (err_any _ d G st2 D6.out)))))
          replace B6 : Kept (Below w.heap.size w (w6.drewN nq)) := ⟨below_drewN B6.out _⟩
          replace D6 : Kept (De 62 (w6.drewN nq) d G st2) := ⟨D6.out⟩
          replace R6 : Kept (De 42 (w6.drewN nq) R GA st2) := ⟨R6.out⟩
          clear f0 f1
          generalize w6.drewN nq = wq at *
          go_wp2
          go_roundw
          case rel => exact ⟨k + 1, st2, by omega, by go_num, hl3, D6, R6, B6⟩
          case measure => simp [intOf]; omega
      · have hkn' : ¬ (k : Int) < n := by omega
        obtain rfl : k = n := by omega
        go_wp2_with fail
        refine (wfirst_any wr).mono ?_
        rintro x w8 ⟨rfl, b8⟩
        replace DE := Kept.mk (DE.out.below b8)
        replace RE := Kept.mk (RE.out.below b8)
        have B8 := Kept.mk (BW.out.trans (b8.mono BW.out.size))
        clear b8 BW
        go_wp2_with fail
        refine (end_any w8 d G st DE.out).mono ?_
        rintro x w9 ⟨rfl, rfl⟩
        go_wp2_with fail
        refine (rdend_any w8 R GA st RE.out).mono ?_
        rintro x w9 ⟨rfl, rfl⟩
        go_wp2
        go_ret
        exact ⟨rfl, B8.out⟩
  · have hb2 : 2000 < m ∨ (m ≤ 2000 ∧ 200 < n) := by omega
    clear hbig
    rcases hb2 with hm | ⟨hm, hn⟩
    · have hm' : (2000 : Int) < m := by omega
      go_enter Try.func4, Try.ntmps4
      go_wp2_with fail
      refine (wfirst_any w).mono ?_
      rintro x w1 ⟨rfl, b1⟩
      have B1 := Kept.mk b1
      clear b1
      go_wp2_with fail
      refine (wfirst_any w1).mono ?_
      rintro x w2 ⟨rfl, b2⟩
      have B2 := Kept.mk (B1.out.trans (b2.mono B1.out.size))
      clear b2
      go_wp2
      go_ret
      exact ⟨rfl, B2.out⟩
    · have hm' : ¬ (2000 : Int) < m := by omega
      have hn' : (200 : Int) < n := by omega
      go_enter Try.func4, Try.ntmps4
      go_wp2_with fail
      refine (wfirst_any w).mono ?_
      rintro x w1 ⟨rfl, b1⟩
      have B1 := Kept.mk b1
      clear b1
      go_wp2_with fail
      refine (wfirst_any w1).mono ?_
      rintro x w2 ⟨rfl, b2⟩
      have B2 := Kept.mk (B1.out.trans (b2.mono B1.out.size))
      clear b2
      go_wp2
      go_ret
      exact ⟨rfl, B2.out⟩
end Go.Proofs.Ytfjkbggbaoiiiaa.Wire
