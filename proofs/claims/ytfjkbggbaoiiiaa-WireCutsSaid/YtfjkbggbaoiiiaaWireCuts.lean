/-
  The law WireCuts, walked.
-/
import Derived.Test.YtfjkbggbaoiiiaaWireDone
import Derived.Test.YtfjkbggbaoiiiaaWireRd
import Derived.Test.YtfjkbggbaoiiiaaFew
import Derived.Test.YtfjkbggbaoiiiaaCopy
namespace Go.Proofs.Ytfjkbggbaoiiiaa.Wire
open Go.RowKit Go.Proofs.Ytfjkbggbaoiiiaa.Sha

def CutsPost (w : World) (e : Ending) (w' : World) : Prop := e = .returned (.bool true) ∧ Below w.heap.size w w'
theorem reads_is {X : Nat → List Int} {n : Nat} {xs : List Int} {w : World} {t : Bool} {P : Program} {f : FuncId} {args : Array Value} (h : Calls P f args w (ReadsPost X n xs w)) (e : (xs = items (opsT X) 0 (2 * n)) ↔ t = true) : Calls P f args w fun e w' => e = .returned (.bool t) ∧ Below w.heap.size w w' := by
  refine h.mono ?_
  rintro x w' ⟨r, rfl, h1, h2⟩
  refine ⟨?_, h2⟩
  have : r = t := by
    rw [e] at h1
    cases r <;> cases t <;> simp_all
  rw [this]

set_option maxRecDepth 100000 in
set_option maxHeartbeats 2000000 in
theorem wcuts_walk (B : Option Addr) (n cb : Nat) (X : Nat → List Int) (cut : Int) (w : World) (hx : Rws w B n X) : Calls Try.prog 6 #[.slice B n cb, .int .i64 cut] w (CutsPost w) := by
  have HX := Kept.mk hx
  clear hx
  go_enter Try.func6, Try.ntmps6
  go_wp2_with fail
  refine (wfirst_any w).mono ?_
  rintro x w1 ⟨rfl, b1⟩
  have B1 := Kept.mk b1
  clear b1
  go_wp2_with fail
  refine (newenc_any w1).mono ?_
  rintro x w2 ⟨rfl, en1, fp1⟩
  obtain ⟨E, hE⟩ : ∃ E, w1.heap.size = E := ⟨_, rfl⟩
  have hBE : w.heap.size ≤ E := by rw [← hE]; exact B1.out.size
  have B2 := Kept.mk (B1.out.trans (fp1.below (B := w.heap.size) (by simp) B1.out.size))
  rw [hE] at en1 ⊢
  have EN := Kept.mk en1
  clear B1 en1 fp1 hE
  go_wp2_with fail
  refine (fews_any B n cb 20 2000 X w2 (HX.out.below B2.out) (by omega) (by omega)).mono ?_
  rintro x w3 ⟨t, rfl, ht, rfl⟩
  cases t with
  | false =>
    go_wp2_with fail
    refine (wfirst_any w2).mono ?_
    rintro x w9 ⟨rfl, b9⟩
    have B9 := Kept.mk (B2.out.trans (b9.mono B2.out.size))
    clear b9
    go_wp2
    go_ret
    exact ⟨rfl, B9.out⟩
  | true =>
    obtain ⟨hn, hX⟩ := ht rfl
    have HL := Kept.mk hX
    have HOK := Kept.mk (opsT_ok X n hn hX)
    clear ht hX
    go_wp2
    go_loopw [6] (fun i wr => ∃ (k : Nat) (F : List Nat), k ≤ n ∧ i = .int .i64 k ∧ Kept (En 57 wr F E (encAll (opsT X) (2 * k))) ∧ Kept (∀ j ∈ F, w.heap.size ≤ j) ∧ Kept (Below w.heap.size w wr)) (fun i _ => n - (intOf i).toNat)
    case atStart => exact ⟨0, [E], by omega, rfl, EN, ⟨by simpa using hBE⟩, B2⟩
    case round =>
      clear EN B2
      obtain ⟨k, F, hk, rfl, EN, HF, BW⟩ := hrel
      have hlen := encAll_len (opsT X) (2 * k)
      by_cases hkn : k < n
      · have hkn' : (k : Int) < n := by omega
        have hn0 : ¬ n = 0 := by omega
        have hE1 := Kept.mk (show encTxt (encAll (opsT X) (2 * k)) (X k) = encAll (opsT X) (2 * k + 1) by rw [encAll, opsT_txt]; rfl)
        have hE2 := Kept.mk (show encNum (encAll (opsT X) (2 * k + 1)) k 3 = encAll (opsT X) (2 * (k + 1)) by
          rw [show 2 * (k + 1) = 2 * k + 1 + 1 by omega]
          show _ = encOp (encAll (opsT X) (2 * k + 1)) (opsT X (2 * k + 1))
          rw [opsT_num]; rfl)
        have hlen2 := encAll_len (opsT X) (2 * k + 1)
        obtain ⟨b, o, rfl, hc⟩ := HX.out.resolve_left hn0
        obtain ⟨a, l, cl, g3, g4, g5, g6⟩ := hc k hkn
        have x3 : (⟨b, o + k, none⟩ : Addr).block = b := rfl
        have g3' := (BW.out.cell (p := ⟨b, o + k, none⟩) (World.block_lt_of_cell? _ _ g3)).trans g3
        have G6 := Kept.mk (g6.below BW.out)
        have hO := Kept.mk (g6.off HF.out)
        clear hc g3 g6
        go_wp2_with fail
        refine (txt_any wr F E a l cl (X k) _ EN.out G6.out hO.out (by omega)).mono ?_
        rw [hE1.out]
        rintro x w5 ⟨rfl, F5, en5, fp5⟩
        have EN5 := Kept.mk en5
        have HF5 := Kept.mk (fp5.least HF.out BW.out.size)
        have B5 := Kept.mk (BW.out.trans (fp5.below (B := w.heap.size) HF.out BW.out.size))
        clear en5 fp5 EN BW HF G6 hO
        go_wp2_with fail
        refine (num_any w5 F5 E k 3 _ EN5.out (by omega)).mono ?_
        rw [hE2.out]
        rintro x w6 ⟨rfl, F6, en6, fp6⟩
        have EN6 := Kept.mk en6
        have HF6 := Kept.mk (fp6.least HF5.out B5.out.size)
        have B6 := Kept.mk (B5.out.trans (fp6.below (B := w.heap.size) HF5.out B5.out.size))
        clear en6 fp6 EN5 B5 HF5
        go_wp2
        go_roundw
        case rel => exact ⟨k + 1, F6, by omega, by go_num, EN6, HF6, B6⟩
        case measure => simp [intOf]; omega
      · have hkn' : ¬ (k : Int) < n := by omega
        obtain rfl : k = n := by omega
        have hall := encAll_all (opsT X) (2 * k) HOK.out
        rw [hall] at EN
        have hby := Kept.mk (items_bytes (opsT X) 0 (2 * k) (fun j hj => by
          rcases Nat.mod_two_eq_zero_or_one j with h | h
          · obtain ⟨i, rfl⟩ : ∃ i, j = 2 * i := ⟨j / 2, by omega⟩
            rw [opsT_txt]
            obtain ⟨b, o, rfl, hc⟩ := HX.out.resolve_left (by omega)
            obtain ⟨a, l, cl, -, -, -, g6⟩ := hc i (by omega)
            exact g6.2.1
          · obtain ⟨i, rfl⟩ : ∃ i, j = 2 * i + 1 := ⟨j / 2, by omega⟩
            rw [opsT_num]
            intro x hx
            simp at hx))
        have hil := items_len (opsT X) 0 (2 * k) (fun j hj => HOK.out j (by omega))
        obtain ⟨ys, hys⟩ : ∃ ys, items (opsT X) 0 (2 * k) = ys := ⟨_, rfl⟩
        have HY := Kept.mk hys
        rw [hys] at EN hby hil
        clear hall hys hlen HF
        go_wp2_with fail
        refine (done_any wr F E (0, ys) EN.out hby.out (by simp only; omega)).mono ?_
        rintro x w6 ⟨v, rfl, own, b6⟩
        obtain ⟨A6, c6, rfl, hc6, hm6, r6⟩ := own_rd own hby.out
        have R6 := Kept.mk r6
        have B6 := Kept.mk (BW.out.trans (b6.mono BW.out.size))
        clear own r6 b6 BW EN
        simp only at hc6
        have hR := Kept.mk (reads_is (reads_any A6 B ys.length c6 k cb ys X w6 R6.out (HX.out.below B6.out) hn HL.out (by omega)) (t := true) ⟨fun _ => rfl, fun _ => HY.out.symm⟩)
        go_wp2_with fail
        refine hR.out.mono ?_
        rintro x w7 ⟨rfl, b7⟩
        clear hR
        replace R6 := Kept.mk (R6.out.below b7)
        have B7 := Kept.mk (B6.out.trans (b7.mono B6.out.size))
        clear b7 B6
        go_wp2_with fail
        refine (copy_any A6 ys.length c6 ys w7 R6.out (by omega)).mono ?_
        rintro x w8 ⟨v, rfl, own, b8⟩
        have OW := Kept.mk own
        have hsz := b8.size
        have B8 := Kept.mk b8
        clear own b8
        go_wp2_with ((with_reducible refine sel 56 ?_); refine wpList_unguard (by rfl) ?_; refine wpList_append_rd rfl (.tmp 54) (.tmp 55) 27 rfl w7.heap.size 5 Try.underlying27 info_u8 v ys.length _ rfl (OW.out.alloc _) (some ⟨w8.heap.size, 0, none⟩) 1 1 [0] rfl (rd_one w8 0 (by omega)) (by omega) (by simp; omega) ?_; intro v11 w11 o11 g11; have B11 := Kept.mk (own_below (OW.out.alloc (.cells #[.int .u8 0] 5)) g11 (by simp; omega)); clear g11)
        rw [← ints_append] at o11
        obtain ⟨A11, c11, rfl, -, -, r11⟩ := own_rd o11.out (by intro x hx; rcases List.mem_append.1 hx with h | h; exact hby.out x h; rw [List.mem_singleton] at h; omega)
        have b11 : Below w7.heap.size w8 w11 := ((Below.refl _ w8).alloc hsz (.cells #[.int .u8 0] 5)).trans B11.out
        have b711 := B8.out.trans b11
        replace R6 := Kept.mk (R6.out.below b711)
        have B12 := Kept.mk (B7.out.trans (b711.mono B7.out.size))
        clear b11 b711 B11 OW o11 B7 B8
        have hR := Kept.mk (reads_is (reads_any A11 B (ys.length + 1) c11 k cb (ys ++ [0]) X w11 r11 (HX.out.below B12.out) hn HL.out (by omega)) (t := false) ⟨fun h => by
          rw [HY.out] at h
          have := congrArg List.length h
          simp at this, fun h => by cases h⟩)
        clear r11
        go_wp2_with fail
        refine hR.out.mono ?_
        rintro x w12 ⟨rfl, b13⟩
        clear hR
        replace R6 := Kept.mk (R6.out.below b13)
        have B13 := Kept.mk (B12.out.trans (b13.mono B12.out.size))
        clear b13 B12 hsz
        by_cases hc : 0 ≤ cut ∧ cut < ys.length
        · obtain ⟨hc0, hc1⟩ := hc
          have hc2 : ¬ cut < 0 := by omega
          have hc3 : ¬ (ys.length : Int) ≤ cut := by omega
          obtain ⟨t, rfl⟩ : ∃ t : Nat, cut = t := ⟨cut.toNat, by omega⟩
          go_wp2_with fail
          refine (wfirst_any w12).mono ?_
          rintro x w14 ⟨rfl, b14⟩
          replace R6 := Kept.mk (R6.out.below b14)
          have B14 := Kept.mk (B13.out.trans (b14.mono B13.out.size))
          clear b14 B13
          obtain ⟨A', hsl, r', -⟩ := slice_h R6.out hc6 t (by omega) t rfl
          have hR := Kept.mk (reads_is (reads_any A' B t c6 k cb (ys.take t) X w14 r' (HX.out.below B14.out) hn HL.out (by omega)) (t := false) ⟨fun h => by
            rw [HY.out] at h
            have := congrArg List.length h
            rw [List.length_take] at this
            omega, fun h => by cases h⟩)
          clear r'
          go_wp2_with fail
          refine hR.out.mono ?_
          rintro x w15 ⟨rfl, b15⟩
          have B15 := Kept.mk (B14.out.trans (b15.mono B14.out.size))
          clear b15 hR B14
          go_wp2
          go_ret
          exact ⟨rfl, B15.out⟩
        · have hcc : cut < 0 ∨ (0 ≤ cut ∧ (ys.length : Int) ≤ cut) := by omega
          clear hc
          rcases hcc with hc0 | ⟨hc0, hc1⟩
          all_goals
            go_wp2_with fail
            refine (wfirst_any w12).mono ?_
            rintro x w14 ⟨rfl, b14⟩
            have B14 := Kept.mk (B13.out.trans (b14.mono B13.out.size))
            clear b14 B13
            go_wp2
            go_ret
            exact ⟨rfl, B14.out⟩
end Go.Proofs.Ytfjkbggbaoiiiaa.Wire
