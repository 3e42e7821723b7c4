/-
  The law WireErrs, walked.
-/
import Derived.Test.YtfjkbggbaoiiiaaWireDone
import Derived.Test.YtfjkbggbaoiiiaaWireFits
import Derived.Test.YtfjkbggbaoiiiaaWireDec3
namespace Go.Proofs.Ytfjkbggbaoiiiaa.Wire
open Go.RowKit Go.Proofs.Ytfjkbggbaoiiiaa.Sha

theorem bytes_one (x : Int) (h : 0 ≤ x ∧ x ≤ 255) : Bytes [x] := by
  intro y hy
  rw [List.mem_singleton] at hy
  omega
theorem bytes_123 : Bytes [1, 2, 3] := by
  intro x hx
  simp only [List.mem_cons, List.not_mem_nil, or_false] at hx
  omega
theorem enc_step {Td : TypeId} {w w' : World} {F F' G : List Nat} {d : Nat} {st : St} (h : De Td w d G st) (D : Disj F (d :: G)) (fp : Fp F F' w w') : De Td w' d G st ∧ Disj F' (d :: G) :=
  ⟨h.keep fp.1 (fun hd => D d hd (List.mem_cons_self ..)) (fun k hk hf => D k hf (List.mem_cons_of_mem _ hk)), D.step fp h.lts⟩
theorem dec_step {Te : TypeId} {w w' : World} {F G : List Nat} {e d : Nat} {st : St} (h : En Te w F e st) (D : Disj F (d :: G)) (b : Bar [d] w w') : En Te w' F e st :=
  h.keep b (fun k hk hd => D k hk (by rw [List.mem_singleton] at hd; subst hd; exact List.mem_cons_self ..))
def ErrsPost (w : World) (e : Ending) (w' : World) : Prop := e = .returned (.bool true) ∧ Below w.heap.size w w'

/-- the law's own reckoning, and what Done says: both ways -/
theorem errs_rest (n s : Int) (ok : Bool) (hok : ok = fits n s) : ∃ (err : Int) (ys : List Int), encTxt (encNum (0, [1]) n s) [9] = (err, ys) ∧ Bytes ys ∧ ys.length < 2147483648 ∧ (encNum (0, [1]) n s).2.length ≤ 9 ∧
    ((ok = true ∧ err = 0 ∧ (ys.length : Int) = 1 + s + 3) ∨ (ok = false ∧ err = 1 ∧ ys.length = 0)) := by
  cases hf : fits n s with
  | true =>
    obtain ⟨-, -, h1, h8, -⟩ := fits_be hf
    have e2 : encNum (0, [1]) n s = (0, [1] ++ be n.toNat s.toNat) := by unfold encNum; simp [hf]
    rw [e2]
    refine ⟨0, ([1] ++ be n.toNat s.toNat) ++ [0, 1, 9], rfl, ?_, ?_, ?_, .inl ⟨by rw [hok, hf], rfl, ?_⟩⟩
    · exact ((bytes_one 1 (by omega)).append (be_bytes _ _)).append (by intro x hx; simp only [List.mem_cons, List.not_mem_nil, or_false] at hx; omega)
    · simp only [List.length_append, be_len, List.length_cons, List.length_nil]; omega
    · simp only [List.length_append, be_len, List.length_cons, List.length_nil]; omega
    · simp only [List.length_append, be_len, List.length_cons, List.length_nil]; omega
  | false =>
    have e2 : encNum (0, [1]) n s = (1, []) := by unfold encNum; simp [hf]
    rw [e2]
    exact ⟨1, [], rfl, fun x hx => by simp at hx, by simp, by simp, .inr ⟨by rw [hok, hf], rfl, rfl⟩⟩

set_option maxRecDepth 100000 in
set_option maxHeartbeats 1000000 in
theorem werrs_in (n s : Int) (w : World) (h1 : 1 ≤ s) (h8 : s ≤ 8) (h0 : 0 ≤ n) (hm : n ≤ 4611686018427387904) (hu : IntKind.u64.wrap (8 * s) = 8 * s) (hi : IntKind.i64.wrap (8 * s) = 8 * s)
    (HQ : Kept ((s == 8 || decide (n < wrap64 (2 ^ (8 * s).toNat))) = fits n s)) : Calls Try.prog 7 #[.int .i64 n, .int .i64 s] w (ErrsPost w) := by
  have e1 := Kept.mk (show encNum (0, []) 1 1 = (0, [1]) by decide +kernel)
  have d1 := Kept.mk (show decNum (0, [1, 2, 3]) 5 = (0, (2, [1, 2, 3])) by decide +kernel)
  have d2 := Kept.mk (show decNum (2, [1, 2, 3]) 1 = (0, (2, [1, 2, 3])) by decide +kernel)
  have d3 := Kept.mk (show decTxt (2, [1, 2, 3]) = ([], (2, [1, 2, 3])) by decide +kernel)
  have d4 := Kept.mk (show endOf (2, [1, 2, 3]) = 2 by decide +kernel)
  obtain ⟨err, ys, y1, y2, h3, h4, h5⟩ := errs_rest n s (fits n s) rfl
  have Y1 := Kept.mk y1; have Y2 := Kept.mk y2
  clear y1 y2
  have hw1 : IntKind.i64.wrap (1 + s) = 1 + s := by rw [IntKind.wrap_i64]; omega
  have hw2 : IntKind.i64.wrap (1 + s + 3) = 1 + s + 3 := by rw [IntKind.wrap_i64]; omega
  by_cases h9 : s = 8
  · subst h9
    have hf : fits n 8 = true := by
      rw [← HQ.out]; rfl
    rcases h5 with ⟨-, rfl, hl⟩ | ⟨hf2, -, -⟩
    · clear HQ
      go_enter Try.func7, Try.ntmps7
      go_wp2_with fail
      refine (wfirst_any w).mono ?_
      rintro x w1 ⟨rfl, b⟩
      have B1 := Kept.mk b
      clear b
      go_wp2_with fail
      refine (newenc_any w1).mono ?_
      rintro x w2 ⟨rfl, en, fp⟩
      obtain ⟨E, hE⟩ : ∃ E, w1.heap.size = E := ⟨_, rfl⟩
      have hBE : w.heap.size ≤ E := by rw [← hE]; exact B1.out.size
      have B2 := Kept.mk (B1.out.trans (fp.below (B := w.heap.size) (by simp) B1.out.size))
      rw [hE] at en ⊢
      have hE2 : E < w2.heap.size := en.lt E (by simp)
      have EN := Kept.mk en
      clear B1 en fp hE
      have hL := rd_lit w2 [1, 2, 3] bytes_123
      replace EN := Kept.mk (EN.out.below ((Below.refl _ w2).alloc (Nat.le_refl _) (.cells (arr .u8 [1, 2, 3]) 5)))
      replace B2 := Kept.mk (B2.out.alloc B2.out.size (.cells (arr .u8 [1, 2, 3]) 5))
      go_wp2_with fail
      refine (newdec_any _ 3 3 [1, 2, 3] _ hL (by omega)).mono ?_
      rintro x w3 ⟨d, G, rfl, de, hd1, hd2, hd3, b3⟩
      replace EN := Kept.mk (EN.out.below b3)
      have DE := Kept.mk de
      have B3 := Kept.mk (B2.out.trans (b3.mono B2.out.size))
      have hBd : w.heap.size ≤ d := Nat.le_trans B2.out.size hd1
      have hsz : (w2.alloc (.cells (arr .u8 [1, 2, 3]) 5)).heap.size = w2.heap.size + 1 := by simp
      have D3 : Kept (Disj [E] (d :: G)) := ⟨by
        intro k hk hk2
        rw [List.mem_singleton] at hk
        subst hk
        rcases List.mem_cons.1 hk2 with rfl | hk2
        · omega
        · have := (hd2 _ hk2).1; omega⟩
      clear b3 de B2 hL hd1 hd2 hsz
      go_wp2_with fail
      refine (num_any w3 [E] E 1 1 (0, []) EN.out (by simp)).mono ?_
      rw [e1.out]
      rintro x w4 ⟨rfl, F4, en4, fp4⟩
      replace EN := Kept.mk en4
      have hF4 : ∀ k ∈ F4, w.heap.size ≤ k := fp4.least (by simpa using hBE) B3.out.size
      have B4 := Kept.mk (B3.out.trans (fp4.below (B := w.heap.size) (by simpa using hBE) B3.out.size))
      obtain ⟨de4, D4⟩ := enc_step DE.out D3.out fp4
      replace DE := Kept.mk de4
      replace D4 := Kept.mk D4
      clear en4 fp4 de4 D3 B3
      go_wp2_with fail
      refine (num_any w4 F4 E n _ (0, [1]) EN.out (by simp)).mono ?_
      rintro x w5 ⟨rfl, F5, en5, fp5⟩
      replace EN := Kept.mk en5
      have hF5 : ∀ k ∈ F5, w.heap.size ≤ k := fp5.least hF4 B4.out.size
      have B5 := Kept.mk (B4.out.trans (fp5.below (B := w.heap.size) hF4 B4.out.size))
      obtain ⟨de5, D5⟩ := enc_step DE.out D4.out fp5
      replace DE := Kept.mk de5
      replace D5 := Kept.mk D5
      clear en5 fp5 de5 D4 B4
      have hL := rd_lit w5 [9] (bytes_one 9 (by omega))
      have hO : Off (some ⟨w5.heap.size, 0, none⟩) 1 F5 := .inr ⟨_, _, rfl, fun hk => by have := EN.out.lt _ hk; omega⟩
      have al : Below w5.heap.size w5 (w5.alloc (.cells (arr .u8 [9]) 5)) := (Below.refl _ w5).alloc (Nat.le_refl _) _
      replace EN := Kept.mk (EN.out.below al)
      replace DE := Kept.mk (DE.out.below al)
      replace B5 := Kept.mk (B5.out.trans (al.mono B5.out.size))
      clear al
      go_wp2_with fail
      refine (txt_any _ F5 E (some ⟨w5.heap.size, 0, none⟩) 1 1 [9] _ EN.out hL hO (by omega)).mono ?_
      rw [Y1.out]
      rintro x w6 ⟨rfl, F6, en6, fp6⟩
      replace EN := Kept.mk en6
      have B6 := Kept.mk (B5.out.trans (fp6.below (B := w.heap.size) hF5 B5.out.size))
      obtain ⟨de6, D6⟩ := enc_step DE.out D5.out fp6
      replace DE := Kept.mk de6
      clear en6 fp6 de6 D6 D5 B5 hL hO
      go_wp2_with fail
      refine (done_any w6 F6 E (_, ys) EN.out Y2.out h3).mono ?_
      rintro x w7 ⟨v, rfl, own, b7⟩
      obtain ⟨A7, c7, rfl, -, -, -⟩ := own_rd own Y2.out
      replace DE := Kept.mk (DE.out.below b7)
      have B7 := Kept.mk (B6.out.trans (b7.mono B6.out.size))
      clear own b7 B6 EN
      go_wp2_with fail
      refine (dnum_any w7 d G 5 (0, [1, 2, 3]) DE.out hd3).mono ?_
      rw [d1.out]
      rintro x w8 ⟨rfl, de8, b8⟩
      have B8 := Kept.mk (B7.out.trans (b8.below B7.out.size (by simpa using hBd)))
      replace DE := Kept.mk de8
      clear de8 b8 B7
      go_wp2_with fail
      refine (dnum_any w8 d G 1 (2, [1, 2, 3]) DE.out hd3).mono ?_
      rw [d2.out]
      rintro x w9 ⟨rfl, de9, b9⟩
      have B9 := Kept.mk (B8.out.trans (b9.below B8.out.size (by simpa using hBd)))
      replace DE := Kept.mk de9
      clear de9 b9 B8
      go_wp2_with fail
      refine (wfirst_any w9).mono ?_
      rintro x w10 ⟨rfl, b10⟩
      replace DE := Kept.mk (DE.out.below b10)
      have B10 := Kept.mk (B9.out.trans (b10.mono B9.out.size))
      clear b10 B9
      go_wp2_with fail
      refine (err_any w10 d G (2, [1, 2, 3]) DE.out).mono ?_
      rintro x w11 ⟨rfl, rfl⟩
      go_wp2_with fail
      refine (left_any w10 d G (2, [1, 2, 3]) DE.out).mono ?_
      rintro x w11 ⟨rfl, rfl⟩
      go_wp2_with fail
      refine (end_any w10 d G (2, [1, 2, 3]) DE.out).mono ?_
      rw [d4.out]
      rintro x w11 ⟨rfl, rfl⟩
      go_wp2_with fail
      refine (dtxt_any w10 d G (2, [1, 2, 3]) DE.out hd3 (by simp)).mono ?_
      rintro x w11 ⟨v, rfl, own, de11, b11⟩
      rw [d3.out] at own
      obtain ⟨A11, c11, rfl⟩ := own_shape own
      have B11 := Kept.mk (B10.out.trans (b11.below B10.out.size (by simpa using hBd)))
      clear own de11 b11 B10 DE
      go_wp2
      go_ret
      exact ⟨rfl, B11.out⟩
    · rw [hf] at hf2; cases hf2
  rcases h5 with ⟨hf, rfl, hl⟩ | ⟨hf, rfl, hl⟩
  · rw [hf] at HQ
    go_enter Try.func7, Try.ntmps7
    go_wp2_with fail
    refine (wfirst_any w).mono ?_
    rintro x w1 ⟨rfl, b⟩
    have B1 := Kept.mk b
    clear b
    go_wp2_with fail
    refine (newenc_any w1).mono ?_
    rintro x w2 ⟨rfl, en, fp⟩
    obtain ⟨E, hE⟩ : ∃ E, w1.heap.size = E := ⟨_, rfl⟩
    have hBE : w.heap.size ≤ E := by rw [← hE]; exact B1.out.size
    have B2 := Kept.mk (B1.out.trans (fp.below (B := w.heap.size) (by simp) B1.out.size))
    rw [hE] at en ⊢
    have hE2 : E < w2.heap.size := en.lt E (by simp)
    have EN := Kept.mk en
    clear B1 en fp hE
    have hL := rd_lit w2 [1, 2, 3] bytes_123
    replace EN := Kept.mk (EN.out.below ((Below.refl _ w2).alloc (Nat.le_refl _) (.cells (arr .u8 [1, 2, 3]) 5)))
    replace B2 := Kept.mk (B2.out.alloc B2.out.size (.cells (arr .u8 [1, 2, 3]) 5))
    go_wp2_with fail
    refine (newdec_any _ 3 3 [1, 2, 3] _ hL (by omega)).mono ?_
    rintro x w3 ⟨d, G, rfl, de, hd1, hd2, hd3, b3⟩
    replace EN := Kept.mk (EN.out.below b3)
    have DE := Kept.mk de
    have B3 := Kept.mk (B2.out.trans (b3.mono B2.out.size))
    have hBd : w.heap.size ≤ d := Nat.le_trans B2.out.size hd1
    have hsz : (w2.alloc (.cells (arr .u8 [1, 2, 3]) 5)).heap.size = w2.heap.size + 1 := by simp
    have D3 : Kept (Disj [E] (d :: G)) := ⟨by
      intro k hk hk2
      rw [List.mem_singleton] at hk
      subst hk
      rcases List.mem_cons.1 hk2 with rfl | hk2
      · omega
      · have := (hd2 _ hk2).1; omega⟩
    clear b3 de B2 hL hd1 hd2 hsz
    go_wp2_with fail
    refine (num_any w3 [E] E 1 1 (0, []) EN.out (by simp)).mono ?_
    rw [e1.out]
    rintro x w4 ⟨rfl, F4, en4, fp4⟩
    replace EN := Kept.mk en4
    have hF4 : ∀ k ∈ F4, w.heap.size ≤ k := fp4.least (by simpa using hBE) B3.out.size
    have B4 := Kept.mk (B3.out.trans (fp4.below (B := w.heap.size) (by simpa using hBE) B3.out.size))
    obtain ⟨de4, D4⟩ := enc_step DE.out D3.out fp4
    replace DE := Kept.mk de4
    replace D4 := Kept.mk D4
    clear en4 fp4 de4 D3 B3
    go_wp2_with fail
    refine (num_any w4 F4 E n _ (0, [1]) EN.out (by simp)).mono ?_
    rintro x w5 ⟨rfl, F5, en5, fp5⟩
    replace EN := Kept.mk en5
    have hF5 : ∀ k ∈ F5, w.heap.size ≤ k := fp5.least hF4 B4.out.size
    have B5 := Kept.mk (B4.out.trans (fp5.below (B := w.heap.size) hF4 B4.out.size))
    obtain ⟨de5, D5⟩ := enc_step DE.out D4.out fp5
    replace DE := Kept.mk de5
    replace D5 := Kept.mk D5
    clear en5 fp5 de5 D4 B4
    have hL := rd_lit w5 [9] (bytes_one 9 (by omega))
    have hO : Off (some ⟨w5.heap.size, 0, none⟩) 1 F5 := .inr ⟨_, _, rfl, fun hk => by have := EN.out.lt _ hk; omega⟩
    have al : Below w5.heap.size w5 (w5.alloc (.cells (arr .u8 [9]) 5)) := (Below.refl _ w5).alloc (Nat.le_refl _) _
    replace EN := Kept.mk (EN.out.below al)
    replace DE := Kept.mk (DE.out.below al)
    replace B5 := Kept.mk (B5.out.trans (al.mono B5.out.size))
    clear al
    go_wp2_with fail
    rw [HQ.out]
    refine (txt_any _ F5 E (some ⟨w5.heap.size, 0, none⟩) 1 1 [9] _ EN.out hL hO (by omega)).mono ?_
    rw [Y1.out]
    rintro x w6 ⟨rfl, F6, en6, fp6⟩
    replace EN := Kept.mk en6
    have B6 := Kept.mk (B5.out.trans (fp6.below (B := w.heap.size) hF5 B5.out.size))
    obtain ⟨de6, D6⟩ := enc_step DE.out D5.out fp6
    replace DE := Kept.mk de6
    clear en6 fp6 de6 D6 D5 B5 hL hO
    go_wp2_with fail
    refine (done_any w6 F6 E (_, ys) EN.out Y2.out h3).mono ?_
    rintro x w7 ⟨v, rfl, own, b7⟩
    obtain ⟨A7, c7, rfl, -, -, -⟩ := own_rd own Y2.out
    replace DE := Kept.mk (DE.out.below b7)
    have B7 := Kept.mk (B6.out.trans (b7.mono B6.out.size))
    clear own b7 B6 EN
    go_wp2_with fail
    refine (dnum_any w7 d G 5 (0, [1, 2, 3]) DE.out hd3).mono ?_
    rw [d1.out]
    rintro x w8 ⟨rfl, de8, b8⟩
    have B8 := Kept.mk (B7.out.trans (b8.below B7.out.size (by simpa using hBd)))
    replace DE := Kept.mk de8
    clear de8 b8 B7
    go_wp2_with fail
    refine (dnum_any w8 d G 1 (2, [1, 2, 3]) DE.out hd3).mono ?_
    rw [d2.out]
    rintro x w9 ⟨rfl, de9, b9⟩
    have B9 := Kept.mk (B8.out.trans (b9.below B8.out.size (by simpa using hBd)))
    replace DE := Kept.mk de9
    clear de9 b9 B8
    go_wp2_with fail
    refine (wfirst_any w9).mono ?_
    rintro x w10 ⟨rfl, b10⟩
    replace DE := Kept.mk (DE.out.below b10)
    have B10 := Kept.mk (B9.out.trans (b10.mono B9.out.size))
    clear b10 B9
    go_wp2_with fail
    refine (err_any w10 d G (2, [1, 2, 3]) DE.out).mono ?_
    rintro x w11 ⟨rfl, rfl⟩
    go_wp2_with fail
    refine (left_any w10 d G (2, [1, 2, 3]) DE.out).mono ?_
    rintro x w11 ⟨rfl, rfl⟩
    go_wp2_with fail
    refine (end_any w10 d G (2, [1, 2, 3]) DE.out).mono ?_
    rw [d4.out]
    rintro x w11 ⟨rfl, rfl⟩
    go_wp2_with fail
    refine (dtxt_any w10 d G (2, [1, 2, 3]) DE.out hd3 (by simp)).mono ?_
    rintro x w11 ⟨v, rfl, own, de11, b11⟩
    rw [d3.out] at own
    obtain ⟨A11, c11, rfl⟩ := own_shape own
    have B11 := Kept.mk (B10.out.trans (b11.below B10.out.size (by simpa using hBd)))
    clear own de11 b11 B10 DE
    go_wp2
    go_ret
    exact ⟨rfl, B11.out⟩
  · rw [hf] at HQ
    go_enter Try.func7, Try.ntmps7
    go_wp2_with fail
    refine (wfirst_any w).mono ?_
    rintro x w1 ⟨rfl, b⟩
    have B1 := Kept.mk b
    clear b
    go_wp2_with fail
    refine (newenc_any w1).mono ?_
    rintro x w2 ⟨rfl, en, fp⟩
    obtain ⟨E, hE⟩ : ∃ E, w1.heap.size = E := ⟨_, rfl⟩
    have hBE : w.heap.size ≤ E := by rw [← hE]; exact B1.out.size
    have B2 := Kept.mk (B1.out.trans (fp.below (B := w.heap.size) (by simp) B1.out.size))
    rw [hE] at en ⊢
    have hE2 : E < w2.heap.size := en.lt E (by simp)
    have EN := Kept.mk en
    clear B1 en fp hE
    have hL := rd_lit w2 [1, 2, 3] bytes_123
    replace EN := Kept.mk (EN.out.below ((Below.refl _ w2).alloc (Nat.le_refl _) (.cells (arr .u8 [1, 2, 3]) 5)))
    replace B2 := Kept.mk (B2.out.alloc B2.out.size (.cells (arr .u8 [1, 2, 3]) 5))
    go_wp2_with fail
    refine (newdec_any _ 3 3 [1, 2, 3] _ hL (by omega)).mono ?_
    rintro x w3 ⟨d, G, rfl, de, hd1, hd2, hd3, b3⟩
    replace EN := Kept.mk (EN.out.below b3)
    have DE := Kept.mk de
    have B3 := Kept.mk (B2.out.trans (b3.mono B2.out.size))
    have hBd : w.heap.size ≤ d := Nat.le_trans B2.out.size hd1
    have hsz : (w2.alloc (.cells (arr .u8 [1, 2, 3]) 5)).heap.size = w2.heap.size + 1 := by simp
    have D3 : Kept (Disj [E] (d :: G)) := ⟨by
      intro k hk hk2
      rw [List.mem_singleton] at hk
      subst hk
      rcases List.mem_cons.1 hk2 with rfl | hk2
      · omega
      · have := (hd2 _ hk2).1; omega⟩
    clear b3 de B2 hL hd1 hd2 hsz
    go_wp2_with fail
    refine (num_any w3 [E] E 1 1 (0, []) EN.out (by simp)).mono ?_
    rw [e1.out]
    rintro x w4 ⟨rfl, F4, en4, fp4⟩
    replace EN := Kept.mk en4
    have hF4 : ∀ k ∈ F4, w.heap.size ≤ k := fp4.least (by simpa using hBE) B3.out.size
    have B4 := Kept.mk (B3.out.trans (fp4.below (B := w.heap.size) (by simpa using hBE) B3.out.size))
    obtain ⟨de4, D4⟩ := enc_step DE.out D3.out fp4
    replace DE := Kept.mk de4
    replace D4 := Kept.mk D4
    clear en4 fp4 de4 D3 B3
    go_wp2_with fail
    refine (num_any w4 F4 E n _ (0, [1]) EN.out (by simp)).mono ?_
    rintro x w5 ⟨rfl, F5, en5, fp5⟩
    replace EN := Kept.mk en5
    have hF5 : ∀ k ∈ F5, w.heap.size ≤ k := fp5.least hF4 B4.out.size
    have B5 := Kept.mk (B4.out.trans (fp5.below (B := w.heap.size) hF4 B4.out.size))
    obtain ⟨de5, D5⟩ := enc_step DE.out D4.out fp5
    replace DE := Kept.mk de5
    replace D5 := Kept.mk D5
    clear en5 fp5 de5 D4 B4
    have hL := rd_lit w5 [9] (bytes_one 9 (by omega))
    have hO : Off (some ⟨w5.heap.size, 0, none⟩) 1 F5 := .inr ⟨_, _, rfl, fun hk => by have := EN.out.lt _ hk; omega⟩
    have al : Below w5.heap.size w5 (w5.alloc (.cells (arr .u8 [9]) 5)) := (Below.refl _ w5).alloc (Nat.le_refl _) _
    replace EN := Kept.mk (EN.out.below al)
    replace DE := Kept.mk (DE.out.below al)
    replace B5 := Kept.mk (B5.out.trans (al.mono B5.out.size))
    clear al
    go_wp2_with fail
    rw [HQ.out]
    refine (txt_any _ F5 E (some ⟨w5.heap.size, 0, none⟩) 1 1 [9] _ EN.out hL hO (by omega)).mono ?_
    rw [Y1.out]
    rintro x w6 ⟨rfl, F6, en6, fp6⟩
    replace EN := Kept.mk en6
    have B6 := Kept.mk (B5.out.trans (fp6.below (B := w.heap.size) hF5 B5.out.size))
    obtain ⟨de6, D6⟩ := enc_step DE.out D5.out fp6
    replace DE := Kept.mk de6
    clear en6 fp6 de6 D6 D5 B5 hL hO
    go_wp2_with fail
    refine (done_any w6 F6 E (_, ys) EN.out Y2.out h3).mono ?_
    rintro x w7 ⟨v, rfl, own, b7⟩
    obtain ⟨A7, c7, rfl, -, -, -⟩ := own_rd own Y2.out
    replace DE := Kept.mk (DE.out.below b7)
    have B7 := Kept.mk (B6.out.trans (b7.mono B6.out.size))
    clear own b7 B6 EN
    go_wp2_with fail
    refine (dnum_any w7 d G 5 (0, [1, 2, 3]) DE.out hd3).mono ?_
    rw [d1.out]
    rintro x w8 ⟨rfl, de8, b8⟩
    have B8 := Kept.mk (B7.out.trans (b8.below B7.out.size (by simpa using hBd)))
    replace DE := Kept.mk de8
    clear de8 b8 B7
    go_wp2_with fail
    refine (dnum_any w8 d G 1 (2, [1, 2, 3]) DE.out hd3).mono ?_
    rw [d2.out]
    rintro x w9 ⟨rfl, de9, b9⟩
    have B9 := Kept.mk (B8.out.trans (b9.below B8.out.size (by simpa using hBd)))
    replace DE := Kept.mk de9
    clear de9 b9 B8
    go_wp2_with fail
    refine (wfirst_any w9).mono ?_
    rintro x w10 ⟨rfl, b10⟩
    replace DE := Kept.mk (DE.out.below b10)
    have B10 := Kept.mk (B9.out.trans (b10.mono B9.out.size))
    clear b10 B9
    go_wp2_with fail
    refine (err_any w10 d G (2, [1, 2, 3]) DE.out).mono ?_
    rintro x w11 ⟨rfl, rfl⟩
    go_wp2_with fail
    refine (left_any w10 d G (2, [1, 2, 3]) DE.out).mono ?_
    rintro x w11 ⟨rfl, rfl⟩
    go_wp2_with fail
    refine (end_any w10 d G (2, [1, 2, 3]) DE.out).mono ?_
    rw [d4.out]
    rintro x w11 ⟨rfl, rfl⟩
    go_wp2_with fail
    refine (dtxt_any w10 d G (2, [1, 2, 3]) DE.out hd3 (by simp)).mono ?_
    rintro x w11 ⟨v, rfl, own, de11, b11⟩
    rw [d3.out] at own
    obtain ⟨A11, c11, rfl⟩ := own_shape own
    have B11 := Kept.mk (B10.out.trans (b11.below B10.out.size (by simpa using hBd)))
    clear own de11 b11 B10 DE
    go_wp2
    go_ret
    exact ⟨rfl, B11.out⟩

set_option maxRecDepth 100000 in
set_option maxHeartbeats 1000000 in
theorem werrs_out (n s : Int) (w : World) (hf : fits n s = false)
    (hc : decide (1 ≤ s) = false ∨ (1 ≤ s ∧ decide (s ≤ 8) = false) ∨ (1 ≤ s ∧ s ≤ 8 ∧ decide (0 ≤ n) = false) ∨ (1 ≤ s ∧ s ≤ 8 ∧ 0 ≤ n ∧ decide (n ≤ 4611686018427387904) = false)) :
    Calls Try.prog 7 #[.int .i64 n, .int .i64 s] w (ErrsPost w) := by
  have e1 := Kept.mk (show encNum (0, []) 1 1 = (0, [1]) by decide +kernel)
  have d1 := Kept.mk (show decNum (0, [1, 2, 3]) 5 = (0, (2, [1, 2, 3])) by decide +kernel)
  have d2 := Kept.mk (show decNum (2, [1, 2, 3]) 1 = (0, (2, [1, 2, 3])) by decide +kernel)
  have d3 := Kept.mk (show decTxt (2, [1, 2, 3]) = ([], (2, [1, 2, 3])) by decide +kernel)
  have d4 := Kept.mk (show endOf (2, [1, 2, 3]) = 2 by decide +kernel)
  obtain ⟨err, ys, y1, y2, h3, h4, h5⟩ := errs_rest n s (fits n s) rfl
  have Y1 := Kept.mk y1; have Y2 := Kept.mk y2
  clear y1 y2
  rcases h5 with ⟨hf2, _⟩ | ⟨-, rfl, hl⟩
  · rw [hf] at hf2; cases hf2
  rcases hc with hc | ⟨hc1, hc⟩ | ⟨hc1, hc2, hc⟩ | ⟨hc1, hc2, hc3, hc⟩
  all_goals
    go_enter Try.func7, Try.ntmps7
    go_wp2_with fail
    refine (wfirst_any w).mono ?_
    rintro x w1 ⟨rfl, b⟩
    have B1 := Kept.mk b
    clear b
    go_wp2_with fail
    refine (newenc_any w1).mono ?_
    rintro x w2 ⟨rfl, en, fp⟩
    obtain ⟨E, hE⟩ : ∃ E, w1.heap.size = E := ⟨_, rfl⟩
    have hBE : w.heap.size ≤ E := by rw [← hE]; exact B1.out.size
    have B2 := Kept.mk (B1.out.trans (fp.below (B := w.heap.size) (by simp) B1.out.size))
    rw [hE] at en ⊢
    have hE2 : E < w2.heap.size := en.lt E (by simp)
    have EN := Kept.mk en
    clear B1 en fp hE
    have hL := rd_lit w2 [1, 2, 3] bytes_123
    replace EN := Kept.mk (EN.out.below ((Below.refl _ w2).alloc (Nat.le_refl _) (.cells (arr .u8 [1, 2, 3]) 5)))
    replace B2 := Kept.mk (B2.out.alloc B2.out.size (.cells (arr .u8 [1, 2, 3]) 5))
    go_wp2_with fail
    refine (newdec_any _ 3 3 [1, 2, 3] _ hL (by omega)).mono ?_
    rintro x w3 ⟨d, G, rfl, de, hd1, hd2, hd3, b3⟩
    replace EN := Kept.mk (EN.out.below b3)
    have DE := Kept.mk de
    have B3 := Kept.mk (B2.out.trans (b3.mono B2.out.size))
    have hBd : w.heap.size ≤ d := Nat.le_trans B2.out.size hd1
    have hsz : (w2.alloc (.cells (arr .u8 [1, 2, 3]) 5)).heap.size = w2.heap.size + 1 := by simp
    have D3 : Kept (Disj [E] (d :: G)) := ⟨by
      intro k hk hk2
      rw [List.mem_singleton] at hk
      subst hk
      rcases List.mem_cons.1 hk2 with rfl | hk2
      · omega
      · have := (hd2 _ hk2).1; omega⟩
    clear b3 de B2 hL hd1 hd2 hsz
    go_wp2_with fail
    refine (num_any w3 [E] E 1 1 (0, []) EN.out (by simp)).mono ?_
    rw [e1.out]
    rintro x w4 ⟨rfl, F4, en4, fp4⟩
    replace EN := Kept.mk en4
    have hF4 : ∀ k ∈ F4, w.heap.size ≤ k := fp4.least (by simpa using hBE) B3.out.size
    have B4 := Kept.mk (B3.out.trans (fp4.below (B := w.heap.size) (by simpa using hBE) B3.out.size))
    obtain ⟨de4, D4⟩ := enc_step DE.out D3.out fp4
    replace DE := Kept.mk de4
    replace D4 := Kept.mk D4
    clear en4 fp4 de4 D3 B3
    go_wp2_with fail
    refine (num_any w4 F4 E n _ (0, [1]) EN.out (by simp)).mono ?_
    rintro x w5 ⟨rfl, F5, en5, fp5⟩
    replace EN := Kept.mk en5
    have hF5 : ∀ k ∈ F5, w.heap.size ≤ k := fp5.least hF4 B4.out.size
    have B5 := Kept.mk (B4.out.trans (fp5.below (B := w.heap.size) hF4 B4.out.size))
    obtain ⟨de5, D5⟩ := enc_step DE.out D4.out fp5
    replace DE := Kept.mk de5
    replace D5 := Kept.mk D5
    clear en5 fp5 de5 D4 B4
    have hL := rd_lit w5 [9] (bytes_one 9 (by omega))
    have hO : Off (some ⟨w5.heap.size, 0, none⟩) 1 F5 := .inr ⟨_, _, rfl, fun hk => by have := EN.out.lt _ hk; omega⟩
    have al : Below w5.heap.size w5 (w5.alloc (.cells (arr .u8 [9]) 5)) := (Below.refl _ w5).alloc (Nat.le_refl _) _
    replace EN := Kept.mk (EN.out.below al)
    replace DE := Kept.mk (DE.out.below al)
    replace B5 := Kept.mk (B5.out.trans (al.mono B5.out.size))
    clear al
    go_wp2_with fail
    refine (txt_any _ F5 E (some ⟨w5.heap.size, 0, none⟩) 1 1 [9] _ EN.out hL hO (by omega)).mono ?_
    rw [Y1.out]
    rintro x w6 ⟨rfl, F6, en6, fp6⟩
    replace EN := Kept.mk en6
    have B6 := Kept.mk (B5.out.trans (fp6.below (B := w.heap.size) hF5 B5.out.size))
    obtain ⟨de6, D6⟩ := enc_step DE.out D5.out fp6
    replace DE := Kept.mk de6
    clear en6 fp6 de6 D6 D5 B5 hL hO
    go_wp2_with fail
    refine (done_any w6 F6 E (_, ys) EN.out Y2.out h3).mono ?_
    rintro x w7 ⟨v, rfl, own, b7⟩
    obtain ⟨A7, c7, rfl, -, -, -⟩ := own_rd own Y2.out
    replace DE := Kept.mk (DE.out.below b7)
    have B7 := Kept.mk (B6.out.trans (b7.mono B6.out.size))
    clear own b7 B6 EN
    go_wp2_with fail
    refine (dnum_any w7 d G 5 (0, [1, 2, 3]) DE.out hd3).mono ?_
    rw [d1.out]
    rintro x w8 ⟨rfl, de8, b8⟩
    have B8 := Kept.mk (B7.out.trans (b8.below B7.out.size (by simpa using hBd)))
    replace DE := Kept.mk de8
    clear de8 b8 B7
    go_wp2_with fail
    refine (dnum_any w8 d G 1 (2, [1, 2, 3]) DE.out hd3).mono ?_
    rw [d2.out]
    rintro x w9 ⟨rfl, de9, b9⟩
    have B9 := Kept.mk (B8.out.trans (b9.below B8.out.size (by simpa using hBd)))
    replace DE := Kept.mk de9
    clear de9 b9 B8
    go_wp2_with fail
    refine (wfirst_any w9).mono ?_
    rintro x w10 ⟨rfl, b10⟩
    replace DE := Kept.mk (DE.out.below b10)
    have B10 := Kept.mk (B9.out.trans (b10.mono B9.out.size))
    clear b10 B9
    go_wp2_with fail
    refine (err_any w10 d G (2, [1, 2, 3]) DE.out).mono ?_
    rintro x w11 ⟨rfl, rfl⟩
    go_wp2_with fail
    refine (left_any w10 d G (2, [1, 2, 3]) DE.out).mono ?_
    rintro x w11 ⟨rfl, rfl⟩
    go_wp2_with fail
    refine (end_any w10 d G (2, [1, 2, 3]) DE.out).mono ?_
    rw [d4.out]
    rintro x w11 ⟨rfl, rfl⟩
    go_wp2_with fail
    refine (dtxt_any w10 d G (2, [1, 2, 3]) DE.out hd3 (by simp)).mono ?_
    rintro x w11 ⟨v, rfl, own, de11, b11⟩
    rw [d3.out] at own
    obtain ⟨A11, c11, rfl⟩ := own_shape own
    have B11 := Kept.mk (B10.out.trans (b11.below B10.out.size (by simpa using hBd)))
    clear own de11 b11 B10 DE
    go_wp2
    go_ret
    exact ⟨rfl, B11.out⟩

theorem werrs_walk (n s : Int) (w : World) : Calls Try.prog 7 #[.int .i64 n, .int .i64 s] w (ErrsPost w) := by
  rcases errs_cases n s with ⟨h1, h8, h0, hm, hu, hi, HQ⟩ | ⟨hf, hc⟩
  · exact werrs_in n s w h1 h8 h0 hm hu hi HQ
  · exact werrs_out n s w hf hc
end Go.Proofs.Ytfjkbggbaoiiiaa.Wire
