/-
  The law WireOrder, walked.
-/
import Derived.Test.YtfjkbggbaoiiiaaWireDone
import Derived.Deep.QuietTactic
import Derived.BigQuiet
namespace Go.Proofs.Ytfjkbggbaoiiiaa.Wire
open Go.RowKit Go.Proofs.Ytfjkbggbaoiiiaa.Sha

/-- what the first k bytes of two numbers in S bytes tell -/
def ord (A B S k : Nat) : Int := ((A / 256 ^ (S - k) : Nat) : Int) - ((B / 256 ^ (S - k) : Nat) : Int)
theorem ord_0 (A B S : Nat) (hA : A < 256 ^ S) (hB : B < 256 ^ S) : ord A B S 0 = 0 := by
  unfold ord
  rw [Nat.sub_zero, Nat.div_eq_of_lt hA, Nat.div_eq_of_lt hB]; rfl
theorem ord_step (A B S k : Nat) (hk : k < S) (h : ord A B S k = 0) : ord A B S (k + 1) = at_ (be A S) k - at_ (be B S) k := by
  rw [be_at A S k hk, be_at B S k hk]
  unfold ord at *
  rw [show S - 1 - k = S - (k + 1) by omega]
  rw [show S - k = S - (k + 1) + 1 by omega, Nat.pow_succ, ← Nat.div_div_eq_div_mul, ← Nat.div_div_eq_div_mul] at h
  generalize A / 256 ^ (S - (k + 1)) = a at *
  generalize B / 256 ^ (S - (k + 1)) = b at *
  omega
theorem ord_lt (A B S k : Nat) (h : ord A B S k < 0) : A < B := by
  unfold ord at h
  refine Nat.lt_of_not_le fun hc => ?_
  have := Nat.div_le_div_right (c := 256 ^ (S - k)) hc
  omega
theorem ord_gt (A B S k : Nat) (h : 0 < ord A B S k) : B < A := by
  unfold ord at h
  refine Nat.lt_of_not_le fun hc => ?_
  have := Nat.div_le_div_right (c := 256 ^ (S - k)) hc
  omega
theorem ord_S (A B S : Nat) (h : ord A B S S = 0) : A = B := by
  unfold ord at h
  rw [Nat.sub_self, Nat.pow_zero, Nat.div_one, Nat.div_one] at h
  omega
def OrderPost (w : World) (e : Ending) (w' : World) : Prop := e = .returned (.bool true) ∧ Below w.heap.size w w'
theorem enc_one (a s : Int) : ∃ err xs, encNum (0, []) a s = (err, xs) ∧ Bytes xs ∧ xs.length < 2147483648 ∧ ((fits a s = true ∧ err = 0 ∧ xs = be a.toNat s.toNat) ∨ (fits a s = false ∧ err = 1)) := by
  unfold encNum
  cases hf : fits a s with
  | true =>
    have := (fits_be hf).2.2.2.1
    exact ⟨0, be a.toNat s.toNat, by simp, be_bytes _ _, by rw [be_len]; omega, .inl ⟨rfl, rfl, rfl⟩⟩
  | false => exact ⟨1, [], by simp, fun x hx => by simp at hx, by simp, .inr ⟨rfl, rfl⟩⟩

set_option maxRecDepth 100000 in
set_option maxHeartbeats 2000000 in
theorem worder_walk (a b s : Int) (w : World) : Calls Try.prog 8 #[.int .i64 a, .int .i64 b, .int .i64 s] w (OrderPost w) := by
  obtain ⟨ea, xs, y1, y2, y3, y4⟩ := enc_one a s
  obtain ⟨eb, zs, z1, z2, z3, z4⟩ := enc_one b s
  have Y1 := Kept.mk y1; have Y2 := Kept.mk y2; have Z1 := Kept.mk z1; have Z2 := Kept.mk z2; have Y4 := Kept.mk y4; have Z4 := Kept.mk z4
  have hea : ea = 0 ∨ ea = 1 := by rcases y4 with ⟨-, h, -⟩ | ⟨-, h⟩ <;> simp [h]
  have heb : eb = 0 ∨ eb = 1 := by rcases z4 with ⟨-, h, -⟩ | ⟨-, h⟩ <;> simp [h]
  clear y1 y2 z1 z2 y4 z4
  go_enter Try.func8, Try.ntmps8
  go_wp2_with fail
  refine (wfirst_any w).mono ?_
  rintro x w1 ⟨rfl, b1⟩
  have B1 := Kept.mk b1
  clear b1
  go_wp2_with fail
  refine (newenc_any w1).mono ?_
  rintro x w2 ⟨rfl, en1, fp1⟩
  obtain ⟨E1, hE1⟩ : ∃ E, w1.heap.size = E := ⟨_, rfl⟩
  have hB1 : w.heap.size ≤ E1 := by rw [← hE1]; exact B1.out.size
  have B2 := Kept.mk (B1.out.trans (fp1.below (B := w.heap.size) (by simp) B1.out.size))
  rw [hE1] at en1 ⊢
  have hlt1 : E1 < w2.heap.size := en1.lt E1 (by simp)
  have EN1 := Kept.mk en1
  clear B1 en1 fp1 hE1
  go_wp2_with fail
  refine (newenc_any w2).mono ?_
  rintro x w3 ⟨rfl, en2, fp2⟩
  obtain ⟨E2, hE2⟩ : ∃ E, w2.heap.size = E := ⟨_, rfl⟩
  have hB2 : w.heap.size ≤ E2 := by rw [← hE2]; exact B2.out.size
  have B3 := Kept.mk (B2.out.trans (fp2.below (B := w.heap.size) (by simp) B2.out.size))
  replace EN1 := Kept.mk (EN1.out.keep fp2.1 (fun _ _ => by simp))
  rw [hE2] at en2 hlt1 ⊢
  have EN2 := Kept.mk en2
  have D3 : Kept (Disj [E2] [E1]) := ⟨fun k hk => by simp at hk ⊢; omega⟩
  clear B2 en2 fp2 hE2
  go_wp2_with fail
  refine (num_any w3 [E1] E1 a s (0, []) EN1.out (by simp)).mono ?_
  rw [Y1.out]
  rintro x w4 ⟨rfl, F1, en1, fp1⟩
  replace EN1 := Kept.mk en1
  have B4 := Kept.mk (B3.out.trans (fp1.below (B := w.heap.size) (by simpa using hB1) B3.out.size))
  have D4 := Kept.mk (D3.out.symm.step fp1 EN2.out.lt)
  replace EN2 := Kept.mk (EN2.out.keep fp1.1 D3.out)
  clear en1 fp1 B3 D3
  go_wp2_with fail
  refine (num_any w4 [E2] E2 b s (0, []) EN2.out (by simp)).mono ?_
  rw [Z1.out]
  rintro x w5 ⟨rfl, F2, en2, fp2⟩
  replace EN1 := Kept.mk (EN1.out.keep fp2.1 D4.out)
  replace EN2 := Kept.mk en2
  have B5 := Kept.mk (B4.out.trans (fp2.below (B := w.heap.size) (by simpa using hB2) B4.out.size))
  clear en2 fp2 B4 D4
  go_wp2_with fail
  refine (done_any w5 F1 E1 (ea, xs) EN1.out Y2.out y3).mono ?_
  rintro x w6 ⟨v, rfl, own, b6⟩
  obtain ⟨A6, c6, rfl, -, -, r6⟩ := own_rd own Y2.out
  have R6 := Kept.mk r6
  replace EN2 := Kept.mk (EN2.out.below b6)
  have B6 := Kept.mk (B5.out.trans (b6.mono B5.out.size))
  clear own r6 b6 B5 EN1
  go_wp2_with fail
  refine (done_any w6 F2 E2 (eb, zs) EN2.out Z2.out z3).mono ?_
  rintro x w7 ⟨v, rfl, own, b7⟩
  obtain ⟨A7, c7, rfl, -, -, r7⟩ := own_rd own Z2.out
  have R7 := Kept.mk r7
  replace R6 := Kept.mk (R6.out.below b7)
  have B7 := Kept.mk (B6.out.trans (b7.mono B6.out.size))
  clear own r7 b7 B6 EN2
  by_cases hok : ea = 0 ∧ eb = 0
  · obtain ⟨rfl, rfl⟩ := hok
    obtain ⟨fa, -, hxs⟩ : fits a s = true ∧ (0 : Int) = 0 ∧ xs = be a.toNat s.toNat := by
      rcases Y4.out with h | ⟨-, h⟩
      · exact h
      · cases h
    obtain ⟨fb, -, hzs⟩ : fits b s = true ∧ (0 : Int) = 0 ∧ zs = be b.toNat s.toNat := by
      rcases Z4.out with h | ⟨-, h⟩
      · exact h
      · cases h
    subst hxs hzs
    obtain ⟨va, -, h1, h8, ha0⟩ := fits_be fa
    obtain ⟨vb, -, -, -, hb0⟩ := fits_be fb
    have la := val_lt _ (be_bytes a.toNat s.toNat)
    have lb := val_lt _ (be_bytes b.toNat s.toNat)
    rw [va, be_len] at la
    rw [vb, be_len] at lb
    obtain ⟨S, rfl⟩ : ∃ S : Nat, s = S := ⟨s.toNat, by omega⟩
    obtain ⟨A, rfl⟩ : ∃ A : Nat, a = A := ⟨a.toNat, by omega⟩
    obtain ⟨B, rfl⟩ : ∃ B : Nat, b = B := ⟨b.toNat, by omega⟩
    simp only [Int.toNat_natCast, be_len] at *
    clear Y1 Z1 Y4 Z4 hea heb y3 z3 va vb fa fb ha0 hb0
    have hord := ord_0 A B S la lb
    go_wp2
    go_loopw [13, 14] (fun o i wr => ∃ k : Nat, k ≤ S ∧ o = .int .i64 (ord A B S k) ∧ i = .int .i64 k ∧ Kept (Rd wr A6 S (be A S)) ∧ Kept (Rd wr A7 S (be B S)) ∧ Kept (Below w.heap.size w wr)) (fun _ i _ => S - (intOf i).toNat)
    case atStart => exact ⟨0, by omega, by rw [hord], rfl, R6, R7, B7⟩
    case round =>
      clear R6 R7 B7 hord
      obtain ⟨k, hk, rfl, rfl, R6, R7, BW⟩ := hrel
      by_cases hkS : k < S
      · have hkS' : (k : Int) < S := by omega
        by_cases ho : ord A B S k = 0
        · have hst := ord_step A B S k hkS ho
          obtain ⟨p6, o6, rfl, hc6⟩ := R6.out.2.2.resolve_left (by omega)
          obtain ⟨p7, o7, rfl, hc7⟩ := R7.out.2.2.resolve_left (by omega)
          have x0 := hc6 k hkS
          have x1 := hc7 k hkS
          have hx := Y2.out.at_ k
          have hy := Z2.out.at_ k
          generalize at_ (be A S) k = x at *
          generalize at_ (be B S) k = y at *
          rw [ho]
          have HST := Kept.mk hst
          have wx : IntKind.i64.wrap x = x := by rw [IntKind.wrap_i64]; omega
          have wy : IntKind.i64.wrap y = y := by rw [IntKind.wrap_i64]; omega
          have wxy : IntKind.i64.wrap (x - y) = x - y := by rw [IntKind.wrap_i64]; omega
          clear hc6 hc7 hst ho
          go_wp2
          go_quiet (fail)
          replace BW : Kept (Below w.heap.size w (wr.drewN nq)) := ⟨below_drewN BW.out _⟩
          replace R6 : Kept (Rd (wr.drewN nq) (some ⟨p6, o6, none⟩) S (be A S)) := ⟨R6.out⟩
          replace R7 : Kept (Rd (wr.drewN nq) (some ⟨p7, o7, none⟩) S (be B S)) := ⟨R7.out⟩
          clear x0 x1
          generalize wr.drewN nq = wq at *
          go_wp2
          go_roundw
          case rel => exact ⟨k + 1, by omega, by rw [HST.out], by go_num, R6, R7, BW⟩
          case measure => simp [intOf]; omega
        · have ho2 : (ord A B S k == 0) = false := by simpa using ho
          rcases Int.lt_or_gt_of_ne ho with hlt | hgt
          · have hAB := ord_lt A B S k hlt
            have e1 : (A : Int) < B := by omega
            have e2 : ¬ (A : Int) = B := by omega
            have e3 : ((A : Int) == B) = false := by simpa using e2
            generalize ord A B S k = o at *
            go_wp2_with fail
            refine (wfirst_any wr).mono ?_
            rintro x w9 ⟨rfl, b9⟩
            have B9 := Kept.mk (BW.out.trans (b9.mono BW.out.size))
            clear b9 BW R6 R7
            go_wp2
            go_ret
            exact ⟨rfl, B9.out⟩
          · have hAB := ord_gt A B S k hgt
            have e1 : ¬ (A : Int) < B := by omega
            have e2 : ¬ (A : Int) = B := by omega
            have e3 : ((A : Int) == B) = false := by simpa using e2
            have e4 : ¬ ord A B S k < 0 := by omega
            generalize ord A B S k = o at *
            go_wp2_with fail
            refine (wfirst_any wr).mono ?_
            rintro x w9 ⟨rfl, b9⟩
            have B9 := Kept.mk (BW.out.trans (b9.mono BW.out.size))
            clear b9 BW R6 R7
            go_wp2
            go_ret
            exact ⟨rfl, B9.out⟩
      · obtain rfl : k = S := by omega
        have hkS' : ¬ (k : Int) < k := by omega
        rcases Int.lt_trichotomy (ord A B k k) 0 with hlt | he | hgt
        · have hAB := ord_lt A B k k hlt
          have ho2 : (ord A B k k == 0) = false := beq_eq_false_iff_ne.2 (by omega)
          have e1 : (A : Int) < B := by omega
          have e2 : ¬ (A : Int) = B := by omega
          have e3 : ((A : Int) == B) = false := by simpa using e2
          generalize ord A B k k = o at *
          go_wp2_with fail
          refine (wfirst_any wr).mono ?_
          rintro x w9 ⟨rfl, b9⟩
          have B9 := Kept.mk (BW.out.trans (b9.mono BW.out.size))
          clear b9 BW R6 R7
          go_wp2
          go_ret
          exact ⟨rfl, B9.out⟩
        · obtain rfl := ord_S A B k he
          rw [he]
          clear he
          go_wp2_with fail
          refine (wfirst_any wr).mono ?_
          rintro x w9 ⟨rfl, b9⟩
          have B9 := Kept.mk (BW.out.trans (b9.mono BW.out.size))
          clear b9 BW R6 R7
          go_wp2
          go_ret
          exact ⟨rfl, B9.out⟩
        · have hAB := ord_gt A B k k hgt
          have ho2 : (ord A B k k == 0) = false := beq_eq_false_iff_ne.2 (by omega)
          have e1 : ¬ (A : Int) < B := by omega
          have e2 : ¬ (A : Int) = B := by omega
          have e3 : ((A : Int) == B) = false := by simpa using e2
          have e4 : ¬ ord A B k k < 0 := by omega
          generalize ord A B k k = o at *
          go_wp2_with fail
          refine (wfirst_any wr).mono ?_
          rintro x w9 ⟨rfl, b9⟩
          have B9 := Kept.mk (BW.out.trans (b9.mono BW.out.size))
          clear b9 BW R6 R7
          go_wp2
          go_ret
          exact ⟨rfl, B9.out⟩
  · clear Y1 Z1 Y4 Z4 R6 R7
    rcases hea with rfl | rfl
    · obtain rfl : eb = 1 := by rcases heb with rfl | rfl <;> simp at *
      go_wp2_with fail
      refine (wfirst_any w7).mono ?_
      rintro x w9 ⟨rfl, b9⟩
      have B9 := Kept.mk (B7.out.trans (b9.mono B7.out.size))
      clear b9
      go_wp2
      go_ret
      exact ⟨rfl, B9.out⟩
    · go_wp2_with fail
      refine (wfirst_any w7).mono ?_
      rintro x w9 ⟨rfl, b9⟩
      have B9 := Kept.mk (B7.out.trans (b9.mono B7.out.size))
      clear b9
      go_wp2
      go_ret
      exact ⟨rfl, B9.out⟩
end Go.Proofs.Ytfjkbggbaoiiiaa.Wire
