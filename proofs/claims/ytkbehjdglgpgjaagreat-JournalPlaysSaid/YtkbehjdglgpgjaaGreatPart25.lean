/-
  Parts laid together: FrameText FramePut FrameGet.
-/
import Derived.Test.YtkbehjdglgpgjaaGreatPart24
import Derived.Test.YtkbehjdglgpgjaaGreatPart22
import Derived.Test.YtkbehjdglgpgjaaGreatPart4
import Derived.Lib.SmallJoins
import Derived.Test.YtkbehjdglgpgjaaGreatPart3

namespace Go.Proofs.YtkbehjdglgpgjaaGreat.Frame
open Go.RowKit Go.Proofs.YtkbehjdglgpgjaaGreat.Sha Go.Proofs.YtkbehjdglgpgjaaGreat.Wire

def Tx (w0 : World) (N M : Nat) (cs : Array Value) (A : Option Addr) (n : Nat) (body : List Int) (st : St) (w : World) : Prop :=
 ∃ F, En 137 w F M st ∧ Blk w N 90 cs ∧ Rd w A n body ∧ Below w0.heap.size w0 w ∧ ∀ k ∈ F, w0.heap.size + 1 ≤ k
theorem Tx.blk {w0 : World} {N M : Nat} {cs : Array Value} {A : Option Addr} {n : Nat} {body : List Int} {st : St} {w : World} (h : Tx w0 N M cs A n body st w) : Blk w N 90 cs := h.choose_spec.2.1
theorem Tx.rd {w0 : World} {N M : Nat} {cs : Array Value} {A : Option Addr} {n : Nat} {body : List Int} {st : St} {w : World} (h : Tx w0 N M cs A n body st w) : Rd w A n body := h.choose_spec.2.2.1
theorem Tx.bel {w0 : World} {N M : Nat} {cs : Array Value} {A : Option Addr} {n : Nat} {body : List Int} {st : St} {w : World} (h : Tx w0 N M cs A n body st w) : Below w0.heap.size w0 w := h.choose_spec.2.2.2.1
theorem Tx.below {w0 : World} {N M : Nat} {cs : Array Value} {A : Option Addr} {n : Nat} {body : List Int} {st : St} {w w' : World} (h : Tx w0 N M cs A n body st w) (b : Below w.heap.size w w') : Tx w0 N M cs A n body st w' := by
 obtain ⟨F, h1, h2, h3, h4, h5⟩ := h
 exact ⟨F, h1.below b, h2.bar (barOf b []) (by simp), h3.below b, h4.trans (b.mono (by have := h4.size; omega)), h5⟩
theorem Tx.step {w0 : World} {N M : Nat} {cs : Array Value} {A : Option Addr} {n : Nat} {body : List Int} {st' : St} {w w' : World} {F F' : List Nat} (hN : N = w0.heap.size) (hA : Rd w0 A n body) (h2 : Blk w N 90 cs) (h4 : Below w0.heap.size w0 w) (h5 : ∀ k ∈ F, w0.heap.size + 1 ≤ k)
  (h1 : En 137 w' F' M st') (hf : Fp F F' w w') : Tx w0 N M cs A n body st' w' := by
 have hs : w0.heap.size + 1 ≤ w.heap.size := by have := h2.lt; omega
 have b : Below w0.heap.size w0 w' := h4.trans (hf.below (fun k hk => by have := h5 k hk; omega) (by omega))
 exact ⟨F', h1, h2.bar hf.1 (fun hk => by have := h5 _ hk; omega), hA.below b, b, hf.least h5 hs⟩
theorem txt_num {w0 : World} {N M : Nat} {cs : Array Value} {A : Option Addr} {n : Nat} {body : List Int} {st : St} {w : World} (hN : N = w0.heap.size) (hA : Rd w0 A n body) (h : Tx w0 N M cs A n body st w) (x s : Int) (hl : st.2.length ≤ 2147483648) :
  Calls Tryz.prog 80 #[.pointer (some ⟨M, 0, none⟩), .int .i64 x, .int .i64 s] w fun e w' => e = .returned (.tuple #[]) ∧ Tx w0 N M cs A n body (rencNum st x s) w' := by
 obtain ⟨F, h1, h2, h3, h4, h5⟩ := h
 refine (rnum_any w F M x s st h1 hl).mono ?_
 rintro e w' ⟨rfl, F', h6, h7⟩
 exact ⟨rfl, Tx.step hN hA h2 h4 h5 h6 h7⟩
theorem txt_raw {w0 : World} {N M : Nat} {cs : Array Value} {A : Option Addr} {n : Nat} {body : List Int} {st : St} {w : World} (hN : N = w0.heap.size) (hA : Rd w0 A n body) (h : Tx w0 N M cs A n body st w) (B : Option Addr) (m c : Nat) (b : List Int) (hr : Rd w B m b) (hl : st.2.length + m ≤ 4294967296) :
  Calls Tryz.prog 79 #[.pointer (some ⟨M, 0, none⟩), .slice B m c] w fun e w' => e = .returned (.tuple #[]) ∧ Tx w0 N M cs A n body (st.1, st.2 ++ b) w' := by
 obtain ⟨F, h1, h2, h3, h4, h5⟩ := h
 refine (rraw_any w F M B m c b st h1 hr hl).mono ?_
 rintro e w' ⟨rfl, F', h6, h7⟩
 exact ⟨rfl, Tx.step hN hA h2 h4 h5 h6 h7⟩
theorem rencNum_ok {n s : Int} {xs : List Int} (h : fits n s = true) : rencNum (0, xs) n s = (0, xs ++ be n.toNat s.toNat) := by unfold rencNum; rw [h]; simp
def RTextPost (f : FV) (w : World) (x : Ending) (w' : World) : Prop := ∃ A n c, x = .returned (.tuple #[.slice A n c, .int .i64 (errF f)]) ∧ n ≤ c ∧ c ≤ maxLen ∧ Rd w' A n (if errF f = 0 then textF f else []) ∧ Below w.heap.size w w'
set_option maxRecDepth 100000 in
set_option maxHeartbeats 1000000 in
theorem rtext_any (f : FV) (A : Option Addr) (n cap : Nat) (w : World) (hr : Rd w A n f.body) :
    Calls Tryz.prog 60 #[.agg #[.int .i64 f.kind, .int .i64 f.gen, .int .i64 f.seq, .slice A n cap]] w (RTextPost f w) := by
  have hlen := hr.1
  have HR := Kept.mk hr
  have H1 := Kept.mk fun w => rfits_any f.kind 1 w
  have H2 := Kept.mk fun w => rfits_any f.gen 4 w
  have H3 := Kept.mk fun w => rfits_any f.seq 4 w
  by_cases hbig : 60000 < n
  · have he : errF f = 3 := by unfold errF; rw [if_pos (by omega)]
    have HE := Kept.mk he
    have P1 : Kept (∀ w', Below w.heap.size w w' → RTextPost f w (.returned (.tuple #[.slice none 0 0, .int .i64 3])) w') := ⟨fun w' b => ⟨none, 0, 0, by rw [HE.out], Nat.le_refl _, by unfold maxLen; omega, by rw [HE.out]; exact Rd.nil_, b⟩⟩
    clear he hr hlen HE
    go_enter Tryz.func60, Tryz.ntmps60
    go_wp2
    go_ret2
    exact (P1.out _ ((Below.refl _ _).alloc (Nat.le_refl _) _))
  · have hn : n ≤ 60000 := by omega
    by_cases hf : fits f.kind 1 = true ∧ fits f.gen 4 = true ∧ fits f.seq 4 = true
    · obtain ⟨f1, f2, f3⟩ := hf
      rw [f1] at H1
      rw [f2] at H2
      rw [f3] at H3
      clear hr
      obtain ⟨W2, hW2⟩ : ∃ W2, (w.alloc (.cells #[.int .i64 f.kind, .int .i64 f.gen, .int .i64 f.seq, .slice A n cap] 90)).alloc (.cells #[.slice none 0 0, .int .i64 0] 137) = W2 := ⟨_, rfl⟩
      have hsz : W2.heap.size = w.heap.size + 1 + 1 := by subst hW2; simp
      have bel2 : Below w.heap.size w W2 := by subst hW2; exact ((Below.refl _ _).alloc (Nat.le_refl _) _).alloc (by simp) _
      have T2 : Tx w w.heap.size (w.heap.size + 1) #[.int .i64 f.kind, .int .i64 f.gen, .int .i64 f.seq, .slice A n cap] A n f.body (0, []) W2 := by
        refine ⟨[w.heap.size + 1], ⟨.slice none 0 0, ?_, World.ownsRow_nil _ _ _ _, by simp [Value.ownBlock]⟩, ?_, HR.out.below bel2, bel2, by simp⟩
        · subst hW2; exact Blk.new_at _ _ _ _ (by simp)
        · subst hW2; exact (Blk.new _ _ _).alloc _
      have hcv := Go.Joins.run_convert_bytes_const_at (P := Tryz.prog) W2 38 5 #[.int .u8 99, .int .u8 102] 2 2 (w.heap.size + 1 + 1) hsz.symm Tryz.underlying38 Tryz.underlying5
      go_enter Tryz.func60, Tryz.ntmps60
      go_wp2_with fail
      refine (H1.out _).mono ?_
      rintro x w' ⟨rfl, rfl⟩
      go_wp2_with fail
      refine (H2.out _).mono ?_
      rintro x w' ⟨rfl, rfl⟩
      go_wp2_with fail
      refine (H3.out _).mono ?_
      rintro x w' ⟨rfl, rfl⟩
      go_wp2_with fail
      have hr2 : Rd (W2.alloc (.cells #[.int .u8 99, .int .u8 102] 5 (2, 3))) (some ⟨w.heap.size + 1 + 1, 0, none⟩) 2 [99, 102] :=
        Rd.made (T := 5) (fr := (2, 3)) (by rw [← hsz]; exact heap_alloc_new W2 _) (by intro x hx; simp at hx; omega) rfl
      refine (txt_raw rfl HR.out (T2.below ((Below.refl _ _).alloc (Nat.le_refl _) _)) (some ⟨w.heap.size + 1 + 1, 0, none⟩) 2 2 [99, 102] hr2 (by simp)).mono ?_
      rintro x w3 ⟨rfl, T3⟩
      have t0 := T3.blk.cell 0
      clear T2 hcv hW2 bel2 hr2
      go_wp2_with fail
      refine (txt_num rfl HR.out T3 f.kind 1 (by simp)).mono ?_
      rintro x w4 ⟨rfl, T4⟩
      rw [rencNum_ok f1] at T4
      clear T3 t0
      go_wp2_with fail
      refine (txt_num rfl HR.out T4 0 1 (by simp [be_len])).mono ?_
      rintro x w5 ⟨rfl, T5⟩
      rw [rencNum_ok (by decide)] at T5
      have t1 := T5.blk.cell 1
      clear T4
      go_wp2_with fail
      refine (txt_num rfl HR.out T5 f.gen 4 (by simp [be_len])).mono ?_
      rintro x w6 ⟨rfl, T6⟩
      rw [rencNum_ok f2] at T6
      have t2 := T6.blk.cell 2
      clear T5 t1
      go_wp2_with fail
      refine (txt_num rfl HR.out T6 f.seq 4 (by simp [be_len])).mono ?_
      rintro x w7 ⟨rfl, T7⟩
      rw [rencNum_ok f3] at T7
      have t3 := T7.blk.cell 3
      clear T6 t2
      go_wp2_with fail
      refine (txt_num rfl HR.out T7 n 4 (by simp [be_len])).mono ?_
      rintro x w8 ⟨rfl, T8⟩
      rw [rencNum_ok (by unfold fits; simp; omega)] at T8
      clear T7 t3
      have hst : [] ++ [99, 102] ++ be f.kind.toNat (Int.toNat 1) ++ be (Int.toNat 0) (Int.toNat 1) ++ be f.gen.toNat (Int.toNat 4) ++ be f.seq.toNat (Int.toNat 4) ++ be (n : Int).toNat (Int.toNat 4) = headF f := by
        unfold headF; rw [hlen]; rfl
      rw [hst] at T8
      clear hst
      have t3 := T8.blk.cell 3
      obtain ⟨A8, c8, q0, hc8, hm8, r8⟩ : ∃ A8 c8, w8.cell? ⟨w.heap.size + 1, 0, none⟩ = some (.slice A8 16 c8) ∧ 16 ≤ c8 ∧ c8 ≤ 9223372036854775807 ∧ Rd w8 A8 16 (headF f) := by
        obtain ⟨F, ⟨v, b8, o8, -⟩, -⟩ := T8
        simp only [headF_len] at o8
        obtain ⟨A8, c8, rfl, h1, h2, h3⟩ := own_rd o8 (headF_bytes f)
        exact ⟨A8, c8, b8.cell 0, h1, h2, h3⟩
      go_upto_region 12 with (fail)
      refine wp_region_noPanic ?_
      refine wp_region_held_drew (S := fun w' : World => w'.cell? ⟨w.heap.size + 1, 0, none⟩ = some (.slice A8 16 c8) ∧ w'.cell? ⟨w.heap.size, 3, none⟩ = some (.slice A n cap)) (by kernel_rfl) ⟨q0, t3⟩ (fun _ => ?_)
      have bd : Below w8.heap.size w8 w8.drew := (Below.refl _ _).drew
      have T9 := T8.below bd
      have r9 := r8.below bd
      have CS : ∀ w', Below w8.heap.size w8 w' → w'.cell? ⟨w.heap.size + 1, 0, none⟩ = some (.slice A8 16 c8) ∧ w'.cell? ⟨w.heap.size, 3, none⟩ = some (.slice A n cap) := fun w' b => ⟨cell_bel q0 b, cell_bel t3 b⟩
      clear T8 r8
      generalize w8.drew = w9 at *
      refine wpAnyH_take (i := 0) (oi := ?o21) (v := ?v21) ?hi21 (by kernel_rfl) (by kernel_rfl) (by kernel_rfl) ?hq21 (Or.inl ⟨?hw21, ?hy21⟩) (by assumption) ?r21
      case hi21 => (simp only [List.getElem?_toArray, List.getElem?_cons_zero]; exact rfl)
      case hq21 => exact fun _ _ _ h => h
      case hw21 => rfl
      case hy21 => (intro w hSw; (try dsimp only at hSw); go_simp; try exact rfl)
      simp only [Act.put, List.setIfInBounds_toArray, List.set_cons_zero, List.set_cons_succ]
      refine wpAnyH_take (i := 1) (oi := ?o22) (v := ?v22) ?hi22 (by kernel_rfl) (by kernel_rfl) (by kernel_rfl) ?hq22 (Or.inl ⟨?hw22, ?hy22⟩) (by assumption) ?r22
      case hi22 => (simp only [List.getElem?_toArray, List.getElem?_cons_succ, List.getElem?_cons_zero]; exact rfl)
      case hq22 => exact fun _ _ _ h => h
      case hw22 => rfl
      case hy22 => (intro w hSw; (try dsimp only at hSw); go_simp; try exact rfl)
      simp only [Act.put, List.setIfInBounds_toArray, List.set_cons_zero, List.set_cons_succ]
      refine wpAnyH_take (i := 2) (oi := ?o23) (v := ?v23) ?hi23 (by kernel_rfl) (by kernel_rfl) (by kernel_rfl) ?hq23 (Or.inl ⟨?hw23, ?hy23⟩) (by assumption) ?r23
      case hi23 => (simp only [List.getElem?_toArray, List.getElem?_cons_succ, List.getElem?_cons_zero]; exact rfl)
      case hq23 => exact fun _ _ _ h => h
      case hw23 => rfl
      case hy23 => (intro w hSw; (try dsimp only at hSw); go_simp; try exact rfl)
      simp only [Act.put, List.setIfInBounds_toArray, List.set_cons_zero, List.set_cons_succ]
      refine wpAnyH_take (i := 3) (oi := ?o24) (v := ?v24) ?hi24 (by kernel_rfl) (by kernel_rfl) (by kernel_rfl) ?hq24 (Or.inl ⟨?hw24, ?hy24⟩) (by assumption) ?r24
      case hi24 => (simp only [List.getElem?_toArray, List.getElem?_cons_succ, List.getElem?_cons_zero]; exact rfl)
      case hq24 => exact fun _ _ _ h => h
      case hw24 => rfl
      case hy24 => (intro w hSw; (try dsimp only at hSw); go_simp; try exact rfl)
      simp only [Act.put, List.setIfInBounds_toArray, List.set_cons_zero, List.set_cons_succ]
      refine wpAnyH_take (i := 5) (oi := ?o25) (v := ?v25) ?hi25 (by kernel_rfl) (by kernel_rfl) (by kernel_rfl) ?hq25 (Or.inl ⟨?hw25, ?hy25⟩) (by assumption) ?r25
      case hi25 => (simp only [List.getElem?_toArray, List.getElem?_cons_succ, List.getElem?_cons_zero]; exact rfl)
      case hq25 => exact fun _ _ _ h => h
      case hw25 => rfl
      case hy25 => (intro w hSw; (try dsimp only at hSw); go_simp; try exact rfl)
      simp only [Act.put, List.setIfInBounds_toArray, List.set_cons_zero, List.set_cons_succ]
      refine wpAnyH_take (i := 6) (oi := ?o26) (v := ?v26) ?hi26 (by kernel_rfl) (by kernel_rfl) (by kernel_rfl) ?hq26 (Or.inl ⟨?hw26, ?hy26⟩) (by assumption) ?r26
      case hi26 => (simp only [List.getElem?_toArray, List.getElem?_cons_succ, List.getElem?_cons_zero]; exact rfl)
      case hq26 => exact fun _ _ _ h => h
      case hw26 => rfl
      case hy26 => (intro w hSw; (try dsimp only at hSw); go_simp; try exact rfl)
      simp only [Act.put, List.setIfInBounds_toArray, List.set_cons_zero, List.set_cons_succ]
      refine wpAnyH_ready (rs := [4]) (by kernel_rfl) (by simp) ?_
      refine AllReadyH.cons (o := ?o28) ?hi28 (fun K hK => ?_) AllReadyH.nil
      case hi28 => (simp only [List.getElem?_toArray, List.getElem?_cons_succ, List.getElem?_cons_zero]; exact rfl)
      go_simp
      go_at_call 40
      refine (copy_any A8 16 c8 (headF f) w9 r9 (by omega)).mono ?_
      rintro x w10 ⟨v10, rfl, o10, b10⟩
      have T10 := T9.below b10
      have B10 : Below w8.heap.size w8 w10 := bd.trans (b10.mono (by have := bd.size; omega))
      refine hK.out _ _ (CS _ B10) (fun _ => ?_)
      clear hK K r9
      try simp only [Act.put, List.setIfInBounds_toArray, List.set_cons_zero, List.set_cons_succ]
      refine wpAnyH_ready (rs := [7]) (by kernel_rfl) (by simp) ?_
      refine AllReadyH.cons (o := ?o30) ?hi30 (fun K hK => ?_) AllReadyH.nil
      case hi30 => (simp only [List.getElem?_toArray, List.getElem?_cons_succ, List.getElem?_cons_zero]; exact rfl)
      refine step_append_rd rfl (.tmp 55) (.tmp 57) 38 (by rfl) w9.heap.size 5 Tryz.underlying38 info_u8 _ 16 _ (by rfl) o10 A n cap f.body (by rfl) T10.rd (by omega) b10.size ?_
      intro v11 w11 o11 g11 b11 a11
      replace o11 := o11.out
      rw [← ints_append] at o11
      obtain ⟨A11, c11, rfl, hc11, hm11, r11⟩ := own_rd o11 ((headF_bytes f).append HR.out.2.1)
      have T11 := T9.below (b10.trans b11)
      have B11 : Below w8.heap.size w8 w11 := B10.trans (b11.mono (by have := bd.size; omega))
      refine hK.out _ _ (CS _ B11) (fun _ => ?_)
      clear hK K T9 T10 o11 o10 g11 a11
      try simp only [Act.put, List.setIfInBounds_toArray, List.set_cons_zero, List.set_cons_succ]
      refine wpAnyH_ready (rs := [8]) (by kernel_rfl) (by simp) ?_
      refine AllReadyH.cons (o := ?o29) ?hi29 (fun K hK => ?_) AllReadyH.nil
      case hi29 => (simp only [List.getElem?_toArray, List.getElem?_cons_succ, List.getElem?_cons_zero]; exact rfl)
      go_simp
      go_at_call 81
      refine (rhash_any A11 (16 + n) c11 (headF f ++ f.body) w11 r11 (by omega)).mono ?_
      rintro x w12 ⟨M, c12, rfl, hM, hc12, hm12, r12, b12⟩
      have T12 := T11.below b12
      have B12 : Below w8.heap.size w8 w12 := B11.trans (b12.mono (by have := B11.size; omega))
      refine hK.out _ _ (CS _ B12) (fun _ => ?_)
      clear hK K T11 r11
      try simp only [Act.put, List.setIfInBounds_toArray, List.set_cons_zero, List.set_cons_succ]
      refine wpAnyH_take (i := 9) (oi := ?o27) (v := ?v27) ?hi27 (by kernel_rfl) (by kernel_rfl) (by kernel_rfl) ?hq27 (Or.inl ⟨?hw27, ?hy27⟩) (by assumption) ?r27
      case hi27 => (simp only [List.getElem?_toArray, List.getElem?_cons_succ, List.getElem?_cons_zero]; exact rfl)
      case hq27 => exact fun _ _ _ h => h
      case hw27 => rfl
      case hy27 => (intro w hSw; (try dsimp only at hSw); go_simp; try exact rfl)
      simp only [Act.put, List.setIfInBounds_toArray, List.set_cons_zero, List.set_cons_succ]
      refine wpAnyH_done (by kernel_rfl) ?_ _
      refine NoPanic.normal ?_
      clear CS q0 t3 b10 b11 b12 B10 B11 B12 bd
      go_wp2_with fail
      refine (txt_raw rfl HR.out T12 _ 8 c12 _ (r12.upto (m := 8) (by omega)) (by simp [headF_len])).mono ?_
      rintro x w13 ⟨rfl, T13⟩
      have t3 := T13.blk.cell 3
      clear T12 r12
      go_wp2_with fail
      refine (txt_raw rfl HR.out T13 A n cap f.body T13.rd (by simp [headF_len, List.length_take]; omega)).mono ?_
      rintro x w14 ⟨rfl, T14⟩
      replace T14 : Tx w w.heap.size (w.heap.size + 1) #[.int .i64 f.kind, .int .i64 f.gen, .int .i64 f.seq, .slice A n cap] A n f.body (0, textF f) w14 := T14
      clear T13 t3
      have PE : Kept (∀ A' n' c', n' ≤ c' → c' ≤ maxLen → Rd w14 A' n' (textF f) → RTextPost f w (.returned (.tuple #[.slice A' n' c', .int .i64 0])) w14) := ⟨fun A' n' c' h1 h2 h3 => by
        have e0 : errF f = 0 := by unfold errF; rw [if_neg (by omega), if_pos ⟨f1, f2, f3⟩]
        exact ⟨A', n', c', by rw [e0], h1, h2, by rw [if_pos e0]; exact h3, T14.bel⟩⟩
      obtain ⟨F, ⟨v, b14, o14, -⟩, -⟩ := T14
      obtain ⟨A14, c14, rfl, hc14, hm14, r14⟩ := own_rd o14 (textF_bytes f HR.out.2.1)
      have q0 := b14.cell 0
      have PF := Kept.mk (PE.out _ _ _ hc14 hm14 r14)
      clear PE b14 o14 r14
      go_wp2
      go_ret2
      exact PF.out
    · have he : errF f = 1 := by unfold errF; rw [if_neg (by omega), if_neg hf]
      have P1 : Kept (∀ w', Below w.heap.size w w' → RTextPost f w (.returned (.tuple #[.slice none 0 0, .int .i64 1])) w') := ⟨fun w' b => ⟨none, 0, 0, by rw [he], Nat.le_refl _, by unfold maxLen; omega, by rw [he]; exact Rd.nil_, b⟩⟩
      clear he hr hlen
      cases f1 : fits f.kind 1 with
      | false =>
        rw [f1] at H1
        clear hf
        go_enter Tryz.func60, Tryz.ntmps60
        go_wp2_with fail
        refine (H1.out _).mono ?_
        rintro x w' ⟨rfl, rfl⟩
        go_wp2
        go_ret2
        exact (P1.out _ ((Below.refl _ _).alloc (Nat.le_refl _) _))
      | true =>
        rw [f1] at H1 hf
        cases f2 : fits f.gen 4 with
        | false =>
          rw [f2] at H2
          clear hf
          go_enter Tryz.func60, Tryz.ntmps60
          go_wp2_with fail
          refine (H1.out _).mono ?_
          rintro x w' ⟨rfl, rfl⟩
          go_wp2_with fail
          refine (H2.out _).mono ?_
          rintro x w' ⟨rfl, rfl⟩
          go_wp2
          go_ret2
          exact (P1.out _ ((Below.refl _ _).alloc (Nat.le_refl _) _))
        | true =>
          have f3 : fits f.seq 4 = false := by
            cases h : fits f.seq 4 with
            | false => rfl
            | true => exact absurd ⟨rfl, f2, h⟩ hf
          rw [f2] at H2
          rw [f3] at H3
          clear hf
          go_enter Tryz.func60, Tryz.ntmps60
          go_wp2_with fail
          refine (H1.out _).mono ?_
          rintro x w' ⟨rfl, rfl⟩
          go_wp2_with fail
          refine (H2.out _).mono ?_
          rintro x w' ⟨rfl, rfl⟩
          go_wp2_with fail
          refine (H3.out _).mono ?_
          rintro x w' ⟨rfl, rfl⟩
          go_wp2
          go_ret2
          exact (P1.out _ ((Below.refl _ _).alloc (Nat.le_refl _) _))
end Go.Proofs.YtkbehjdglgpgjaaGreat.Frame

namespace Go.Proofs.YtkbehjdglgpgjaaGreat.Frame
open Go.RowKit Go.Proofs.YtkbehjdglgpgjaaGreat.Sha Go.Proofs.YtkbehjdglgpgjaaGreat.Wire

theorem lay_step {w : World} {N q m : Nat} {v : Value} {b : List Int} (hq : 63 * m = q) (hml : q < b.length) (mk : Int) (hmk : mk = if m = 0 then 1 else 2)
  (o : w.ownsRow N 5 1 v (m + min q b.length + 1 + (min (q + 63) b.length - q)) (ints .u8 (cat (chunk b) m) ++ ints .u8 [mk] ++ ints .u8 ((b.take (min (q + 63) b.length)).drop q))) :
  w.ownsRow N 5 1 v (m + 1 + min (63 * (m + 1)) b.length) (ints .u8 (cat (chunk b) (m + 1))) := by
 have e : ints .u8 (cat (chunk b) m) ++ ints .u8 [mk] ++ ints .u8 ((b.take (min (q + 63) b.length)).drop q) = ints .u8 (cat (chunk b) (m + 1)) := by
  rw [piece_is, ← ints_append, ← ints_append, cat, chunk, hmk, hq]; simp
 rw [e, show m + min q b.length + 1 + (min (q + 63) b.length - q) = m + 1 + min (63 * (m + 1)) b.length by omega] at o
 exact o
def RPutPost (f : FV) (w : World) (x : Ending) (w' : World) : Prop := ∃ A n c, x = .returned (.tuple #[.slice A n c, .int .i64 (putF f).1]) ∧ n ≤ c ∧ c ≤ maxLen ∧ Rd w' A n (putF f).2 ∧ Below w.heap.size w w'
def RPutNew (f : FV) (w : World) (x : Ending) (w' : World) : Prop := ∃ A n c, x = .returned (.tuple #[.slice A n c, .int .i64 (putF f).1]) ∧ n ≤ c ∧ c ≤ maxLen ∧ Rd w' A n (putF f).2 ∧ Below w.heap.size w w' ∧ ∀ F : List Nat, (∀ k ∈ F, k < w.heap.size) → Off A n F
set_option maxRecDepth 100000 in
set_option maxHeartbeats 1000000 in
theorem rput_new (f : FV) (A : Option Addr) (n cap : Nat) (w : World) (hr : Rd w A n f.body) :
  Calls Tryz.prog 37 #[.agg #[.int .i64 f.kind, .int .i64 f.gen, .int .i64 f.seq, .slice A n cap]] w (RPutNew f w) := by
 have hlen := hr.1
 have b1 : Below w.heap.size w (w.alloc (.cells #[.int .i64 f.kind, .int .i64 f.gen, .int .i64 f.seq, .slice A n cap] 90)) := (Below.refl _ _).alloc (Nat.le_refl _) _
 have CT := Kept.mk (rtext_any f A n cap _ (hr.below b1))
 go_enter Tryz.func37, Tryz.ntmps37
 go_wp2_with fail
 refine CT.out.mono ?_
 rintro x wt ⟨At, nt, ct, rfl, hct, hcm, rt, bt⟩
 have hnt := rt.1
 have BT := Kept.mk (b1.trans (bt.mono (by simp)))
 have HRT := Kept.mk rt
 obtain ⟨N, hN⟩ : ∃ N, wt.heap.size = N := ⟨_, rfl⟩
 clear CT hr b1 bt rt
 by_cases he : errF f = 0
 ·rw [if_pos he] at hnt HRT
  rw [he]
  have hL : (textF f).length ≤ 60024 := by
   rw [textF_len]; unfold errF at he; split at he <;> omega
  have PE : Kept (∀ A' n' c' w', n' ≤ c' → c' ≤ maxLen → Rd w' A' n' (laid (textF f)) → Below N wt w' → (∀ F : List Nat, (∀ k ∈ F, k < N) → Off A' n' F) → RPutNew f w (.returned (.tuple #[.slice A' n' c', .int .i64 0])) w') := ⟨fun A' n' c' w' h1 h2 h3 h4 h5 => by
   refine ⟨A', n', c', by simp only [putF, he], h1, h2, ?_, BT.out.trans (h4.mono (by rw [← hN]; exact BT.out.size)), fun F hF => h5 F (fun k hk => by have := hF k hk; have := BT.out.size; omega)⟩
   simp only [putF]; rw [if_pos he]; exact h3⟩
  obtain ⟨b, hb⟩ : ∃ b, textF f = b := ⟨_, rfl⟩
  rw [hb] at hnt HRT hL PE
  subst hnt
  clear he hb BT
  go_wp2_with fail
  go_loopw [6, 7, 8] (fun v j _mk wr => ∃ m : Nat, m ≤ secs b.length ∧ j = .int .i64 ((63 * m : Nat) : Int) ∧ Kept (wr.ownsRow N 5 1 v (m + min (63 * m) b.length) (ints .u8 (cat (chunk b) m))) ∧ Kept (Below N wt wr)) (fun _ j _ _ => b.length + 63 - (Go.RowKit.intOf j).toNat)
  case atStart => exact ⟨0, by omega, rfl, ⟨World.ownsRow_nil _ _ _ _⟩, ⟨Below.refl _ _⟩⟩
  case round =>
   obtain ⟨m, hm, rfl, O, B⟩ := hrel
   by_cases hml : 63 * m < b.length
   ·have hml' : ((63 * m : Nat) : Int) < b.length := by omega
    obtain ⟨q, hq⟩ : ∃ q, 63 * m = q := ⟨_, rfl⟩
    rw [hq] at hml hml' O ⊢
    by_cases hm0 : m = 0
    ·have hq0 : q = 0 := by omega
     go_upto_region 11 with (fail)
     clear hq0
     have bd : Below N wt wr.drew := B.out.drew
     have od := O.out.drew
     have WR : IntKind.i64.wrap ((q : Int) + 63) = (q : Int) + 63 := by simp only [IntKind.wrap_i64]; omega
     obtain ⟨A2, hs, r2, -⟩ := slice_lh HRT.out hct q (min (q + 63) b.length) (by omega) (by omega) (q : Int) (if (b.length : Int) < (q : Int) + 63 then (b.length : Int) else (q : Int) + 63) rfl (by split <;> omega)
     refine wp_region_noPanic ?_
     refine wp_region_held_drew (S := fun _ : World => True) (by kernel_rfl) trivial (fun _ => ?_)
     generalize wr.drew = wd at *
     refine wpAnyH_take (i := 0) (oi := ?o31) (v := ?v31) ?hi31 (by kernel_rfl) (by kernel_rfl) (by kernel_rfl) ?hq31 (Or.inl ⟨?hw31, ?hy31⟩) (by assumption) ?r31
     case hi31 => (simp only [List.getElem?_toArray, List.getElem?_cons_zero]; exact rfl)
     case hq31 => exact fun _ _ _ h => h
     case hw31 => rfl
     case hy31 => (intro w hSw; (try dsimp only at hSw); go_simp; try exact rfl)
     simp only [Act.put, List.setIfInBounds_toArray, List.set_cons_zero, List.set_cons_succ]
     refine wpAnyH_take (i := 1) (oi := ?o32) (v := ?v32) ?hi32 (by kernel_rfl) (by kernel_rfl) (by kernel_rfl) ?hq32 (Or.inl ⟨?hw32, ?hy32⟩) (by assumption) ?r32
     case hi32 => (simp only [List.getElem?_toArray, List.getElem?_cons_succ, List.getElem?_cons_zero]; exact rfl)
     case hq32 => exact fun _ _ _ h => h
     case hw32 => rfl
     case hy32 => (intro w hSw; (try dsimp only at hSw); go_simp; try exact rfl)
     simp only [Act.put, List.setIfInBounds_toArray, List.set_cons_zero, List.set_cons_succ]
     refine wpAnyH_take (i := 4) (oi := ?o33) (v := ?v33) ?hi33 (by kernel_rfl) (by kernel_rfl) (by kernel_rfl) ?hq33 (Or.inl ⟨?hw33, ?hy33⟩) (by assumption) ?r33
     case hi33 => (simp only [List.getElem?_toArray, List.getElem?_cons_succ, List.getElem?_cons_zero]; exact rfl)
     case hq33 => exact fun _ _ _ h => h
     case hw33 => rfl
     case hy33 => (intro w hSw; (try dsimp only at hSw); go_simp; try exact rfl)
     simp only [Act.put, List.setIfInBounds_toArray, List.set_cons_zero, List.set_cons_succ]
     refine wpAnyH_take (i := 5) (oi := ?o34) (v := ?v34) ?hi34 (by kernel_rfl) (by kernel_rfl) (by kernel_rfl) ?hq34 (Or.inl ⟨?hw34, ?hy34⟩) (by assumption) ?r34
     case hi34 => (simp only [List.getElem?_toArray, List.getElem?_cons_succ, List.getElem?_cons_zero]; exact rfl)
     case hq34 => exact fun _ _ _ h => h
     case hw34 => rfl
     case hy34 => (intro w hSw; (try dsimp only at hSw); go_simp; try exact rfl)
     simp only [Act.put, List.setIfInBounds_toArray, List.set_cons_zero, List.set_cons_succ]
     refine wpAnyH_take (i := 6) (oi := ?o35) (v := ?v35) ?hi35 (by kernel_rfl) (by kernel_rfl) (by kernel_rfl) ?hq35 (Or.inl ⟨?hw35, ?hy35⟩) (by assumption) ?r35
     case hi35 => (simp only [List.getElem?_toArray, List.getElem?_cons_succ, List.getElem?_cons_zero]; exact rfl)
     case hq35 => exact fun _ _ _ h => h
     case hw35 => rfl
     case hy35 => (intro w hSw; (try dsimp only at hSw); go_simp; try exact rfl)
     simp only [Act.put, List.setIfInBounds_toArray, List.set_cons_zero, List.set_cons_succ]
     refine wpAnyH_take (i := 7) (oi := ?o36) (v := ?v36) ?hi36 (by kernel_rfl) (by kernel_rfl) (by kernel_rfl) ?hq36 (Or.inl ⟨?hw36, ?hy36⟩) (by assumption) ?r36
     case hi36 => (simp only [List.getElem?_toArray, List.getElem?_cons_succ, List.getElem?_cons_zero]; exact rfl)
     case hq36 => exact fun _ _ _ h => h
     case hw36 => rfl
     case hy36 => (intro w hSw; (try dsimp only at hSw); go_simp; try exact rfl)
     simp only [Act.put, List.setIfInBounds_toArray, List.set_cons_zero, List.set_cons_succ]
     refine wpAnyH_take (i := 8) (oi := ?o37) (v := ?v37) ?hi37 (by kernel_rfl) (by kernel_rfl) (by kernel_rfl) ?hq37 (Or.inl ⟨?hw37, ?hy37⟩) (by assumption) ?r37
     case hi37 => (simp only [List.getElem?_toArray, List.getElem?_cons_succ, List.getElem?_cons_zero]; exact rfl)
     case hq37 => exact fun _ _ _ h => h
     case hw37 => rfl
     case hy37 => (intro w hSw; (try dsimp only at hSw); go_simp; try exact rfl)
     simp only [Act.put, List.setIfInBounds_toArray, List.set_cons_zero, List.set_cons_succ]
     refine wpAnyH_take (i := 9) (oi := ?o38) (v := ?v38) ?hi38 (by kernel_rfl) (by kernel_rfl) (by kernel_rfl) ?hq38 (Or.inl ⟨?hw38, ?hy38⟩) (by assumption) ?r38
     case hi38 => (simp only [List.getElem?_toArray, List.getElem?_cons_succ, List.getElem?_cons_zero]; exact rfl)
     case hq38 => exact fun _ _ _ h => h
     case hw38 => rfl
     case hy38 => (intro w hSw; (try dsimp only at hSw); go_simp; try exact rfl)
     simp only [Act.put, List.setIfInBounds_toArray, List.set_cons_zero, List.set_cons_succ]
     refine wpAnyH_take (i := 10) (oi := ?o39) (v := ?v39) ?hi39 (by kernel_rfl) (by kernel_rfl) (by kernel_rfl) ?hq39 (Or.inl ⟨?hw39, ?hy39⟩) (by assumption) ?r39
     case hi39 => (simp only [List.getElem?_toArray, List.getElem?_cons_succ, List.getElem?_cons_zero]; exact rfl)
     case hq39 => exact fun _ _ _ h => h
     case hw39 => rfl
     case hy39 => (intro w hSw; (try dsimp only at hSw); go_simp; try exact rfl)
     simp only [Act.put, List.setIfInBounds_toArray, List.set_cons_zero, List.set_cons_succ]
     refine wpAnyH_take (i := 11) (oi := ?o40) (v := ?v40) ?hi40 (by kernel_rfl) (by kernel_rfl) (by kernel_rfl) ?hq40 (Or.inl ⟨?hw40, ?hy40⟩) (by assumption) ?r40
     case hi40 => (simp only [List.getElem?_toArray, List.getElem?_cons_succ, List.getElem?_cons_zero]; exact rfl)
     case hq40 => exact fun _ _ _ h => h
     case hw40 => rfl
     case hy40 => (intro w hSw; (try dsimp only at hSw); go_simp; try exact rfl)
     simp only [Act.put, List.setIfInBounds_toArray, List.set_cons_zero, List.set_cons_succ]
     refine wpAnyH_ready (rs := [2]) (by kernel_rfl) (by simp) ?_
     refine AllReadyH.cons (o := ?o53) ?hi53 (fun K hK => ?_) AllReadyH.nil
     case hi53 => (simp only [List.getElem?_toArray, List.getElem?_cons_succ, List.getElem?_cons_zero]; exact rfl)
     go_simp
     have RB := Kept.mk (Blk.new wd 5 #[.int .u8 1])
     have O8 := od.alloc (.cells #[.int .u8 1] 5)
     have hsz : N ≤ wd.heap.size := by rw [← hN]; exact bd.size
     have B9 : Below N wt (wd.alloc (.cells #[.int .u8 1] 5)) := bd.alloc hsz _
     refine hK.out _ _ trivial (fun _ => ?_)
     clear hK K od bd
     try simp only [Act.put, List.setIfInBounds_toArray, List.set_cons_zero, List.set_cons_succ]
     generalize wd.alloc (.cells #[.int .u8 1] 5) = w9 at *
     generalize wd.heap.size = gB at *
     refine wpAnyH_ready (rs := [3]) (by kernel_rfl) (by simp) ?_
     refine AllReadyH.cons (o := ?o55) ?hi55 (fun K hK => ?_) AllReadyH.nil
     case hi55 => (simp only [List.getElem?_toArray, List.getElem?_cons_succ, List.getElem?_cons_zero]; exact rfl)
     refine step_append_rd rfl (.tmp 25) (.tmp 27) 38 (by rfl) N 5 Tryz.underlying38 info_u8 _ _ _ (by rfl) O8 (some ⟨gB, 0, none⟩) 1 1 [1] (by rfl) (Rd.blk (xs := [1]) RB.out (by intro x hx; simp at hx; omega) rfl) (by unfold secs at hm; omega) (by rw [← hN]; exact B9.size) ?_
     intro v3 w3 o3 g3 b3 a3
     have B3 := B9.trans b3
     refine hK.out _ _ trivial (fun _ => ?_)
     clear hK K
     try simp only [Act.put, List.setIfInBounds_toArray, List.set_cons_zero, List.set_cons_succ]
     refine wpAnyH_ready (rs := [12]) (by kernel_rfl) (by simp) ?_
     refine AllReadyH.cons (o := ?o56) ?hi56 (fun K hK => ?_) AllReadyH.nil
     case hi56 => (simp only [List.getElem?_toArray, List.getElem?_cons_succ, List.getElem?_cons_zero]; exact rfl)
     refine step_append_rd rfl (.tmp 28) (.tmp 36) 38 (by rfl) N 5 Tryz.underlying38 info_u8 _ _ _ (by rfl) o3.out A2 (min (q + 63) b.length - q) (ct - q) _ (by rfl) (r2.below (by rw [hN]; exact B3)) (by unfold secs at hm; omega) (by rw [← hN]; exact B3.size) ?_
     intro v12 w12 o12 g12 b12 a12
     have B12 := Kept.mk (B3.trans b12)
     refine hK.out _ _ trivial (fun _ => ?_)
     clear hK K
     try simp only [Act.put, List.setIfInBounds_toArray, List.set_cons_zero, List.set_cons_succ]
     refine wpAnyH_take (i := 13) (oi := ?o41) (v := ?v41) ?hi41 (by kernel_rfl) (by kernel_rfl) (by kernel_rfl) ?hq41 (Or.inl ⟨?hw41, ?hy41⟩) (by assumption) ?r41
     case hi41 => (simp only [List.getElem?_toArray, List.getElem?_cons_succ, List.getElem?_cons_zero]; exact rfl)
     case hq41 => exact fun _ _ _ h => h
     case hw41 => rfl
     case hy41 => (intro w hSw; (try dsimp only at hSw); go_simp; try exact rfl)
     simp only [Act.put, List.setIfInBounds_toArray, List.set_cons_zero, List.set_cons_succ]
     refine wpAnyH_done (by kernel_rfl) ?_ _
     refine NoPanic.normal ?_
     have O12 := Kept.mk (lay_step hq hml 1 (by rw [if_pos hm0]) o12.out)
     clear o12 g12 b12 a12 B3 o3 g3 b3 a3 B9 O8 RB hs r2 WR
     go_wp2
     go_roundw
     case rel => exact ⟨m + 1, by unfold secs; omega, by go_num, O12, B12⟩
     case measure => simp [Go.RowKit.intOf]; omega
    ·have hq0 : ¬ (q : Int) = 0 := by omega
     go_upto_region 11 with (fail)
     clear hq0
     have bd : Below N wt wr.drew := B.out.drew
     have od := O.out.drew
     have WR : IntKind.i64.wrap ((q : Int) + 63) = (q : Int) + 63 := by simp only [IntKind.wrap_i64]; omega
     obtain ⟨A2, hs, r2, -⟩ := slice_lh HRT.out hct q (min (q + 63) b.length) (by omega) (by omega) (q : Int) (if (b.length : Int) < (q : Int) + 63 then (b.length : Int) else (q : Int) + 63) rfl (by split <;> omega)
     refine wp_region_noPanic ?_
     refine wp_region_held_drew (S := fun _ : World => True) (by kernel_rfl) trivial (fun _ => ?_)
     generalize wr.drew = wd at *
     refine wpAnyH_take (i := 0) (oi := ?o42) (v := ?v42) ?hi42 (by kernel_rfl) (by kernel_rfl) (by kernel_rfl) ?hq42 (Or.inl ⟨?hw42, ?hy42⟩) (by assumption) ?r42
     case hi42 => (simp only [List.getElem?_toArray, List.getElem?_cons_zero]; exact rfl)
     case hq42 => exact fun _ _ _ h => h
     case hw42 => rfl
     case hy42 => (intro w hSw; (try dsimp only at hSw); go_simp; try exact rfl)
     simp only [Act.put, List.setIfInBounds_toArray, List.set_cons_zero, List.set_cons_succ]
     refine wpAnyH_take (i := 1) (oi := ?o43) (v := ?v43) ?hi43 (by kernel_rfl) (by kernel_rfl) (by kernel_rfl) ?hq43 (Or.inl ⟨?hw43, ?hy43⟩) (by assumption) ?r43
     case hi43 => (simp only [List.getElem?_toArray, List.getElem?_cons_succ, List.getElem?_cons_zero]; exact rfl)
     case hq43 => exact fun _ _ _ h => h
     case hw43 => rfl
     case hy43 => (intro w hSw; (try dsimp only at hSw); go_simp; try exact rfl)
     simp only [Act.put, List.setIfInBounds_toArray, List.set_cons_zero, List.set_cons_succ]
     refine wpAnyH_take (i := 4) (oi := ?o44) (v := ?v44) ?hi44 (by kernel_rfl) (by kernel_rfl) (by kernel_rfl) ?hq44 (Or.inl ⟨?hw44, ?hy44⟩) (by assumption) ?r44
     case hi44 => (simp only [List.getElem?_toArray, List.getElem?_cons_succ, List.getElem?_cons_zero]; exact rfl)
     case hq44 => exact fun _ _ _ h => h
     case hw44 => rfl
     case hy44 => (intro w hSw; (try dsimp only at hSw); go_simp; try exact rfl)
     simp only [Act.put, List.setIfInBounds_toArray, List.set_cons_zero, List.set_cons_succ]
     refine wpAnyH_take (i := 5) (oi := ?o45) (v := ?v45) ?hi45 (by kernel_rfl) (by kernel_rfl) (by kernel_rfl) ?hq45 (Or.inl ⟨?hw45, ?hy45⟩) (by assumption) ?r45
     case hi45 => (simp only [List.getElem?_toArray, List.getElem?_cons_succ, List.getElem?_cons_zero]; exact rfl)
     case hq45 => exact fun _ _ _ h => h
     case hw45 => rfl
     case hy45 => (intro w hSw; (try dsimp only at hSw); go_simp; try exact rfl)
     simp only [Act.put, List.setIfInBounds_toArray, List.set_cons_zero, List.set_cons_succ]
     refine wpAnyH_take (i := 6) (oi := ?o46) (v := ?v46) ?hi46 (by kernel_rfl) (by kernel_rfl) (by kernel_rfl) ?hq46 (Or.inl ⟨?hw46, ?hy46⟩) (by assumption) ?r46
     case hi46 => (simp only [List.getElem?_toArray, List.getElem?_cons_succ, List.getElem?_cons_zero]; exact rfl)
     case hq46 => exact fun _ _ _ h => h
     case hw46 => rfl
     case hy46 => (intro w hSw; (try dsimp only at hSw); go_simp; try exact rfl)
     simp only [Act.put, List.setIfInBounds_toArray, List.set_cons_zero, List.set_cons_succ]
     refine wpAnyH_take (i := 7) (oi := ?o47) (v := ?v47) ?hi47 (by kernel_rfl) (by kernel_rfl) (by kernel_rfl) ?hq47 (Or.inl ⟨?hw47, ?hy47⟩) (by assumption) ?r47
     case hi47 => (simp only [List.getElem?_toArray, List.getElem?_cons_succ, List.getElem?_cons_zero]; exact rfl)
     case hq47 => exact fun _ _ _ h => h
     case hw47 => rfl
     case hy47 => (intro w hSw; (try dsimp only at hSw); go_simp; try exact rfl)
     simp only [Act.put, List.setIfInBounds_toArray, List.set_cons_zero, List.set_cons_succ]
     refine wpAnyH_take (i := 8) (oi := ?o48) (v := ?v48) ?hi48 (by kernel_rfl) (by kernel_rfl) (by kernel_rfl) ?hq48 (Or.inl ⟨?hw48, ?hy48⟩) (by assumption) ?r48
     case hi48 => (simp only [List.getElem?_toArray, List.getElem?_cons_succ, List.getElem?_cons_zero]; exact rfl)
     case hq48 => exact fun _ _ _ h => h
     case hw48 => rfl
     case hy48 => (intro w hSw; (try dsimp only at hSw); go_simp; try exact rfl)
     simp only [Act.put, List.setIfInBounds_toArray, List.set_cons_zero, List.set_cons_succ]
     refine wpAnyH_take (i := 9) (oi := ?o49) (v := ?v49) ?hi49 (by kernel_rfl) (by kernel_rfl) (by kernel_rfl) ?hq49 (Or.inl ⟨?hw49, ?hy49⟩) (by assumption) ?r49
     case hi49 => (simp only [List.getElem?_toArray, List.getElem?_cons_succ, List.getElem?_cons_zero]; exact rfl)
     case hq49 => exact fun _ _ _ h => h
     case hw49 => rfl
     case hy49 => (intro w hSw; (try dsimp only at hSw); go_simp; try exact rfl)
     simp only [Act.put, List.setIfInBounds_toArray, List.set_cons_zero, List.set_cons_succ]
     refine wpAnyH_take (i := 10) (oi := ?o50) (v := ?v50) ?hi50 (by kernel_rfl) (by kernel_rfl) (by kernel_rfl) ?hq50 (Or.inl ⟨?hw50, ?hy50⟩) (by assumption) ?r50
     case hi50 => (simp only [List.getElem?_toArray, List.getElem?_cons_succ, List.getElem?_cons_zero]; exact rfl)
     case hq50 => exact fun _ _ _ h => h
     case hw50 => rfl
     case hy50 => (intro w hSw; (try dsimp only at hSw); go_simp; try exact rfl)
     simp only [Act.put, List.setIfInBounds_toArray, List.set_cons_zero, List.set_cons_succ]
     refine wpAnyH_take (i := 11) (oi := ?o51) (v := ?v51) ?hi51 (by kernel_rfl) (by kernel_rfl) (by kernel_rfl) ?hq51 (Or.inl ⟨?hw51, ?hy51⟩) (by assumption) ?r51
     case hi51 => (simp only [List.getElem?_toArray, List.getElem?_cons_succ, List.getElem?_cons_zero]; exact rfl)
     case hq51 => exact fun _ _ _ h => h
     case hw51 => rfl
     case hy51 => (intro w hSw; (try dsimp only at hSw); go_simp; try exact rfl)
     simp only [Act.put, List.setIfInBounds_toArray, List.set_cons_zero, List.set_cons_succ]
     refine wpAnyH_ready (rs := [2]) (by kernel_rfl) (by simp) ?_
     refine AllReadyH.cons (o := ?o54) ?hi54 (fun K hK => ?_) AllReadyH.nil
     case hi54 => (simp only [List.getElem?_toArray, List.getElem?_cons_succ, List.getElem?_cons_zero]; exact rfl)
     go_simp
     have RB := Kept.mk (Blk.new wd 5 #[.int .u8 2])
     have O8 := od.alloc (.cells #[.int .u8 2] 5)
     have hsz : N ≤ wd.heap.size := by rw [← hN]; exact bd.size
     have B9 : Below N wt (wd.alloc (.cells #[.int .u8 2] 5)) := bd.alloc hsz _
     refine hK.out _ _ trivial (fun _ => ?_)
     clear hK K od bd
     try simp only [Act.put, List.setIfInBounds_toArray, List.set_cons_zero, List.set_cons_succ]
     generalize wd.alloc (.cells #[.int .u8 2] 5) = w9 at *
     generalize wd.heap.size = gB at *
     refine wpAnyH_ready (rs := [3]) (by kernel_rfl) (by simp) ?_
     refine AllReadyH.cons (o := ?o57) ?hi57 (fun K hK => ?_) AllReadyH.nil
     case hi57 => (simp only [List.getElem?_toArray, List.getElem?_cons_succ, List.getElem?_cons_zero]; exact rfl)
     refine step_append_rd rfl (.tmp 25) (.tmp 27) 38 (by rfl) N 5 Tryz.underlying38 info_u8 _ _ _ (by rfl) O8 (some ⟨gB, 0, none⟩) 1 1 [2] (by rfl) (Rd.blk (xs := [2]) RB.out (by intro x hx; simp at hx; omega) rfl) (by unfold secs at hm; omega) (by rw [← hN]; exact B9.size) ?_
     intro v3 w3 o3 g3 b3 a3
     have B3 := B9.trans b3
     refine hK.out _ _ trivial (fun _ => ?_)
     clear hK K
     try simp only [Act.put, List.setIfInBounds_toArray, List.set_cons_zero, List.set_cons_succ]
     refine wpAnyH_ready (rs := [12]) (by kernel_rfl) (by simp) ?_
     refine AllReadyH.cons (o := ?o58) ?hi58 (fun K hK => ?_) AllReadyH.nil
     case hi58 => (simp only [List.getElem?_toArray, List.getElem?_cons_succ, List.getElem?_cons_zero]; exact rfl)
     refine step_append_rd rfl (.tmp 28) (.tmp 36) 38 (by rfl) N 5 Tryz.underlying38 info_u8 _ _ _ (by rfl) o3.out A2 (min (q + 63) b.length - q) (ct - q) _ (by rfl) (r2.below (by rw [hN]; exact B3)) (by unfold secs at hm; omega) (by rw [← hN]; exact B3.size) ?_
     intro v12 w12 o12 g12 b12 a12
     have B12 := Kept.mk (B3.trans b12)
     refine hK.out _ _ trivial (fun _ => ?_)
     clear hK K
     try simp only [Act.put, List.setIfInBounds_toArray, List.set_cons_zero, List.set_cons_succ]
     refine wpAnyH_take (i := 13) (oi := ?o52) (v := ?v52) ?hi52 (by kernel_rfl) (by kernel_rfl) (by kernel_rfl) ?hq52 (Or.inl ⟨?hw52, ?hy52⟩) (by assumption) ?r52
     case hi52 => (simp only [List.getElem?_toArray, List.getElem?_cons_succ, List.getElem?_cons_zero]; exact rfl)
     case hq52 => exact fun _ _ _ h => h
     case hw52 => rfl
     case hy52 => (intro w hSw; (try dsimp only at hSw); go_simp; try exact rfl)
     simp only [Act.put, List.setIfInBounds_toArray, List.set_cons_zero, List.set_cons_succ]
     refine wpAnyH_done (by kernel_rfl) ?_ _
     refine NoPanic.normal ?_
     have O12 := Kept.mk (lay_step hq hml 2 (by rw [if_neg hm0]) o12.out)
     clear o12 g12 b12 a12 B3 o3 g3 b3 a3 B9 O8 RB hs r2 WR
     go_wp2
     go_roundw
     case rel => exact ⟨m + 1, by unfold secs; omega, by go_num, O12, B12⟩
     case measure => simp [Go.RowKit.intOf]; omega
   ·have hml' : ¬ ((63 * m : Nat) : Int) < b.length := by omega
    obtain rfl : m = secs b.length := by unfold secs at hm ⊢; omega
    obtain ⟨S, hS⟩ : ∃ S, secs b.length = S := ⟨_, rfl⟩
    have hSd : (b.length + 62) / 63 = S := by rw [← hS]; rfl
    obtain ⟨t, ht⟩ : ∃ t, 64 * S - (S + b.length) = t := ⟨_, rfl⟩
    have hlaid : laid b = cat (chunk b) S ++ List.replicate t 0 := by unfold laid; rw [hS, ht]
    rw [hS] at O hml hml' hm ⊢
    rw [show S + min (63 * S) b.length = S + b.length by omega] at O
    rw [hlaid] at PE
    obtain ⟨l, hl⟩ : ∃ l, S + b.length = l := ⟨_, rfl⟩
    rw [hl] at O ht
    have hcl : (cat (chunk b) S).length = l := by have := O.out.1; rw [ints_len] at this; omega
    have hcb : Bytes (cat (chunk b) S) := cat_chunk_bytes b HRT.out.2.1 S
    have hl1 : l + t = 64 * S := by omega
    have ht64 : t < 64 := by omega
    have hl2 : l + t ≤ 64000 := by omega
    clear hlaid
    generalize cat (chunk b) S = C at *
    go_wp2
    go_loopw [6] (fun v wr => ∃ (p c : Nat) (Av : Option Addr), v = .slice Av (l + p) c ∧ p ≤ t ∧ Kept (wr.ownsRow N 5 1 v (l + p) (ints .u8 (C ++ List.replicate p 0))) ∧ Kept (Below N wt wr)) (fun v _ => l + t - lenOf v)
    case atStart =>
     obtain ⟨Av, c, rfl⟩ := own_shape O.out
     exact ⟨0, c, Av, rfl, by omega, by simpa using O, B⟩
    case round =>
     obtain ⟨p, c, Av, rfl, hp, O2, B2⟩ := hrel
     obtain ⟨y, hy⟩ : ∃ y, l + p = y := ⟨_, rfl⟩
     have hy2 : y ≤ 64000 := by omega
     have hr0 : Int.tmod (y : Int) 64 = ((y % 64 : Nat) : Int) := by rw [Int.tmod_eq_emod_of_nonneg (by omega)]; omega
     by_cases hpt : p < t
     ·have hne : ¬ ((y % 64 : Nat) : Int) = 0 := by omega
      rw [hy] at O2 ⊢
      have hz : l + (p + 1) = y + 1 := by omega
      generalize y % 64 = z at *
      go_wp2_with ((with_reducible refine sel 44 ?_); refine wpList_append_rda rfl (.tmp 42) (.tmp 43) 38 rfl N 5 Tryz.underlying38 info_u8 _ y _ rfl (O2.out.alloc _) _ 1 1 [0] rfl (rd_one _ _ (by omega)) (by omega) (by have := B2.out.size; simp; omega) ?_; intro v7 w7 o7 g7 a7; have B7 := Kept.mk ((B2.out.alloc (by have := B2.out.size; omega) (.cells #[.int .u8 0] 5)).trans (own_below (O2.out.alloc (.cells #[.int .u8 0] 5)) g7 (by have := B2.out.size; simp; omega))); clear g7 a7)
      obtain ⟨A7, c7, rfl⟩ := own_shape o7.out
      go_roundw
      case rel =>
       refine ⟨p + 1, c7, A7, by rw [hz], by omega, ⟨?_⟩, B7⟩
       have := o7.out
       rw [← ints_append, List.append_assoc, ← List.replicate_succ'] at this
       rw [hz]; exact this
      case measure => simp [lenOf]; omega
     ·obtain rfl : p = t := by omega
      have hne : ((y % 64 : Nat) : Int) = 0 := by omega
      have h5 : ∀ F : List Nat, (∀ k ∈ F, k < N) → Off Av (l + p) F := fun F hF => own_off O2.out (fun q hq hm => by
       have := (O2.out.lt q (by simpa using hq)).1
       have := hF q hm
       omega)
      obtain ⟨-, h1, h2, h3⟩ : True ∧ l + p ≤ c ∧ c ≤ 9223372036854775807 ∧ Rd wr Av (l + p) (C ++ List.replicate p 0) := by
       obtain ⟨A', c', e1, h1, h2, h3⟩ := own_rd O2.out (hcb.append (fun x hx => by have := List.eq_of_mem_replicate hx; omega))
       injection e1 with e1 e2 e3
       subst e1 e3
       exact ⟨trivial, h1, h2, h3⟩
      have PF := Kept.mk (PE.out _ _ _ _ h1 h2 h3 B2.out h5)
      rw [hy] at PF ⊢
      generalize y % 64 = z at *
      clear PE h3 h5
      go_wp2
      go_ret2
      exact PF.out
 ·rw [if_neg he] at hnt HRT
  have PE : Kept (∀ w', Below w.heap.size w w' → RPutNew f w (.returned (.tuple #[.slice none 0 0, .int .i64 (errF f)])) w') := ⟨fun w' h => ⟨none, 0, 0, rfl, Nat.le_refl _, by unfold maxLen; omega, by simp only [putF]; rw [if_neg he]; exact Rd.nil_, h, fun _ _ => .inl rfl⟩⟩
  have PF := Kept.mk (PE.out _ BT.out)
  have he2 : (errF f == 0) = false := by simpa using he
  generalize errF f = er at *
  clear PE
  go_wp2
  go_ret2
  exact PF.out
theorem rput_any (f : FV) (A : Option Addr) (n cap : Nat) (w : World) (hr : Rd w A n f.body) :
  Calls Tryz.prog 37 #[.agg #[.int .i64 f.kind, .int .i64 f.gen, .int .i64 f.seq, .slice A n cap]] w (RPutPost f w) :=
 (rput_new f A n cap w hr).mono fun _ _ ⟨A', n', c', h1, h2, h3, h4, h5, _⟩ => ⟨A', n', c', h1, h2, h3, h4, h5⟩
end Go.Proofs.YtkbehjdglgpgjaaGreat.Frame

namespace Go.Proofs.YtkbehjdglgpgjaaGreat.Frame
open Go.RowKit Go.Proofs.YtkbehjdglgpgjaaGreat.Sha Go.Proofs.YtkbehjdglgpgjaaGreat.Wire

def Gx (w0 : World) (N d T : Nat) (G : List Nat) (fr : Array Value) (A : Option Addr) (n : Nat) (b : List Int) (st : St) (w : World) : Prop :=
 De 116 w d G st ∧ Blk w N 90 #[.int .i64 0, .int .i64 0, .int .i64 0, .slice none 0 0] ∧ Blk w (N + 1) 90 #[.int .i64 0, .int .i64 0, .int .i64 0, .slice none 0 0] ∧ Blk w (T) 90 fr ∧ Rd w A n b ∧ Below N w0 w
theorem gx_num {w0 : World} {N d T : Nat} {G : List Nat} {fr : Array Value} {A : Option Addr} {n : Nat} {b : List Int} {st : St} {w : World} (hN : w0.heap.size = N) (hd : d = N + 1 + 1) (hT : N + 1 + 1 < T) (hG : ∀ k ∈ G, k < N) (hA : Rd w0 A n b) (h : Gx w0 N d T G fr A n b st w) (s : Int) :
  Calls Tryz.prog 55 #[.pointer (some ⟨d, 0, none⟩), .int .i64 s] w fun x w' => x = .returned (.int .i64 (decNum st s).1) ∧ Gx w0 N d T G fr A n b (decNum st s).2 w' := by
 obtain ⟨h1, h2, h3, h4, h5, h6⟩ := h
 refine (rdnum_any w d G s st h1 (fun hk => by have := hG d hk; omega)).mono ?_
 rintro x w' ⟨rfl, k1, k2⟩
 have hs := h6.size
 have b' : Below N w0 w' := h6.trans (k2.below (by omega) (fun k hk => by rw [List.mem_singleton] at hk; omega))
 exact ⟨rfl, k1, h2.bar k2 (by rw [List.mem_singleton]; omega), h3.bar k2 (by rw [List.mem_singleton]; omega), h4.bar k2 (by rw [List.mem_singleton]; omega), hA.below (by rw [hN]; exact b'), b'⟩
theorem Gx.set {w0 : World} {N d T : Nat} {G : List Nat} {fr : Array Value} {A : Option Addr} {n : Nat} {b : List Int} {st : St} {w : World} (hN : w0.heap.size = N) (hd : d = N + 1 + 1) (hT : N + 1 + 1 < T) (hG : ∀ k ∈ G, k < N) (hA : Rd w0 A n b) (h : Gx w0 N d T G fr A n b st w) (i : Nat) (v : Value) :
  Gx w0 N d T G (fr.setIfInBounds i v) A n b st (w.setCell ⟨T, i, none⟩ v) := by
 obtain ⟨h1, h2, h3, h4, h5, h6⟩ := h
 have hb : Bar [T] w (w.setCell ⟨T, i, none⟩ v) := (Bar.refl _ _).setCell (by simp) _
 have hs := h6.size
 have b' : Below N w0 (w.setCell ⟨T, i, none⟩ v) := h6.trans (hb.below (by omega) (fun k hk => by rw [List.mem_singleton] at hk; omega))
 exact ⟨h1.keep hb (by rw [List.mem_singleton]; omega) (fun k hk hk2 => by rw [List.mem_singleton] at hk2; have := hG k hk; omega), h2.bar hb (by rw [List.mem_singleton]; omega), h3.bar hb (by rw [List.mem_singleton]; omega), h4.set_ i v, hA.below (by rw [hN]; exact b'), b'⟩
def RGetNew (g : FV × Int × Int) (w : World) (x : Ending) (w' : World) : Prop := ∃ A n c, x = .returned (.tuple #[.agg #[.int .i64 g.1.kind, .int .i64 g.1.gen, .int .i64 g.1.seq, .slice A n c], .int .i64 g.2.1, .int .i64 g.2.2]) ∧ n ≤ c ∧ c ≤ maxLen ∧ Rd w' A n g.1.body ∧ Below w.heap.size w w' ∧ ∀ F : List Nat, (∀ k ∈ F, k < w.heap.size) → Off A n F
theorem rget_no {b : List Int} (h : ¬ getOk b) (w w' : World) (hb : Below w.heap.size w w') : RGetNew (getF b) w (.returned (.tuple #[.agg #[.int .i64 0, .int .i64 0, .int .i64 0, .slice none 0 0], .int .i64 0, .int .i64 2])) w' := by
 unfold getF
 rw [if_neg h]
 exact ⟨none, 0, 0, rfl, Nat.le_refl _, by unfold maxLen; omega, Rd.nil_, hb, fun F _ => .inl rfl⟩
set_option maxRecDepth 100000 in
set_option maxHeartbeats 1000000 in
theorem rget_new (A : Option Addr) (n cap : Nat) (b : List Int) (w : World) (hr : Rd w A n b) (hc : n ≤ cap) (hcm : cap ≤ 9223372036854775807) :
    Calls Tryz.prog 33 #[.slice A n cap] w (RGetNew (getF b) w) := by
  have hlen := hr.1
  have HR := Kept.mk hr
  obtain ⟨N, hN⟩ : ∃ N, w.heap.size = N := ⟨_, rfl⟩
  have B2 : Kept (Below N w ((w.alloc (.cells #[.int .i64 0, .int .i64 0, .int .i64 0, .slice none 0 0] 90)).alloc (.cells #[.int .i64 0, .int .i64 0, .int .i64 0, .slice none 0 0] 90))) := ⟨((Below.refl _ _).alloc (by omega) _).alloc (by simp; omega) _⟩
  by_cases h64 : n < 64
  · have h64' : (n : Int) < 64 := by omega
    have PE : Kept (∀ w', Below N w w' → RGetNew (getF b) w (.returned (.tuple #[.agg #[.int .i64 0, .int .i64 0, .int .i64 0, .slice none 0 0], .int .i64 0, .int .i64 2])) w') := ⟨fun w' h => rget_no (fun hk => by have := hk.1; omega) w w' (by rw [hN]; exact h)⟩
    clear hr hlen
    go_enter Tryz.func33, Tryz.ntmps33
    go_wp2
    (try simp only [Exit.inBlock, Exit.then])
    refine bodyPost_ret (results_cell_two rfl _ _ N 90 #[.int .i64 0, .int .i64 0, .int .i64 0, .slice none 0 0] (0, 0) _ rfl ((Blk.new_at _ _ _ N hN.symm).alloc _) Tryz.underlying90 rfl frame_size) rfl ?_
    exact PE.out _ B2.out
  · obtain ⟨bb, oo, rfl, hcell⟩ := hr.2.2.resolve_left (by omega)
    have x0 := hcell 0 (by omega)
    rw [Nat.add_zero] at x0
    have x2 := cell_bel x0 (hN.symm ▸ B2.out)
    clear x0
    have h64' : ¬ (n : Int) < 64 := by omega
    by_cases h1 : at_ b 0 = 1
    · rw [h1] at x2
      have PE : Kept (∀ w', ¬ getOk b → Below N w w' → RGetNew (getF b) w (.returned (.tuple #[.agg #[.int .i64 0, .int .i64 0, .int .i64 0, .slice none 0 0], .int .i64 0, .int .i64 2])) w') := ⟨fun w' h2 h => rget_no h2 w w' (by rw [hN]; exact h)⟩
      have hb0 : Bytes b := hr.2.1
      have hbh : Bytes (h14 b) := (hb0.take _).drop _
      have hhl := h14_len (b := b) (by omega)
      obtain ⟨G, hG, hOA⟩ := arg_block hr
      rw [hN] at hG
      obtain ⟨A3, hsl, r3, o3⟩ := slice_lh hr hc 3 17 (by omega) (by omega) 3 17 rfl rfl
      replace r3 : Rd w A3 14 (h14 b) := r3
      clear hcell
      go_enter Tryz.func33, Tryz.ntmps33
      go_wp2_with fail
      obtain ⟨W3, hW3⟩ : ∃ W3, ((w.alloc (.cells #[.int .i64 0, .int .i64 0, .int .i64 0, .slice none 0 0] 90)).alloc (.cells #[.int .i64 0, .int .i64 0, .int .i64 0, .slice none 0 0] 90)).alloc (.cells #[.slice A3 14 (cap - 3), .int .i64 0] 116) = W3 := ⟨_, rfl⟩
      rw [hW3]
      have hs3 : W3.heap.size = N + 1 + 1 + 1 := by rw [← hW3]; simp [hN]
      have b3 : Below N w W3 := by rw [← hW3]; exact B2.out.alloc (by simp; omega) _
      have D3 : De 116 W3 (N + 1 + 1) G (0, h14 b) := by
        refine ⟨fun k hk => by have := hG k hk; omega, A3, cap - 3, ?_, ?_, ?_, ?_, ?_⟩
        · simp only [hhl]; rw [← hW3]; exact Blk.new_at _ _ _ _ (by simp [hN])
        · simp only [hhl]; exact r3.below (by rw [hN]; exact b3)
        · simp only [hhl]; omega
        · omega
        · intro F hF; simp only [hhl]; exact o3 F (hOA F hF)
      have F0 : Blk W3 N 90 #[.int .i64 0, .int .i64 0, .int .i64 0, .slice none 0 0] := by rw [← hW3]; exact ((Blk.new_at _ _ _ _ hN.symm).alloc _).alloc _
      have F1 : Blk W3 (N + 1) 90 #[.int .i64 0, .int .i64 0, .int .i64 0, .slice none 0 0] := by rw [← hW3]; exact (Blk.new_at _ _ _ _ (by simp [hN])).alloc _
      have hGd : N + 1 + 1 ∉ G := fun hk => by have := hG _ hk; omega
      refine (rdnum_any W3 (N + 1 + 1) G 1 _ D3 hGd).mono ?_
      rintro x w4 ⟨rfl, D4, br4⟩
      have e1 : decNum (0, h14 b) 1 = (((fK b : Nat) : Int), (0, (h14 b).drop 1)) := dec_at hb0 (by omega) 0 1 (by omega) (by omega)
      rw [e1] at D4 ⊢
      have b4 : Below N w w4 := b3.trans (br4.below (by omega) (fun k hk => by rw [List.mem_singleton] at hk; omega))
      replace F0 := F0.bar br4 (by rw [List.mem_singleton]; omega)
      replace F1 := F1.bar br4 (by rw [List.mem_singleton]; omega)
      clear D3 br4 hW3 b3 x2 hs3 hsl r3 o3 hOA B2 e1
      have hTl : N + 1 + 1 < w4.heap.size := D4.lt
      obtain ⟨T, hT⟩ : ∃ T, w4.heap.size = T := ⟨_, rfl⟩
      go_wp2_with fail
      have G5 : Gx w N (N + 1 + 1) T G #[.int .i64 (fK b), .int .i64 0, .int .i64 0, .slice none 0 0] (some ⟨bb, oo, none⟩) n b (0, (h14 b).drop 1) (w4.alloc (.cells #[.int .i64 (fK b), .int .i64 0, .int .i64 0, .slice none 0 0] 90)) :=
        ⟨D4.below ((Below.refl _ _).alloc (Nat.le_refl _) _), F0.alloc _, F1.alloc _, Blk.new_at _ _ _ _ hT.symm, HR.out.below (by rw [hN]; exact b4.alloc (by omega) _), b4.alloc (by omega) _⟩
      rw [hT] at hTl
      generalize w4.alloc (.cells #[.int .i64 (fK b), .int .i64 0, .int .i64 0, .slice none 0 0] 90) = w5 at *
      clear D4 F0 F1 b4 hT hGd
      refine (gx_num hN rfl hTl hG HR.out G5 1).mono ?_
      rintro x w6 ⟨rfl, G6⟩
      obtain ⟨y2, e2⟩ : ∃ y2 : Int, decNum (0, (h14 b).drop 1) 1 = (y2, (0, (h14 b).drop 2)) := ⟨_, dec_at hb0 (by omega) 1 1 (by omega) (by omega)⟩
      rw [e2] at G6 ⊢
      clear G5 e2
      go_wp2_with fail
      refine (gx_num hN rfl hTl hG HR.out G6 4).mono ?_
      rintro x w7 ⟨rfl, G7⟩
      have e3 : decNum (0, (h14 b).drop 2) 4 = (((fG b : Nat) : Int), (0, (h14 b).drop 6)) := dec_at hb0 (by omega) 2 4 (by omega) (by omega)
      rw [e3] at G7 ⊢
      clear G6 e3
      go_wp2_with fail
      refine (gx_num hN rfl hTl hG HR.out G7 4).mono ?_
      rintro x w8 ⟨rfl, G8⟩
      have e4 : decNum (0, (h14 b).drop 6) 4 = (((fS b : Nat) : Int), (0, (h14 b).drop 10)) := dec_at hb0 (by omega) 6 4 (by omega) (by omega)
      rw [e4] at G8 ⊢
      clear G7 e4
      have c1 := G8.2.2.2.1.cell 1
      have c2 := G8.2.2.2.1.cell 2
      have z1 := G8.2.2.2.1.frozen 1
      have z2 := G8.2.2.2.1.frozen 2
      go_wp2_with fail
      have G9 := (G8.set hN rfl hTl hG HR.out 1 (.int .i64 (fG b))).set hN rfl hTl hG HR.out 2 (.int .i64 (fS b))
      generalize (w8.setCell ⟨T, 1, none⟩ (.int .i64 (fG b))).setCell ⟨T, 2, none⟩ (.int .i64 (fS b)) = w9 at *
      clear G8 c1 c2 z1 z2
      refine (gx_num hN rfl hTl hG HR.out G9 4).mono ?_
      rintro x w10 ⟨rfl, G10⟩
      have e5 : decNum (0, (h14 b).drop 10) 4 = (((fN b : Nat) : Int), (0, (h14 b).drop 14)) := dec_at hb0 (by omega) 10 4 (by omega) (by omega)
      rw [e5] at G10 ⊢
      clear G9 e5
      have hfn : fN b < 4294967296 := val4 _ ((hbh.drop _).take _) (by simp; omega)
      have cs := Kept.mk fun w => rsectors_any (fN b) w
      obtain ⟨k, hk⟩ : ∃ k : Nat, sectorsF (fN b) = k := ⟨(sectorsF (fN b)).toNat, by unfold sectorsF; split <;> omega⟩
      have hk9 : k ≤ 1000 := by have := hk; unfold sectorsF at this; split at this <;> omega
      have hkn : k ≠ 0 → fN b ≤ 60000 ∧ k = (24 + fN b + 62) / 63 := by have := hk; unfold sectorsF at this; split at this <;> omega
      rw [hk] at cs
      obtain ⟨q, hq⟩ : ∃ q, fN b = q := ⟨_, rfl⟩
      rw [hq] at cs hfn hkn ⊢
      obtain ⟨hD, F0, F1, F2, R10, B10⟩ := G10
      clear hD
      have f10 := F1.cell 0; have f11 := F1.cell 1; have f12 := F1.cell 2; have f13 := F1.cell 3
      have f00 := F0.cell 0; have f01 := F0.cell 1; have f02 := F0.cell 2; have f03 := F0.cell 3
      have z00 := F0.frozen 0; have z01 := F0.frozen 1; have z02 := F0.frozen 2; have z03 := F0.frozen 3
      by_cases hk0 : k = 0
      · subst hk0
        have P4 := Kept.mk (put4 F0 (.int .i64 0) (.int .i64 0) (.int .i64 0) (.slice none 0 0))
        have PF := Kept.mk (PE.out _ (fun h => h.2.2.1 hk) (B10.trans (P4.out.2.below (by have := B10.size; omega) (fun k hk => by rw [List.mem_singleton] at hk; omega))))
        clear PE
        go_wp2_with fail
        refine (cs.out _).mono ?_
        rintro x w11 ⟨rfl, rfl⟩
        go_wp2
        (try simp only [Exit.inBlock, Exit.then])
        refine bodyPost_ret (results_cell_two rfl _ _ N 90 #[.int .i64 0, .int .i64 0, .int .i64 0, .slice none 0 0] (0, 0) _ rfl P4.out.1 Tryz.underlying90 rfl frame_size) rfl ?_
        exact PF.out
      · by_cases hbig : n < 64 * k
        · have P4 := Kept.mk (put4 F0 (.int .i64 0) (.int .i64 0) (.int .i64 0) (.slice none 0 0))
          have PF := Kept.mk (PE.out _ (fun h => by have := h.2.2.2.1; omega) (B10.trans (P4.out.2.below (by have := B10.size; omega) (fun k hk => by rw [List.mem_singleton] at hk; omega))))
          have hk0' : ¬ (k : Int) = 0 := by omega
          have hbig' : (n : Int) < 64 * k := by omega
          have hw : IntKind.i64.wrap (64 * (k : Int)) = 64 * k := by simp only [IntKind.wrap_i64]; omega
          clear PE
          go_wp2_with fail
          refine (cs.out _).mono ?_
          rintro x w11 ⟨rfl, rfl⟩
          go_wp2
          (try simp only [Exit.inBlock, Exit.then])
          refine bodyPost_ret (results_cell_two rfl _ _ N 90 #[.int .i64 0, .int .i64 0, .int .i64 0, .slice none 0 0] (0, 0) _ rfl P4.out.1 Tryz.underlying90 rfl frame_size) rfl ?_
          exact PF.out
        · obtain ⟨hq6, hkq⟩ := hkn hk0
          have HKQ := Kept.mk hkq
          have hk0' : ((k : Int) == 0) = false := by simpa using hk0
          have hbig' : ((n : Int) < 64 * k) = False := eq_false (by omega)
          have hw : IntKind.i64.wrap (64 * (k : Int)) = 64 * k := by simp only [IntKind.wrap_i64]; omega
          obtain ⟨N1, hN1⟩ : ∃ N1, w10.heap.size = N1 := ⟨_, rfl⟩
          have hTN : T < N1 := by rw [← hN1]; exact F2.lt
          have HF0 := Kept.mk F0; have HF1 := Kept.mk F1; have HF2 := Kept.mk F2
          clear hkn hkq f10 f11 f12 f13 f00 f01 f02 f03 z00 z01 z02 z03 F0 F1 F2
          go_wp2_with fail
          refine (cs.out _).mono ?_
          rintro x w11 ⟨rfl, rfl⟩
          go_wp2
          go_loopw [10, 11] (fun v i wr => ∃ (m : Nat), m ≤ k ∧ i = .int .i64 m ∧ Kept (wr.ownsRow N1 5 1 v (63 * m) (ints .u8 (allF b m))) ∧ Kept (Below N1 w10 wr)) (fun _ i _ => k - (intOf i).toNat)
          case atStart => exact ⟨0, by omega, rfl, ⟨World.ownsRow_nil _ _ _ _⟩, ⟨Below.refl _ _⟩⟩
          case round =>
            obtain ⟨m, hm, rfl, O, B⟩ := hrel
            by_cases hmk : m < k
            · have hmk' : (m : Int) < k := by omega
              have W1 : IntKind.i64.wrap (64 * (m : Int)) = 64 * m := by simp only [IntKind.wrap_i64]; omega
              have W2 : IntKind.i64.wrap (64 * (m : Int) + 1) = 64 * m + 1 := by simp only [IntKind.wrap_i64]; omega
              have W3 : IntKind.i64.wrap (64 * (m : Int) + 64) = 64 * m + 64 := by simp only [IntKind.wrap_i64]; omega
              obtain ⟨A2, hs2, r2, -⟩ := slice_lh HR.out hc (64 * m + 1) (64 * m + 64) (by omega) (by omega) (64 * (m : Int) + 1) (64 * (m : Int) + 64) (by omega) (by omega)
              rw [List.drop_take] at r2
              rw [show 64 * m + 64 - (64 * m + 1) = 63 by omega] at hs2 r2
              have R2 := Kept.mk (r2.below (w' := wr) (by rw [hN]; exact B10.trans (B.out.mono (by omega))))
              clear r2
              go_wp2_with ((with_reducible refine sel 67 ?_); refine wpList_append_rda rfl (.tmp 58) (.tmp 66) 38 rfl N1 5 Tryz.underlying38 info_u8 _ (63 * m) _ rfl O.out A2 63 _ _ rfl R2.out (by omega) (by rw [← hN1]; exact B.out.size) ?_; intro v7 w7 o7 g7 a7; have B7 := Kept.mk (B.out.trans (own_below O.out g7 (by rw [← hN1]; exact B.out.size))); clear g7 a7)
              go_roundw
              case rel =>
                refine ⟨m + 1, by omega, by go_num, ⟨?_⟩, B7⟩
                have := o7.out
                rw [← ints_append] at this
                exact this
              case measure => simp [intOf]; omega
            · obtain rfl : m = k := by omega
              obtain ⟨Av, cv, rfl, hcv, hmv, rv⟩ := own_rd O.out (allF_bytes hb0 m)
              have B10w : Below N w wr := B10.trans (B.out.mono (by omega))
              obtain ⟨A8, hs8, r8, -⟩ := slice_lh rv hcv 24 (24 + q) (by omega) (by have := HKQ.out; omega) 24 (24 + (q : Int)) rfl (by omega)
              have hfb : ((allF b m).take (24 + q)).drop 24 = fB b := by unfold fB; rw [hk, hq]; rfl
              rw [hfb, Nat.add_sub_cancel_left] at r8
              rw [Nat.add_sub_cancel_left] at hs8
              have W4 : IntKind.i64.wrap (24 + (q : Int)) = 24 + q := by simp only [IntKind.wrap_i64]; omega
              have hmm : ((m : Int) < m) = False := eq_false (by omega)
              clear hfb
              go_wp2_with fail
              refine (copy_any A8 q (cv - 24) (fB b) wr r8 (by omega)).mono ?_
              rintro x w12 ⟨v12, rfl, o12, b12⟩
              have hfB : Bytes (fB b) := ((allF_bytes hb0 _).take _).drop _
              obtain ⟨A12, c12, rfl, hc12, hm12, r12⟩ := own_rd o12 hfB
              have hrs : N1 ≤ wr.heap.size := by rw [← hN1]; exact B.out.size
              have B12 : Below N1 w10 w12 := B.out.trans (b12.mono hrs)
              have G0 := HF0.out.below B12 (by omega)
              have G1 := HF1.out.below B12 (by omega)
              have G2 := HF2.out.below B12 hTN
              have c20 := G2.cell 0; have c21 := G2.cell 1; have c22 := G2.cell 2; have c23 := G2.cell 3
              have z23 := G2.frozen 3
              have hb13 : Bar [T] w12 (w12.setCell ⟨T, 3, none⟩ (.slice A12 q c12)) := (Bar.refl _ _).setCell (by simp) _
              have H2 := Kept.mk (G2.set_ 3 (.slice A12 q c12))
              have H0 := Kept.mk (G0.bar hb13 (by rw [List.mem_singleton]; omega))
              have H1 := Kept.mk (G1.bar hb13 (by rw [List.mem_singleton]; omega))
              have hT12 : T < wr.heap.size := by omega
              have R13 := Kept.mk (r12.far hb13 (own_off o12 (fun k hk hk2 => by rw [List.mem_singleton] at hk2; have := (o12.lt k (by simpa using hk)).1; omega)))
              have OF : Kept (∀ F : List Nat, (∀ k ∈ F, k ≤ N) → Off A12 q F) := ⟨fun F hF => own_off o12 (fun k hk hk2 => by have := hF k hk2; have := (o12.lt k (by simpa using hk)).1; omega)⟩
              have B13 := Kept.mk ((B10.trans (B12.mono (by omega))).trans (hb13.below (by have := (B10.trans (B12.mono (by omega))).size; omega) (fun k hk => by rw [List.mem_singleton] at hk; omega)))
              clear o12 b12 r12 G0 G1 G2 hb13 r8 hs8 rv O B B12 B10w
              go_wp2_with fail
              clear c20 c21 c22 c23 z23
              generalize w12.setCell ⟨T, 3, none⟩ (.slice A12 q c12) = w13 at *
              refine (rput_any (frameOf b) A12 q c12 w13 R13.out).mono ?_
              rintro x w14 ⟨Ap, np, cp, rfl, hcp, hmp, rp, bp⟩
              have hs13 : N ≤ w13.heap.size := by have := H0.out.lt; omega
              have B14 := Kept.mk (B13.out.trans (bp.mono hs13))
              have G0 := H0.out.below bp H0.out.lt
              have G1 := H1.out.below bp H1.out.lt
              have G2 := H2.out.below bp H2.out.lt
              have f10 := G1.cell 0; have f11 := G1.cell 1; have f12 := G1.cell 2; have f13 := G1.cell 3
              have f00 := G0.cell 0; have f01 := G0.cell 1; have f02 := G0.cell 2; have f03 := G0.cell 3
              have z00 := G0.frozen 0; have z01 := G0.frozen 1; have z02 := G0.frozen 2; have z03 := G0.frozen 3
              have R14 := Kept.mk (R13.out.below bp)
              have RA := HR.out.below (hN ▸ B14.out)
              obtain ⟨pe, hpe⟩ : ∃ pe, (putF (frameOf b)).1 = pe := ⟨_, rfl⟩
              rw [hpe]
              have P4 := Kept.mk (put4 G0 (.int .i64 0) (.int .i64 0) (.int .i64 0) (.slice none 0 0))
              have PF : Kept (¬ getOk b → RGetNew (getF b) w (.returned (.tuple #[.agg #[.int .i64 0, .int .i64 0, .int .i64 0, .slice none 0 0], .int .i64 0, .int .i64 2])) ((((w14.setCell ⟨N, 0, none⟩ (.int .i64 0)).setCell ⟨N, 1, none⟩ (.int .i64 0)).setCell ⟨N, 2, none⟩ (.int .i64 0)).setCell ⟨N, 3, none⟩ (.slice none 0 0))) :=
                ⟨fun h => PE.out _ h (B14.out.trans (P4.out.2.below (by have := B14.out.size; omega) (fun k hk => by rw [List.mem_singleton] at hk; omega)))⟩
              by_cases hp0 : pe = 0
              · subst hp0
                obtain ⟨A9, hs9, r9, -⟩ := slice_h RA hc (64 * m) (by omega) (64 * (m : Int)) (by omega)
                have cb := Kept.mk (bytes_any Ap A9 np (64 * m) cp cap _ _ w14 rp r9)
                have g20 := G2.cell 0; have g21 := G2.cell 1; have g22 := G2.cell 2; have g23 := G2.cell 3
                clear rp r9 RA PE bp B13 H0 H1 H2 R13
                cases hsb : sameB (putF (frameOf b)).2 (b.take (64 * m)) with
                | false =>
                  rw [hsb] at cb
                  replace PF := Kept.mk (PF.out (fun h => by
                    have h2 := h.2.2.2.2.2
                    rw [hk, show (64 * (m : Int)).toNat = 64 * m by omega] at h2
                    unfold sameB at hsb
                    simp [h2] at hsb))
                  clear G0 G1 G2
                  go_wp2_with fail
                  refine cb.out.mono ?_
                  rintro x w15 ⟨rfl, rfl⟩
                  go_wp2
                  (try simp only [Exit.inBlock, Exit.then])
                  refine bodyPost_ret (results_cell_two rfl _ _ N 90 #[.int .i64 0, .int .i64 0, .int .i64 0, .slice none 0 0] (0, 0) _ rfl P4.out.1 Tryz.underlying90 rfl frame_size) rfl ?_
                  exact PF.out
                | true =>
                  rw [hsb] at cb
                  clear PF P4
                  have P4 := Kept.mk (put4 G0 (.int .i64 (fK b)) (.int .i64 (fG b)) (.int .i64 (fS b)) (.slice A12 q c12))
                  have hget : getF b = (frameOf b, (m : Int), 0) := by
                    have hok : getOk b := ⟨by omega, h1, by rw [hk]; omega, by rw [hk]; omega, hpe, by
                      rw [hk, show (64 * (m : Int)).toNat = 64 * m by omega]
                      unfold sameB at hsb
                      simpa using hsb⟩
                    unfold getF
                    rw [if_pos hok, hk]
                  have PF : Kept (RGetNew (getF b) w (.returned (.tuple #[.agg #[.int .i64 (fK b), .int .i64 (fG b), .int .i64 (fS b), .slice A12 q c12], .int .i64 m, .int .i64 0])) ((((w14.setCell ⟨N, 0, none⟩ (.int .i64 (fK b))).setCell ⟨N, 1, none⟩ (.int .i64 (fG b))).setCell ⟨N, 2, none⟩ (.int .i64 (fS b))).setCell ⟨N, 3, none⟩ (.slice A12 q c12))) := by
                    refine ⟨?_⟩
                    rw [hget]
                    refine ⟨A12, q, c12, rfl, hc12, hm12, R14.out.far P4.out.2 (OF.out _ (by intro k hk; rw [List.mem_singleton] at hk; omega)), ?_, fun F hF => OF.out F (fun k hk => by have := hF k hk; omega)⟩
                    rw [hN]
                    exact B14.out.trans (P4.out.2.below (by have := B14.out.size; omega) (fun k hk => by rw [List.mem_singleton] at hk; omega))
                  clear G0 G1 G2 hget
                  go_wp2_with fail
                  refine cb.out.mono ?_
                  rintro x w15 ⟨rfl, rfl⟩
                  go_wp2
                  (try simp only [Exit.inBlock, Exit.then])
                  refine bodyPost_ret (results_cell_two rfl _ _ N 90 #[.int .i64 (fK b), .int .i64 (fG b), .int .i64 (fS b), .slice A12 q c12] (0, 0) _ rfl P4.out.1 Tryz.underlying90 rfl frame_size) rfl ?_
                  exact PF.out
              · replace PF := Kept.mk (PF.out (fun h => hp0 (by rw [← hpe]; exact h.2.2.2.2.1)))
                have hpe2 : (pe == 0) = false := by simpa using hp0
                clear rp RA PE bp B13 H0 H1 H2 R13 G0 G1 G2
                go_wp2
                (try simp only [Exit.inBlock, Exit.then])
                refine bodyPost_ret (results_cell_two rfl _ _ N 90 #[.int .i64 0, .int .i64 0, .int .i64 0, .slice none 0 0] (0, 0) _ rfl P4.out.1 Tryz.underlying90 rfl frame_size) rfl ?_
                exact PF.out
    · have PE : Kept (∀ w', Below N w w' → RGetNew (getF b) w (.returned (.tuple #[.agg #[.int .i64 0, .int .i64 0, .int .i64 0, .slice none 0 0], .int .i64 0, .int .i64 2])) w') := ⟨fun w' h => rget_no (fun hk => h1 hk.2.1) w w' (by rw [hN]; exact h)⟩
      clear hr hlen hcell
      generalize at_ b 0 = y at *
      go_enter Tryz.func33, Tryz.ntmps33
      go_wp2
      (try simp only [Exit.inBlock, Exit.then])
      refine bodyPost_ret (results_cell_two rfl _ _ N 90 #[.int .i64 0, .int .i64 0, .int .i64 0, .slice none 0 0] (0, 0) _ rfl ((Blk.new_at _ _ _ _ hN.symm).alloc _) Tryz.underlying90 rfl frame_size) rfl ?_
      exact PE.out _ B2.out
end Go.Proofs.YtkbehjdglgpgjaaGreat.Frame
