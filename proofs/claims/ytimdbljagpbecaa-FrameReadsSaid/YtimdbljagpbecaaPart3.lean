/-
  Parts laid together: FrameText FramePut WireRDec FrameGet FrameSame FrameApi Rows2 Structs FrameArg FrameCutSpec FrameOkSpec SliceAt FrameCode1.
-/
import Derived.Test.YtimdbljagpbecaaPart2
import Derived.Lib.SmallJoins
import Derived.Deep.QuietTactic
import Derived.BigQuiet
import Derived.StillTailTactics
import Derived.Test.YtimdbljagpbecaaPart1
import Derived.Lib.SlBytesConst
import Derived.Deep.Slices
import Derived.Deep.Fields
import Derived.ChangeSame

/-
  The document's own frame: its text.
-/




namespace Go.Proofs.Ytimdbljagpbecaa.Frame
open Go.RowKit Go.Proofs.Ytimdbljagpbecaa.Sha Go.Proofs.Ytimdbljagpbecaa.Wire

/-- an Enc at block M while a text is made; the frame lies boxed in block N -/
def Tx (w0 : World) (N M : Nat) (cs : Array Value) (A : Option Addr) (n : Nat) (body : List Int) (st : St) (w : World) : Prop :=
  ∃ F, En 83 w F M st ∧ Blk w N 24 cs ∧ Rd w A n body ∧ Below w0.heap.size w0 w ∧ ∀ k ∈ F, w0.heap.size + 1 ≤ k
theorem Tx.blk {w0 : World} {N M : Nat} {cs : Array Value} {A : Option Addr} {n : Nat} {body : List Int} {st : St} {w : World} (h : Tx w0 N M cs A n body st w) : Blk w N 24 cs := h.choose_spec.2.1
theorem Tx.rd {w0 : World} {N M : Nat} {cs : Array Value} {A : Option Addr} {n : Nat} {body : List Int} {st : St} {w : World} (h : Tx w0 N M cs A n body st w) : Rd w A n body := h.choose_spec.2.2.1
theorem Tx.bel {w0 : World} {N M : Nat} {cs : Array Value} {A : Option Addr} {n : Nat} {body : List Int} {st : St} {w : World} (h : Tx w0 N M cs A n body st w) : Below w0.heap.size w0 w := h.choose_spec.2.2.2.1
theorem Tx.below {w0 : World} {N M : Nat} {cs : Array Value} {A : Option Addr} {n : Nat} {body : List Int} {st : St} {w w' : World} (h : Tx w0 N M cs A n body st w) (b : Below w.heap.size w w') : Tx w0 N M cs A n body st w' := by
  obtain ⟨F, h1, h2, h3, h4, h5⟩ := h
  exact ⟨F, h1.below b, h2.bar (barOf b []) (by simp), h3.below b, h4.trans (b.mono (by have := h4.size; omega)), h5⟩
theorem Tx.step {w0 : World} {N M : Nat} {cs : Array Value} {A : Option Addr} {n : Nat} {body : List Int} {st' : St} {w w' : World} {F F' : List Nat} (hN : N = w0.heap.size) (hA : Rd w0 A n body) (h2 : Blk w N 24 cs) (h4 : Below w0.heap.size w0 w) (h5 : ∀ k ∈ F, w0.heap.size + 1 ≤ k)
    (h1 : En 83 w' F' M st') (hf : Fp F F' w w') : Tx w0 N M cs A n body st' w' := by
  have hs : w0.heap.size + 1 ≤ w.heap.size := by have := h2.lt; omega
  have b : Below w0.heap.size w0 w' := h4.trans (hf.below (fun k hk => by have := h5 k hk; omega) (by omega))
  exact ⟨F', h1, h2.bar hf.1 (fun hk => by have := h5 _ hk; omega), hA.below b, b, hf.least h5 hs⟩
theorem txt_num {w0 : World} {N M : Nat} {cs : Array Value} {A : Option Addr} {n : Nat} {body : List Int} {st : St} {w : World} (hN : N = w0.heap.size) (hA : Rd w0 A n body) (h : Tx w0 N M cs A n body st w) (x s : Int) (hl : st.2.length ≤ 2147483648) :
    Calls Try.prog 40 #[.pointer (some ⟨M, 0, none⟩), .int .i64 x, .int .i64 s] w fun e w' => e = .returned (.tuple #[]) ∧ Tx w0 N M cs A n body (rencNum st x s) w' := by
  obtain ⟨F, h1, h2, h3, h4, h5⟩ := h
  refine (rnum_any w F M x s st h1 hl).mono ?_
  rintro e w' ⟨rfl, F', h6, h7⟩
  exact ⟨rfl, Tx.step hN hA h2 h4 h5 h6 h7⟩
theorem txt_raw {w0 : World} {N M : Nat} {cs : Array Value} {A : Option Addr} {n : Nat} {body : List Int} {st : St} {w : World} (hN : N = w0.heap.size) (hA : Rd w0 A n body) (h : Tx w0 N M cs A n body st w) (B : Option Addr) (m c : Nat) (b : List Int) (hr : Rd w B m b) (hl : st.2.length + m ≤ 4294967296) :
    Calls Try.prog 39 #[.pointer (some ⟨M, 0, none⟩), .slice B m c] w fun e w' => e = .returned (.tuple #[]) ∧ Tx w0 N M cs A n body (st.1, st.2 ++ b) w' := by
  obtain ⟨F, h1, h2, h3, h4, h5⟩ := h
  refine (rraw_any w F M B m c b st h1 hr hl).mono ?_
  rintro e w' ⟨rfl, F', h6, h7⟩
  exact ⟨rfl, Tx.step hN hA h2 h4 h5 h6 h7⟩
theorem rencNum_ok {n s : Int} {xs : List Int} (h : fits n s = true) : rencNum (0, xs) n s = (0, xs ++ be n.toNat s.toNat) := by unfold rencNum; rw [h]; simp

theorem cell_bel {w w' : World} {b i : Nat} {v : Value} (h : w.cell? ⟨b, i, none⟩ = some v) (k : Below w.heap.size w w') : w'.cell? ⟨b, i, none⟩ = some v := by
  rw [← h]; exact World.cell?_of_block (k.block b (World.block_lt_of_cell? _ _ h))

theorem _root_.Go.Proofs.Ytimdbljagpbecaa.Sha.Rd.upto {w : World} {A : Option Addr} {n m : Nat} {xs : List Int} (r : Rd w A n xs) (h : m ≤ n) : Rd w A m (xs.take m) := by
  obtain ⟨h1, h2, h3⟩ := r
  refine ⟨by rw [List.length_take]; omega, h2.take m, ?_⟩
  rcases h3 with h3 | ⟨b, o, h4, h5⟩
  · exact .inl (by omega)
  · exact .inr ⟨b, o, h4, fun i hi => by rw [h5 i (by omega), at_take hi]⟩

def RTextPost (f : FV) (w : World) (x : Ending) (w' : World) : Prop := ∃ A n c, x = .returned (.tuple #[.slice A n c, .int .i64 (errF f)]) ∧ n ≤ c ∧ c ≤ maxLen ∧ Rd w' A n (if errF f = 0 then textF f else []) ∧ Below w.heap.size w w'

set_option maxRecDepth 100000 in
set_option maxHeartbeats 1000000 in
theorem rtext_any (f : FV) (A : Option Addr) (n cap : Nat) (w : World) (hr : Rd w A n f.body) :
    Calls Try.prog 23 #[.agg #[.int .i64 f.kind, .int .i64 f.gen, .int .i64 f.seq, .slice A n cap]] w (RTextPost f w) := by
  have hlen := hr.1
  have HR := Kept.mk hr
  have H1 := Kept.mk fun w => rfits_any f.kind 1 w
  have H2 := Kept.mk fun w => rfits_any f.gen 4 w
  have H3 := Kept.mk fun w => rfits_any f.seq 4 w
  by_cases hbig : 60000 < n
  · have he : errF f = 3 := by unfold errF; rw [if_pos (by omega)]
    have HE := Kept.mk he
    have P1 : Kept (∀ w', Below w.heap.size w w' → RTextPost f w (.returned (.tuple #[.slice none 0 0, .int .i64 3])) w') := ⟨fun w' b => ⟨none, 0, 0, by rw [HE.out], Nat.le_refl _, by unfold maxLen; omega, by rw [HE.out]; exact Rd.nil_, b⟩⟩
    clear he hr hlen HE
    go_enter Try.func23, Try.ntmps23
    go_wp2
    go_ret2
    exact (P1.out _ ((Below.refl _ _).alloc (Nat.le_refl _) _))
  · have hn : n ≤ 60000 := by omega
    by_cases hf : fits f.kind 1 = true ∧ fits f.gen 4 = true ∧ fits f.seq 4 = true
    · obtain ⟨f1, f2, f3⟩ := hf
      rw [f1] at H1
      rw [f2] at H2
      rw [f3] at H3
      clear hr
      obtain ⟨W2, hW2⟩ : ∃ W2, (w.alloc (.cells #[.int .i64 f.kind, .int .i64 f.gen, .int .i64 f.seq, .slice A n cap] 24)).alloc (.cells #[.slice none 0 0, .int .i64 0] 83) = W2 := ⟨_, rfl⟩
      have hsz : W2.heap.size = w.heap.size + 1 + 1 := by subst hW2; simp
      have bel2 : Below w.heap.size w W2 := by subst hW2; exact ((Below.refl _ _).alloc (Nat.le_refl _) _).alloc (by simp) _
      have T2 : Tx w w.heap.size (w.heap.size + 1) #[.int .i64 f.kind, .int .i64 f.gen, .int .i64 f.seq, .slice A n cap] A n f.body (0, []) W2 := by
        refine ⟨[w.heap.size + 1], ⟨.slice none 0 0, ?_, World.ownsRow_nil _ _ _ _, by simp [Value.ownBlock]⟩, ?_, HR.out.below bel2, bel2, by simp⟩
        · subst hW2; exact Blk.new_at _ _ _ _ (by simp)
        · subst hW2; exact (Blk.new _ _ _).alloc _
      have hcv := Go.Joins.run_convert_bytes_const_at (P := Try.prog) W2 22 5 #[.int .u8 99, .int .u8 102] 2 2 (w.heap.size + 1 + 1) hsz.symm Try.underlying22 Try.underlying5
      go_enter Try.func23, Try.ntmps23
      go_wp2_with fail
      refine (H1.out _).mono ?_
      rintro x w' ⟨rfl, rfl⟩
      go_wp2_with fail
      refine (H2.out _).mono ?_
      rintro x w' ⟨rfl, rfl⟩
      go_wp2_with fail
      refine (H3.out _).mono ?_
      rintro x w' ⟨rfl, rfl⟩
      go_wp2_with fail
      have hr2 : Rd (W2.alloc (.cells #[.int .u8 99, .int .u8 102] 5 (2, 3))) (some ⟨w.heap.size + 1 + 1, 0, none⟩) 2 [99, 102] :=
        Rd.made (T := 5) (fr := (2, 3)) (by rw [← hsz]; exact heap_alloc_new W2 _) (by intro x hx; simp at hx; omega) rfl
      refine (txt_raw rfl HR.out (T2.below ((Below.refl _ _).alloc (Nat.le_refl _) _)) (some ⟨w.heap.size + 1 + 1, 0, none⟩) 2 2 [99, 102] hr2 (by simp)).mono ?_
      rintro x w3 ⟨rfl, T3⟩
      have t0 := T3.blk.cell 0
      clear T2 hcv hW2 bel2 hr2
      go_wp2_with fail
      refine (txt_num rfl HR.out T3 f.kind 1 (by simp)).mono ?_
      rintro x w4 ⟨rfl, T4⟩
      rw [rencNum_ok f1] at T4
      clear T3 t0
      go_wp2_with fail
      refine (txt_num rfl HR.out T4 0 1 (by simp [be_len])).mono ?_
      rintro x w5 ⟨rfl, T5⟩
      rw [rencNum_ok (by decide)] at T5
      have t1 := T5.blk.cell 1
      clear T4
      go_wp2_with fail
      refine (txt_num rfl HR.out T5 f.gen 4 (by simp [be_len])).mono ?_
      rintro x w6 ⟨rfl, T6⟩
      rw [rencNum_ok f2] at T6
      have t2 := T6.blk.cell 2
      clear T5 t1
      go_wp2_with fail
      refine (txt_num rfl HR.out T6 f.seq 4 (by simp [be_len])).mono ?_
      rintro x w7 ⟨rfl, T7⟩
      rw [rencNum_ok f3] at T7
      have t3 := T7.blk.cell 3
      clear T6 t2
      go_wp2_with fail
      refine (txt_num rfl HR.out T7 n 4 (by simp [be_len])).mono ?_
      rintro x w8 ⟨rfl, T8⟩
      rw [rencNum_ok (by unfold fits; simp; omega)] at T8
      clear T7 t3
      have hst : [] ++ [99, 102] ++ be f.kind.toNat (Int.toNat 1) ++ be (Int.toNat 0) (Int.toNat 1) ++ be f.gen.toNat (Int.toNat 4) ++ be f.seq.toNat (Int.toNat 4) ++ be (n : Int).toNat (Int.toNat 4) = headF f := by
        unfold headF; rw [hlen]; rfl
      rw [hst] at T8
      clear hst
      have t3 := T8.blk.cell 3
      obtain ⟨A8, c8, q0, hc8, hm8, r8⟩ : ∃ A8 c8, w8.cell? ⟨w.heap.size + 1, 0, none⟩ = some (.slice A8 16 c8) ∧ 16 ≤ c8 ∧ c8 ≤ 9223372036854775807 ∧ Rd w8 A8 16 (headF f) := by
        obtain ⟨F, ⟨v, b8, o8, -⟩, -⟩ := T8
        simp only [headF_len] at o8
        obtain ⟨A8, c8, rfl, h1, h2, h3⟩ := own_rd o8 (headF_bytes f)
        exact ⟨A8, c8, b8.cell 0, h1, h2, h3⟩
      go_upto_region 12 with (fail)
      refine wp_region_noPanic ?_
      refine wp_region_held_drew (S := fun w' : World => w'.cell? ⟨w.heap.size + 1, 0, none⟩ = some (.slice A8 16 c8) ∧ w'.cell? ⟨w.heap.size, 3, none⟩ = some (.slice A n cap)) (by kernel_rfl) ⟨q0, t3⟩ (fun _ => ?_)
      have bd : Below w8.heap.size w8 w8.drew := (Below.refl _ _).drew
      have T9 := T8.below bd
      have r9 := r8.below bd
      have CS : ∀ w', Below w8.heap.size w8 w' → w'.cell? ⟨w.heap.size + 1, 0, none⟩ = some (.slice A8 16 c8) ∧ w'.cell? ⟨w.heap.size, 3, none⟩ = some (.slice A n cap) := fun w' b => ⟨cell_bel q0 b, cell_bel t3 b⟩
      clear T8 r8
      generalize w8.drew = w9 at *
      refine wpAnyH_take (i := 0) (oi := ?o1) (v := ?v1) ?hi1 (by kernel_rfl) (by kernel_rfl) (by kernel_rfl) ?hq1 (Or.inl ⟨?hw1, ?hy1⟩) (by assumption) ?r1
      case hi1 => (simp only [List.getElem?_toArray, List.getElem?_cons_zero]; exact rfl)
      case hq1 => exact fun _ _ _ h => h
      case hw1 => rfl
      case hy1 => (intro w hSw; (try dsimp only at hSw); go_simp; try exact rfl)
      simp only [Act.put, List.setIfInBounds_toArray, List.set_cons_zero, List.set_cons_succ]
      refine wpAnyH_take (i := 1) (oi := ?o2) (v := ?v2) ?hi2 (by kernel_rfl) (by kernel_rfl) (by kernel_rfl) ?hq2 (Or.inl ⟨?hw2, ?hy2⟩) (by assumption) ?r2
      case hi2 => (simp only [List.getElem?_toArray, List.getElem?_cons_succ, List.getElem?_cons_zero]; exact rfl)
      case hq2 => exact fun _ _ _ h => h
      case hw2 => rfl
      case hy2 => (intro w hSw; (try dsimp only at hSw); go_simp; try exact rfl)
      simp only [Act.put, List.setIfInBounds_toArray, List.set_cons_zero, List.set_cons_succ]
      refine wpAnyH_take (i := 2) (oi := ?o3) (v := ?v3) ?hi3 (by kernel_rfl) (by kernel_rfl) (by kernel_rfl) ?hq3 (Or.inl ⟨?hw3, ?hy3⟩) (by assumption) ?r3
      case hi3 => (simp only [List.getElem?_toArray, List.getElem?_cons_succ, List.getElem?_cons_zero]; exact rfl)
      case hq3 => exact fun _ _ _ h => h
      case hw3 => rfl
      case hy3 => (intro w hSw; (try dsimp only at hSw); go_simp; try exact rfl)
      simp only [Act.put, List.setIfInBounds_toArray, List.set_cons_zero, List.set_cons_succ]
      refine wpAnyH_take (i := 3) (oi := ?o4) (v := ?v4) ?hi4 (by kernel_rfl) (by kernel_rfl) (by kernel_rfl) ?hq4 (Or.inl ⟨?hw4, ?hy4⟩) (by assumption) ?r4
      case hi4 => (simp only [List.getElem?_toArray, List.getElem?_cons_succ, List.getElem?_cons_zero]; exact rfl)
      case hq4 => exact fun _ _ _ h => h
      case hw4 => rfl
      case hy4 => (intro w hSw; (try dsimp only at hSw); go_simp; try exact rfl)
      simp only [Act.put, List.setIfInBounds_toArray, List.set_cons_zero, List.set_cons_succ]
      refine wpAnyH_take (i := 5) (oi := ?o5) (v := ?v5) ?hi5 (by kernel_rfl) (by kernel_rfl) (by kernel_rfl) ?hq5 (Or.inl ⟨?hw5, ?hy5⟩) (by assumption) ?r5
      case hi5 => (simp only [List.getElem?_toArray, List.getElem?_cons_succ, List.getElem?_cons_zero]; exact rfl)
      case hq5 => exact fun _ _ _ h => h
      case hw5 => rfl
      case hy5 => (intro w hSw; (try dsimp only at hSw); go_simp; try exact rfl)
      simp only [Act.put, List.setIfInBounds_toArray, List.set_cons_zero, List.set_cons_succ]
      refine wpAnyH_take (i := 6) (oi := ?o6) (v := ?v6) ?hi6 (by kernel_rfl) (by kernel_rfl) (by kernel_rfl) ?hq6 (Or.inl ⟨?hw6, ?hy6⟩) (by assumption) ?r6
      case hi6 => (simp only [List.getElem?_toArray, List.getElem?_cons_succ, List.getElem?_cons_zero]; exact rfl)
      case hq6 => exact fun _ _ _ h => h
      case hw6 => rfl
      case hy6 => (intro w hSw; (try dsimp only at hSw); go_simp; try exact rfl)
      simp only [Act.put, List.setIfInBounds_toArray, List.set_cons_zero, List.set_cons_succ]
      refine wpAnyH_ready (rs := [4]) (by kernel_rfl) (by simp) ?_
      refine AllReadyH.cons (o := ?o8) ?hi8 (fun K hK => ?_) AllReadyH.nil
      case hi8 => (simp only [List.getElem?_toArray, List.getElem?_cons_succ, List.getElem?_cons_zero]; exact rfl)
      go_simp
      go_at_call 18
      refine (copy_any A8 16 c8 (headF f) w9 r9 (by omega)).mono ?_
      rintro x w10 ⟨v10, rfl, o10, b10⟩
      have T10 := T9.below b10
      have B10 : Below w8.heap.size w8 w10 := bd.trans (b10.mono (by have := bd.size; omega))
      refine hK.out _ _ (CS _ B10) (fun _ => ?_)
      clear hK K r9
      try simp only [Act.put, List.setIfInBounds_toArray, List.set_cons_zero, List.set_cons_succ]
      refine wpAnyH_ready (rs := [7]) (by kernel_rfl) (by simp) ?_
      refine AllReadyH.cons (o := ?o10) ?hi10 (fun K hK => ?_) AllReadyH.nil
      case hi10 => (simp only [List.getElem?_toArray, List.getElem?_cons_succ, List.getElem?_cons_zero]; exact rfl)
      refine step_append_rd rfl (.tmp 55) (.tmp 57) 22 (by rfl) w9.heap.size 5 Try.underlying22 info_u8 _ 16 _ (by rfl) o10 A n cap f.body (by rfl) T10.rd (by omega) b10.size ?_
      intro v11 w11 o11 g11 b11 a11
      replace o11 := o11.out
      rw [← ints_append] at o11
      obtain ⟨A11, c11, rfl, hc11, hm11, r11⟩ := own_rd o11 ((headF_bytes f).append HR.out.2.1)
      have T11 := T9.below (b10.trans b11)
      have B11 : Below w8.heap.size w8 w11 := B10.trans (b11.mono (by have := bd.size; omega))
      refine hK.out _ _ (CS _ B11) (fun _ => ?_)
      clear hK K T9 T10 o11 o10 g11 a11
      try simp only [Act.put, List.setIfInBounds_toArray, List.set_cons_zero, List.set_cons_succ]
      refine wpAnyH_ready (rs := [8]) (by kernel_rfl) (by simp) ?_
      refine AllReadyH.cons (o := ?o9) ?hi9 (fun K hK => ?_) AllReadyH.nil
      case hi9 => (simp only [List.getElem?_toArray, List.getElem?_cons_succ, List.getElem?_cons_zero]; exact rfl)
      go_simp
      go_at_call 41
      refine (rhash_any A11 (16 + n) c11 (headF f ++ f.body) w11 r11 (by omega)).mono ?_
      rintro x w12 ⟨M, c12, rfl, hM, hc12, hm12, r12, b12⟩
      have T12 := T11.below b12
      have B12 : Below w8.heap.size w8 w12 := B11.trans (b12.mono (by have := B11.size; omega))
      refine hK.out _ _ (CS _ B12) (fun _ => ?_)
      clear hK K T11 r11
      try simp only [Act.put, List.setIfInBounds_toArray, List.set_cons_zero, List.set_cons_succ]
      refine wpAnyH_take (i := 9) (oi := ?o7) (v := ?v7) ?hi7 (by kernel_rfl) (by kernel_rfl) (by kernel_rfl) ?hq7 (Or.inl ⟨?hw7, ?hy7⟩) (by assumption) ?r7
      case hi7 => (simp only [List.getElem?_toArray, List.getElem?_cons_succ, List.getElem?_cons_zero]; exact rfl)
      case hq7 => exact fun _ _ _ h => h
      case hw7 => rfl
      case hy7 => (intro w hSw; (try dsimp only at hSw); go_simp; try exact rfl)
      simp only [Act.put, List.setIfInBounds_toArray, List.set_cons_zero, List.set_cons_succ]
      refine wpAnyH_done (by kernel_rfl) ?_ _
      refine NoPanic.normal ?_
      clear CS q0 t3 b10 b11 b12 B10 B11 B12 bd
      go_wp2_with fail
      refine (txt_raw rfl HR.out T12 _ 8 c12 _ (r12.upto (m := 8) (by omega)) (by simp [headF_len])).mono ?_
      rintro x w13 ⟨rfl, T13⟩
      have t3 := T13.blk.cell 3
      clear T12 r12
      go_wp2_with fail
      refine (txt_raw rfl HR.out T13 A n cap f.body T13.rd (by simp [headF_len, List.length_take]; omega)).mono ?_
      rintro x w14 ⟨rfl, T14⟩
      replace T14 : Tx w w.heap.size (w.heap.size + 1) #[.int .i64 f.kind, .int .i64 f.gen, .int .i64 f.seq, .slice A n cap] A n f.body (0, textF f) w14 := T14
      clear T13 t3
      have PE : Kept (∀ A' n' c', n' ≤ c' → c' ≤ maxLen → Rd w14 A' n' (textF f) → RTextPost f w (.returned (.tuple #[.slice A' n' c', .int .i64 0])) w14) := ⟨fun A' n' c' h1 h2 h3 => by
        have e0 : errF f = 0 := by unfold errF; rw [if_neg (by omega), if_pos ⟨f1, f2, f3⟩]
        exact ⟨A', n', c', by rw [e0], h1, h2, by rw [if_pos e0]; exact h3, T14.bel⟩⟩
      obtain ⟨F, ⟨v, b14, o14, -⟩, -⟩ := T14
      obtain ⟨A14, c14, rfl, hc14, hm14, r14⟩ := own_rd o14 (textF_bytes f HR.out.2.1)
      have q0 := b14.cell 0
      have PF := Kept.mk (PE.out _ _ _ hc14 hm14 r14)
      clear PE b14 o14 r14
      go_wp2
      go_ret2
      exact PF.out
    · have he : errF f = 1 := by unfold errF; rw [if_neg (by omega), if_neg hf]
      have P1 : Kept (∀ w', Below w.heap.size w w' → RTextPost f w (.returned (.tuple #[.slice none 0 0, .int .i64 1])) w') := ⟨fun w' b => ⟨none, 0, 0, by rw [he], Nat.le_refl _, by unfold maxLen; omega, by rw [he]; exact Rd.nil_, b⟩⟩
      clear he hr hlen
      cases f1 : fits f.kind 1 with
      | false =>
        rw [f1] at H1
        clear hf
        go_enter Try.func23, Try.ntmps23
        go_wp2_with fail
        refine (H1.out _).mono ?_
        rintro x w' ⟨rfl, rfl⟩
        go_wp2
        go_ret2
        exact (P1.out _ ((Below.refl _ _).alloc (Nat.le_refl _) _))
      | true =>
        rw [f1] at H1 hf
        cases f2 : fits f.gen 4 with
        | false =>
          rw [f2] at H2
          clear hf
          go_enter Try.func23, Try.ntmps23
          go_wp2_with fail
          refine (H1.out _).mono ?_
          rintro x w' ⟨rfl, rfl⟩
          go_wp2_with fail
          refine (H2.out _).mono ?_
          rintro x w' ⟨rfl, rfl⟩
          go_wp2
          go_ret2
          exact (P1.out _ ((Below.refl _ _).alloc (Nat.le_refl _) _))
        | true =>
          have f3 : fits f.seq 4 = false := by
            cases h : fits f.seq 4 with
            | false => rfl
            | true => exact absurd ⟨rfl, f2, h⟩ hf
          rw [f2] at H2
          rw [f3] at H3
          clear hf
          go_enter Try.func23, Try.ntmps23
          go_wp2_with fail
          refine (H1.out _).mono ?_
          rintro x w' ⟨rfl, rfl⟩
          go_wp2_with fail
          refine (H2.out _).mono ?_
          rintro x w' ⟨rfl, rfl⟩
          go_wp2_with fail
          refine (H3.out _).mono ?_
          rintro x w' ⟨rfl, rfl⟩
          go_wp2
          go_ret2
          exact (P1.out _ ((Below.refl _ _).alloc (Nat.le_refl _) _))
end Go.Proofs.Ytimdbljagpbecaa.Frame

/-
  The document's own frame: its sectors.
-/

namespace Go.Proofs.Ytimdbljagpbecaa.Frame
open Go.RowKit Go.Proofs.Ytimdbljagpbecaa.Sha Go.Proofs.Ytimdbljagpbecaa.Wire

theorem piece_is (b : List Int) (q : Nat) : (b.take (min (q + 63) b.length)).drop q = (b.drop q).take 63 := by
  rw [List.drop_take]
  by_cases h : q + 63 ≤ b.length
  · rw [show min (q + 63) b.length - q = 63 by omega]
  · rw [List.take_of_length_le (by simp; omega), List.take_of_length_le (by simp; omega)]
theorem lay_step {w : World} {N q m : Nat} {v : Value} {b : List Int} (hq : 63 * m = q) (hml : q < b.length) (mk : Int) (hmk : mk = if m = 0 then 1 else 2)
    (o : w.ownsRow N 5 1 v (m + min q b.length + 1 + (min (q + 63) b.length - q)) (ints .u8 (cat (chunk b) m) ++ ints .u8 [mk] ++ ints .u8 ((b.take (min (q + 63) b.length)).drop q))) :
    w.ownsRow N 5 1 v (m + 1 + min (63 * (m + 1)) b.length) (ints .u8 (cat (chunk b) (m + 1))) := by
  have e : ints .u8 (cat (chunk b) m) ++ ints .u8 [mk] ++ ints .u8 ((b.take (min (q + 63) b.length)).drop q) = ints .u8 (cat (chunk b) (m + 1)) := by
    rw [piece_is, ← ints_append, ← ints_append, cat, chunk, hmk, hq]; simp
  rw [e, show m + min q b.length + 1 + (min (q + 63) b.length - q) = m + 1 + min (63 * (m + 1)) b.length by omega] at o
  exact o

def RPutPost (f : FV) (w : World) (x : Ending) (w' : World) : Prop := ∃ A n c, x = .returned (.tuple #[.slice A n c, .int .i64 (putF f).1]) ∧ n ≤ c ∧ c ≤ maxLen ∧ Rd w' A n (putF f).2 ∧ Below w.heap.size w w'

set_option maxRecDepth 100000 in
set_option maxHeartbeats 1000000 in
theorem rput_any (f : FV) (A : Option Addr) (n cap : Nat) (w : World) (hr : Rd w A n f.body) :
    Calls Try.prog 11 #[.agg #[.int .i64 f.kind, .int .i64 f.gen, .int .i64 f.seq, .slice A n cap]] w (RPutPost f w) := by
  have hlen := hr.1
  have b1 : Below w.heap.size w (w.alloc (.cells #[.int .i64 f.kind, .int .i64 f.gen, .int .i64 f.seq, .slice A n cap] 24)) := (Below.refl _ _).alloc (Nat.le_refl _) _
  have CT := Kept.mk (rtext_any f A n cap _ (hr.below b1))
  go_enter Try.func11, Try.ntmps11
  go_wp2_with fail
  refine CT.out.mono ?_
  rintro x wt ⟨At, nt, ct, rfl, hct, hcm, rt, bt⟩
  have hnt := rt.1
  have BT := Kept.mk (b1.trans (bt.mono (by simp)))
  have HRT := Kept.mk rt
  obtain ⟨N, hN⟩ : ∃ N, wt.heap.size = N := ⟨_, rfl⟩
  clear CT hr b1 bt rt
  by_cases he : errF f = 0
  · rw [if_pos he] at hnt HRT
    rw [he]
    have hL : (textF f).length ≤ 60024 := by
      rw [textF_len]; unfold errF at he; split at he <;> omega
    have PE : Kept (∀ A' n' c' w', n' ≤ c' → c' ≤ maxLen → Rd w' A' n' (laid (textF f)) → Below N wt w' → RPutPost f w (.returned (.tuple #[.slice A' n' c', .int .i64 0])) w') := ⟨fun A' n' c' w' h1 h2 h3 h4 => by
      refine ⟨A', n', c', by simp only [putF, he], h1, h2, ?_, BT.out.trans (h4.mono (by rw [← hN]; exact BT.out.size))⟩
      simp only [putF]; rw [if_pos he]; exact h3⟩
    obtain ⟨b, hb⟩ : ∃ b, textF f = b := ⟨_, rfl⟩
    rw [hb] at hnt HRT hL PE
    subst hnt
    clear he hb BT
    go_wp2_with fail
    go_loopw [6, 7, 8] (fun v j _mk wr => ∃ m : Nat, m ≤ secs b.length ∧ j = .int .i64 ((63 * m : Nat) : Int) ∧ Kept (wr.ownsRow N 5 1 v (m + min (63 * m) b.length) (ints .u8 (cat (chunk b) m))) ∧ Kept (Below N wt wr)) (fun _ j _ _ => b.length + 63 - (intOf j).toNat)
    case atStart => exact ⟨0, by omega, rfl, ⟨World.ownsRow_nil _ _ _ _⟩, ⟨Below.refl _ _⟩⟩
    case round =>
      obtain ⟨m, hm, rfl, O, B⟩ := hrel
      by_cases hml : 63 * m < b.length
      · have hml' : ((63 * m : Nat) : Int) < b.length := by omega
        obtain ⟨q, hq⟩ : ∃ q, 63 * m = q := ⟨_, rfl⟩
        rw [hq] at hml hml' O ⊢
        by_cases hm0 : m = 0
        · have hq0 : q = 0 := by omega
          go_upto_region 11 with (fail)
          clear hq0
          have bd : Below N wt wr.drew := B.out.drew
          have od := O.out.drew
          have WR : IntKind.i64.wrap ((q : Int) + 63) = (q : Int) + 63 := by simp only [IntKind.wrap_i64]; omega
          obtain ⟨A2, hs, r2, -⟩ := slice_lh HRT.out hct q (min (q + 63) b.length) (by omega) (by omega) (q : Int) (if (b.length : Int) < (q : Int) + 63 then (b.length : Int) else (q : Int) + 63) rfl (by split <;> omega)
          refine wp_region_noPanic ?_
          refine wp_region_held_drew (S := fun _ : World => True) (by kernel_rfl) trivial (fun _ => ?_)
          generalize wr.drew = wd at *
          refine wpAnyH_take (i := 0) (oi := ?o11) (v := ?v11) ?hi11 (by kernel_rfl) (by kernel_rfl) (by kernel_rfl) ?hq11 (Or.inl ⟨?hw11, ?hy11⟩) (by assumption) ?r11
          case hi11 => (simp only [List.getElem?_toArray, List.getElem?_cons_zero]; exact rfl)
          case hq11 => exact fun _ _ _ h => h
          case hw11 => rfl
          case hy11 => (intro w hSw; (try dsimp only at hSw); go_simp; try exact rfl)
          simp only [Act.put, List.setIfInBounds_toArray, List.set_cons_zero, List.set_cons_succ]
          refine wpAnyH_take (i := 1) (oi := ?o12) (v := ?v12) ?hi12 (by kernel_rfl) (by kernel_rfl) (by kernel_rfl) ?hq12 (Or.inl ⟨?hw12, ?hy12⟩) (by assumption) ?r12
          case hi12 => (simp only [List.getElem?_toArray, List.getElem?_cons_succ, List.getElem?_cons_zero]; exact rfl)
          case hq12 => exact fun _ _ _ h => h
          case hw12 => rfl
          case hy12 => (intro w hSw; (try dsimp only at hSw); go_simp; try exact rfl)
          simp only [Act.put, List.setIfInBounds_toArray, List.set_cons_zero, List.set_cons_succ]
          refine wpAnyH_take (i := 4) (oi := ?o13) (v := ?v13) ?hi13 (by kernel_rfl) (by kernel_rfl) (by kernel_rfl) ?hq13 (Or.inl ⟨?hw13, ?hy13⟩) (by assumption) ?r13
          case hi13 => (simp only [List.getElem?_toArray, List.getElem?_cons_succ, List.getElem?_cons_zero]; exact rfl)
          case hq13 => exact fun _ _ _ h => h
          case hw13 => rfl
          case hy13 => (intro w hSw; (try dsimp only at hSw); go_simp; try exact rfl)
          simp only [Act.put, List.setIfInBounds_toArray, List.set_cons_zero, List.set_cons_succ]
          refine wpAnyH_take (i := 5) (oi := ?o14) (v := ?v14) ?hi14 (by kernel_rfl) (by kernel_rfl) (by kernel_rfl) ?hq14 (Or.inl ⟨?hw14, ?hy14⟩) (by assumption) ?r14
          case hi14 => (simp only [List.getElem?_toArray, List.getElem?_cons_succ, List.getElem?_cons_zero]; exact rfl)
          case hq14 => exact fun _ _ _ h => h
          case hw14 => rfl
          case hy14 => (intro w hSw; (try dsimp only at hSw); go_simp; try exact rfl)
          simp only [Act.put, List.setIfInBounds_toArray, List.set_cons_zero, List.set_cons_succ]
          refine wpAnyH_take (i := 6) (oi := ?o15) (v := ?v15) ?hi15 (by kernel_rfl) (by kernel_rfl) (by kernel_rfl) ?hq15 (Or.inl ⟨?hw15, ?hy15⟩) (by assumption) ?r15
          case hi15 => (simp only [List.getElem?_toArray, List.getElem?_cons_succ, List.getElem?_cons_zero]; exact rfl)
          case hq15 => exact fun _ _ _ h => h
          case hw15 => rfl
          case hy15 => (intro w hSw; (try dsimp only at hSw); go_simp; try exact rfl)
          simp only [Act.put, List.setIfInBounds_toArray, List.set_cons_zero, List.set_cons_succ]
          refine wpAnyH_take (i := 7) (oi := ?o16) (v := ?v16) ?hi16 (by kernel_rfl) (by kernel_rfl) (by kernel_rfl) ?hq16 (Or.inl ⟨?hw16, ?hy16⟩) (by assumption) ?r16
          case hi16 => (simp only [List.getElem?_toArray, List.getElem?_cons_succ, List.getElem?_cons_zero]; exact rfl)
          case hq16 => exact fun _ _ _ h => h
          case hw16 => rfl
          case hy16 => (intro w hSw; (try dsimp only at hSw); go_simp; try exact rfl)
          simp only [Act.put, List.setIfInBounds_toArray, List.set_cons_zero, List.set_cons_succ]
          refine wpAnyH_take (i := 8) (oi := ?o17) (v := ?v17) ?hi17 (by kernel_rfl) (by kernel_rfl) (by kernel_rfl) ?hq17 (Or.inl ⟨?hw17, ?hy17⟩) (by assumption) ?r17
          case hi17 => (simp only [List.getElem?_toArray, List.getElem?_cons_succ, List.getElem?_cons_zero]; exact rfl)
          case hq17 => exact fun _ _ _ h => h
          case hw17 => rfl
          case hy17 => (intro w hSw; (try dsimp only at hSw); go_simp; try exact rfl)
          simp only [Act.put, List.setIfInBounds_toArray, List.set_cons_zero, List.set_cons_succ]
          refine wpAnyH_take (i := 9) (oi := ?o18) (v := ?v18) ?hi18 (by kernel_rfl) (by kernel_rfl) (by kernel_rfl) ?hq18 (Or.inl ⟨?hw18, ?hy18⟩) (by assumption) ?r18
          case hi18 => (simp only [List.getElem?_toArray, List.getElem?_cons_succ, List.getElem?_cons_zero]; exact rfl)
          case hq18 => exact fun _ _ _ h => h
          case hw18 => rfl
          case hy18 => (intro w hSw; (try dsimp only at hSw); go_simp; try exact rfl)
          simp only [Act.put, List.setIfInBounds_toArray, List.set_cons_zero, List.set_cons_succ]
          refine wpAnyH_take (i := 10) (oi := ?o19) (v := ?v19) ?hi19 (by kernel_rfl) (by kernel_rfl) (by kernel_rfl) ?hq19 (Or.inl ⟨?hw19, ?hy19⟩) (by assumption) ?r19
          case hi19 => (simp only [List.getElem?_toArray, List.getElem?_cons_succ, List.getElem?_cons_zero]; exact rfl)
          case hq19 => exact fun _ _ _ h => h
          case hw19 => rfl
          case hy19 => (intro w hSw; (try dsimp only at hSw); go_simp; try exact rfl)
          simp only [Act.put, List.setIfInBounds_toArray, List.set_cons_zero, List.set_cons_succ]
          refine wpAnyH_take (i := 11) (oi := ?o20) (v := ?v20) ?hi20 (by kernel_rfl) (by kernel_rfl) (by kernel_rfl) ?hq20 (Or.inl ⟨?hw20, ?hy20⟩) (by assumption) ?r20
          case hi20 => (simp only [List.getElem?_toArray, List.getElem?_cons_succ, List.getElem?_cons_zero]; exact rfl)
          case hq20 => exact fun _ _ _ h => h
          case hw20 => rfl
          case hy20 => (intro w hSw; (try dsimp only at hSw); go_simp; try exact rfl)
          simp only [Act.put, List.setIfInBounds_toArray, List.set_cons_zero, List.set_cons_succ]
          refine wpAnyH_ready (rs := [2]) (by kernel_rfl) (by simp) ?_
          refine AllReadyH.cons (o := ?o33) ?hi33 (fun K hK => ?_) AllReadyH.nil
          case hi33 => (simp only [List.getElem?_toArray, List.getElem?_cons_succ, List.getElem?_cons_zero]; exact rfl)
          go_simp
          have RB := Kept.mk (Blk.new wd 5 #[.int .u8 1])
          have O8 := od.alloc (.cells #[.int .u8 1] 5)
          have hsz : N ≤ wd.heap.size := by rw [← hN]; exact bd.size
          have B9 : Below N wt (wd.alloc (.cells #[.int .u8 1] 5)) := bd.alloc hsz _
          refine hK.out _ _ trivial (fun _ => ?_)
          clear hK K od bd
          try simp only [Act.put, List.setIfInBounds_toArray, List.set_cons_zero, List.set_cons_succ]
          generalize wd.alloc (.cells #[.int .u8 1] 5) = w9 at *
          generalize wd.heap.size = gB at *
          refine wpAnyH_ready (rs := [3]) (by kernel_rfl) (by simp) ?_
          refine AllReadyH.cons (o := ?o35) ?hi35 (fun K hK => ?_) AllReadyH.nil
          case hi35 => (simp only [List.getElem?_toArray, List.getElem?_cons_succ, List.getElem?_cons_zero]; exact rfl)
          refine step_append_rd rfl (.tmp 25) (.tmp 27) 22 (by rfl) N 5 Try.underlying22 info_u8 _ _ _ (by rfl) O8 (some ⟨gB, 0, none⟩) 1 1 [1] (by rfl) (Rd.blk (xs := [1]) RB.out (by intro x hx; simp at hx; omega) rfl) (by unfold secs at hm; omega) (by rw [← hN]; exact B9.size) ?_
          intro v3 w3 o3 g3 b3 a3
          have B3 := B9.trans b3
          refine hK.out _ _ trivial (fun _ => ?_)
          clear hK K
          try simp only [Act.put, List.setIfInBounds_toArray, List.set_cons_zero, List.set_cons_succ]
          refine wpAnyH_ready (rs := [12]) (by kernel_rfl) (by simp) ?_
          refine AllReadyH.cons (o := ?o36) ?hi36 (fun K hK => ?_) AllReadyH.nil
          case hi36 => (simp only [List.getElem?_toArray, List.getElem?_cons_succ, List.getElem?_cons_zero]; exact rfl)
          refine step_append_rd rfl (.tmp 28) (.tmp 36) 22 (by rfl) N 5 Try.underlying22 info_u8 _ _ _ (by rfl) o3.out A2 (min (q + 63) b.length - q) (ct - q) _ (by rfl) (r2.below (by rw [hN]; exact B3)) (by unfold secs at hm; omega) (by rw [← hN]; exact B3.size) ?_
          intro v12 w12 o12 g12 b12 a12
          have B12 := Kept.mk (B3.trans b12)
          refine hK.out _ _ trivial (fun _ => ?_)
          clear hK K
          try simp only [Act.put, List.setIfInBounds_toArray, List.set_cons_zero, List.set_cons_succ]
          refine wpAnyH_take (i := 13) (oi := ?o21) (v := ?v21) ?hi21 (by kernel_rfl) (by kernel_rfl) (by kernel_rfl) ?hq21 (Or.inl ⟨?hw21, ?hy21⟩) (by assumption) ?r21
          case hi21 => (simp only [List.getElem?_toArray, List.getElem?_cons_succ, List.getElem?_cons_zero]; exact rfl)
          case hq21 => exact fun _ _ _ h => h
          case hw21 => rfl
          case hy21 => (intro w hSw; (try dsimp only at hSw); go_simp; try exact rfl)
          simp only [Act.put, List.setIfInBounds_toArray, List.set_cons_zero, List.set_cons_succ]
          refine wpAnyH_done (by kernel_rfl) ?_ _
          refine NoPanic.normal ?_
          have O12 := Kept.mk (lay_step hq hml 1 (by rw [if_pos hm0]) o12.out)
          clear o12 g12 b12 a12 B3 o3 g3 b3 a3 B9 O8 RB hs r2 WR
          go_wp2
          go_roundw
          case rel => exact ⟨m + 1, by unfold secs; omega, by go_num, O12, B12⟩
          case measure => simp [intOf]; omega
        · have hq0 : ¬ (q : Int) = 0 := by omega
          go_upto_region 11 with (fail)
          clear hq0
          have bd : Below N wt wr.drew := B.out.drew
          have od := O.out.drew
          have WR : IntKind.i64.wrap ((q : Int) + 63) = (q : Int) + 63 := by simp only [IntKind.wrap_i64]; omega
          obtain ⟨A2, hs, r2, -⟩ := slice_lh HRT.out hct q (min (q + 63) b.length) (by omega) (by omega) (q : Int) (if (b.length : Int) < (q : Int) + 63 then (b.length : Int) else (q : Int) + 63) rfl (by split <;> omega)
          refine wp_region_noPanic ?_
          refine wp_region_held_drew (S := fun _ : World => True) (by kernel_rfl) trivial (fun _ => ?_)
          generalize wr.drew = wd at *
          refine wpAnyH_take (i := 0) (oi := ?o22) (v := ?v22) ?hi22 (by kernel_rfl) (by kernel_rfl) (by kernel_rfl) ?hq22 (Or.inl ⟨?hw22, ?hy22⟩) (by assumption) ?r22
          case hi22 => (simp only [List.getElem?_toArray, List.getElem?_cons_zero]; exact rfl)
          case hq22 => exact fun _ _ _ h => h
          case hw22 => rfl
          case hy22 => (intro w hSw; (try dsimp only at hSw); go_simp; try exact rfl)
          simp only [Act.put, List.setIfInBounds_toArray, List.set_cons_zero, List.set_cons_succ]
          refine wpAnyH_take (i := 1) (oi := ?o23) (v := ?v23) ?hi23 (by kernel_rfl) (by kernel_rfl) (by kernel_rfl) ?hq23 (Or.inl ⟨?hw23, ?hy23⟩) (by assumption) ?r23
          case hi23 => (simp only [List.getElem?_toArray, List.getElem?_cons_succ, List.getElem?_cons_zero]; exact rfl)
          case hq23 => exact fun _ _ _ h => h
          case hw23 => rfl
          case hy23 => (intro w hSw; (try dsimp only at hSw); go_simp; try exact rfl)
          simp only [Act.put, List.setIfInBounds_toArray, List.set_cons_zero, List.set_cons_succ]
          refine wpAnyH_take (i := 4) (oi := ?o24) (v := ?v24) ?hi24 (by kernel_rfl) (by kernel_rfl) (by kernel_rfl) ?hq24 (Or.inl ⟨?hw24, ?hy24⟩) (by assumption) ?r24
          case hi24 => (simp only [List.getElem?_toArray, List.getElem?_cons_succ, List.getElem?_cons_zero]; exact rfl)
          case hq24 => exact fun _ _ _ h => h
          case hw24 => rfl
          case hy24 => (intro w hSw; (try dsimp only at hSw); go_simp; try exact rfl)
          simp only [Act.put, List.setIfInBounds_toArray, List.set_cons_zero, List.set_cons_succ]
          refine wpAnyH_take (i := 5) (oi := ?o25) (v := ?v25) ?hi25 (by kernel_rfl) (by kernel_rfl) (by kernel_rfl) ?hq25 (Or.inl ⟨?hw25, ?hy25⟩) (by assumption) ?r25
          case hi25 => (simp only [List.getElem?_toArray, List.getElem?_cons_succ, List.getElem?_cons_zero]; exact rfl)
          case hq25 => exact fun _ _ _ h => h
          case hw25 => rfl
          case hy25 => (intro w hSw; (try dsimp only at hSw); go_simp; try exact rfl)
          simp only [Act.put, List.setIfInBounds_toArray, List.set_cons_zero, List.set_cons_succ]
          refine wpAnyH_take (i := 6) (oi := ?o26) (v := ?v26) ?hi26 (by kernel_rfl) (by kernel_rfl) (by kernel_rfl) ?hq26 (Or.inl ⟨?hw26, ?hy26⟩) (by assumption) ?r26
          case hi26 => (simp only [List.getElem?_toArray, List.getElem?_cons_succ, List.getElem?_cons_zero]; exact rfl)
          case hq26 => exact fun _ _ _ h => h
          case hw26 => rfl
          case hy26 => (intro w hSw; (try dsimp only at hSw); go_simp; try exact rfl)
          simp only [Act.put, List.setIfInBounds_toArray, List.set_cons_zero, List.set_cons_succ]
          refine wpAnyH_take (i := 7) (oi := ?o27) (v := ?v27) ?hi27 (by kernel_rfl) (by kernel_rfl) (by kernel_rfl) ?hq27 (Or.inl ⟨?hw27, ?hy27⟩) (by assumption) ?r27
          case hi27 => (simp only [List.getElem?_toArray, List.getElem?_cons_succ, List.getElem?_cons_zero]; exact rfl)
          case hq27 => exact fun _ _ _ h => h
          case hw27 => rfl
          case hy27 => (intro w hSw; (try dsimp only at hSw); go_simp; try exact rfl)
          simp only [Act.put, List.setIfInBounds_toArray, List.set_cons_zero, List.set_cons_succ]
          refine wpAnyH_take (i := 8) (oi := ?o28) (v := ?v28) ?hi28 (by kernel_rfl) (by kernel_rfl) (by kernel_rfl) ?hq28 (Or.inl ⟨?hw28, ?hy28⟩) (by assumption) ?r28
          case hi28 => (simp only [List.getElem?_toArray, List.getElem?_cons_succ, List.getElem?_cons_zero]; exact rfl)
          case hq28 => exact fun _ _ _ h => h
          case hw28 => rfl
          case hy28 => (intro w hSw; (try dsimp only at hSw); go_simp; try exact rfl)
          simp only [Act.put, List.setIfInBounds_toArray, List.set_cons_zero, List.set_cons_succ]
          refine wpAnyH_take (i := 9) (oi := ?o29) (v := ?v29) ?hi29 (by kernel_rfl) (by kernel_rfl) (by kernel_rfl) ?hq29 (Or.inl ⟨?hw29, ?hy29⟩) (by assumption) ?r29
          case hi29 => (simp only [List.getElem?_toArray, List.getElem?_cons_succ, List.getElem?_cons_zero]; exact rfl)
          case hq29 => exact fun _ _ _ h => h
          case hw29 => rfl
          case hy29 => (intro w hSw; (try dsimp only at hSw); go_simp; try exact rfl)
          simp only [Act.put, List.setIfInBounds_toArray, List.set_cons_zero, List.set_cons_succ]
          refine wpAnyH_take (i := 10) (oi := ?o30) (v := ?v30) ?hi30 (by kernel_rfl) (by kernel_rfl) (by kernel_rfl) ?hq30 (Or.inl ⟨?hw30, ?hy30⟩) (by assumption) ?r30
          case hi30 => (simp only [List.getElem?_toArray, List.getElem?_cons_succ, List.getElem?_cons_zero]; exact rfl)
          case hq30 => exact fun _ _ _ h => h
          case hw30 => rfl
          case hy30 => (intro w hSw; (try dsimp only at hSw); go_simp; try exact rfl)
          simp only [Act.put, List.setIfInBounds_toArray, List.set_cons_zero, List.set_cons_succ]
          refine wpAnyH_take (i := 11) (oi := ?o31) (v := ?v31) ?hi31 (by kernel_rfl) (by kernel_rfl) (by kernel_rfl) ?hq31 (Or.inl ⟨?hw31, ?hy31⟩) (by assumption) ?r31
          case hi31 => (simp only [List.getElem?_toArray, List.getElem?_cons_succ, List.getElem?_cons_zero]; exact rfl)
          case hq31 => exact fun _ _ _ h => h
          case hw31 => rfl
          case hy31 => (intro w hSw; (try dsimp only at hSw); go_simp; try exact rfl)
          simp only [Act.put, List.setIfInBounds_toArray, List.set_cons_zero, List.set_cons_succ]
          refine wpAnyH_ready (rs := [2]) (by kernel_rfl) (by simp) ?_
          refine AllReadyH.cons (o := ?o34) ?hi34 (fun K hK => ?_) AllReadyH.nil
          case hi34 => (simp only [List.getElem?_toArray, List.getElem?_cons_succ, List.getElem?_cons_zero]; exact rfl)
          go_simp
          have RB := Kept.mk (Blk.new wd 5 #[.int .u8 2])
          have O8 := od.alloc (.cells #[.int .u8 2] 5)
          have hsz : N ≤ wd.heap.size := by rw [← hN]; exact bd.size
          have B9 : Below N wt (wd.alloc (.cells #[.int .u8 2] 5)) := bd.alloc hsz _
          refine hK.out _ _ trivial (fun _ => ?_)
          clear hK K od bd
          try simp only [Act.put, List.setIfInBounds_toArray, List.set_cons_zero, List.set_cons_succ]
          generalize wd.alloc (.cells #[.int .u8 2] 5) = w9 at *
          generalize wd.heap.size = gB at *
          refine wpAnyH_ready (rs := [3]) (by kernel_rfl) (by simp) ?_
          refine AllReadyH.cons (o := ?o37) ?hi37 (fun K hK => ?_) AllReadyH.nil
          case hi37 => (simp only [List.getElem?_toArray, List.getElem?_cons_succ, List.getElem?_cons_zero]; exact rfl)
          refine step_append_rd rfl (.tmp 25) (.tmp 27) 22 (by rfl) N 5 Try.underlying22 info_u8 _ _ _ (by rfl) O8 (some ⟨gB, 0, none⟩) 1 1 [2] (by rfl) (Rd.blk (xs := [2]) RB.out (by intro x hx; simp at hx; omega) rfl) (by unfold secs at hm; omega) (by rw [← hN]; exact B9.size) ?_
          intro v3 w3 o3 g3 b3 a3
          have B3 := B9.trans b3
          refine hK.out _ _ trivial (fun _ => ?_)
          clear hK K
          try simp only [Act.put, List.setIfInBounds_toArray, List.set_cons_zero, List.set_cons_succ]
          refine wpAnyH_ready (rs := [12]) (by kernel_rfl) (by simp) ?_
          refine AllReadyH.cons (o := ?o38) ?hi38 (fun K hK => ?_) AllReadyH.nil
          case hi38 => (simp only [List.getElem?_toArray, List.getElem?_cons_succ, List.getElem?_cons_zero]; exact rfl)
          refine step_append_rd rfl (.tmp 28) (.tmp 36) 22 (by rfl) N 5 Try.underlying22 info_u8 _ _ _ (by rfl) o3.out A2 (min (q + 63) b.length - q) (ct - q) _ (by rfl) (r2.below (by rw [hN]; exact B3)) (by unfold secs at hm; omega) (by rw [← hN]; exact B3.size) ?_
          intro v12 w12 o12 g12 b12 a12
          have B12 := Kept.mk (B3.trans b12)
          refine hK.out _ _ trivial (fun _ => ?_)
          clear hK K
          try simp only [Act.put, List.setIfInBounds_toArray, List.set_cons_zero, List.set_cons_succ]
          refine wpAnyH_take (i := 13) (oi := ?o32) (v := ?v32) ?hi32 (by kernel_rfl) (by kernel_rfl) (by kernel_rfl) ?hq32 (Or.inl ⟨?hw32, ?hy32⟩) (by assumption) ?r32
          case hi32 => (simp only [List.getElem?_toArray, List.getElem?_cons_succ, List.getElem?_cons_zero]; exact rfl)
          case hq32 => exact fun _ _ _ h => h
          case hw32 => rfl
          case hy32 => (intro w hSw; (try dsimp only at hSw); go_simp; try exact rfl)
          simp only [Act.put, List.setIfInBounds_toArray, List.set_cons_zero, List.set_cons_succ]
          refine wpAnyH_done (by kernel_rfl) ?_ _
          refine NoPanic.normal ?_
          have O12 := Kept.mk (lay_step hq hml 2 (by rw [if_neg hm0]) o12.out)
          clear o12 g12 b12 a12 B3 o3 g3 b3 a3 B9 O8 RB hs r2 WR
          go_wp2
          go_roundw
          case rel => exact ⟨m + 1, by unfold secs; omega, by go_num, O12, B12⟩
          case measure => simp [intOf]; omega
      · have hml' : ¬ ((63 * m : Nat) : Int) < b.length := by omega
        obtain rfl : m = secs b.length := by unfold secs at hm ⊢; omega
        obtain ⟨S, hS⟩ : ∃ S, secs b.length = S := ⟨_, rfl⟩
        have hSd : (b.length + 62) / 63 = S := by rw [← hS]; rfl
        obtain ⟨t, ht⟩ : ∃ t, 64 * S - (S + b.length) = t := ⟨_, rfl⟩
        have hlaid : laid b = cat (chunk b) S ++ List.replicate t 0 := by unfold laid; rw [hS, ht]
        rw [hS] at O hml hml' hm ⊢
        rw [show S + min (63 * S) b.length = S + b.length by omega] at O
        rw [hlaid] at PE
        obtain ⟨l, hl⟩ : ∃ l, S + b.length = l := ⟨_, rfl⟩
        rw [hl] at O ht
        have hcl : (cat (chunk b) S).length = l := by have := O.out.1; rw [ints_len] at this; omega
        have hcb : Bytes (cat (chunk b) S) := cat_chunk_bytes b HRT.out.2.1 S
        have hl1 : l + t = 64 * S := by omega
        have ht64 : t < 64 := by omega
        have hl2 : l + t ≤ 64000 := by omega
        clear hlaid
        generalize cat (chunk b) S = C at *
        go_wp2
        go_loopw [6] (fun v wr => ∃ (p c : Nat) (Av : Option Addr), v = .slice Av (l + p) c ∧ p ≤ t ∧ Kept (wr.ownsRow N 5 1 v (l + p) (ints .u8 (C ++ List.replicate p 0))) ∧ Kept (Below N wt wr)) (fun v _ => l + t - lenOf v)
        case atStart =>
          obtain ⟨Av, c, rfl⟩ := own_shape O.out
          exact ⟨0, c, Av, rfl, by omega, by simpa using O, B⟩
        case round =>
          obtain ⟨p, c, Av, rfl, hp, O2, B2⟩ := hrel
          obtain ⟨y, hy⟩ : ∃ y, l + p = y := ⟨_, rfl⟩
          have hy2 : y ≤ 64000 := by omega
          have hr0 : Int.tmod (y : Int) 64 = ((y % 64 : Nat) : Int) := by rw [Int.tmod_eq_emod_of_nonneg (by omega)]; omega
          by_cases hpt : p < t
          · have hne : ¬ ((y % 64 : Nat) : Int) = 0 := by omega
            rw [hy] at O2 ⊢
            have hz : l + (p + 1) = y + 1 := by omega
            generalize y % 64 = z at *
            go_wp2_with ((with_reducible refine sel 44 ?_); refine wpList_append_rda rfl (.tmp 42) (.tmp 43) 22 rfl N 5 Try.underlying22 info_u8 _ y _ rfl (O2.out.alloc _) _ 1 1 [0] rfl (rd_one _ _ (by omega)) (by omega) (by have := B2.out.size; simp; omega) ?_; intro v7 w7 o7 g7 a7; have B7 := Kept.mk ((B2.out.alloc (by have := B2.out.size; omega) (.cells #[.int .u8 0] 5)).trans (own_below (O2.out.alloc (.cells #[.int .u8 0] 5)) g7 (by have := B2.out.size; simp; omega))); clear g7 a7)
            obtain ⟨A7, c7, rfl⟩ := own_shape o7.out
            go_roundw
            case rel =>
              refine ⟨p + 1, c7, A7, by rw [hz], by omega, ⟨?_⟩, B7⟩
              have := o7.out
              rw [← ints_append, List.append_assoc, ← List.replicate_succ'] at this
              rw [hz]; exact this
            case measure => simp [lenOf]; omega
          · obtain rfl : p = t := by omega
            have hne : ((y % 64 : Nat) : Int) = 0 := by omega
            obtain ⟨-, h1, h2, h3⟩ : True ∧ l + p ≤ c ∧ c ≤ 9223372036854775807 ∧ Rd wr Av (l + p) (C ++ List.replicate p 0) := by
              obtain ⟨A', c', e1, h1, h2, h3⟩ := own_rd O2.out (hcb.append (fun x hx => by have := List.eq_of_mem_replicate hx; omega))
              injection e1 with e1 e2 e3
              subst e1 e3
              exact ⟨trivial, h1, h2, h3⟩
            have PF := Kept.mk (PE.out _ _ _ _ h1 h2 h3 B2.out)
            rw [hy] at PF ⊢
            generalize y % 64 = z at *
            clear PE h3
            go_wp2
            go_ret2
            exact PF.out
  · rw [if_neg he] at hnt HRT
    have PE : Kept (∀ w', Below w.heap.size w w' → RPutPost f w (.returned (.tuple #[.slice none 0 0, .int .i64 (errF f)])) w') := ⟨fun w' h => ⟨none, 0, 0, rfl, Nat.le_refl _, by unfold maxLen; omega, by simp only [putF]; rw [if_neg he]; exact Rd.nil_, h⟩⟩
    have PF := Kept.mk (PE.out _ BT.out)
    have he2 : (errF f == 0) = false := by simpa using he
    generalize errF f = er at *
    clear PE
    go_wp2
    go_ret2
    exact PF.out
end Go.Proofs.Ytimdbljagpbecaa.Frame

/-
  The document's own Dec: Num.
-/




namespace Go.Proofs.Ytimdbljagpbecaa.Wire
open Go.RowKit Go.Proofs.Ytimdbljagpbecaa.Sha

set_option maxRecDepth 100000 in
set_option maxHeartbeats 2000000 in
theorem rdnum_any (w : World) (d : Nat) (G : List Nat) (s : Int) (st : St) (h : De 70 w d G st) (hd : d ∉ G) :
    Calls Try.prog 28 #[.pointer (some ⟨d, 0, none⟩), .int .i64 s] w fun x w' => x = .returned (.int .i64 (decNum st s).1) ∧ De 70 w' d G (decNum st s).2 ∧ Bar [d] w w' := by
  obtain ⟨err, xs⟩ := st
  have HD := Kept.mk h
  obtain ⟨hG, A, c, hb, hr, hc, hm, ho⟩ := h
  simp only at hb hr hc hm ho
  have c0 : w.cell? ⟨d, 0, none⟩ = some (.slice A xs.length c) := hb.cell 0
  have c1 : w.cell? ⟨d, 1, none⟩ = some (.int .i64 err) := hb.cell 1
  have z0 := hb.frozen 0
  have z1 := hb.frozen 1
  have HB := Kept.mk hb; have HR := Kept.mk hr; have HO := Kept.mk ho
  clear hb hr ho
  by_cases he : err = 0
  · subst he
    by_cases h1 : 1 ≤ s
    · by_cases h8 : s ≤ 8
      · have h1' : ¬ s < 1 := by omega
        have h8' : ¬ 8 < s := by omega
        obtain ⟨k, rfl⟩ : ∃ k : Nat, s = k := ⟨s.toNat, by omega⟩
        by_cases hl : k ≤ xs.length
        · have hl' : ¬ (xs.length : Int) < k := by omega
          obtain ⟨A', hsl, r', o'⟩ := slice_l HR.out hc k hl k rfl
          have R' := Kept.mk r'; have O' := Kept.mk o'
          have hmk : c - k ≤ 9223372036854775807 := by omega
          have hck : xs.length - k ≤ c - k := by omega
          have BX := Kept.mk HR.out.2.1
          obtain ⟨n, hn⟩ : ∃ n, xs.length = n := ⟨_, rfl⟩
          have HN := Kept.mk hn
          rw [hn] at c0 HR hsl R' O' hl hl' hck hc HO HB
          clear HD r' o' hn
          go_enter Try.func28, Try.ntmps28
          go_wp2
          go_loop [5, 6] (fun u i => ∃ j : Nat, j ≤ k ∧ u = .int .u64 (val (xs.take j) : Nat) ∧ i = .int .i64 j) (fun _ i => k - (intOf i).toNat)
          case atStart => exact ⟨0, by omega, rfl, rfl⟩
          case round =>
            obtain ⟨j, hj, rfl, rfl⟩ := hrel
            by_cases hjk : j < k
            · have hjk' : (j : Int) < k := by omega
              have hjn : (j : Int) < n := by omega
              obtain ⟨b, o, rfl, hcell⟩ := HR.out.2.2.resolve_left (by omega)
              have x0 := hcell j (by omega)
              have hx := BX.out.at_ j
              have hst := val_step xs j (by rw [HN.out]; omega)
              have hlt := val_take_lt xs BX.out j (by rw [HN.out]; omega)
              have hlt7 : 256 ^ j ≤ 256 ^ 7 := Nat.pow_le_pow_right (by omega) (by omega)
              generalize at_ xs j = x at *
              generalize val (xs.take j) = v at *
              have ho := or_step v x hx (by omega)
              rw [← hst] at ho
              have hw : IntKind.u64.wrap ((v : Int) * 256) = (v : Int) * 256 := by rw [IntKind.wrap_u64]; omega
              have hw2 : IntKind.u64.wrap x = x := by rw [IntKind.wrap_u64]; omega
              clear hcell hst
              go_wp2
              go_round
              case rel => exact ⟨j + 1, by omega, rfl, by go_num⟩
              case measure => simp [intOf]; omega
            · have hjk' : ¬ (j : Int) < k := by omega
              obtain rfl : j = k := by omega
              have hlt := val_take_lt xs BX.out j (by rw [HN.out]; omega)
              have hlt8 : 256 ^ j ≤ 256 ^ 8 := Nat.pow_le_pow_right (by omega) (by omega)
              obtain ⟨v, hv0⟩ : ∃ v, val (xs.take j) = v := ⟨_, rfl⟩
              rw [hv0] at hlt ⊢
              have HV := Kept.mk hv0
              clear hv0
              by_cases hv : v ≤ 4611686018427387904
              · have hv' : ¬ (4611686018427387904 : Int) < v := by omega
                have hw : IntKind.i64.wrap (v : Int) = v := by rw [IntKind.wrap_i64]; omega
                have HE := Kept.mk (show decNum (0, xs) (j : Nat) = ((v : Int), (0, xs.drop j)) by
                  rw [decNum_yes xs j (by omega) (by omega) ⟨by rw [HN.out]; exact hl, by rw [HV.out]; exact hv⟩, HV.out])
                go_wp2
                go_ret
                have hbar : Bar [d] w (w.setCell ⟨d, 0, none⟩ (.slice A' (n - j) (c - j))) := (Bar.refl _ _).setCell (by simp) _
                rw [HE.out]
                exact ⟨rfl, De.set (n := n - j) hG hd (by simp [HN.out]) (HB.out.set_ 0 _) hbar R'.out hck hmk (fun F hF => O'.out F (HO.out F hF)), hbar⟩
              · have hv' : (4611686018427387904 : Int) < v := by omega
                have HE := Kept.mk (show decNum (0, xs) (j : Nat) = (0, (2, xs)) from decNum_no xs j (by omega) (by omega) (fun hh => hv (by rw [← HV.out]; exact hh.2)))
                go_wp2
                go_ret
                have hbar : Bar [d] w (w.setCell ⟨d, 1, none⟩ (.int .i64 2)) := (Bar.refl _ _).setCell (by simp) _
                rw [HE.out]
                exact ⟨rfl, De.set (n := n) hG hd HN.out.symm (HB.out.set_ 1 _) hbar HR.out hc hm HO.out, hbar⟩
        · have hl' : (xs.length : Int) < k := by omega
          have HE := Kept.mk (show decNum (0, xs) (k : Nat) = (0, (2, xs)) from decNum_no xs k (by omega) (by omega) (fun hh => hl hh.1))
          clear HD
          go_enter Try.func28, Try.ntmps28
          go_wp2
          go_ret
          have hbar : Bar [d] w (w.setCell ⟨d, 1, none⟩ (.int .i64 2)) := (Bar.refl _ _).setCell (by simp) _
          rw [HE.out]
          exact ⟨rfl, De.set (n := xs.length) hG hd rfl (HB.out.set_ 1 _) hbar HR.out hc hm HO.out, hbar⟩
      · have h1' : ¬ s < 1 := by omega
        have h1d : decide (s < 1) = false := by simpa using h1'
        have h8' : 8 < s := by omega
        have HE := Kept.mk (decNum_size xs s (fun hh => h8 hh.2))
        clear HD
        go_enter Try.func28, Try.ntmps28
        go_wp2
        go_ret
        have hbar : Bar [d] w (w.setCell ⟨d, 1, none⟩ (.int .i64 1)) := (Bar.refl _ _).setCell (by simp) _
        rw [HE.out]
        exact ⟨rfl, De.set (n := xs.length) hG hd rfl (HB.out.set_ 1 _) hbar HR.out hc hm HO.out, hbar⟩
    · have h1' : s < 1 := by omega
      have HE := Kept.mk (decNum_size xs s (fun hh => h1 hh.1))
      clear HD
      go_enter Try.func28, Try.ntmps28
      go_wp2
      go_ret
      have hbar : Bar [d] w (w.setCell ⟨d, 1, none⟩ (.int .i64 1)) := (Bar.refl _ _).setCell (by simp) _
      rw [HE.out]
      exact ⟨rfl, De.set (n := xs.length) hG hd rfl (HB.out.set_ 1 _) hbar HR.out hc hm HO.out, hbar⟩
  · have HE := Kept.mk (decNum_err (err, xs) s he)
    have he2 : (err == 0) = false := by simpa using he
    have he3 : (err != 0) = true := by simpa using he
    go_enter Try.func28, Try.ntmps28
    go_wp2
    go_ret
    rw [HE.out]
    exact ⟨rfl, HD.out, Bar.refl _ _⟩

end Go.Proofs.Ytimdbljagpbecaa.Wire

/-
  The document's own frame: what sectors hold.
-/



namespace Go.Proofs.Ytimdbljagpbecaa.Frame
open Go.RowKit Go.Proofs.Ytimdbljagpbecaa.Sha Go.Proofs.Ytimdbljagpbecaa.Wire

/-- the blocks of Get: what is told, an empty frame, a Dec, the frame -/
def Gx (w0 : World) (N d T : Nat) (G : List Nat) (fr : Array Value) (A : Option Addr) (n : Nat) (b : List Int) (st : St) (w : World) : Prop :=
  De 70 w d G st ∧ Blk w N 24 #[.int .i64 0, .int .i64 0, .int .i64 0, .slice none 0 0] ∧ Blk w (N + 1) 24 #[.int .i64 0, .int .i64 0, .int .i64 0, .slice none 0 0] ∧ Blk w (T) 24 fr ∧ Rd w A n b ∧ Below N w0 w
theorem gx_num {w0 : World} {N d T : Nat} {G : List Nat} {fr : Array Value} {A : Option Addr} {n : Nat} {b : List Int} {st : St} {w : World} (hN : w0.heap.size = N) (hd : d = N + 1 + 1) (hT : N + 1 + 1 < T) (hG : ∀ k ∈ G, k < N) (hA : Rd w0 A n b) (h : Gx w0 N d T G fr A n b st w) (s : Int) :
    Calls Try.prog 28 #[.pointer (some ⟨d, 0, none⟩), .int .i64 s] w fun x w' => x = .returned (.int .i64 (decNum st s).1) ∧ Gx w0 N d T G fr A n b (decNum st s).2 w' := by
  obtain ⟨h1, h2, h3, h4, h5, h6⟩ := h
  refine (rdnum_any w d G s st h1 (fun hk => by have := hG d hk; omega)).mono ?_
  rintro x w' ⟨rfl, k1, k2⟩
  have hs := h6.size
  have b' : Below N w0 w' := h6.trans (k2.below (by omega) (fun k hk => by rw [List.mem_singleton] at hk; omega))
  exact ⟨rfl, k1, h2.bar k2 (by rw [List.mem_singleton]; omega), h3.bar k2 (by rw [List.mem_singleton]; omega), h4.bar k2 (by rw [List.mem_singleton]; omega), hA.below (by rw [hN]; exact b'), b'⟩
theorem Gx.set {w0 : World} {N d T : Nat} {G : List Nat} {fr : Array Value} {A : Option Addr} {n : Nat} {b : List Int} {st : St} {w : World} (hN : w0.heap.size = N) (hd : d = N + 1 + 1) (hT : N + 1 + 1 < T) (hG : ∀ k ∈ G, k < N) (hA : Rd w0 A n b) (h : Gx w0 N d T G fr A n b st w) (i : Nat) (v : Value) :
    Gx w0 N d T G (fr.setIfInBounds i v) A n b st (w.setCell ⟨T, i, none⟩ v) := by
  obtain ⟨h1, h2, h3, h4, h5, h6⟩ := h
  have hb : Bar [T] w (w.setCell ⟨T, i, none⟩ v) := (Bar.refl _ _).setCell (by simp) _
  have hs := h6.size
  have b' : Below N w0 (w.setCell ⟨T, i, none⟩ v) := h6.trans (hb.below (by omega) (fun k hk => by rw [List.mem_singleton] at hk; omega))
  exact ⟨h1.keep hb (by rw [List.mem_singleton]; omega) (fun k hk hk2 => by rw [List.mem_singleton] at hk2; have := hG k hk; omega), h2.bar hb (by rw [List.mem_singleton]; omega), h3.bar hb (by rw [List.mem_singleton]; omega), h4.set_ i v, hA.below (by rw [hN]; exact b'), b'⟩

theorem results_cell_two {P : Program} {fn : Func} {p u v : Tmp} {ty : TypeId} (h : fn.results = #[.cell p ty, .tmp u, .tmp v]) (tmps : Array Value) (w : World) (g : Nat) (t : TypeId) (cs : Array Value) (fr : Nat × Nat) (d : TypeDesc)
    (hp : tmps.getD p undef = .pointer (some ⟨g, 0, none⟩)) (hg : w.heap[g]? = some (.cells cs t fr))
    (hu : P.underlying ty = some d) (hd : (match d with | .struct _ | .array _ _ => true | _ => false) = true) (hi : (P.info? ty).map (·.size) = some cs.size) :
    (results fn tmps).run P w = .ok (.tuple #[.agg cs, tmps.getD u undef, tmps.getD v undef]) w := by
  have hp' : tmps[p]?.getD undef = .pointer (some ⟨g, 0, none⟩) := by simpa using hp
  simp [results, h, hp', asAddr, run_loadVar_row w g t ty cs fr d hg hu hd hi, Result.andThen]
theorem frame_size : (Try.prog.info? 24).map (·.size) = some 4 := by kernel_rfl

theorem dec_at {b : List Int} (hb : Bytes b) (h : 64 ≤ b.length) (o s : Nat) (hs : s = 1 ∨ s = 4) (ho : o + s ≤ 14) : decNum (0, (h14 b).drop o) (s : Int) = (((val (((h14 b).drop o).take s) : Nat) : Int), (0, (h14 b).drop (o + s))) := by
  have hl := h14_len h
  have hv := val4 (((h14 b).drop o).take s) (((((hb.take _).drop _).drop _)).take _) (by simp; omega)
  rw [decNum_yes _ s (by omega) (by omega) ⟨by rw [List.length_drop]; omega, by omega⟩, List.drop_drop]

theorem put4 {w : World} {N : Nat} {t : TypeId} {c0 c1 c2 c3 : Value} (h : Blk w N t #[c0, c1, c2, c3]) (v0 v1 v2 v3 : Value) :
    Blk ((((w.setCell ⟨N, 0, none⟩ v0).setCell ⟨N, 1, none⟩ v1).setCell ⟨N, 2, none⟩ v2).setCell ⟨N, 3, none⟩ v3) N t #[v0, v1, v2, v3] ∧ Bar [N] w ((((w.setCell ⟨N, 0, none⟩ v0).setCell ⟨N, 1, none⟩ v1).setCell ⟨N, 2, none⟩ v2).setCell ⟨N, 3, none⟩ v3) :=
  ⟨(((h.set_ 0 v0).set_ 1 v1).set_ 2 v2).set_ 3 v3, ((((Bar.refl [N] w).setCell (by simp) _).setCell (by simp) _).setCell (by simp) _).setCell (by simp) _⟩

def RGetPost (g : FV × Int × Int) (w : World) (x : Ending) (w' : World) : Prop := ∃ A n c, x = .returned (.tuple #[.agg #[.int .i64 g.1.kind, .int .i64 g.1.gen, .int .i64 g.1.seq, .slice A n c], .int .i64 g.2.1, .int .i64 g.2.2]) ∧ n ≤ c ∧ c ≤ maxLen ∧ Rd w' A n g.1.body ∧ Below w.heap.size w w'
theorem rget_no {b : List Int} (h : ¬ getOk b) (w w' : World) (hb : Below w.heap.size w w') : RGetPost (getF b) w (.returned (.tuple #[.agg #[.int .i64 0, .int .i64 0, .int .i64 0, .slice none 0 0], .int .i64 0, .int .i64 2])) w' := by
  unfold getF
  rw [if_neg h]
  exact ⟨none, 0, 0, rfl, Nat.le_refl _, by unfold maxLen; omega, Rd.nil_, hb⟩

set_option maxRecDepth 100000 in
set_option maxHeartbeats 1000000 in
theorem rget_any (A : Option Addr) (n cap : Nat) (b : List Int) (w : World) (hr : Rd w A n b) (hc : n ≤ cap) (hcm : cap ≤ 9223372036854775807) :
    Calls Try.prog 16 #[.slice A n cap] w (RGetPost (getF b) w) := by
  have hlen := hr.1
  have HR := Kept.mk hr
  obtain ⟨N, hN⟩ : ∃ N, w.heap.size = N := ⟨_, rfl⟩
  have B2 : Kept (Below N w ((w.alloc (.cells #[.int .i64 0, .int .i64 0, .int .i64 0, .slice none 0 0] 24)).alloc (.cells #[.int .i64 0, .int .i64 0, .int .i64 0, .slice none 0 0] 24))) := ⟨((Below.refl _ _).alloc (by omega) _).alloc (by simp; omega) _⟩
  by_cases h64 : n < 64
  · have h64' : (n : Int) < 64 := by omega
    have PE : Kept (∀ w', Below N w w' → RGetPost (getF b) w (.returned (.tuple #[.agg #[.int .i64 0, .int .i64 0, .int .i64 0, .slice none 0 0], .int .i64 0, .int .i64 2])) w') := ⟨fun w' h => rget_no (fun hk => by have := hk.1; omega) w w' (by rw [hN]; exact h)⟩
    clear hr hlen
    go_enter Try.func16, Try.ntmps16
    go_wp2
    (try simp only [Exit.inBlock, Exit.then])
    refine bodyPost_ret (results_cell_two rfl _ _ N 24 #[.int .i64 0, .int .i64 0, .int .i64 0, .slice none 0 0] (0, 0) _ rfl ((Blk.new_at _ _ _ N hN.symm).alloc _) Try.underlying24 rfl frame_size) rfl ?_
    exact PE.out _ B2.out
  · obtain ⟨bb, oo, rfl, hcell⟩ := hr.2.2.resolve_left (by omega)
    have x0 := hcell 0 (by omega)
    rw [Nat.add_zero] at x0
    have x2 := cell_bel x0 (hN.symm ▸ B2.out)
    clear x0
    have h64' : ¬ (n : Int) < 64 := by omega
    by_cases h1 : at_ b 0 = 1
    · rw [h1] at x2
      have PE : Kept (∀ w', ¬ getOk b → Below N w w' → RGetPost (getF b) w (.returned (.tuple #[.agg #[.int .i64 0, .int .i64 0, .int .i64 0, .slice none 0 0], .int .i64 0, .int .i64 2])) w') := ⟨fun w' h2 h => rget_no h2 w w' (by rw [hN]; exact h)⟩
      have hb0 : Bytes b := hr.2.1
      have hbh : Bytes (h14 b) := (hb0.take _).drop _
      have hhl := h14_len (b := b) (by omega)
      obtain ⟨G, hG, hOA⟩ := arg_block hr
      rw [hN] at hG
      obtain ⟨A3, hsl, r3, o3⟩ := slice_lh hr hc 3 17 (by omega) (by omega) 3 17 rfl rfl
      replace r3 : Rd w A3 14 (h14 b) := r3
      clear hcell
      go_enter Try.func16, Try.ntmps16
      go_wp2_with fail
      obtain ⟨W3, hW3⟩ : ∃ W3, ((w.alloc (.cells #[.int .i64 0, .int .i64 0, .int .i64 0, .slice none 0 0] 24)).alloc (.cells #[.int .i64 0, .int .i64 0, .int .i64 0, .slice none 0 0] 24)).alloc (.cells #[.slice A3 14 (cap - 3), .int .i64 0] 70) = W3 := ⟨_, rfl⟩
      rw [hW3]
      have hs3 : W3.heap.size = N + 1 + 1 + 1 := by rw [← hW3]; simp [hN]
      have b3 : Below N w W3 := by rw [← hW3]; exact B2.out.alloc (by simp; omega) _
      have D3 : De 70 W3 (N + 1 + 1) G (0, h14 b) := by
        refine ⟨fun k hk => by have := hG k hk; omega, A3, cap - 3, ?_, ?_, ?_, ?_, ?_⟩
        · simp only [hhl]; rw [← hW3]; exact Blk.new_at _ _ _ _ (by simp [hN])
        · simp only [hhl]; exact r3.below (by rw [hN]; exact b3)
        · simp only [hhl]; omega
        · omega
        · intro F hF; simp only [hhl]; exact o3 F (hOA F hF)
      have F0 : Blk W3 N 24 #[.int .i64 0, .int .i64 0, .int .i64 0, .slice none 0 0] := by rw [← hW3]; exact ((Blk.new_at _ _ _ _ hN.symm).alloc _).alloc _
      have F1 : Blk W3 (N + 1) 24 #[.int .i64 0, .int .i64 0, .int .i64 0, .slice none 0 0] := by rw [← hW3]; exact (Blk.new_at _ _ _ _ (by simp [hN])).alloc _
      have hGd : N + 1 + 1 ∉ G := fun hk => by have := hG _ hk; omega
      refine (rdnum_any W3 (N + 1 + 1) G 1 _ D3 hGd).mono ?_
      rintro x w4 ⟨rfl, D4, br4⟩
      have e1 : decNum (0, h14 b) 1 = (((fK b : Nat) : Int), (0, (h14 b).drop 1)) := dec_at hb0 (by omega) 0 1 (by omega) (by omega)
      rw [e1] at D4 ⊢
      have b4 : Below N w w4 := b3.trans (br4.below (by omega) (fun k hk => by rw [List.mem_singleton] at hk; omega))
      replace F0 := F0.bar br4 (by rw [List.mem_singleton]; omega)
      replace F1 := F1.bar br4 (by rw [List.mem_singleton]; omega)
      clear D3 br4 hW3 b3 x2 hs3 hsl r3 o3 hOA B2 e1
      have hTl : N + 1 + 1 < w4.heap.size := D4.lt
      obtain ⟨T, hT⟩ : ∃ T, w4.heap.size = T := ⟨_, rfl⟩
      go_wp2_with fail
      have G5 : Gx w N (N + 1 + 1) T G #[.int .i64 (fK b), .int .i64 0, .int .i64 0, .slice none 0 0] (some ⟨bb, oo, none⟩) n b (0, (h14 b).drop 1) (w4.alloc (.cells #[.int .i64 (fK b), .int .i64 0, .int .i64 0, .slice none 0 0] 24)) :=
        ⟨D4.below ((Below.refl _ _).alloc (Nat.le_refl _) _), F0.alloc _, F1.alloc _, Blk.new_at _ _ _ _ hT.symm, HR.out.below (by rw [hN]; exact b4.alloc (by omega) _), b4.alloc (by omega) _⟩
      rw [hT] at hTl
      generalize w4.alloc (.cells #[.int .i64 (fK b), .int .i64 0, .int .i64 0, .slice none 0 0] 24) = w5 at *
      clear D4 F0 F1 b4 hT hGd
      refine (gx_num hN rfl hTl hG HR.out G5 1).mono ?_
      rintro x w6 ⟨rfl, G6⟩
      obtain ⟨y2, e2⟩ : ∃ y2 : Int, decNum (0, (h14 b).drop 1) 1 = (y2, (0, (h14 b).drop 2)) := ⟨_, dec_at hb0 (by omega) 1 1 (by omega) (by omega)⟩
      rw [e2] at G6 ⊢
      clear G5 e2
      go_wp2_with fail
      refine (gx_num hN rfl hTl hG HR.out G6 4).mono ?_
      rintro x w7 ⟨rfl, G7⟩
      have e3 : decNum (0, (h14 b).drop 2) 4 = (((fG b : Nat) : Int), (0, (h14 b).drop 6)) := dec_at hb0 (by omega) 2 4 (by omega) (by omega)
      rw [e3] at G7 ⊢
      clear G6 e3
      go_wp2_with fail
      refine (gx_num hN rfl hTl hG HR.out G7 4).mono ?_
      rintro x w8 ⟨rfl, G8⟩
      have e4 : decNum (0, (h14 b).drop 6) 4 = (((fS b : Nat) : Int), (0, (h14 b).drop 10)) := dec_at hb0 (by omega) 6 4 (by omega) (by omega)
      rw [e4] at G8 ⊢
      clear G7 e4
      have c1 := G8.2.2.2.1.cell 1
      have c2 := G8.2.2.2.1.cell 2
      have z1 := G8.2.2.2.1.frozen 1
      have z2 := G8.2.2.2.1.frozen 2
      go_wp2_with fail
      have G9 := (G8.set hN rfl hTl hG HR.out 1 (.int .i64 (fG b))).set hN rfl hTl hG HR.out 2 (.int .i64 (fS b))
      generalize (w8.setCell ⟨T, 1, none⟩ (.int .i64 (fG b))).setCell ⟨T, 2, none⟩ (.int .i64 (fS b)) = w9 at *
      clear G8 c1 c2 z1 z2
      refine (gx_num hN rfl hTl hG HR.out G9 4).mono ?_
      rintro x w10 ⟨rfl, G10⟩
      have e5 : decNum (0, (h14 b).drop 10) 4 = (((fN b : Nat) : Int), (0, (h14 b).drop 14)) := dec_at hb0 (by omega) 10 4 (by omega) (by omega)
      rw [e5] at G10 ⊢
      clear G9 e5
      have hfn : fN b < 4294967296 := val4 _ ((hbh.drop _).take _) (by simp; omega)
      have cs := Kept.mk fun w => rsectors_any (fN b) w
      obtain ⟨k, hk⟩ : ∃ k : Nat, sectorsF (fN b) = k := ⟨(sectorsF (fN b)).toNat, by unfold sectorsF; split <;> omega⟩
      have hk9 : k ≤ 1000 := by have := hk; unfold sectorsF at this; split at this <;> omega
      have hkn : k ≠ 0 → fN b ≤ 60000 ∧ k = (24 + fN b + 62) / 63 := by have := hk; unfold sectorsF at this; split at this <;> omega
      rw [hk] at cs
      obtain ⟨q, hq⟩ : ∃ q, fN b = q := ⟨_, rfl⟩
      rw [hq] at cs hfn hkn ⊢
      obtain ⟨hD, F0, F1, F2, R10, B10⟩ := G10
      clear hD
      have f10 := F1.cell 0; have f11 := F1.cell 1; have f12 := F1.cell 2; have f13 := F1.cell 3
      have f00 := F0.cell 0; have f01 := F0.cell 1; have f02 := F0.cell 2; have f03 := F0.cell 3
      have z00 := F0.frozen 0; have z01 := F0.frozen 1; have z02 := F0.frozen 2; have z03 := F0.frozen 3
      by_cases hk0 : k = 0
      · subst hk0
        have P4 := Kept.mk (put4 F0 (.int .i64 0) (.int .i64 0) (.int .i64 0) (.slice none 0 0))
        have PF := Kept.mk (PE.out _ (fun h => h.2.2.1 hk) (B10.trans (P4.out.2.below (by have := B10.size; omega) (fun k hk => by rw [List.mem_singleton] at hk; omega))))
        clear PE
        go_wp2_with fail
        refine (cs.out _).mono ?_
        rintro x w11 ⟨rfl, rfl⟩
        go_wp2
        (try simp only [Exit.inBlock, Exit.then])
        refine bodyPost_ret (results_cell_two rfl _ _ N 24 #[.int .i64 0, .int .i64 0, .int .i64 0, .slice none 0 0] (0, 0) _ rfl P4.out.1 Try.underlying24 rfl frame_size) rfl ?_
        exact PF.out
      · by_cases hbig : n < 64 * k
        · have P4 := Kept.mk (put4 F0 (.int .i64 0) (.int .i64 0) (.int .i64 0) (.slice none 0 0))
          have PF := Kept.mk (PE.out _ (fun h => by have := h.2.2.2.1; omega) (B10.trans (P4.out.2.below (by have := B10.size; omega) (fun k hk => by rw [List.mem_singleton] at hk; omega))))
          have hk0' : ¬ (k : Int) = 0 := by omega
          have hbig' : (n : Int) < 64 * k := by omega
          have hw : IntKind.i64.wrap (64 * (k : Int)) = 64 * k := by simp only [IntKind.wrap_i64]; omega
          clear PE
          go_wp2_with fail
          refine (cs.out _).mono ?_
          rintro x w11 ⟨rfl, rfl⟩
          go_wp2
          (try simp only [Exit.inBlock, Exit.then])
          refine bodyPost_ret (results_cell_two rfl _ _ N 24 #[.int .i64 0, .int .i64 0, .int .i64 0, .slice none 0 0] (0, 0) _ rfl P4.out.1 Try.underlying24 rfl frame_size) rfl ?_
          exact PF.out
        · obtain ⟨hq6, hkq⟩ := hkn hk0
          have HKQ := Kept.mk hkq
          have hk0' : ((k : Int) == 0) = false := by simpa using hk0
          have hbig' : ((n : Int) < 64 * k) = False := eq_false (by omega)
          have hw : IntKind.i64.wrap (64 * (k : Int)) = 64 * k := by simp only [IntKind.wrap_i64]; omega
          obtain ⟨N1, hN1⟩ : ∃ N1, w10.heap.size = N1 := ⟨_, rfl⟩
          have hTN : T < N1 := by rw [← hN1]; exact F2.lt
          have HF0 := Kept.mk F0; have HF1 := Kept.mk F1; have HF2 := Kept.mk F2
          clear hkn hkq f10 f11 f12 f13 f00 f01 f02 f03 z00 z01 z02 z03 F0 F1 F2
          go_wp2_with fail
          refine (cs.out _).mono ?_
          rintro x w11 ⟨rfl, rfl⟩
          go_wp2
          go_loopw [10, 11] (fun v i wr => ∃ (m : Nat), m ≤ k ∧ i = .int .i64 m ∧ Kept (wr.ownsRow N1 5 1 v (63 * m) (ints .u8 (allF b m))) ∧ Kept (Below N1 w10 wr)) (fun _ i _ => k - (intOf i).toNat)
          case atStart => exact ⟨0, by omega, rfl, ⟨World.ownsRow_nil _ _ _ _⟩, ⟨Below.refl _ _⟩⟩
          case round =>
            obtain ⟨m, hm, rfl, O, B⟩ := hrel
            by_cases hmk : m < k
            · have hmk' : (m : Int) < k := by omega
              have W1 : IntKind.i64.wrap (64 * (m : Int)) = 64 * m := by simp only [IntKind.wrap_i64]; omega
              have W2 : IntKind.i64.wrap (64 * (m : Int) + 1) = 64 * m + 1 := by simp only [IntKind.wrap_i64]; omega
              have W3 : IntKind.i64.wrap (64 * (m : Int) + 64) = 64 * m + 64 := by simp only [IntKind.wrap_i64]; omega
              obtain ⟨A2, hs2, r2, -⟩ := slice_lh HR.out hc (64 * m + 1) (64 * m + 64) (by omega) (by omega) (64 * (m : Int) + 1) (64 * (m : Int) + 64) (by omega) (by omega)
              rw [List.drop_take] at r2
              rw [show 64 * m + 64 - (64 * m + 1) = 63 by omega] at hs2 r2
              have R2 := Kept.mk (r2.below (w' := wr) (by rw [hN]; exact B10.trans (B.out.mono (by omega))))
              clear r2
              go_wp2_with ((with_reducible refine sel 67 ?_); refine wpList_append_rda rfl (.tmp 58) (.tmp 66) 22 rfl N1 5 Try.underlying22 info_u8 _ (63 * m) _ rfl O.out A2 63 _ _ rfl R2.out (by omega) (by rw [← hN1]; exact B.out.size) ?_; intro v7 w7 o7 g7 a7; have B7 := Kept.mk (B.out.trans (own_below O.out g7 (by rw [← hN1]; exact B.out.size))); clear g7 a7)
              go_roundw
              case rel =>
                refine ⟨m + 1, by omega, by go_num, ⟨?_⟩, B7⟩
                have := o7.out
                rw [← ints_append] at this
                exact this
              case measure => simp [intOf]; omega
            · obtain rfl : m = k := by omega
              obtain ⟨Av, cv, rfl, hcv, hmv, rv⟩ := own_rd O.out (allF_bytes hb0 m)
              have B10w : Below N w wr := B10.trans (B.out.mono (by omega))
              obtain ⟨A8, hs8, r8, -⟩ := slice_lh rv hcv 24 (24 + q) (by omega) (by have := HKQ.out; omega) 24 (24 + (q : Int)) rfl (by omega)
              have hfb : ((allF b m).take (24 + q)).drop 24 = fB b := by unfold fB; rw [hk, hq]; rfl
              rw [hfb, Nat.add_sub_cancel_left] at r8
              rw [Nat.add_sub_cancel_left] at hs8
              have W4 : IntKind.i64.wrap (24 + (q : Int)) = 24 + q := by simp only [IntKind.wrap_i64]; omega
              have hmm : ((m : Int) < m) = False := eq_false (by omega)
              clear hfb
              go_wp2_with fail
              refine (copy_any A8 q (cv - 24) (fB b) wr r8 (by omega)).mono ?_
              rintro x w12 ⟨v12, rfl, o12, b12⟩
              have hfB : Bytes (fB b) := ((allF_bytes hb0 _).take _).drop _
              obtain ⟨A12, c12, rfl, hc12, hm12, r12⟩ := own_rd o12 hfB
              have hrs : N1 ≤ wr.heap.size := by rw [← hN1]; exact B.out.size
              have B12 : Below N1 w10 w12 := B.out.trans (b12.mono hrs)
              have G0 := HF0.out.below B12 (by omega)
              have G1 := HF1.out.below B12 (by omega)
              have G2 := HF2.out.below B12 hTN
              have c20 := G2.cell 0; have c21 := G2.cell 1; have c22 := G2.cell 2; have c23 := G2.cell 3
              have z23 := G2.frozen 3
              have hb13 : Bar [T] w12 (w12.setCell ⟨T, 3, none⟩ (.slice A12 q c12)) := (Bar.refl _ _).setCell (by simp) _
              have H2 := Kept.mk (G2.set_ 3 (.slice A12 q c12))
              have H0 := Kept.mk (G0.bar hb13 (by rw [List.mem_singleton]; omega))
              have H1 := Kept.mk (G1.bar hb13 (by rw [List.mem_singleton]; omega))
              have hT12 : T < wr.heap.size := by omega
              have R13 := Kept.mk (r12.far hb13 (own_off o12 (fun k hk hk2 => by rw [List.mem_singleton] at hk2; have := (o12.lt k (by simpa using hk)).1; omega)))
              have OF := Kept.mk (own_off o12 (F := [N]) (fun k hk hk2 => by rw [List.mem_singleton] at hk2; have := (o12.lt k (by simpa using hk)).1; omega))
              have B13 := Kept.mk ((B10.trans (B12.mono (by omega))).trans (hb13.below (by have := (B10.trans (B12.mono (by omega))).size; omega) (fun k hk => by rw [List.mem_singleton] at hk; omega)))
              clear o12 b12 r12 G0 G1 G2 hb13 r8 hs8 rv O B B12 B10w
              go_wp2_with fail
              clear c20 c21 c22 c23 z23
              generalize w12.setCell ⟨T, 3, none⟩ (.slice A12 q c12) = w13 at *
              refine (rput_any (frameOf b) A12 q c12 w13 R13.out).mono ?_
              rintro x w14 ⟨Ap, np, cp, rfl, hcp, hmp, rp, bp⟩
              have hs13 : N ≤ w13.heap.size := by have := H0.out.lt; omega
              have B14 := Kept.mk (B13.out.trans (bp.mono hs13))
              have G0 := H0.out.below bp H0.out.lt
              have G1 := H1.out.below bp H1.out.lt
              have G2 := H2.out.below bp H2.out.lt
              have f10 := G1.cell 0; have f11 := G1.cell 1; have f12 := G1.cell 2; have f13 := G1.cell 3
              have f00 := G0.cell 0; have f01 := G0.cell 1; have f02 := G0.cell 2; have f03 := G0.cell 3
              have z00 := G0.frozen 0; have z01 := G0.frozen 1; have z02 := G0.frozen 2; have z03 := G0.frozen 3
              have R14 := Kept.mk (R13.out.below bp)
              have RA := HR.out.below (hN ▸ B14.out)
              obtain ⟨pe, hpe⟩ : ∃ pe, (putF (frameOf b)).1 = pe := ⟨_, rfl⟩
              rw [hpe]
              have P4 := Kept.mk (put4 G0 (.int .i64 0) (.int .i64 0) (.int .i64 0) (.slice none 0 0))
              have PF : Kept (¬ getOk b → RGetPost (getF b) w (.returned (.tuple #[.agg #[.int .i64 0, .int .i64 0, .int .i64 0, .slice none 0 0], .int .i64 0, .int .i64 2])) ((((w14.setCell ⟨N, 0, none⟩ (.int .i64 0)).setCell ⟨N, 1, none⟩ (.int .i64 0)).setCell ⟨N, 2, none⟩ (.int .i64 0)).setCell ⟨N, 3, none⟩ (.slice none 0 0))) :=
                ⟨fun h => PE.out _ h (B14.out.trans (P4.out.2.below (by have := B14.out.size; omega) (fun k hk => by rw [List.mem_singleton] at hk; omega)))⟩
              by_cases hp0 : pe = 0
              · subst hp0
                obtain ⟨A9, hs9, r9, -⟩ := slice_h RA hc (64 * m) (by omega) (64 * (m : Int)) (by omega)
                have cb := Kept.mk (bytes_any Ap A9 np (64 * m) cp cap _ _ w14 rp r9)
                have g20 := G2.cell 0; have g21 := G2.cell 1; have g22 := G2.cell 2; have g23 := G2.cell 3
                clear rp r9 RA PE bp B13 H0 H1 H2 R13
                cases hsb : sameB (putF (frameOf b)).2 (b.take (64 * m)) with
                | false =>
                  rw [hsb] at cb
                  replace PF := Kept.mk (PF.out (fun h => by
                    have h2 := h.2.2.2.2.2
                    rw [hk, show (64 * (m : Int)).toNat = 64 * m by omega] at h2
                    unfold sameB at hsb
                    simp [h2] at hsb))
                  clear G0 G1 G2
                  go_wp2_with fail
                  refine cb.out.mono ?_
                  rintro x w15 ⟨rfl, rfl⟩
                  go_wp2
                  (try simp only [Exit.inBlock, Exit.then])
                  refine bodyPost_ret (results_cell_two rfl _ _ N 24 #[.int .i64 0, .int .i64 0, .int .i64 0, .slice none 0 0] (0, 0) _ rfl P4.out.1 Try.underlying24 rfl frame_size) rfl ?_
                  exact PF.out
                | true =>
                  rw [hsb] at cb
                  clear PF P4
                  have P4 := Kept.mk (put4 G0 (.int .i64 (fK b)) (.int .i64 (fG b)) (.int .i64 (fS b)) (.slice A12 q c12))
                  have hget : getF b = (frameOf b, (m : Int), 0) := by
                    have hok : getOk b := ⟨by omega, h1, by rw [hk]; omega, by rw [hk]; omega, hpe, by
                      rw [hk, show (64 * (m : Int)).toNat = 64 * m by omega]
                      unfold sameB at hsb
                      simpa using hsb⟩
                    unfold getF
                    rw [if_pos hok, hk]
                  have PF : Kept (RGetPost (getF b) w (.returned (.tuple #[.agg #[.int .i64 (fK b), .int .i64 (fG b), .int .i64 (fS b), .slice A12 q c12], .int .i64 m, .int .i64 0])) ((((w14.setCell ⟨N, 0, none⟩ (.int .i64 (fK b))).setCell ⟨N, 1, none⟩ (.int .i64 (fG b))).setCell ⟨N, 2, none⟩ (.int .i64 (fS b))).setCell ⟨N, 3, none⟩ (.slice A12 q c12))) := by
                    refine ⟨?_⟩
                    rw [hget]
                    refine ⟨A12, q, c12, rfl, hc12, hm12, R14.out.far P4.out.2 OF.out, ?_⟩
                    rw [hN]
                    exact B14.out.trans (P4.out.2.below (by have := B14.out.size; omega) (fun k hk => by rw [List.mem_singleton] at hk; omega))
                  clear G0 G1 G2 hget
                  go_wp2_with fail
                  refine cb.out.mono ?_
                  rintro x w15 ⟨rfl, rfl⟩
                  go_wp2
                  (try simp only [Exit.inBlock, Exit.then])
                  refine bodyPost_ret (results_cell_two rfl _ _ N 24 #[.int .i64 (fK b), .int .i64 (fG b), .int .i64 (fS b), .slice A12 q c12] (0, 0) _ rfl P4.out.1 Try.underlying24 rfl frame_size) rfl ?_
                  exact PF.out
              · replace PF := Kept.mk (PF.out (fun h => hp0 (by rw [← hpe]; exact h.2.2.2.2.1)))
                have hpe2 : (pe == 0) = false := by simpa using hp0
                clear rp RA PE bp B13 H0 H1 H2 R13 G0 G1 G2
                go_wp2
                (try simp only [Exit.inBlock, Exit.then])
                refine bodyPost_ret (results_cell_two rfl _ _ N 24 #[.int .i64 0, .int .i64 0, .int .i64 0, .slice none 0 0] (0, 0) _ rfl P4.out.1 Try.underlying24 rfl frame_size) rfl ?_
                exact PF.out
    · have PE : Kept (∀ w', Below N w w' → RGetPost (getF b) w (.returned (.tuple #[.agg #[.int .i64 0, .int .i64 0, .int .i64 0, .slice none 0 0], .int .i64 0, .int .i64 2])) w') := ⟨fun w' h => rget_no (fun hk => h1 hk.2.1) w w' (by rw [hN]; exact h)⟩
      clear hr hlen hcell
      generalize at_ b 0 = y at *
      go_enter Try.func16, Try.ntmps16
      go_wp2
      (try simp only [Exit.inBlock, Exit.then])
      refine bodyPost_ret (results_cell_two rfl _ _ N 24 #[.int .i64 0, .int .i64 0, .int .i64 0, .slice none 0 0] (0, 0) _ rfl ((Blk.new_at _ _ _ _ hN.symm).alloc _) Try.underlying24 rfl frame_size) rfl ?_
      exact PE.out _ B2.out
end Go.Proofs.Ytimdbljagpbecaa.Frame

/-
  The document's own frame: alike.
-/


namespace Go.Proofs.Ytimdbljagpbecaa.Frame
open Go.RowKit Go.Proofs.Ytimdbljagpbecaa.Sha Go.Proofs.Ytimdbljagpbecaa.Wire

set_option maxRecDepth 100000 in
set_option maxHeartbeats 1000000 in
theorem rsame_yes (f : FV) (A B : Option Addr) (n c m d : Nat) (w : World) (ha : Rd w A n f.body) (hb : Rd w B m f.body) :
    Calls Try.prog 17 #[frv f A n c, frv f B m d] w fun e w' => e = .returned (.bool true) ∧ Below w.heap.size w w' := by
  have b2 : Below w.heap.size w ((w.alloc (.cells #[.int .i64 f.kind, .int .i64 f.gen, .int .i64 f.seq, .slice A n c] 24)).alloc (.cells #[.int .i64 f.kind, .int .i64 f.gen, .int .i64 f.seq, .slice B m d] 24)) := ((Below.refl _ _).alloc (Nat.le_refl _) _).alloc (by simp) _
  have cb := Kept.mk (bytes_same A B n m c d f.body _ (ha.below b2) (hb.below b2))
  have B2 := Kept.mk b2
  unfold frv
  clear ha hb b2
  go_enter Try.func17, Try.ntmps17
  go_wp2_with fail
  refine cb.out.mono ?_
  rintro x w' ⟨rfl, rfl⟩
  go_wp2
  go_ret
  exact ⟨rfl, B2.out⟩
end Go.Proofs.Ytimdbljagpbecaa.Frame

/-
  What all laws of chapter 7 begin and end with.
-/



namespace Go.Proofs.Ytimdbljagpbecaa.Frame
open Go.RowKit Go.Proofs.Ytimdbljagpbecaa.Sha Go.Proofs.Ytimdbljagpbecaa.Wire

def exF : FV := ⟨2, 0, 1, [120]⟩
theorem exF_ok : errF exF = 0 := by decide
theorem exF_put : putF exF = (0, laid (textF exF)) := by unfold putF; rw [exF_ok]; rfl
theorem exF_len : (laid (textF exF)).length = 64 := by rw [laid_len, textF_len]; rfl
theorem exF_0 : at_ (laid (textF exF)) 0 = 1 := by
  have := laid_mark (textF exF) [] 0 (by rw [textF_len]; decide)
  simpa [mk] using this
theorem exF_1 : at_ (laid (textF exF)) 1 = 99 := by
  have h := laid_piece (textF exF) [] 0 (by rw [textF_len]; decide)
  simp only [Nat.mul_zero, List.drop_zero, List.append_nil] at h
  have h2 := at_take (l := laid (textF exF)) (n := 64) (i := 1) (by omega)
  rw [h] at h2
  rw [← h2]
  rfl

set_option maxRecDepth 100000 in
set_option maxHeartbeats 1000000 in
theorem ffirst_any (api : FrameApi) (w : World) : Calls Try.prog 8 #[] w fun e w' => e = .returned (.bool true) ∧ Below w.heap.size w w' := by
  obtain ⟨N, hN⟩ : ∃ N, w.heap.size = N := ⟨_, rfl⟩
  have s39 := Kept.mk fun w => api.sectors 39 w
  have s40 := Kept.mk fun w => api.sectors 40 w
  rw [show sectorsF 39 = 1 from by decide] at s39
  rw [show sectorsF 40 = 2 from by decide] at s40
  go_enter Try.func8, Try.ntmps8
  go_wp2_with fail
  refine (newtable_any w).mono ?_
  rintro e w1 ⟨rfl, rfl⟩
  rw [hN]
  have hT : Tab (w.alloc (.cells (tbl (.int .u32 0) (.int .i32 0) (.int .u32 0) 0 0) 63)) N := .inl (Blk.new_at _ _ _ N hN.symm)
  have hB : Below N w (w.alloc (.cells (tbl (.int .u32 0) (.int .i32 0) (.int .u32 0) 0 0) 63)) := (Below.refl _ _).alloc (by omega) _
  generalize w.alloc (.cells (tbl (.int .u32 0) (.int .i32 0) (.int .u32 0) 0 0) 63) = w1 at *
  have hcv := Lib.run_convert_bytes_const (P := Try.prog) w1 22 5 #[.int .u8 120] 1 1 Try.underlying22 Try.underlying5
  have hr : Rd (w1.alloc (.cells #[.int .u8 120] 5 (1, 2))) (some ⟨w1.heap.size, 0, none⟩) 1 exF.body :=
    Rd.made (T := 5) (fr := (1, 2)) (heap_alloc_new w1 _) (by intro x hx; simp [exF] at hx; omega) rfl
  have bA : Below w1.heap.size w1 (w1.alloc (.cells #[.int .u8 120] 5 (1, 2))) := (Below.refl _ _).alloc (Nat.le_refl _) _
  have hlt := ftab_lt hT
  have CP := Kept.mk (api.put (c := 1) (ftab_below hT bA hlt) hr (Nat.le_refl _) (by unfold maxLen; omega) (by omega) (.inr ⟨_, _, rfl, by simp; omega⟩))
  have B2 := Kept.mk (hB.trans (bA.mono (by have := hB.size; omega)))
  clear hr hT hB bA
  go_wp2_with fail
  refine CP.out.mono ?_
  rintro x w2 ⟨A, n, c, rfl, hc, hm, r, -, -, b2⟩
  have B3 := Kept.mk (B2.out.trans (b2.below (B := N) (by have := B2.out.size; omega) (fun k hk => by rw [List.mem_singleton] at hk; omega)))
  rw [exF_put] at r ⊢
  have hn : n = 64 := by have := r.1; simp only [exF_len] at this; omega
  subst hn
  obtain ⟨g, o, rfl, hcell⟩ := r.2.2.resolve_left (by omega)
  have x0 := hcell 0 (by omega)
  have x1 := hcell 1 (by omega)
  simp only [exF_0, exF_1, Nat.add_zero] at x0 x1
  clear hcell r b2 CP B2 hcv
  go_wp2_with fail
  refine (s39.out _).mono ?_
  rintro x w3 ⟨rfl, rfl⟩
  go_wp2_with fail
  refine (s40.out _).mono ?_
  rintro x w3 ⟨rfl, rfl⟩
  go_wp2
  go_ret
  exact ⟨rfl, hN ▸ B3.out⟩
end Go.Proofs.Ytimdbljagpbecaa.Frame

/-
  A row of rows of bytes that came in.
-/

namespace Go.Proofs.Ytimdbljagpbecaa.Sha
open Go.RowKit

/-- n rows of bytes in memory, to be read: row r holds X r -/
def Rws (w : World) (A : Option Addr) (n : Nat) (X : Nat → List Int) : Prop :=
  n = 0 ∨ ∃ b o, A = some ⟨b, o, none⟩ ∧ ∀ r, r < n → ∃ a l c, w.cell? ⟨b, o + r, none⟩ = some (.slice a l c) ∧ l ≤ c ∧ c ≤ 9223372036854775807 ∧ Rd w a l (X r)
theorem Rws.below {w w' : World} {A : Option Addr} {n : Nat} {X : Nat → List Int} (h : Rws w A n X) (b : Below w.heap.size w w') : Rws w' A n X := by
  refine h.imp id ?_
  rintro ⟨bb, o, rfl, hc⟩
  refine ⟨bb, o, rfl, fun r hr => ?_⟩
  obtain ⟨a, l, c, h1, h2, h3, h4⟩ := hc r hr
  exact ⟨a, l, c, by rw [b.cell (World.block_lt_of_cell? _ _ h1)]; exact h1, h2, h3, h4.below b⟩
/-- an argument's rows -/
theorem rws_of_row {W : World} {a : Option Addr} {len cap : Nat} (h : (a = none ∧ len = 0 ∧ cap = 0) ∨ ∃ (x : Addr) (A : Nat → Option Addr) (L C : Nat → Nat) (Z : Nat → List Int), a = some x ∧ len ≤ cap ∧ cap ≤ maxLen ∧ ∀ r, r < cap → W.cell? (x.add r) = some (.slice (A r) (L r) (C r)) ∧ L r ≤ C r ∧ C r ≤ maxLen ∧ (Z r).length = C r ∧ (∀ n ∈ Z r, (Lit.int .u8 n).wf = true) ∧ (A r = none → C r = 0) ∧ ∀ a' : Addr, A r = some a' → 0 ≤ a'.block ∧ ∀ c, c < C r → W.cell? (a'.add c) = some (.int .u8 ((Z r).getD c 0))) :
    ∃ X, Rws W a len X := by
  rcases h with ⟨rfl, rfl, rfl⟩ | ⟨x, A, L, C, Z, rfl, hl, hm, hr⟩
  · exact ⟨fun _ => [], .inl rfl⟩
  · refine ⟨fun r => (Z r).take (L r), ?_⟩
    by_cases h0 : len = 0
    · exact .inl h0
    · refine .inr ?_
      obtain ⟨b, off, spot⟩ := x
      have hspot : spot = none := by
        have hc := (hr 0 (by omega)).1
        simpa [Addr.add] using World.cell?_spot hc
      subst hspot
      refine ⟨b, off, rfl, fun r hrl => ?_⟩
      obtain ⟨h1, h2, h3, h4, h5, h6, h7⟩ := hr r (by omega)
      have e : (⟨b, off, none⟩ : Addr).add r = ⟨b, off + r, none⟩ := by cases r <;> simp [Addr.add]
      rw [e] at h1
      refine ⟨A r, L r, C r, h1, h2, by unfold maxLen at h3; omega, ?_⟩
      refine rd_of_row (cap := C r) ?_
      cases hA : A r with
      | none =>
        have hC := h6 hA
        have hZ : Z r = [] := List.eq_nil_of_length_eq_zero (by omega)
        exact .inl ⟨rfl, by omega, hC, hZ⟩
      | some a' =>
        exact .inr ⟨a', rfl, h2, h3, h4, fun i hi => (h7 a' hA).2 i (by omega), h5⟩
end Go.Proofs.Ytimdbljagpbecaa.Sha

/-
  An argument that is a row of structs, opened: each field's cell, and what it reads as. For any seat.
-/




namespace Go.Proofs.Ytimdbljagpbecaa.Sha
open Go.RowKit Go.ChangeShapes Go.WideShapes Go.Deep

section
variable {H : Type} {enc : TypeId × Value → H} {P : Program} {w : World} {base : Nat} {held : Bool}
theorem fields_of {t e : TypeId} {fs : Array Field} {A : Option Addr} {len cap : Nat} {d : DataW H} {p : List MemPlace} (ht : P.underlying t = some (.slice e)) (he : P.underlying e = some (.struct fs))
    (hone : oneCellFields P fs = true) (hC : P.cellsOf e = fs.size) (hpos : 0 < fs.size) (h : DataW.Trod enc P w base (fun _ => true) held t (.slice A len cap) d p) :
    len ≤ cap ∧ cap ≤ maxLen ∧ (len = 0 ∨ ∃ b o, A = some ⟨b, o, none⟩ ∧ ∀ i, i < len → ∀ (j : Nat) (f : Field), fs[j]? = some f →
      ∃ (v : Value) (n : Nat) (y : DataW H × List MemPlace), w.cell? ⟨b, o + (i * fs.size + j), none⟩ = some v ∧ DataW.trod enc P w base (fun _ => true) held n f.type [v] = some y) := by
  obtain ⟨fuel, hf⟩ := h
  rcases open_slice ht hf with ⟨hcs, _⟩ | ⟨a, l, c, m, n, D, Pl, hcs, hb, hl, hm, hmm, hx, hi⟩
  · simp [Value.cells] at hcs
    obtain ⟨rfl, rfl, rfl⟩ := hcs
    exact ⟨Nat.le_refl _, Nat.zero_le _, .inl rfl⟩
  · simp [Value.cells] at hcs
    obtain ⟨rfl, rfl, rfl⟩ := hcs
    refine ⟨hl, hm, ?_⟩
    by_cases h0 : len = 0
    · exact .inl h0
    · refine .inr ?_
      simp only [if_true] at hmm
      have get : ∀ i, i < len → ∀ (j : Nat) (f : Field), fs[j]? = some f → ∃ (v : Value) (n : Nat) (y : DataW H × List MemPlace), w.cell? (a.add (i * fs.size + j)) = some v ∧ DataW.trod enc P w base (fun _ => true) held n f.type [v] = some y := by
        intro i hil j f hj
        obtain ⟨cs, hc, htr⟩ := hi i (by omega)
        rw [hC] at hc
        obtain ⟨ys, k, _, _, hlen, hyl, hfl⟩ := DataW.trod_struct he htr
        obtain ⟨_, hcl, hat⟩ := World.cells?_some hc
        have hjl : j < fs.size := (Array.getElem?_eq_some_iff.1 hj).1
        obtain ⟨ho, hk⟩ := hone_of hone j f hj
        have h1 := hfl j f hj
        rw [ho, hk, take1_drop cs j (.bool false) (by omega)] at h1
        obtain ⟨y, hy⟩ : ∃ y, ys[j]? = some y := ⟨_, List.getElem?_eq_getElem (by omega)⟩
        rw [hy] at h1
        refine ⟨_, k, y, ?_, h1⟩
        rw [← Go.Deep.add_add, hat j hjl, List.getD_eq_getElem?_getD, List.getElem?_eq_getElem (by omega)]
        rfl
      obtain ⟨b, o, spot⟩ := a
      have hspot : spot = none := by
        obtain ⟨v, _, _, hc, _⟩ := get 0 (by omega) 0 fs[0] (by simp)
        simpa [Addr.add] using World.cell?_spot hc
      subst hspot
      refine ⟨b, o, rfl, fun i hil j f hj => ?_⟩
      have e1 : ∀ k, (⟨b, o, none⟩ : Addr).add k = ⟨b, o + k, none⟩ := fun k => by cases k <;> simp [Addr.add]
      have := get i hil j f hj
      rwa [e1] at this
theorem int_field {t : TypeId} {k : IntKind} {n : Nat} {v : Value} {y : DataW H × List MemPlace} (ht : P.underlying t = some (.int k)) (h : DataW.trod enc P w base (fun _ => true) held n t [v] = some y) : ∃ z, v = .int k z ∧ (Lit.int k z).wf = true := by
  obtain ⟨z, h1, _, h3⟩ := DataW.trod_int ht h
  exact ⟨z, by simpa using h1, h3⟩
theorem bytes_field {t e : TypeId} {n : Nat} {v : Value} {y : DataW H × List MemPlace} (ht : P.underlying t = some (.slice e)) (he : P.underlying e = some (.int .u8)) (hc : P.cellsOf e = 1) (h : DataW.trod enc P w base (fun _ => true) held n t [v] = some y) :
    ∃ A l c xs, v = .slice A l c ∧ l ≤ c ∧ c ≤ 9223372036854775807 ∧ Rd w A l xs := by
  rcases open_ints ht he hc h with ⟨hcs, _⟩ | ⟨x, l, c, zs, hcs, _, hl, hm, hz, _, hcell, hwz⟩
  · simp at hcs
    exact ⟨none, 0, 0, [], hcs, Nat.le_refl _, by omega, Rd.nil_⟩
  · simp at hcs
    refine ⟨some x, l, c, zs.take l, hcs, hl, by unfold maxLen at hm; omega, rd_of_row (.inr ⟨x, rfl, hl, hm, by simpa using hz, hcell, hwz⟩)⟩
end
end Go.Proofs.Ytimdbljagpbecaa.Sha

/-
  A frame that came in as an argument, by value.
-/



namespace Go.Proofs.Ytimdbljagpbecaa.Frame
open Go.RowKit Go.Proofs.Ytimdbljagpbecaa.Sha Go.ChangeShapes Go.WideShapes Go.Deep

set_option maxRecDepth 100000 in
theorem frame_arg {H : Type} {enc : TypeId × Value → H} {W : World} {r : Reach} {b0 base : Nat} {held : Bool} {v : Value} {d : DataW H} {p : List MemPlace}
    (hv : Value.okWide Try.prog W r b0 24 v) (h : DataW.Trod enc Try.prog W base (fun _ => true) held 24 v d p) : ∃ (f : FV) (A : Option Addr) (n c : Nat), v = frv f A n c ∧ n ≤ c ∧ c ≤ 9223372036854775807 ∧ Rd W A n f.body := by
  obtain ⟨v0, v1, v2, v3, y0, y1, y2, y3, n, rfl, -, -, h0, h1, h2, h3⟩ := Go.Joins.open_agg4 Try.underlying24 (by kernel_rfl) (by kernel_rfl) hv h
  obtain ⟨z0, rfl, -⟩ := int_field Try.underlying3 h0
  obtain ⟨z1, rfl, -⟩ := int_field Try.underlying3 h1
  obtain ⟨z2, rfl, -⟩ := int_field Try.underlying3 h2
  obtain ⟨A, l, c, xs, rfl, hl, hc, hr⟩ := bytes_field Try.underlying22 Try.underlying5 (by kernel_rfl) h3
  exact ⟨⟨z0, z1, z2, xs⟩, A, l, c, rfl, hl, hc, hr⟩
theorem u64_0 {a : Int} (h : (Lit.int .u64 a).wf = true) : 0 ≤ a := by
  have := (Lit.wf_int_iff _ _).1 h
  simp only [show IntKind.u64.min = 0 from rfl] at this
  exact this.1
theorem u64_1 {a : Int} (h : (Lit.int .u64 a).wf = true) : a < 18446744073709551616 := by
  have := (Lit.wf_int_iff _ _).1 h
  simp only [show IntKind.u64.max = 18446744073709551615 from rfl] at this
  omega
end Go.Proofs.Ytimdbljagpbecaa.Frame

/-
  P7.4, of the document's own answers: what is cut short is none.
-/

namespace Go.Proofs.Ytimdbljagpbecaa.Frame
open Go.Proofs.Ytimdbljagpbecaa.Sha Go.Proofs.Ytimdbljagpbecaa.Wire

theorem errF_ok {f : FV} (he : errF f = 0) : f.body.length ≤ 60000 ∧ fits f.kind 1 = true ∧ fits f.gen 4 = true ∧ fits f.seq 4 = true := by
  unfold errF at he
  split at he
  · omega
  · split at he
    · next h1 h2 => exact ⟨by omega, h2⟩
    · omega
theorem fN_laid (f : FV) (r : List Int) (he : errF f = 0) : fN (laid (textF f) ++ r) = f.body.length := by
  obtain ⟨hn, -⟩ := errF_ok he
  have hL := textF_len f
  have hh : h14 (laid (textF f) ++ r) = be f.kind.toNat 1 ++ be 0 1 ++ be f.gen.toNat 4 ++ be f.seq.toNat 4 ++ be f.body.length 4 := by
    rw [laid_head _ _ (by omega)]
    have : (textF f).take 16 = headF f := by
      unfold textF
      rw [List.append_assoc, List.take_append_of_le_length (by rw [headF_len]; exact Nat.le_refl _), List.take_of_length_le (by rw [headF_len]; exact Nat.le_refl _)]
    rw [this]
    unfold headF
    rfl
  unfold fN
  rw [hh]
  rw [show ((be f.kind.toNat 1 ++ be 0 1 ++ be f.gen.toNat 4 ++ be f.seq.toNat 4 ++ be f.body.length 4).drop 10).take 4 = be f.body.length 4 by simp [be]]
  exact val_be _ _ (by omega)
theorem fN_take (l : List Int) (m : Nat) (h : 17 ≤ m) : fN (l.take m) = fN l := by
  unfold fN h14
  rw [List.take_take, show min 17 m = 17 by omega]
theorem get_cut (f : FV) (he : errF f = 0) (m : Nat) (hm : m < 64 * secs (textF f).length) : getF ((laid (textF f)).take m) = (noF, 0, 2) := by
  unfold getF
  rw [if_neg]
  rintro ⟨h1, -, -, h4, -, -⟩
  have hl : ((laid (textF f)).take m).length = m := by rw [List.length_take, laid_len]; omega
  rw [hl] at h1 h4
  have hn : fN ((laid (textF f)).take m) = f.body.length := by
    rw [fN_take _ _ (by omega)]
    have := fN_laid f [] he
    rwa [List.append_nil] at this
  rw [hn] at h4
  obtain ⟨hb, -⟩ := errF_ok he
  unfold sectorsF at h4
  rw [if_neg (by omega)] at h4
  have hL := textF_len f
  unfold secs at hm
  omega
/-- none, or one: the error is 2, or 0 -/
theorem get_err (b : List Int) : (getF b).2.2 = 0 ∨ (getF b).2.2 = 2 := by
  unfold getF
  split
  · exact .inl rfl
  · exact .inr rfl
end Go.Proofs.Ytimdbljagpbecaa.Frame

/-
  P7.2, of values alone: sectors hold a frame (so that what is read, laid again, is the same) just where the marks, the beginning, the sum and the zeros are right.
-/

namespace Go.Proofs.Ytimdbljagpbecaa.Frame
open Go.Proofs.Ytimdbljagpbecaa.Sha Go.Proofs.Ytimdbljagpbecaa.Wire

/-- the sixteen bytes in front -/
def head0 (b : List Int) : List Int := (allF b 1).take 16
theorem head0_is (b : List Int) : head0 b = (b.drop 1).take 16 := by
  unfold head0 allF
  simp only [cat, Nat.mul_zero, Nat.zero_add, List.nil_append]
  rw [List.take_take]; rfl
theorem head0_drop (b : List Int) : (head0 b).drop 2 = h14 b := by
  rw [head0_is, List.take_drop]
  unfold h14
  rw [List.drop_drop]
theorem head0_len {b : List Int} (h : 64 ≤ b.length) : (head0 b).length = 16 := by rw [head0_is, List.length_take, List.length_drop]; omega
theorem head0_bytes {b : List Int} (hb : Bytes b) : Bytes (head0 b) := by rw [head0_is]; exact (hb.drop _).take _
def hK (H : List Int) : Nat := val ((H.drop 2).take 1)
def hZ (H : List Int) : Nat := val ((H.drop 3).take 1)
def hG (H : List Int) : Nat := val ((H.drop 4).take 4)
def hS (H : List Int) : Nat := val ((H.drop 8).take 4)
def hN (H : List Int) : Nat := val ((H.drop 12).take 4)
/-- a beginning -/
def headOk (H : List Int) : Prop := val (H.take 2) = 25446 ∧ hZ H = 0 ∧ hN H ≤ 60000
theorem fK_head (b : List Int) : fK b = hK (head0 b) := by unfold fK hK; rw [head0_drop]
theorem fG_head (b : List Int) : fG b = hG (head0 b) := by unfold fG hG; rw [← head0_drop, List.drop_drop]
theorem fS_head (b : List Int) : fS b = hS (head0 b) := by unfold fS hS; rw [← head0_drop, List.drop_drop]
theorem fN_head (b : List Int) : fN b = hN (head0 b) := by unfold fN hN; rw [← head0_drop, List.drop_drop]
theorem val1 {l : List Int} (hl : l.length = 1) (hb : Bytes l) : l = [((val l : Nat) : Int)] := by
  match l, hl with
  | [x], _ =>
    have := hb x (by simp)
    simp only [val, valA]
    rw [List.cons.injEq]
    exact ⟨by omega, rfl⟩
/-- a beginning's bytes, out of its numbers -/
theorem head_is {H : List Int} (hl : H.length = 16) (hb : Bytes H) (h2 : val (H.take 2) = 25446) (h0 : hZ H = 0) :
    H = [99, 102] ++ be (hK H) 1 ++ be 0 1 ++ be (hG H) 4 ++ be (hS H) 4 ++ be (hN H) 4 := by
  have e2 : be (val (H.take 2)) (H.take 2).length = H.take 2 := be_val _ (hb.take _)
  have e3 : be (hK H) ((H.drop 2).take 1).length = (H.drop 2).take 1 := be_val _ ((hb.drop _).take _)
  have e4 : be (hZ H) ((H.drop 3).take 1).length = (H.drop 3).take 1 := be_val _ ((hb.drop _).take _)
  have e5 : be (hG H) ((H.drop 4).take 4).length = (H.drop 4).take 4 := be_val _ ((hb.drop _).take _)
  have e6 : be (hS H) ((H.drop 8).take 4).length = (H.drop 8).take 4 := be_val _ ((hb.drop _).take _)
  have e7 : be (hN H) ((H.drop 12).take 4).length = (H.drop 12).take 4 := be_val _ ((hb.drop _).take _)
  simp only [List.length_take, List.length_drop, hl] at e2 e3 e4 e5 e6 e7
  rw [h2] at e2
  rw [h0] at e4
  have d2 : be 25446 2 = [99, 102] := by decide +kernel
  rw [show min 2 16 = 2 from rfl, d2] at e2
  rw [show min 1 (16 - 2) = 1 from rfl] at e3
  rw [show min 1 (16 - 3) = 1 from rfl] at e4
  rw [show min 4 (16 - 4) = 4 from rfl] at e5
  rw [show min 4 (16 - 8) = 4 from rfl] at e6
  rw [show min 4 (16 - 12) = 4 from rfl] at e7
  rw [e2, e3, e4, e5, e6, e7]
  match H, hl with
  | [a0, a1, a2, a3, a4, a5, a6, a7, a8, a9, b0, b1, b2, b3, b4, b5], _ => rfl
/-- the sectors that a beginning asks for -/
def sOf (b : List Int) : Nat := (sectorsF (fN b)).toNat
def codeOk (b : List Int) : Prop :=
  64 ≤ b.length ∧ at_ b 0 = 1 ∧ headOk (head0 b) ∧ 64 * sOf b ≤ b.length ∧ (∀ i, i < sOf b → at_ b (64 * i) = mk i) ∧
  ((allF b (sOf b)).take 24).drop 16 = (sha ((allF b (sOf b)).take 16 ++ fB b)).take 8 ∧ ∀ x ∈ (allF b (sOf b)).drop (24 + fN b), x = 0
theorem sOf_is {b : List Int} (h : fN b ≤ 60000) : sOf b = (24 + fN b + 62) / 63 := by unfold sOf sectorsF; rw [if_neg (by omega)]; omega
theorem fB_len {b : List Int} (h : fN b ≤ 60000) (hs : 64 * sOf b ≤ b.length) : (fB b).length = fN b := by
  have e := sOf_is h
  have l := allF_len (sOf b) hs
  unfold fB
  rw [List.length_drop, List.length_take]
  change min (24 + fN b) (allF b (sOf b)).length - 24 = fN b
  rw [l]; omega
theorem fits_four {n : Nat} (h : n < 4294967296) : fits (n : Int) 4 = true := by unfold fits; simp; omega
theorem fits_one {n : Nat} (h : n < 256) : fits (n : Int) 1 = true := by unfold fits; simp; omega
theorem errF_of {b : List Int} (hb : Bytes b) (h : fN b ≤ 60000) (hs : 64 * sOf b ≤ b.length) : errF (frameOf b) = 0 := by
  have h1 : fK b < 256 := by
    have := val_lt ((h14 b).take 1) (((hb.take _).drop _).take _)
    have h2 : 256 ^ ((h14 b).take 1).length ≤ 256 ^ 1 := Nat.pow_le_pow_right (by omega) (by simp; omega)
    unfold fK; omega
  have h2 : fG b < 4294967296 := val4 _ ((((hb.take _).drop _).drop _).take _) (by simp; omega)
  have h3 : fS b < 4294967296 := val4 _ ((((hb.take _).drop _).drop _).take _) (by simp; omega)
  unfold errF
  have hl : (frameOf b).body.length = fN b := fB_len h hs
  rw [hl, if_neg (by omega), if_pos ⟨fits_one h1, fits_four h2, fits_four h3⟩]
theorem ok_code {b : List Int} (hb : Bytes b) : getOk b ↔ codeOk b := by
  constructor
  · rintro ⟨h1, h2, h3, h4, h5, h6⟩
    have hn : fN b ≤ 60000 := by
      rcases Nat.lt_or_ge 60000 (fN b) with h | h
      · exact absurd (by unfold sectorsF; rw [if_pos (.inr (by omega))]) h3
      · exact h
    have hS := sOf_is hn
    have hSi : sectorsF (fN b) = (sOf b : Int) := by unfold sOf; have : 0 ≤ sectorsF (fN b) := by unfold sectorsF; split <;> omega
                                                     omega
    rw [hSi] at h4 h6
    have h4' : 64 * sOf b ≤ b.length := by omega
    rw [show (64 * (sOf b : Int)).toNat = 64 * sOf b by omega] at h6
    have he : errF (frameOf b) = 0 := errF_of hb hn h4'
    have hbl : (frameOf b).body.length = fN b := fB_len hn h4'
    have htl : (textF (frameOf b)).length = 24 + fN b := by rw [textF_len, hbl]
    have hsec : secs (textF (frameOf b)).length = sOf b := by rw [htl, hS]; rfl
    simp only [putF] at h6
    rw [if_pos he] at h6
    have hbe : b = laid (textF (frameOf b)) ++ b.drop (64 * sOf b) := by rw [h6, List.take_append_drop]
    obtain ⟨f, hf⟩ : ∃ f, frameOf b = f := ⟨_, rfl⟩
    obtain ⟨r, hr⟩ : ∃ r, b.drop (64 * sOf b) = r := ⟨_, rfl⟩
    rw [hf] at hbe hsec htl hbl
    rw [hr] at hbe
    have hfb : fB b = f.body := by rw [← hf]; rfl
    have hall : allF b (sOf b) = padF (textF f) := by
      have := laid_all (textF f) r
      rw [hsec, ← hbe] at this
      exact this
    have hone : head0 b = headF f := by
      have := laid_body (textF f) r 0 (by omega)
      rw [← hbe] at this
      simp only [Nat.mul_zero, Nat.zero_add, List.drop_zero] at this
      have e1 : head0 b = ((b.drop 1).take 63).take 16 := by rw [head0_is, List.take_take]; rfl
      rw [e1, this, List.take_take, show min 16 63 = 16 from rfl]
      unfold padF textF
      rw [List.append_assoc, List.append_assoc, List.take_append_of_le_length (by rw [headF_len]; omega), List.take_of_length_le (by rw [headF_len]; omega)]
    have h16 : (padF (textF f)).take 16 = headF f := by
      unfold padF textF
      rw [List.append_assoc, List.append_assoc, List.take_append_of_le_length (by rw [headF_len]; omega), List.take_of_length_le (by rw [headF_len]; omega)]
    refine ⟨h1, h2, ⟨?_, ?_, by rw [← fN_head]; exact hn⟩, h4', fun i hi => ?_, ?_, ?_⟩
    · rw [hone]
      rw [show (headF f).take 2 = [99, 102] by unfold headF; rfl]
      rfl
    · rw [hone]
      unfold hZ
      rw [show ((headF f).drop 3).take 1 = [0] by simp [headF, be]]
      rfl
    · have := laid_mark (textF f) r i (by omega)
      rw [← hbe, at_drop] at this
      exact this
    · rw [hall, h16, hfb]
      unfold padF textF
      have l24 : (headF f ++ (sha (headF f ++ f.body)).take 8).length = 24 := by rw [List.length_append, headF_len, List.length_take, sha_len]; rfl
      rw [List.append_assoc, List.take_append_of_le_length (by omega), List.take_of_length_le (by omega), List.drop_append_of_le_length (by rw [headF_len]; omega), List.drop_of_length_le (by rw [headF_len]; omega), List.nil_append]
    · rw [hall]
      intro x hx
      unfold padF at hx
      rw [List.drop_append_of_le_length (by omega), List.drop_of_length_le (by omega), List.nil_append] at hx
      exact List.eq_of_mem_replicate hx
  · rintro ⟨h1, h2, ⟨k1, k2, k3⟩, h4, h5, h6, h7⟩
    have hn : fN b ≤ 60000 := by rw [fN_head]; exact k3
    have hS := sOf_is hn
    have hSi : sectorsF (fN b) = (sOf b : Int) := by unfold sOf; have : 0 ≤ sectorsF (fN b) := by unfold sectorsF; split <;> omega
                                                     omega
    have he : errF (frameOf b) = 0 := errF_of hb hn h4
    have hbl : (frameOf b).body.length = fN b := fB_len hn h4
    have htl : (textF (frameOf b)).length = 24 + fN b := by rw [textF_len, hbl]
    have hsec : secs (textF (frameOf b)).length = sOf b := by rw [htl, hS]; rfl
    refine ⟨h1, h2, by rw [hSi]; omega, by rw [hSi]; omega, by simp only [putF]; exact he, ?_⟩
    simp only [putF]
    rw [if_pos he, hSi, show (64 * (sOf b : Int)).toNat = 64 * sOf b by omega]
    obtain ⟨X, hX⟩ : ∃ X, allF b (sOf b) = X := ⟨_, rfl⟩
    rw [hX] at h6 h7
    have hXl : X.length = 63 * sOf b := by rw [← hX]; exact allF_len _ h4
    have hh : X.take 16 = headF (frameOf b) := by
      have e1 : X.take 16 = head0 b := by
        rw [← hX]
        have : allF b (sOf b) = allF b 1 ++ (allF b (sOf b)).drop 63 := by
          obtain ⟨m, hm⟩ : ∃ m, sOf b = m + 1 := ⟨sOf b - 1, by omega⟩
          have e2 : allF b 1 = (allF b (sOf b)).take 63 := by
            have := cat_piece (X := fun i => (b.drop (64 * i + 1)).take 63) (c := 63) (sOf b) (fun j hj => by rw [List.length_take, List.length_drop]; omega) 0 (by omega) []
            rw [Nat.mul_zero, List.drop_zero, List.append_nil] at this
            unfold allF
            rw [this]
            rfl
          rw [e2, List.take_append_drop]
        rw [this, List.take_append_of_le_length (by rw [allF_len 1 (by omega)]; omega)]
        rfl
      rw [e1, head_is (head0_len h1) (head0_bytes hb) k1 k2]
      unfold headF
      have : (frameOf b).body.length = hN (head0 b) := by rw [hbl, fN_head]
      rw [this]
      show _ = [99, 102] ++ be ((fK b : Nat) : Int).toNat 1 ++ be 0 1 ++ be ((fG b : Nat) : Int).toNat 4 ++ be ((fS b : Nat) : Int).toNat 4 ++ be (hN (head0 b)) 4
      rw [Int.toNat_natCast, Int.toNat_natCast, Int.toNat_natCast, fK_head, fG_head, fS_head]
    have hfB : fB b = (X.take (24 + fN b)).drop 24 := by rw [← hX]; rfl
    have hpad : padF (textF (frameOf b)) = X := by
      have z : X.drop (24 + fN b) = List.replicate (63 * sOf b - (24 + fN b)) 0 := by
        rw [List.eq_replicate_iff]
        exact ⟨by rw [List.length_drop, hXl], h7⟩
      unfold padF
      rw [htl, show secs (24 + fN b) = sOf b by rw [← htl]; exact hsec, ← z]
      have t1 : textF (frameOf b) = X.take (24 + fN b) := by
        unfold textF
        rw [← hh]
        have : (frameOf b).body = (X.take (24 + fN b)).drop 24 := hfB
        rw [this, ← hfB, ← h6, hfB]
        have s1 : X.take 24 = (X.take (24 + fN b)).take 24 := by rw [List.take_take, show min 24 (24 + fN b) = 24 by omega]
        have s2 : X.take 16 = (X.take 24).take 16 := by rw [List.take_take]; rfl
        rw [s2, List.take_append_drop, s1, List.take_append_drop]
      rw [t1, List.take_append_drop]
    rw [laid_is, hsec, hpad, ← cat_pieces b 64 (sOf b)]
    refine cat_congr _ (fun i hi => ?_)
    have hp := cat_piece (X := fun i => (b.drop (64 * i + 1)).take 63) (c := 63) (sOf b) (fun j hj => by rw [List.length_take, List.length_drop]; omega) i hi []
    rw [List.append_nil] at hp
    have hp2 : (X.drop (63 * i)).take 63 = (b.drop (64 * i + 1)).take 63 := by rw [← hX]; exact hp
    rw [hp2, ← h5 i hi]
    have hlt : 64 * i < b.length := by omega
    have hd : b.drop (64 * i) = at_ b (64 * i) :: b.drop (64 * i + 1) := by
      rw [List.drop_eq_getElem_cons hlt]
      congr 1
      simp [at_, hlt]
    rw [hd]
    rfl
/-- what is told of sectors that hold no frame -/
theorem get_no {b : List Int} (hb : Bytes b) (h : ¬ codeOk b) : getF b = (noF, 0, 2) := by unfold getF; rw [if_neg (fun k => h ((ok_code hb).1 k))]
theorem get_yes {b : List Int} (hb : Bytes b) (h : codeOk b) : getF b = (frameOf b, (sOf b : Int), 0) := by
  have h3 := (ok_code hb).2 h
  have hn : fN b ≤ 60000 := by rw [fN_head]; exact h.2.2.1.2.2
  have hSi : sectorsF (fN b) = (sOf b : Int) := by unfold sOf; have : 0 ≤ sectorsF (fN b) := by unfold sectorsF; split <;> omega
                                                   omega
  unfold getF; rw [if_pos h3, hSi]
end Go.Proofs.Ytimdbljagpbecaa.Frame

/-
  Pieces of a row of bytes, by their addresses: s[l:], s[:h]. For any seat with bytes.
-/

namespace Go.Proofs.Ytimdbljagpbecaa.Sha
open Go.RowKit

theorem slice_l_at (g o n c l : Nat) (h1 : l ≤ n) (hl : l < c) (li : Int) (e1 : li = l) (w' : World) :
    (Instr.slice 22 (.slice (some ⟨g, o, none⟩) n c) (some (.int .i64 li)) none none).run Try.prog w' = .ok (.slice (some ⟨g, o + l, none⟩) (n - l) (c - l)) w' := by
  subst e1
  rw [run_slice_l w' 22 (some ⟨g, o, none⟩) n c und_u8 .i64 l (by omega) (by omega), size_u8]
  have hcl : ¬ c = l := by omega
  have ea : (⟨g, o, none⟩ : Addr).add l = ⟨g, o + l, none⟩ := by cases l <;> simp [Addr.add]
  simp [Result.andThen, sliced, hcl, ea]
theorem slice_h_at (A : Option Addr) (n c h : Nat) (h1 : h ≤ c) (hi : Int) (e1 : hi = h) (w' : World) :
    (Instr.slice 22 (.slice A n c) none (some (.int .i64 hi)) none).run Try.prog w' = .ok (.slice A h c) w' := by
  subst e1
  rw [run_slice_h w' 22 A n c und_u8 .i64 h (by omega) (by omega), size_u8]
  have ea : ∀ a : Addr, a.add 0 = a := fun a => by simp [Addr.add]
  cases A <;> simp [Result.andThen, sliced, ea]
end Go.Proofs.Ytimdbljagpbecaa.Sha

/-
  Package frame: Sectors, mark, sector, blank.
-/


namespace Go.Proofs.Ytimdbljagpbecaa.Frame
open Go.RowKit Go.Proofs.Ytimdbljagpbecaa.Sha Go.Proofs.Ytimdbljagpbecaa.Wire

theorem csectors_any (n : Int) (w : World) : Calls Try.prog 13 #[.int .i64 n] w fun e w' => e = .returned (.int .i64 (sectorsF n)) ∧ w = w' := by
  by_cases h1 : n < 0
  · rw [show sectorsF n = 0 by unfold sectorsF; rw [if_pos (.inl h1)]]
    go_enter Try.func13, Try.ntmps13
    go_wp2
    go_ret
    exact ⟨rfl, rfl⟩
  · by_cases h2 : 60000 < n
    · rw [show sectorsF n = 0 by unfold sectorsF; rw [if_pos (.inr h2)]]
      go_enter Try.func13, Try.ntmps13
      go_wp2
      go_ret
      exact ⟨rfl, rfl⟩
    · have e : sectorsF n = (24 + n + 62) / 63 := by unfold sectorsF; rw [if_neg (by omega)]
      have hw1 : wrap64 (24 + n) = 24 + n := by unfold wrap64; omega
      have hw2 : wrap64 (24 + n + 63) = 24 + n + 63 := by unfold wrap64; omega
      have hw3 : wrap64 (24 + n + 63 - 1) = 24 + n + 63 - 1 := by unfold wrap64; omega
      have hq : Int.tdiv (24 + n + 63 - 1) 63 = (24 + n + 63 - 1) / 63 := Int.tdiv_eq_ediv_of_nonneg (by omega)
      have HE := Kept.mk e
      clear e
      go_enter Try.func13, Try.ntmps13
      go_wp2
      go_ret
      refine ⟨?_, rfl⟩
      rw [HE.out, show 24 + n + 62 = 24 + n + 63 - 1 by omega, ← hq]; rfl

theorem mark_any (i : Nat) (w : World) : Calls Try.prog 37 #[.int .i64 i] w fun e w' => e = .returned (.int .u8 (mk i)) ∧ w = w' := by
  by_cases h : i = 0
  · subst h
    go_enter Try.func37, Try.ntmps37
    go_wp2
    go_ret
    exact ⟨rfl, rfl⟩
  · have h' : ¬ (i : Int) = 0 := by omega
    rw [show mk i = 2 by unfold mk; rw [if_neg h]]
    go_enter Try.func37, Try.ntmps37
    go_wp2
    go_ret
    exact ⟨rfl, rfl⟩

set_option maxRecDepth 100000 in
set_option maxHeartbeats 1000000 in
theorem sector_any (g o n c i : Nat) (w : World) (h : 64 * (i + 1) ≤ n) (hc : n ≤ c) (hm : n ≤ 1073741824) :
    Calls Try.prog 36 #[.slice (some ⟨g, o, none⟩) n c, .int .i64 i] w fun e w' => e = .returned (.slice (some ⟨g, o + 64 * i, none⟩) 64 (c - 64 * i)) ∧ w = w' := by
  have hw : wrap64 ((i : Int) * 64) = ((64 * i : Nat) : Int) := by unfold wrap64; omega
  have s1 := slice_l_at g o n c (64 * i) (by omega) (by omega) ((64 * i : Nat) : Int) rfl
  have s2 := slice_h_at (some ⟨g, o + 64 * i, none⟩) (n - 64 * i) (c - 64 * i) 64 (by omega) 64 rfl
  go_enter Try.func36, Try.ntmps36
  go_wp2
  go_ret
  exact ⟨by rw [Nat.mul_comm 64 i]; rfl, rfl⟩

/-- bytes 0 alone? -/
def blankB (xs : List Int) : Bool := decide (∀ x ∈ xs, x = 0)
theorem at_mem {xs : List Int} {k : Nat} (h : k < xs.length) : at_ xs k ∈ xs := by
  have := List.getElem_mem h
  have e : at_ xs k = xs[k] := by simp [at_, h]
  rw [e]; exact this

set_option maxRecDepth 100000 in
set_option maxHeartbeats 1000000 in
theorem blank_any (A : Option Addr) (n c : Nat) (xs : List Int) (w : World) (hr : Rd w A n xs) (hn : n ≤ 1073741824) :
    Calls Try.prog 27 #[.slice A n c] w fun e w' => e = .returned (.bool (blankB xs)) ∧ w = w' := by
  have HR := Kept.mk hr
  have hlen := Kept.mk hr.1
  clear hr
  go_enter Try.func27, Try.ntmps27
  go_wp2
  go_loopw [4, 7] (fun _c i wr => ∃ k : Nat, k ≤ n ∧ i = .int .i64 k ∧ Kept (∀ x ∈ xs.take k, x = 0) ∧ w = wr) (fun _ i _ => n - (intOf i).toNat)
  case atStart => exact ⟨0, by omega, rfl, ⟨by simp⟩, rfl⟩
  case round =>
    obtain ⟨k, hk, rfl, HZ, rfl⟩ := hrel
    by_cases hkn : k < n
    · have hkn' : (k : Int) < n := by omega
      obtain ⟨bb, oo, rfl, hc⟩ := HR.out.2.2.resolve_left (by omega)
      have x0 := hc k hkn
      have hb := HR.out.2.1.at_ k
      have hmem : at_ xs k ∈ xs := at_mem (by rw [hlen.out]; exact hkn)
      have HS : Kept (xs.take (k + 1) = xs.take k ++ [at_ xs k]) := ⟨by
        rw [List.take_succ_eq_append_getElem (by rw [hlen.out]; exact hkn)]
        simp [at_, show k < xs.length by rw [hlen.out]; exact hkn]⟩
      have HM := Kept.mk hmem
      clear hc hmem
      generalize at_ xs k = x at *
      by_cases hx : x = 0
      · subst hx
        go_wp2
        go_roundw
        case rel => exact ⟨k + 1, by omega, by go_num, ⟨by
          rw [HS.out]
          intro y hy
          rcases List.mem_append.1 hy with hy | hy
          · exact HZ.out y hy
          · simpa using hy⟩, trivial⟩
        case measure => simp [intOf]; omega
      · have hbl : Kept (blankB xs = false) := ⟨by
          unfold blankB
          rw [decide_eq_false_iff_not]
          exact fun h => hx (h x HM.out)⟩
        go_wp2
        go_ret
        exact ⟨by rw [hbl.out]; rfl, rfl⟩
    · obtain rfl : k = n := by omega
      have hkn' : ¬ (k : Int) < k := by omega
      have hbl : Kept (blankB xs = true) := ⟨by
        unfold blankB
        rw [decide_eq_true_iff]
        have := HZ.out
        rw [List.take_of_length_le (by rw [hlen.out]; omega)] at this
        exact this⟩
      go_wp2
      go_ret
      exact ⟨by rw [hbl.out]; rfl, rfl⟩
end Go.Proofs.Ytimdbljagpbecaa.Frame
