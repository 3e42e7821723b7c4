/-
  The law PurseTotals, walked.
-/
import Derived.Test.YtlgeckgeiknmjaaPurseSum
import Derived.Test.YtlgeckgeiknmjaaPurseFew
import Derived.Test.YtlgeckgeiknmjaaPurseCopy
import Derived.Test.YtlgeckgeiknmjaaPurseOps
namespace Go.Proofs.Ytlgeckgeiknmjaa.Purse
open Go.RowKit Go.Proofs.Ytlgeckgeiknmjaa.Sha Go.Proofs.Ytlgeckgeiknmjaa.Num

theorem hasP_at {s : PS} {k b : Nat} (hk : k < s.np) (hb : b < s.na) : hasP s k b = s.v k b := by
  unfold hasP
  rw [if_pos (by rw [isP_iff.2 ⟨by omega, by omega⟩, isA_iff.2 ⟨by omega, by omega⟩]; rfl)]
  simp only [Int.toNat_natCast]
theorem Pc.drewN {w : World} {F : List Nat} {p : Nat} {s : PS} (h : Pc w F p s) (q : Nat) : Pc (w.drewN q) F p s := h.keep (barOf (below_drewN (Below.refl _ _) q) []) (fun _ _ => by simp)
set_option maxRecDepth 100000 in
set_option maxHeartbeats 2000000 in
theorem totals_walk (A : Option Addr) (len cap : Nat) (X : Nat → List Int) (A2 : Option Addr) (len2 cap2 : Nat) (Y : Nat → OpP) (w : World) (hr : Rwi w A len X) (hlen : len ≤ 9223372036854775807) (ho : Ops w A2 len2 Y) : Calls Try.prog 4 #[.slice A len cap, .slice A2 len2 cap2] w (Holds w) := by
  have HR := Kept.mk hr
  have HO := Kept.mk ho
  clear hr ho
  go_enter Try.func4, Try.ntmps4
  go_wp2_with fail
  refine (first_any w).mono ?_
  rintro e w1 ⟨rfl, b1⟩
  have B := Kept.mk b1
  have FW := Kept.mk (few_any A len cap X w1 (HR.out.below b1) hlen)
  have N1 := Kept.mk (new_any A len cap X w1 (HR.out.below b1))
  clear b1
  go_wp2_with fail
  refine FW.out.mono ?_
  rintro e w2 ⟨t, rfl, ht, rfl⟩
  cases t with
  | false =>
    go_wp2_with fail
    refine (first_any w1).mono ?_
    rintro e w3 ⟨rfl, b3⟩
    replace B := step_below B b3
    go_wp2
    go_ret
    exact ⟨rfl, B.out⟩
  | true =>
    clear ht FW
    by_cases h300 : 300 < len2
    · have h300' : 300 < (len2 : Int) := by omega
      go_wp2_with fail
      refine (first_any w1).mono ?_
      rintro e w3 ⟨rfl, b3⟩
      replace B := step_below B b3
      go_wp2
      go_ret
      exact ⟨rfl, B.out⟩
    · have h300' : ¬ 300 < (len2 : Int) := by omega
      go_wp2_with fail
      refine N1.out.mono ?_
      rintro e w2 (⟨-, rfl, b2⟩ | ⟨ok, p, F, rfl, hp, fp⟩)
      · replace B := step_below B b2
        clear N1 b2
        go_wp2
        go_quiet (fail)
        replace B : Kept (Below w.heap.size w (w2.drewN nq)) := ⟨below_drewN B.out _⟩
        generalize w2.drewN nq = w4 at *
        go_wp2_with fail
        refine (first_any w4).mono ?_
        rintro e w3 ⟨rfl, b3⟩
        replace B := step_below B b3
        go_wp2
        go_ret
        exact ⟨rfl, B.out⟩
      · obtain ⟨B, L⟩ := step_fp B fp (none_least _)
        clear N1 fp
        have P := Kept.mk hp
        have OK := Kept.mk ok
        have n2 := ok.1.1
        have n16 := ok.1.2
        have l1 := ok.2.1.1
        have l4 := ok.2.1.2
        clear hp ok
        have hn0 : ((len : Int) == 0) = false := beq_eq_false_iff_ne.2 (by omega)
        obtain ⟨b0, o0, A0, l0, c0, hA, x0, hl0, hc0, r0⟩ := HR.out.row 0 (by omega)
        subst hA
        have hL0 := Kept.mk r0.1
        rw [hL0.out] at l1 l4
        rw [Nat.add_zero] at x0
        clear r0
        have x2 : w2.cell? ⟨b0, o0, none⟩ = some (.slice A0 l0 c0) := by rw [B.out.cell (World.block_lt_of_cell? _ _ x0)]; exact x0
        have PP := Kept.mk (fun q => parties_any (P.out.drewN q))
        have PA := Kept.mk (fun q => assets_any (P.out.drewN q))
        rw [show (newP len X).np = len from rfl] at PP
        rw [show (newP len X).na = l0 from hL0.out] at PA
        go_wp2
        go_quiet ((first | (go_at_call 21; with_reducible exact Calls.quiet_of_same (still_of (PP.out _))) | (go_at_call 22; with_reducible exact Calls.quiet_of_same (still_of (PA.out _)))))
        replace P : Kept (Pc (w2.drewN nq) F p (newP len X)) := ⟨P.out.drewN _⟩
        replace B : Kept (Below w.heap.size w (w2.drewN nq)) := ⟨below_drewN B.out _⟩
        clear PP PA x2
        generalize w2.drewN nq = w3 at *
        have CP := Kept.mk (copy_any P.out)
        have WF0 := Kept.mk P.out.1
        obtain ⟨s0, hs0⟩ : ∃ s0, newP len X = s0 := ⟨_, rfl⟩
        have E0 := Kept.mk hs0
        rw [hs0] at CP P WF0
        clear hs0
        go_wp2_with fail
        refine CP.out.mono ?_
        rintro e w4 ⟨c, G, rfl, hc, fp⟩
        have DJ : Kept (Disj F G) := ⟨(Disj.new (n := w3.heap.size) (fun g hg => by rcases fp.2 g hg with h | h; · simp at h
                                                                                    · exact h) (fun g hg => P.out.lts g hg)).symm⟩
        replace P : Kept (Pc w4 F p s0) := ⟨P.out.keep fp.1 (fun _ _ => by simp)⟩
        have C := Kept.mk hc
        obtain ⟨B, M⟩ := step_fp B fp (none_least _)
        have SZ : Kept (s0.np = len ∧ s0.na = l0) := ⟨by rw [← E0.out]; rfl, by rw [← E0.out]; exact hL0.out⟩
        clear CP fp hc
        go_wp2
        go_loopw [8] (fun i wr => ∃ (k : Nat) (F : List Nat) (s : PS), k ≤ len2 ∧ i = .int .i64 k ∧ Kept (Pc wr F p s) ∧ Kept (Pc wr G c s0) ∧ Kept (Disj F G) ∧ Kept (s.np = len ∧ s.na = l0 ∧ ∀ b, tot s.v len b = tot s0.v len b) ∧ Kept (Below w.heap.size w wr) ∧ Kept (∀ k ∈ F, w.heap.size ≤ k)) (fun i _ => len2 - (Go.RowKit.intOf i).toNat)
        case atStart => exact ⟨0, F, s0, by omega, rfl, P, C, DJ, ⟨SZ.out.1, SZ.out.2, fun _ => rfl⟩, B, L⟩
        case round =>
          clear P C DJ B L M
          obtain ⟨k, F, s, hk, rfl, P, C, DJ, SS, B, L⟩ := hrel
          by_cases hkn : k < len2
          · have hkn' : (k : Int) < len2 := by omega
            obtain ⟨bb, oo, rfl, OP⟩ := Ops.at_ HO k hkn
            obtain ⟨-, y1, y2, y3, y4⟩ := OP.later B
            obtain ⟨yk, ya, yb, yc, yn, hY⟩ : ∃ yk ya yb yc yn, Y k = ⟨yk, ya, yb, yc, yn⟩ := ⟨_, _, _, _, _, rfl⟩
            rw [hY] at OP y1 y2 y3 y4
            simp only at y1 y2 y3 y4
            have OP0 := Kept.mk OP
            clear OP hY
            go_upto_region 14 with (fail)
            refine wp_region_noPanic ?_
            refine wp_region_held_drew (S := fun w' : World => w'.cell? ⟨bb, oo + k * 5 + 1, none⟩ = some (.int .i64 ya) ∧ w'.cell? ⟨bb, oo + k * 5 + 2, none⟩ = some (.int .i64 yb) ∧ w'.cell? ⟨bb, oo + k * 5 + 3, none⟩ = some (.int .i64 yc) ∧ w'.cell? ⟨bb, oo + k * 5 + 4, none⟩ = some (.int .i64 yn)) (by kernel_rfl) ⟨y1, y2, y3, y4⟩ (fun hHeld => ?_)
            have bd : Below wr.heap.size wr wr.drew := (Below.refl _ _).drew
            replace P := Pc.below P bd
            replace C := Pc.below C bd
            replace B := step_below B bd
            clear bd y1 y2 y3 y4
            generalize wr.drew = w5 at *
            refine wpAnyH_take (i := 0) (oi := ?o1) (v := ?v1) ?hi1 (by kernel_rfl) (by kernel_rfl) (by kernel_rfl) ?hq1 (Or.inl ⟨?hw1, ?hy1⟩) (by assumption) ?r1
            case hi1 => (simp only [List.getElem?_toArray, List.getElem?_cons_zero]; exact rfl)
            case hq1 => exact fun _ _ _ h => h
            case hw1 => rfl
            case hy1 => (intro w hSw; (try dsimp only at hSw); go_simp; try exact rfl)
            simp only [Act.put, List.setIfInBounds_toArray, List.set_cons_zero, List.set_cons_succ]
            refine wpAnyH_take (i := 1) (oi := ?o2) (v := ?v2) ?hi2 (by kernel_rfl) (by kernel_rfl) (by kernel_rfl) ?hq2 (Or.inl ⟨?hw2, ?hy2⟩) (by assumption) ?r2
            case hi2 => (simp only [List.getElem?_toArray, List.getElem?_cons_succ, List.getElem?_cons_zero]; exact rfl)
            case hq2 => exact fun _ _ _ h => h
            case hw2 => rfl
            case hy2 => (intro w hSw; (try dsimp only at hSw); go_simp; try exact rfl)
            simp only [Act.put, List.setIfInBounds_toArray, List.set_cons_zero, List.set_cons_succ]
            refine wpAnyH_take (i := 2) (oi := ?o3) (v := ?v3) ?hi3 (by kernel_rfl) (by kernel_rfl) (by kernel_rfl) ?hq3 (Or.inl ⟨?hw3, ?hy3⟩) (by assumption) ?r3
            case hi3 => (simp only [List.getElem?_toArray, List.getElem?_cons_succ, List.getElem?_cons_zero]; exact rfl)
            case hq3 => exact fun _ _ _ h => h
            case hw3 => rfl
            case hy3 => (intro w hSw; (try dsimp only at hSw); go_simp; try exact rfl)
            simp only [Act.put, List.setIfInBounds_toArray, List.set_cons_zero, List.set_cons_succ]
            refine wpAnyH_take (i := 3) (oi := ?o4) (v := ?v4) ?hi4 (by kernel_rfl) (by kernel_rfl) (by kernel_rfl) ?hq4 (Or.inl ⟨?hw4, ?hy4⟩) (by assumption) ?r4
            case hi4 => (simp only [List.getElem?_toArray, List.getElem?_cons_succ, List.getElem?_cons_zero]; exact rfl)
            case hq4 => exact fun _ _ _ h => h
            case hw4 => rfl
            case hy4 => (intro w hSw; (try dsimp only at hSw); go_simp; try exact rfl)
            simp only [Act.put, List.setIfInBounds_toArray, List.set_cons_zero, List.set_cons_succ]
            refine wpAnyH_take (i := 4) (oi := ?o5) (v := ?v5) ?hi5 (by kernel_rfl) (by kernel_rfl) (by kernel_rfl) ?hq5 (Or.inl ⟨?hw5, ?hy5⟩) (by assumption) ?r5
            case hi5 => (simp only [List.getElem?_toArray, List.getElem?_cons_succ, List.getElem?_cons_zero]; exact rfl)
            case hq5 => exact fun _ _ _ h => h
            case hw5 => rfl
            case hy5 => (intro w hSw; (try dsimp only at hSw); go_simp; try exact rfl)
            simp only [Act.put, List.setIfInBounds_toArray, List.set_cons_zero, List.set_cons_succ]
            refine wpAnyH_take (i := 5) (oi := ?o6) (v := ?v6) ?hi6 (by kernel_rfl) (by kernel_rfl) (by kernel_rfl) ?hq6 (Or.inl ⟨?hw6, ?hy6⟩) (by assumption) ?r6
            case hi6 => (simp only [List.getElem?_toArray, List.getElem?_cons_succ, List.getElem?_cons_zero]; exact rfl)
            case hq6 => exact fun _ _ _ h => h
            case hw6 => rfl
            case hy6 => (intro w hSw; (try dsimp only at hSw); go_simp; try exact rfl)
            simp only [Act.put, List.setIfInBounds_toArray, List.set_cons_zero, List.set_cons_succ]
            refine wpAnyH_take (i := 6) (oi := ?o7) (v := ?v7) ?hi7 (by kernel_rfl) (by kernel_rfl) (by kernel_rfl) ?hq7 (Or.inl ⟨?hw7, ?hy7⟩) (by assumption) ?r7
            case hi7 => (simp only [List.getElem?_toArray, List.getElem?_cons_succ, List.getElem?_cons_zero]; exact rfl)
            case hq7 => exact fun _ _ _ h => h
            case hw7 => rfl
            case hy7 => (intro w hSw; (try dsimp only at hSw); go_simp; try exact rfl)
            simp only [Act.put, List.setIfInBounds_toArray, List.set_cons_zero, List.set_cons_succ]
            refine wpAnyH_take (i := 7) (oi := ?o8) (v := ?v8) ?hi8 (by kernel_rfl) (by kernel_rfl) (by kernel_rfl) ?hq8 (Or.inl ⟨?hw8, ?hy8⟩) (by assumption) ?r8
            case hi8 => (simp only [List.getElem?_toArray, List.getElem?_cons_succ, List.getElem?_cons_zero]; exact rfl)
            case hq8 => exact fun _ _ _ h => h
            case hw8 => rfl
            case hy8 => (intro w hSw; (try dsimp only at hSw); go_simp; try exact rfl)
            simp only [Act.put, List.setIfInBounds_toArray, List.set_cons_zero, List.set_cons_succ]
            refine wpAnyH_take (i := 8) (oi := ?o9) (v := ?v9) ?hi9 (by kernel_rfl) (by kernel_rfl) (by kernel_rfl) ?hq9 (Or.inl ⟨?hw9, ?hy9⟩) (by assumption) ?r9
            case hi9 => (simp only [List.getElem?_toArray, List.getElem?_cons_succ, List.getElem?_cons_zero]; exact rfl)
            case hq9 => exact fun _ _ _ h => h
            case hw9 => rfl
            case hy9 => (intro w hSw; (try dsimp only at hSw); go_simp; try exact rfl)
            simp only [Act.put, List.setIfInBounds_toArray, List.set_cons_zero, List.set_cons_succ]
            refine wpAnyH_take (i := 9) (oi := ?o10) (v := ?v10) ?hi10 (by kernel_rfl) (by kernel_rfl) (by kernel_rfl) ?hq10 (Or.inl ⟨?hw10, ?hy10⟩) (by assumption) ?r10
            case hi10 => (simp only [List.getElem?_toArray, List.getElem?_cons_succ, List.getElem?_cons_zero]; exact rfl)
            case hq10 => exact fun _ _ _ h => h
            case hw10 => rfl
            case hy10 => (intro w hSw; (try dsimp only at hSw); go_simp; try exact rfl)
            simp only [Act.put, List.setIfInBounds_toArray, List.set_cons_zero, List.set_cons_succ]
            refine wpAnyH_take (i := 10) (oi := ?o11) (v := ?v11) ?hi11 (by kernel_rfl) (by kernel_rfl) (by kernel_rfl) ?hq11 (Or.inl ⟨?hw11, ?hy11⟩) (by assumption) ?r11
            case hi11 => (simp only [List.getElem?_toArray, List.getElem?_cons_succ, List.getElem?_cons_zero]; exact rfl)
            case hq11 => exact fun _ _ _ h => h
            case hw11 => rfl
            case hy11 => (intro w hSw; (try dsimp only at hSw); go_simp; try exact rfl)
            simp only [Act.put, List.setIfInBounds_toArray, List.set_cons_zero, List.set_cons_succ]
            refine wpAnyH_take (i := 11) (oi := ?o12) (v := ?v12) ?hi12 (by kernel_rfl) (by kernel_rfl) (by kernel_rfl) ?hq12 (Or.inl ⟨?hw12, ?hy12⟩) (by assumption) ?r12
            case hi12 => (simp only [List.getElem?_toArray, List.getElem?_cons_succ, List.getElem?_cons_zero]; exact rfl)
            case hq12 => exact fun _ _ _ h => h
            case hw12 => rfl
            case hy12 => (intro w hSw; (try dsimp only at hSw); go_simp; try exact rfl)
            simp only [Act.put, List.setIfInBounds_toArray, List.set_cons_zero, List.set_cons_succ]
            refine wpAnyH_take (i := 12) (oi := ?o13) (v := ?v13) ?hi13 (by kernel_rfl) (by kernel_rfl) (by kernel_rfl) ?hq13 (Or.inl ⟨?hw13, ?hy13⟩) (by assumption) ?r13
            case hi13 => (simp only [List.getElem?_toArray, List.getElem?_cons_succ, List.getElem?_cons_zero]; exact rfl)
            case hq13 => exact fun _ _ _ h => h
            case hw13 => rfl
            case hy13 => (intro w hSw; (try dsimp only at hSw); go_simp; try exact rfl)
            simp only [Act.put, List.setIfInBounds_toArray, List.set_cons_zero, List.set_cons_succ]
            refine wpAnyH_take (i := 13) (oi := ?o14) (v := ?v14) ?hi14 (by kernel_rfl) (by kernel_rfl) (by kernel_rfl) ?hq14 (Or.inl ⟨?hw14, ?hy14⟩) (by assumption) ?r14
            case hi14 => (simp only [List.getElem?_toArray, List.getElem?_cons_succ, List.getElem?_cons_zero]; exact rfl)
            case hq14 => exact fun _ _ _ h => h
            case hw14 => rfl
            case hy14 => (intro w hSw; (try dsimp only at hSw); go_simp; try exact rfl)
            simp only [Act.put, List.setIfInBounds_toArray, List.set_cons_zero, List.set_cons_succ]
            refine wpAnyH_take (i := 14) (oi := ?o15) (v := ?v15) ?hi15 (by kernel_rfl) (by kernel_rfl) (by kernel_rfl) ?hq15 (Or.inl ⟨?hw15, ?hy15⟩) (by assumption) ?r15
            case hi15 => (simp only [List.getElem?_toArray, List.getElem?_cons_succ, List.getElem?_cons_zero]; exact rfl)
            case hq15 => exact fun _ _ _ h => h
            case hw15 => rfl
            case hy15 => (intro w hSw; (try dsimp only at hSw); go_simp; try exact rfl)
            simp only [Act.put, List.setIfInBounds_toArray, List.set_cons_zero, List.set_cons_succ]
            refine wpAnyH_take (i := 15) (oi := ?o16) (v := ?v16) ?hi16 (by kernel_rfl) (by kernel_rfl) (by kernel_rfl) ?hq16 (Or.inl ⟨?hw16, ?hy16⟩) (by assumption) ?r16
            case hi16 => (simp only [List.getElem?_toArray, List.getElem?_cons_succ, List.getElem?_cons_zero]; exact rfl)
            case hq16 => exact fun _ _ _ h => h
            case hw16 => rfl
            case hy16 => (intro w hSw; (try dsimp only at hSw); go_simp; try exact rfl)
            simp only [Act.put, List.setIfInBounds_toArray, List.set_cons_zero, List.set_cons_succ]
            refine wpAnyH_take (i := 16) (oi := ?o17) (v := ?v17) ?hi17 (by kernel_rfl) (by kernel_rfl) (by kernel_rfl) ?hq17 (Or.inl ⟨?hw17, ?hy17⟩) (by assumption) ?r17
            case hi17 => (simp only [List.getElem?_toArray, List.getElem?_cons_succ, List.getElem?_cons_zero]; exact rfl)
            case hq17 => exact fun _ _ _ h => h
            case hw17 => rfl
            case hy17 => (intro w hSw; (try dsimp only at hSw); go_simp; try exact rfl)
            simp only [Act.put, List.setIfInBounds_toArray, List.set_cons_zero, List.set_cons_succ]
            refine wpAnyH_take (i := 17) (oi := ?o18) (v := ?v18) ?hi18 (by kernel_rfl) (by kernel_rfl) (by kernel_rfl) ?hq18 (Or.inl ⟨?hw18, ?hy18⟩) (by assumption) ?r18
            case hi18 => (simp only [List.getElem?_toArray, List.getElem?_cons_succ, List.getElem?_cons_zero]; exact rfl)
            case hq18 => exact fun _ _ _ h => h
            case hw18 => rfl
            case hy18 => (intro w hSw; (try dsimp only at hSw); go_simp; try exact rfl)
            simp only [Act.put, List.setIfInBounds_toArray, List.set_cons_zero, List.set_cons_succ]
            refine wpAnyH_take (i := 18) (oi := ?o19) (v := ?v19) ?hi19 (by kernel_rfl) (by kernel_rfl) (by kernel_rfl) ?hq19 (Or.inl ⟨?hw19, ?hy19⟩) (by assumption) ?r19
            case hi19 => (simp only [List.getElem?_toArray, List.getElem?_cons_succ, List.getElem?_cons_zero]; exact rfl)
            case hq19 => exact fun _ _ _ h => h
            case hw19 => rfl
            case hy19 => (intro w hSw; (try dsimp only at hSw); go_simp; try exact rfl)
            simp only [Act.put, List.setIfInBounds_toArray, List.set_cons_zero, List.set_cons_succ]
            refine wpAnyH_take (i := 19) (oi := ?o20) (v := ?v20) ?hi20 (by kernel_rfl) (by kernel_rfl) (by kernel_rfl) ?hq20 (Or.inl ⟨?hw20, ?hy20⟩) (by assumption) ?r20
            case hi20 => (simp only [List.getElem?_toArray, List.getElem?_cons_succ, List.getElem?_cons_zero]; exact rfl)
            case hq20 => exact fun _ _ _ h => h
            case hw20 => rfl
            case hy20 => (intro w hSw; (try dsimp only at hSw); go_simp; try exact rfl)
            simp only [Act.put, List.setIfInBounds_toArray, List.set_cons_zero, List.set_cons_succ]
            refine wpAnyH_take (i := 20) (oi := ?o21) (v := ?v21) ?hi21 (by kernel_rfl) (by kernel_rfl) (by kernel_rfl) ?hq21 (Or.inl ⟨?hw21, ?hy21⟩) (by assumption) ?r21
            case hi21 => (simp only [List.getElem?_toArray, List.getElem?_cons_succ, List.getElem?_cons_zero]; exact rfl)
            case hq21 => exact fun _ _ _ h => h
            case hw21 => rfl
            case hy21 => (intro w hSw; (try dsimp only at hSw); go_simp; try exact rfl)
            simp only [Act.put, List.setIfInBounds_toArray, List.set_cons_zero, List.set_cons_succ]
            have C0 := Kept.mk C.out.lts
            have MV := Kept.mk (move_any ya yb yc yn P.out)
            have hsz := moveP_size s ya yb yc yn
            have htt := moveP_tot s ya yb yc yn
            rw [SS.out.1] at htt
            have SS2 : Kept ((moveP s ya yb yc yn).2.np = len ∧ (moveP s ya yb yc yn).2.na = l0 ∧ ∀ b, tot (moveP s ya yb yc yn).2.v len b = tot s0.v len b) := ⟨by rw [hsz.1, SS.out.1], by rw [hsz.2, SS.out.2.1], fun b => by rw [htt b, SS.out.2.2 b]⟩
            clear hsz htt
            refine wpAnyH_ready (rs := [21]) (by kernel_rfl) (by simp) ?_
            refine AllReadyH.cons (o := ?o22) ?hi22 (fun K hK => ?_) AllReadyH.nil
            case hi22 => (simp only [List.getElem?_toArray, List.getElem?_cons_succ, List.getElem?_cons_zero]; exact rfl)
            go_simp
            go_at_call 15
            refine MV.out.mono ?_
            rintro e w6 ⟨rfl, F2, hp, fp⟩
            replace C : Kept (Pc w6 G c s0) := ⟨C.out.keep fp.1 DJ.out.symm⟩
            replace DJ : Kept (Disj F2 G) := ⟨DJ.out.step fp (fun g hg => C0.out g hg)⟩
            obtain ⟨B, L⟩ := step_fp B fp L
            have P := Kept.mk hp
            obtain ⟨-, z1, z2, z3, z4⟩ := OP0.out.later B
            clear fp hp MV C0
            refine hK.out _ _ ⟨z1, z2, z3, z4⟩ (fun _ => ?_)
            clear hK K hHeld z1 z2 z3 z4
            try simp only [Act.put, List.setIfInBounds_toArray, List.set_cons_zero, List.set_cons_succ]
            refine wpAnyH_done (by kernel_rfl) ?_ _
            refine NoPanic.normal ?_
            go_wp2
            go_roundw
            case rel => exact ⟨k + 1, F2, _, by omega, by go_num, P, C, DJ, SS2, B, L⟩
            case measure => simp [Go.RowKit.intOf]; omega
          · have hkn' : ¬ (k : Int) < len2 := by omega
            obtain ⟨wm, hwm⟩ : ∃ wm : World, wm = wr := ⟨_, rfl⟩
            subst hwm
            go_wp2
            go_loopw [9] (fun i wr => ∃ a : Nat, a ≤ l0 ∧ i = .int .i64 a ∧ Kept (Pc wr F p s) ∧ Kept (Pc wr G c s0) ∧ Kept (Below w.heap.size w wr)) (fun i _ => l0 - (Go.RowKit.intOf i).toNat)
            case atStart => exact ⟨0, by omega, rfl, P, C, B⟩
            case round =>
              clear P C B L DJ
              obtain ⟨a, ha, rfl, P, C, B⟩ := hrel
              have x1 : wr.cell? ⟨b0, o0, none⟩ = some (.slice A0 l0 c0) := by rw [B.out.cell (World.block_lt_of_cell? _ _ x0)]; exact x0
              by_cases han : a < l0
              · have han' : (a : Int) < l0 := by omega
                go_wp2
                obtain ⟨wi, hwi⟩ : ∃ wi : World, wi = wr := ⟨_, rfl⟩
                subst hwi
                go_loopw [10, 11] (fun t i wr => ∃ (k : Nat) (T : Int), k ≤ len ∧ i = .int .i64 k ∧ t = .int .i64 T ∧ Kept (tot s.v k a = T) ∧ Kept (Pc wr F p s) ∧ Kept (Pc wr G c s0) ∧ Kept (Below w.heap.size w wr)) (fun _ i _ => len - (Go.RowKit.intOf i).toNat)
                case atStart => exact ⟨0, 0, by omega, rfl, rfl, ⟨rfl⟩, P, C, B⟩
                case round =>
                  clear P C B x1
                  obtain ⟨k, T, hk, rfl, rfl, HT, P, C, B⟩ := hrel
                  by_cases hkl : k < len
                  · have hkl' : (k : Int) < len := by omega
                    obtain ⟨b9, o9, Ak, lk, ck, hA, xw, hlk, hck, rk⟩ := HR.out.row k hkl
                    injection hA with hA
                    injection hA with e1 e2
                    subst e1 e2
                    obtain rfl : lk = l0 := by rw [← rk.1, OK.out.2.2.1 k hkl, hL0.out]
                    have xk : wr.cell? ⟨b0, o0 + k, none⟩ = some (.slice Ak lk ck) := by rw [B.out.cell (World.block_lt_of_cell? _ _ xw)]; exact xw
                    obtain ⟨Q, h3⟩ := rk.below B.out
                    obtain ⟨bk, ok, rfl, hcl⟩ := h3.resolve_left (by omega)
                    have xe := hcl a han
                    have H1 := fun q => has_any (P.out.drewN q) (k : Int) (a : Int)
                    have H2 := fun q => has_any (C.out.drewN q) (k : Int) (a : Int)
                    rw [hasP_at (s := s) (by rw [SS.out.1]; exact hkl) (by rw [SS.out.2.1]; exact han)] at H1
                    have hs0 : hasP s0 (k : Int) (a : Int) = at_ (X k) a := by
                      rw [hasP_at (by rw [SZ.out.1]; exact hkl) (by rw [SZ.out.2]; exact han), ← E0.out]
                      rfl
                    rw [hs0] at H2
                    have hv := P.out.1.le (i := k) (a := a) (by rw [SS.out.1]; exact hkl) (by rw [SS.out.2.1]; exact han)
                    have hTs : tot s.v (k + 1) a = T + s.v k a := by
                      show tot s.v k a + s.v k a = _
                      rw [HT.out]
                    have hT0 : 0 ≤ T := by
                      rw [← HT.out]
                      exact tot_nonneg (fun i hi => P.out.1.pos i a (by rw [SS.out.1]; omega) (by rw [SS.out.2.1]; exact han))
                    have hT1 : T + s.v k a ≤ 4611686018427387904 := by
                      rw [← hTs]
                      refine Int.le_trans (tot_mono (n := s.np) (by rw [SS.out.1]; omega) (fun i hi => P.out.1.pos i a hi (by rw [SS.out.2.1]; exact han))) (P.out.1.sum a (by rw [SS.out.2.1]; exact han))
                    obtain ⟨x, hx⟩ : ∃ x, at_ (X k) a = x := ⟨_, rfl⟩
                    obtain ⟨v, hvv⟩ : ∃ v, s.v k a = v := ⟨_, rfl⟩
                    rw [hx] at xe H2
                    rw [hvv] at H1 hv hTs hT1
                    have HTS := Kept.mk hTs
                    have h1 := Kept.mk H1; have h2 := Kept.mk H2
                    have hv0 : ¬ v < 0 := by omega
                    clear xw Q h3 hcl rk H1 H2 hs0 hTs hx hvv
                    go_wp2
                    go_quiet ((first | (go_at_call 17; with_reducible exact Calls.quiet_of_same (still_of (h1.out _))) | (go_at_call 17; with_reducible exact Calls.quiet_of_same (still_of (h2.out _)))))
                    replace P : Kept (Pc (wr.drewN nq) F p s) := ⟨P.out.drewN _⟩
                    replace C : Kept (Pc (wr.drewN nq) G c s0) := ⟨C.out.drewN _⟩
                    replace B : Kept (Below w.heap.size w (wr.drewN nq)) := ⟨below_drewN B.out _⟩
                    have h3 : Calls Try.prog 17 #[.pointer (some ⟨p, 0, none⟩), .int .i64 (k : Int), .int .i64 (a : Int)] (wr.drewN nq) fun e w' => e = .returned (.int .i64 v) ∧ (wr.drewN nq) = w' := h1.out nq
                    have H3 := Kept.mk h3
                    clear h1 h2 h3 xk xe
                    generalize wr.drewN nq = w7 at *
                    go_wp2_with (go_at_call 17; refine H3.out.mono ?_; rintro e w' ⟨rfl, rfl⟩)
                    go_roundw
                    case rel => exact ⟨k + 1, T + v, by omega, by go_num, rfl, HTS, P, C, B⟩
                    case measure => simp [Go.RowKit.intOf]; omega
                  · have hkl' : ¬ (k : Int) < len := by omega
                    obtain rfl : k = len := by omega
                    have T1 := Kept.mk (total_any P.out (a : Int))
                    have T2 := Kept.mk (total_any C.out (a : Int))
                    rw [totP_nat (s := s) (by rw [SS.out.2.1]; exact han), SS.out.1, HT.out] at T1
                    rw [totP_nat (s := s0) (by rw [SZ.out.2]; exact han), SZ.out.1, ← SS.out.2.2 a, HT.out] at T2
                    go_wp2_with (first | (go_at_call 19; (with_reducible refine T1.out.mono ?_); rintro e w' ⟨rfl, rfl⟩) | (go_at_call 19; (with_reducible refine T2.out.mono ?_); rintro e w' ⟨rfl, rfl⟩))
                    go_roundw
                    case rel => exact ⟨a + 1, by omega, by go_num, P, C, B⟩
                    case measure => simp [Go.RowKit.intOf]; omega
              · have han' : ¬ (a : Int) < l0 := by omega
                go_wp2_with fail
                refine (first_any wr).mono ?_
                rintro e w8 ⟨rfl, b8⟩
                replace B := step_below B b8
                go_wp2
                go_ret
                exact ⟨rfl, B.out⟩
end Go.Proofs.Ytlgeckgeiknmjaa.Purse
