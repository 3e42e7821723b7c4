/-
  What is told: P12.2, P12.3.
-/
import Derived.Test.YtjjonbpgggldmaaGreatPart23
import Derived.Test.YtjjonbpgggldmaaGreatPart12
import Derived.Test.YtjjonbpgggldmaaGreatPart9
import Derived.Deep.RegionHeld3
import Derived.LoopN
namespace Go.Proofs.YtjjonbpgggldmaaGreat.Ledger
open Go.RowKit Go.Proofs.YtjjonbpgggldmaaGreat.Num Go.Proofs.YtjjonbpgggldmaaGreat.Sha Go.Proofs.YtjjonbpgggldmaaGreat.Purse Go.Proofs.YtjjonbpgggldmaaGreat.Escrow Go.Proofs.YtjjonbpgggldmaaGreat.Wire Go.Proofs.YtjjonbpgggldmaaGreat.Req

section
variable {Lk : World → Nat → List Nat → Nat → LS → Prop}
--PLAINHI
set_option maxRecDepth 100000 in
set_option maxHeartbeats 8000000 in
theorem tells_walk (api : LedgerApi Lk) {w : World} {A D : Option Addr} {n c m d : Nat} {X0 : Nat → List Int} (cap : Int) {l : List OV} (from_ : Int) (hr : Rwi w A n X0) (hn : n ≤ 9223372036854775807) (ho : Ops w D m l) (hm : m ≤ 9223372036854775807) :
    Calls Tryz.prog 5 #[.agg #[.slice A n c, .int .i64 cap], .slice D m d, .int .i64 from_] w (Holds w) := by
  obtain ⟨N, hN⟩ : ∃ N, w.heap.size = N := ⟨_, rfl⟩
  have b0 : Below w.heap.size w (w.alloc (.cells #[.slice A n c, .int .i64 cap] 24)) := (Below.refl _ _).alloc (Nat.le_refl _) _
  have X : Kept (Blk (w.alloc (.cells #[.slice A n c, .int .i64 cap] 24)) N 24 #[.slice A n c, .int .i64 cap]) := ⟨Blk.new_at w _ _ N hN.symm⟩
  have HR := Kept.mk hr; have HO := Kept.mk ho; have HM := Kept.mk hm; have HNN := Kept.mk hn
  have B := Kept.mk b0
  clear hr ho b0
  go_enter Tryz.func5, Tryz.ntmps5
  go_upto_region 1 with (fail)
  generalize w.alloc (.cells #[.slice A n c, .int .i64 cap] 24) = w1 at *
  have KF := Kept.mk (first_any api w1)
  unfold Holds at KF
  go_wp2_with fail
  refine KF.out.mono ?_
  rintro e w2 ⟨rfl, b⟩
  replace X := Kept.mk (X.out.below b X.out.lt); replace B := Kept.mk (B.out.trans (b.mono B.out.size))
  have KL := Kept.mk (fewl_any (c := c) (d := d) (cap := cap) (HR.out.below B.out) hn (HO.out.below B.out) hm)
  unfold Req.FewPost at KL
  clear KF b
  have x0 := X.out.cell 0; have x1 := X.out.cell 1
  go_wp2_with fail
  refine KL.out.mono ?_
  rintro e w3 ⟨q, rfl, hq, b⟩
  replace X := Kept.mk (X.out.below b X.out.lt); replace B := Kept.mk (B.out.trans (b.mono B.out.size))
  have HQ := Kept.mk hq
  clear KL b hq x0 x1
  cases q with
  | false =>
    have KF := Kept.mk (first_any api w3)
    unfold Holds at KF
    go_wp2_with fail
    refine KF.out.mono ?_
    rintro e w4 ⟨rfl, b⟩
    replace B := Kept.mk (B.out.trans (b.mono B.out.size))
    clear KF b
    go_wp2
    go_ret
    exact ⟨rfl, B.out⟩
  | true =>
    have HQ2 := Kept.mk (HQ.out rfl)
    clear HQ
    go_upto_region 5 with (fail)
    have CS : ∀ {u : World}, Blk u N 24 #[.slice A n c, .int .i64 cap] → u.cell? ⟨N, 0, none⟩ = some (.slice A n c) ∧ u.cell? ⟨N, 1, none⟩ = some (.int .i64 cap) := fun h => ⟨h.cell 0, h.cell 1⟩
    refine wp_region_noPanic ?_
    refine wp_region_held_drew (S := fun w' : World => w'.cell? ⟨N, 0, none⟩ = some (.slice A n c) ∧ w'.cell? ⟨N, 1, none⟩ = some (.int .i64 cap)) (by kernel_rfl) (CS X.out.drew) (fun _ => ?_)
    replace X := Kept.mk X.out.drew; replace B := Kept.mk B.out.drew
    generalize w3.drew = w4 at *
    refine wpAnyH_take (i := 1) (oi := ?o1) (v := ?v1) ?hi1 (by kernel_rfl) (by kernel_rfl) (by kernel_rfl) ?hq1 (Or.inl ⟨?hw1, ?hy1⟩) (by assumption) ?r1
    case hi1 => (simp only [List.getElem?_toArray]; exact rfl)
    case hq1 => exact fun _ _ _ h => h
    case hw1 => rfl
    case hy1 => (intro w hSw; (try dsimp only at hSw); go_simp; try exact rfl)
    simp only [Act.put, List.setIfInBounds_toArray, List.set_cons_zero, List.set_cons_succ]
    refine wpAnyH_ready (rs := [0]) (by kernel_rfl) (by simp) ?_
    refine AllReadyH.cons (o := ?o61) ?hi61 (fun K hK => ?_) AllReadyH.nil
    case hi61 => (simp only [List.getElem?_toArray]; exact rfl)
    go_simp
    go_at_call 10
    refine (newtab_any _).mono ?_
    rintro e w5 ⟨t, rfl, hf, b, ht⟩
    have NT : Kept (N ≠ t) := ⟨by have := X.out.lt; omega⟩
    replace X := Kept.mk (X.out.below b X.out.lt)
    have NL : Kept (N < w5.heap.size) := ⟨X.out.lt⟩
    have HT : Kept (w.heap.size ≤ t) := ⟨Nat.le_trans B.out.size ht⟩
    replace B := Kept.mk (B.out.trans (b.mono B.out.size))
    refine hK.out _ _ (CS X.out) (fun _ => ?_)
    have KN := Kept.mk (api.new (c := c) cap (.inl hf) (HR.out.below B.out))
    unfold NewLPost at KN
    clear hK K b ht hf
    refine wpAnyH_ready (rs := [2]) (by kernel_rfl) (by simp) ?_
    refine AllReadyH.cons (o := ?o62) ?hi62 (fun K hK => ?_) AllReadyH.nil
    case hi62 => (simp only [List.getElem?_toArray]; exact rfl)
    go_simp
    go_at_call 16
    refine KN.out.mono ?_
    rintro e w6 (⟨hno, rfl, b⟩ | ⟨hc, x, F, rfl, hk, b, hF⟩)
    · replace X := Kept.mk (X.out.below b X.out.lt)
      have HNC := Kept.mk hno
      replace B := Kept.mk (B.out.trans (b.mono B.out.size))
      refine hK.out _ _ (CS X.out) (fun _ => ?_)
      clear hK K KN b hno
      refine wpAnyH_take (i := 3) (oi := ?o2) (v := ?v2) ?hi2 (by kernel_rfl) (by kernel_rfl) (by kernel_rfl) ?hq2 (Or.inl ⟨?hw2, ?hy2⟩) (by assumption) ?r2
      case hi2 => (simp only [List.getElem?_toArray]; exact rfl)
      case hq2 => exact fun _ _ _ h => h
      case hw2 => rfl
      case hy2 => (intro w hSw; (try dsimp only at hSw); go_simp; try exact rfl)
      simp only [Act.put, List.setIfInBounds_toArray, List.set_cons_zero, List.set_cons_succ]
      refine wpAnyH_take (i := 4) (oi := ?o3) (v := ?v3) ?hi3 (by kernel_rfl) (by kernel_rfl) (by kernel_rfl) ?hq3 (Or.inl ⟨?hw3, ?hy3⟩) (by assumption) ?r3
      case hi3 => (simp only [List.getElem?_toArray]; exact rfl)
      case hq3 => exact fun _ _ _ h => h
      case hw3 => rfl
      case hy3 => (intro w hSw; (try dsimp only at hSw); go_simp; try exact rfl)
      simp only [Act.put, List.setIfInBounds_toArray, List.set_cons_zero, List.set_cons_succ]
      refine wpAnyH_take (i := 5) (oi := ?o4) (v := ?v4) ?hi4 (by kernel_rfl) (by kernel_rfl) (by kernel_rfl) ?hq4 (Or.inl ⟨?hw4, ?hy4⟩) (by assumption) ?r4
      case hi4 => (simp only [List.getElem?_toArray]; exact rfl)
      case hq4 => exact fun _ _ _ h => h
      case hw4 => rfl
      case hy4 => (intro w hSw; (try dsimp only at hSw); go_simp; try exact rfl)
      simp only [Act.put, List.setIfInBounds_toArray, List.set_cons_zero, List.set_cons_succ]
      refine wpAnyH_take (i := 6) (oi := ?o5) (v := ?v5) ?hi5 (by kernel_rfl) (by kernel_rfl) (by kernel_rfl) ?hq5 (Or.inl ⟨?hw5, ?hy5⟩) (by assumption) ?r5
      case hi5 => (simp only [List.getElem?_toArray]; exact rfl)
      case hq5 => exact fun _ _ _ h => h
      case hw5 => rfl
      case hy5 => (intro w hSw; (try dsimp only at hSw); go_simp; try exact rfl)
      simp only [Act.put, List.setIfInBounds_toArray, List.set_cons_zero, List.set_cons_succ]
      refine wpAnyH_take (i := 7) (oi := ?o6) (v := ?v6) ?hi6 (by kernel_rfl) (by kernel_rfl) (by kernel_rfl) ?hq6 (Or.inl ⟨?hw6, ?hy6⟩) (by assumption) ?r6
      case hi6 => (simp only [List.getElem?_toArray]; exact rfl)
      case hq6 => exact fun _ _ _ h => h
      case hw6 => rfl
      case hy6 => (intro w hSw; (try dsimp only at hSw); go_simp; try exact rfl)
      simp only [Act.put, List.setIfInBounds_toArray, List.set_cons_zero, List.set_cons_succ]
      refine wpAnyH_done (by kernel_rfl) ?_ _
      refine NoPanic.normal ?_
      have KF := Kept.mk (first_any api w6)
      unfold Holds at KF
      go_wp2_with fail
      refine KF.out.mono ?_
      rintro e w7 ⟨rfl, b⟩
      replace B := Kept.mk (B.out.trans (b.mono B.out.size))
      clear KF b
      go_wp2
      go_ret
      exact ⟨rfl, B.out⟩
    · replace X := Kept.mk (X.out.below b X.out.lt)
      have L := Kept.mk (api.led hk (newL_wl hc) (newL_wi n X0 cap) HT.out (fun k hm => Nat.le_trans B.out.size (hF k hm)))
      have HC := Kept.mk hc
      have XN : Kept (N ∉ t :: F) := ⟨fun hm => by
        rcases List.mem_cons.1 hm with h | h
        · exact NT.out h
        · have := hF N h; have := NL.out; omega⟩
      replace B := Kept.mk (B.out.trans (b.mono B.out.size))
      refine hK.out _ _ (CS X.out) (fun _ => ?_)
      clear hK K KN b hk hF hc
      refine wpAnyH_take (i := 3) (oi := ?o7) (v := ?v7) ?hi7 (by kernel_rfl) (by kernel_rfl) (by kernel_rfl) ?hq7 (Or.inl ⟨?hw7, ?hy7⟩) (by assumption) ?r7
      case hi7 => (simp only [List.getElem?_toArray]; exact rfl)
      case hq7 => exact fun _ _ _ h => h
      case hw7 => rfl
      case hy7 => (intro w hSw; (try dsimp only at hSw); go_simp; try exact rfl)
      simp only [Act.put, List.setIfInBounds_toArray, List.set_cons_zero, List.set_cons_succ]
      refine wpAnyH_take (i := 4) (oi := ?o8) (v := ?v8) ?hi8 (by kernel_rfl) (by kernel_rfl) (by kernel_rfl) ?hq8 (Or.inl ⟨?hw8, ?hy8⟩) (by assumption) ?r8
      case hi8 => (simp only [List.getElem?_toArray]; exact rfl)
      case hq8 => exact fun _ _ _ h => h
      case hw8 => rfl
      case hy8 => (intro w hSw; (try dsimp only at hSw); go_simp; try exact rfl)
      simp only [Act.put, List.setIfInBounds_toArray, List.set_cons_zero, List.set_cons_succ]
      refine wpAnyH_take (i := 5) (oi := ?o9) (v := ?v9) ?hi9 (by kernel_rfl) (by kernel_rfl) (by kernel_rfl) ?hq9 (Or.inl ⟨?hw9, ?hy9⟩) (by assumption) ?r9
      case hi9 => (simp only [List.getElem?_toArray]; exact rfl)
      case hq9 => exact fun _ _ _ h => h
      case hw9 => rfl
      case hy9 => (intro w hSw; (try dsimp only at hSw); go_simp; try exact rfl)
      simp only [Act.put, List.setIfInBounds_toArray, List.set_cons_zero, List.set_cons_succ]
      refine wpAnyH_take (i := 6) (oi := ?o10) (v := ?v10) ?hi10 (by kernel_rfl) (by kernel_rfl) (by kernel_rfl) ?hq10 (Or.inl ⟨?hw10, ?hy10⟩) (by assumption) ?r10
      case hi10 => (simp only [List.getElem?_toArray]; exact rfl)
      case hq10 => exact fun _ _ _ h => h
      case hw10 => rfl
      case hy10 => (intro w hSw; (try dsimp only at hSw); go_simp; try exact rfl)
      simp only [Act.put, List.setIfInBounds_toArray, List.set_cons_zero, List.set_cons_succ]
      refine wpAnyH_take (i := 7) (oi := ?o11) (v := ?v11) ?hi11 (by kernel_rfl) (by kernel_rfl) (by kernel_rfl) ?hq11 (Or.inl ⟨?hw11, ?hy11⟩) (by assumption) ?r11
      case hi11 => (simp only [List.getElem?_toArray]; exact rfl)
      case hq11 => exact fun _ _ _ h => h
      case hw11 => rfl
      case hy11 => (intro w hSw; (try dsimp only at hSw); go_simp; try exact rfl)
      simp only [Act.put, List.setIfInBounds_toArray, List.set_cons_zero, List.set_cons_succ]
      refine wpAnyH_done (by kernel_rfl) ?_ _
      refine NoPanic.normal ?_
      go_wp2
      go_loopw [9] (fun i wr => ∃ (k : Nat) (F : List Nat) (s : LS), k ≤ m ∧ i = .int .i64 k ∧ Kept (LedK Lk w.heap.size wr t F x s) ∧ Kept (Below w.heap.size w wr)) (fun i _ => m - (Go.RowKit.intOf i).toNat)
      case atStart => exact ⟨0, F, _, by omega, rfl, L, B⟩
      case round =>
        clear L B X HC
        obtain ⟨k, F, s, hk, rfl, L, B⟩ := hrel
        by_cases hkn : k < m
        · have hkn' : (k : Int) < m := by omega
          obtain ⟨g, o, party, clock, seen, ll, A', n', c', hA, hx, h7, hl, hn100, ks, co, h4, h5, KA⟩ := api.batch HO.out HQ2.out hkn L.out B.out
          subst hA
          obtain ⟨R, hRR⟩ : ∃ R, applyL s party clock ⟨seen, ll⟩ = R := ⟨_, rfl⟩
          rw [hRR] at ks KA
          have KS := Kept.mk ks; have CO := Kept.mk co; have HRR := Kept.mk hRR; have H7 := Kept.mk h7; have HL := Kept.mk hl; have HX := Kept.mk hx
          have KA2 := Kept.mk (KA wr.drew (below_drewN (Below.refl _ wr) 1))
          unfold AfterPost at KA2
          clear KA ks co hRR h7 hl hx h4 h5 hn100
          go_upto_region 11 with (fail)
          refine wp_region_noPanic ?_
          refine wp_region_held_drew (S := fun u : World => u.cell? ⟨g, o + k * 4, none⟩ = some (.int .i64 party) ∧ u.cell? ⟨g, o + k * 4 + 1, none⟩ = some (.int .i64 clock) ∧ u.cell? ⟨g, o + k * 4 + 2, none⟩ = some (.int .i64 seen) ∧ u.cell? ⟨g, o + k * 4 + 3, none⟩ = some (.slice A' n' c')) (by kernel_rfl) (by obtain ⟨a0, a1, a2, a3, -⟩ := CO.out _ B.out.drew; exact ⟨a0, a1, a2, a3⟩) (fun _ => ?_)
          refine wpAnyH_take (i := 0) (oi := ?o12) (v := ?v12) ?hi12 (by kernel_rfl) (by kernel_rfl) (by kernel_rfl) ?hq12 (Or.inl ⟨?hw12, ?hy12⟩) (by assumption) ?r12
          case hi12 => (simp only [List.getElem?_toArray]; exact rfl)
          case hq12 => exact fun _ _ _ h => h
          case hw12 => rfl
          case hy12 => (intro w hSw; (try dsimp only at hSw); go_simp; try exact rfl)
          simp only [Act.put, List.setIfInBounds_toArray, List.set_cons_zero, List.set_cons_succ]
          refine wpAnyH_take (i := 1) (oi := ?o13) (v := ?v13) ?hi13 (by kernel_rfl) (by kernel_rfl) (by kernel_rfl) ?hq13 (Or.inl ⟨?hw13, ?hy13⟩) (by assumption) ?r13
          case hi13 => (simp only [List.getElem?_toArray]; exact rfl)
          case hq13 => exact fun _ _ _ h => h
          case hw13 => rfl
          case hy13 => (intro w hSw; (try dsimp only at hSw); go_simp; try exact rfl)
          simp only [Act.put, List.setIfInBounds_toArray, List.set_cons_zero, List.set_cons_succ]
          refine wpAnyH_take (i := 2) (oi := ?o14) (v := ?v14) ?hi14 (by kernel_rfl) (by kernel_rfl) (by kernel_rfl) ?hq14 (Or.inl ⟨?hw14, ?hy14⟩) (by assumption) ?r14
          case hi14 => (simp only [List.getElem?_toArray]; exact rfl)
          case hq14 => exact fun _ _ _ h => h
          case hw14 => rfl
          case hy14 => (intro w hSw; (try dsimp only at hSw); go_simp; try exact rfl)
          simp only [Act.put, List.setIfInBounds_toArray, List.set_cons_zero, List.set_cons_succ]
          refine wpAnyH_take (i := 3) (oi := ?o15) (v := ?v15) ?hi15 (by kernel_rfl) (by kernel_rfl) (by kernel_rfl) ?hq15 (Or.inl ⟨?hw15, ?hy15⟩) (by assumption) ?r15
          case hi15 => (simp only [List.getElem?_toArray]; exact rfl)
          case hq15 => exact fun _ _ _ h => h
          case hw15 => rfl
          case hy15 => (intro w hSw; (try dsimp only at hSw); go_simp; try exact rfl)
          simp only [Act.put, List.setIfInBounds_toArray, List.set_cons_zero, List.set_cons_succ]
          refine wpAnyH_take (i := 4) (oi := ?o16) (v := ?v16) ?hi16 (by kernel_rfl) (by kernel_rfl) (by kernel_rfl) ?hq16 (Or.inl ⟨?hw16, ?hy16⟩) (by assumption) ?r16
          case hi16 => (simp only [List.getElem?_toArray]; exact rfl)
          case hq16 => exact fun _ _ _ h => h
          case hw16 => rfl
          case hy16 => (intro w hSw; (try dsimp only at hSw); go_simp; try exact rfl)
          simp only [Act.put, List.setIfInBounds_toArray, List.set_cons_zero, List.set_cons_succ]
          refine wpAnyH_take (i := 5) (oi := ?o17) (v := ?v17) ?hi17 (by kernel_rfl) (by kernel_rfl) (by kernel_rfl) ?hq17 (Or.inl ⟨?hw17, ?hy17⟩) (by assumption) ?r17
          case hi17 => (simp only [List.getElem?_toArray]; exact rfl)
          case hq17 => exact fun _ _ _ h => h
          case hw17 => rfl
          case hy17 => (intro w hSw; (try dsimp only at hSw); go_simp; try exact rfl)
          simp only [Act.put, List.setIfInBounds_toArray, List.set_cons_zero, List.set_cons_succ]
          refine wpAnyH_take (i := 6) (oi := ?o18) (v := ?v18) ?hi18 (by kernel_rfl) (by kernel_rfl) (by kernel_rfl) ?hq18 (Or.inl ⟨?hw18, ?hy18⟩) (by assumption) ?r18
          case hi18 => (simp only [List.getElem?_toArray]; exact rfl)
          case hq18 => exact fun _ _ _ h => h
          case hw18 => rfl
          case hy18 => (intro w hSw; (try dsimp only at hSw); go_simp; try exact rfl)
          simp only [Act.put, List.setIfInBounds_toArray, List.set_cons_zero, List.set_cons_succ]
          refine wpAnyH_take (i := 7) (oi := ?o19) (v := ?v19) ?hi19 (by kernel_rfl) (by kernel_rfl) (by kernel_rfl) ?hq19 (Or.inl ⟨?hw19, ?hy19⟩) (by assumption) ?r19
          case hi19 => (simp only [List.getElem?_toArray]; exact rfl)
          case hq19 => exact fun _ _ _ h => h
          case hw19 => rfl
          case hy19 => (intro w hSw; (try dsimp only at hSw); go_simp; try exact rfl)
          simp only [Act.put, List.setIfInBounds_toArray, List.set_cons_zero, List.set_cons_succ]
          refine wpAnyH_take (i := 8) (oi := ?o20) (v := ?v20) ?hi20 (by kernel_rfl) (by kernel_rfl) (by kernel_rfl) ?hq20 (Or.inl ⟨?hw20, ?hy20⟩) (by assumption) ?r20
          case hi20 => (simp only [List.getElem?_toArray]; exact rfl)
          case hq20 => exact fun _ _ _ h => h
          case hw20 => rfl
          case hy20 => (intro w hSw; (try dsimp only at hSw); go_simp; try exact rfl)
          simp only [Act.put, List.setIfInBounds_toArray, List.set_cons_zero, List.set_cons_succ]
          refine wpAnyH_take (i := 9) (oi := ?o21) (v := ?v21) ?hi21 (by kernel_rfl) (by kernel_rfl) (by kernel_rfl) ?hq21 (Or.inl ⟨?hw21, ?hy21⟩) (by assumption) ?r21
          case hi21 => (simp only [List.getElem?_toArray]; exact rfl)
          case hq21 => exact fun _ _ _ h => h
          case hw21 => rfl
          case hy21 => (intro w hSw; (try dsimp only at hSw); go_simp; try exact rfl)
          simp only [Act.put, List.setIfInBounds_toArray, List.set_cons_zero, List.set_cons_succ]
          refine wpAnyH_take (i := 10) (oi := ?o22) (v := ?v22) ?hi22 (by kernel_rfl) (by kernel_rfl) (by kernel_rfl) ?hq22 (Or.inl ⟨?hw22, ?hy22⟩) (by assumption) ?r22
          case hi22 => (simp only [List.getElem?_toArray]; exact rfl)
          case hq22 => exact fun _ _ _ h => h
          case hw22 => rfl
          case hy22 => (intro w hSw; (try dsimp only at hSw); go_simp; try exact rfl)
          simp only [Act.put, List.setIfInBounds_toArray, List.set_cons_zero, List.set_cons_succ]
          refine wpAnyH_take (i := 11) (oi := ?o23) (v := ?v23) ?hi23 (by kernel_rfl) (by kernel_rfl) (by kernel_rfl) ?hq23 (Or.inl ⟨?hw23, ?hy23⟩) (by assumption) ?r23
          case hi23 => (simp only [List.getElem?_toArray]; exact rfl)
          case hq23 => exact fun _ _ _ h => h
          case hw23 => rfl
          case hy23 => (intro w hSw; (try dsimp only at hSw); go_simp; try exact rfl)
          simp only [Act.put, List.setIfInBounds_toArray, List.set_cons_zero, List.set_cons_succ]
          refine wpAnyH_take (i := 12) (oi := ?o24) (v := ?v24) ?hi24 (by kernel_rfl) (by kernel_rfl) (by kernel_rfl) ?hq24 (Or.inl ⟨?hw24, ?hy24⟩) (by assumption) ?r24
          case hi24 => (simp only [List.getElem?_toArray]; exact rfl)
          case hq24 => exact fun _ _ _ h => h
          case hw24 => rfl
          case hy24 => (intro w hSw; (try dsimp only at hSw); go_simp; try exact rfl)
          simp only [Act.put, List.setIfInBounds_toArray, List.set_cons_zero, List.set_cons_succ]
          refine wpAnyH_take (i := 13) (oi := ?o25) (v := ?v25) ?hi25 (by kernel_rfl) (by kernel_rfl) (by kernel_rfl) ?hq25 (Or.inl ⟨?hw25, ?hy25⟩) (by assumption) ?r25
          case hi25 => (simp only [List.getElem?_toArray]; exact rfl)
          case hq25 => exact fun _ _ _ h => h
          case hw25 => rfl
          case hy25 => (intro w hSw; (try dsimp only at hSw); go_simp; try exact rfl)
          simp only [Act.put, List.setIfInBounds_toArray, List.set_cons_zero, List.set_cons_succ]
          refine wpAnyH_take (i := 14) (oi := ?o26) (v := ?v26) ?hi26 (by kernel_rfl) (by kernel_rfl) (by kernel_rfl) ?hq26 (Or.inl ⟨?hw26, ?hy26⟩) (by assumption) ?r26
          case hi26 => (simp only [List.getElem?_toArray]; exact rfl)
          case hq26 => exact fun _ _ _ h => h
          case hw26 => rfl
          case hy26 => (intro w hSw; (try dsimp only at hSw); go_simp; try exact rfl)
          simp only [Act.put, List.setIfInBounds_toArray, List.set_cons_zero, List.set_cons_succ]
          refine wpAnyH_take (i := 15) (oi := ?o27) (v := ?v27) ?hi27 (by kernel_rfl) (by kernel_rfl) (by kernel_rfl) ?hq27 (Or.inl ⟨?hw27, ?hy27⟩) (by assumption) ?r27
          case hi27 => (simp only [List.getElem?_toArray]; exact rfl)
          case hq27 => exact fun _ _ _ h => h
          case hw27 => rfl
          case hy27 => (intro w hSw; (try dsimp only at hSw); go_simp; try exact rfl)
          simp only [Act.put, List.setIfInBounds_toArray, List.set_cons_zero, List.set_cons_succ]
          refine wpAnyH_ready (rs := [16]) (by kernel_rfl) (by simp) ?_
          refine AllReadyH.cons (o := ?o63) ?hi63 (fun K hK => ?_) AllReadyH.nil
          case hi63 => (simp only [List.getElem?_toArray]; exact rfl)
          go_simp
          go_at_call 22
          refine KA2.out.mono ?_
          rintro e w2 ⟨F2, A1, n1, c1, D1, m1, d1, rfl, e1, e2, e3, e4, hp, hv, hL, hb, hF, bb, nA, nD⟩
          replace L := Kept.mk hL; have RP := Kept.mk hp; have RV := Kept.mk hv
          replace B := Kept.mk (B.out.drew.trans bb)
          refine hK.out _ _ (by obtain ⟨a0, a1, a2, a3, -⟩ := CO.out _ B.out; exact ⟨a0, a1, a2, a3⟩) (fun _ => ?_)
          clear hK K KA2 hp hv hL hb hF bb nA nD
          refine wpAnyH_done (by kernel_rfl) ?_ _
          refine NoPanic.normal ?_
          clear RP RV KS CO HRR H7 HL HX e1 e2 e3 e4
          obtain ⟨RA, s2⟩ := R
          dsimp only at L
          have KE := Kept.mk (api.events L.out.lk L.out.wl)
          unfold EventsPost at KE
          go_wp2_with fail
          refine KE.out.mono ?_
          rintro e w3 ⟨A2, n2, c2, rfl, e1, e2, hv, hnew, b⟩
          have R0 := Kept.mk (RowK.fresh hv vvC_ne hnew L.out.lt)
          replace L := Kept.mk (api.ledBelow L.out b); replace B := Kept.mk (B.out.trans (b.mono B.out.size))
          obtain rfl : n2 = s2.e.length := by rw [hv.1.symm, evs_len]
          have hn2 : s2.e.length ≤ 400 := L.out.wl.len
          have KC := Kept.mk (api.clock L.out.lk)
          unfold TellB at KC
          clear KE hv hnew b
          go_wp2_with fail
          refine KC.out.mono ?_
          rintro e w4 ⟨rfl, b⟩
          replace L := Kept.mk (api.ledBelow L.out b); replace R0 := Kept.mk (R0.out.below b); replace B := Kept.mk (B.out.trans (b.mono B.out.size))
          have KP := Kept.mk (api.poll L.out B.out.size 0 s2.clock from_ (Int.le_refl _))
          unfold AfterPost at KP
          clear b KC
          go_wp2_with fail
          refine KP.out.mono ?_
          rintro e w5 ⟨F3, A3, n3, c3, D3, m3, d3, rfl, p1, p2, p3, p4, hp, hv, hL, hb, hF, bb, nA, nD⟩
          obtain rfl : n3 = 0 := hp.rc.1.symm
          replace R0 := Kept.mk (R0.out.step hb hF); replace L := Kept.mk hL; replace B := Kept.mk (B.out.trans bb)
          have R3 := Kept.mk hv; have RP3 := Kept.mk hp
          have b : Below w5.heap.size w5 (w5.alloc (.cells #[.int .i64 s2.clock, .int .i64 (s2.e.length : Nat), .slice A3 0 c3, .slice D3 m3 d3] 59)) := (Below.refl _ _).alloc (Nat.le_refl _) _
          obtain ⟨N3, hN3⟩ : ∃ N3, w5.heap.size = N3 := ⟨_, rfl⟩
          have X3 : Kept (BlkK (w5.alloc (.cells #[.int .i64 s2.clock, .int .i64 (s2.e.length : Nat), .slice A3 0 c3, .slice D3 m3 d3] 59)) (t :: F3) N3 59 #[.int .i64 s2.clock, .int .i64 (s2.e.length : Nat), .slice A3 0 c3, .slice D3 m3 d3]) := ⟨BlkK.new _ _ N3 hN3.symm L.out.lt⟩
          replace L := Kept.mk (api.ledBelow L.out b); replace R0 := Kept.mk (R0.out.below b); replace R3 := Kept.mk (R3.out.below b); replace RP3 := Kept.mk (RP3.out.below b); replace B := Kept.mk (B.out.trans (b.mono B.out.size))
          have KP2 := Kept.mk (api.poll L.out B.out.size 1 0 from_ L.out.wl.clock.1)
          unfold AfterPost at KP2
          clear b KP hp hv hL hb hF bb nA nD
          go_wp2_with fail
          refine KP2.out.mono ?_
          rintro e w6 ⟨F4, A4, n4, c4, D4, m4, d4, rfl, q1, q2, q3, q4, hp, hv, hL, hb, hF, bb, nA, nD⟩
          obtain rfl : n4 = 0 := hp.rc.1.symm
          replace R0 := Kept.mk (R0.out.step hb hF); replace R3 := Kept.mk (R3.out.step hb hF); replace RP3 := Kept.mk (RP3.out.step hb hF); replace X3 := Kept.mk (X3.out.step hb hF); replace L := Kept.mk hL; replace B := Kept.mk (B.out.trans bb)
          have R4 := Kept.mk hv; have RP4 := Kept.mk hp
          have b : Below w6.heap.size w6 (w6.alloc (.cells #[.int .i64 s2.clock, .int .i64 (s2.e.length : Nat), .slice A4 0 c4, .slice D4 m4 d4] 59)) := (Below.refl _ _).alloc (Nat.le_refl _) _
          obtain ⟨N4, hN4⟩ : ∃ N4, w6.heap.size = N4 := ⟨_, rfl⟩
          have X4 : Kept (BlkK (w6.alloc (.cells #[.int .i64 s2.clock, .int .i64 (s2.e.length : Nat), .slice A4 0 c4, .slice D4 m4 d4] 59)) (t :: F4) N4 59 #[.int .i64 s2.clock, .int .i64 (s2.e.length : Nat), .slice A4 0 c4, .slice D4 m4 d4]) := ⟨BlkK.new _ _ N4 hN4.symm L.out.lt⟩
          replace L := Kept.mk (api.ledBelow L.out b); replace R0 := Kept.mk (R0.out.below b); replace R3 := Kept.mk (R3.out.below b); replace RP3 := Kept.mk (RP3.out.below b); replace R4 := Kept.mk (R4.out.below b); replace RP4 := Kept.mk (RP4.out.below b); replace X3 := Kept.mk (X3.out.below b); replace B := Kept.mk (B.out.trans (b.mono B.out.size))
          clear b KP2 hp hv hL hb hF bb nA nD
          go_upto_region 15 with (fail)
          generalize (w6.alloc (.cells #[.int .i64 s2.clock, .int .i64 (s2.e.length : Nat), .slice A4 0 c4, .slice D4 m4 d4] 59)) = w7 at *
          have CT : ∀ {u : World}, Blk u N3 59 #[.int .i64 s2.clock, .int .i64 (s2.e.length : Nat), .slice A3 0 c3, .slice D3 m3 d3] → Blk u N4 59 #[.int .i64 s2.clock, .int .i64 (s2.e.length : Nat), .slice A4 0 c4, .slice D4 m4 d4] → u.cell? ⟨N3, 0, none⟩ = some (.int .i64 s2.clock) ∧ u.cell? ⟨N3, 1, none⟩ = some (.int .i64 (s2.e.length : Nat)) ∧ u.cell? ⟨N3, 2, none⟩ = some (.slice A3 0 c3) ∧ u.cell? ⟨N3, 3, none⟩ = some (.slice D3 m3 d3) ∧ u.cell? ⟨N4, 0, none⟩ = some (.int .i64 s2.clock) ∧ u.cell? ⟨N4, 1, none⟩ = some (.int .i64 (s2.e.length : Nat)) ∧ u.cell? ⟨N4, 2, none⟩ = some (.slice A4 0 c4) ∧ u.cell? ⟨N4, 3, none⟩ = some (.slice D4 m4 d4) := fun h h' => ⟨h.cell 0, h.cell 1, h.cell 2, h.cell 3, h'.cell 0, h'.cell 1, h'.cell 2, h'.cell 3⟩
          refine wp_region_noPanic ?_
          refine wp_region_held_drew (S := fun u : World => u.cell? ⟨N3, 0, none⟩ = some (.int .i64 s2.clock) ∧ u.cell? ⟨N3, 1, none⟩ = some (.int .i64 (s2.e.length : Nat)) ∧ u.cell? ⟨N3, 2, none⟩ = some (.slice A3 0 c3) ∧ u.cell? ⟨N3, 3, none⟩ = some (.slice D3 m3 d3) ∧ u.cell? ⟨N4, 0, none⟩ = some (.int .i64 s2.clock) ∧ u.cell? ⟨N4, 1, none⟩ = some (.int .i64 (s2.e.length : Nat)) ∧ u.cell? ⟨N4, 2, none⟩ = some (.slice A4 0 c4) ∧ u.cell? ⟨N4, 3, none⟩ = some (.slice D4 m4 d4)) (by kernel_rfl) (CT X3.out.blk.drew X4.out.blk.drew) (fun _ => ?_)
          have b : Below w7.heap.size w7 w7.drew := below_drewN (Below.refl _ w7) 1
          replace L := Kept.mk (api.ledBelow L.out b); replace R0 := Kept.mk (R0.out.below b); replace R3 := Kept.mk (R3.out.below b); replace RP3 := Kept.mk (RP3.out.below b); replace R4 := Kept.mk (R4.out.below b); replace RP4 := Kept.mk (RP4.out.below b); replace X3 := Kept.mk (X3.out.below b); replace X4 := Kept.mk (X4.out.below b); replace B := Kept.mk (B.out.trans (b.mono B.out.size))
          clear b
          generalize w7.drew = w8 at *
          have KC := Kept.mk (api.clock L.out.lk)
          unfold TellB at KC
          refine wpAnyH_take (i := 0) (oi := ?o28) (v := ?v28) ?hi28 (by kernel_rfl) (by kernel_rfl) (by kernel_rfl) ?hq28 (Or.inl ⟨?hw28, ?hy28⟩) (by assumption) ?r28
          case hi28 => (simp only [List.getElem?_toArray]; exact rfl)
          case hq28 => exact fun _ _ _ h => h
          case hw28 => rfl
          case hy28 => (intro w hSw; (try dsimp only at hSw); go_simp; try exact rfl)
          simp only [Act.put, List.setIfInBounds_toArray, List.set_cons_zero, List.set_cons_succ]
          refine wpAnyH_take (i := 1) (oi := ?o29) (v := ?v29) ?hi29 (by kernel_rfl) (by kernel_rfl) (by kernel_rfl) ?hq29 (Or.inl ⟨?hw29, ?hy29⟩) (by assumption) ?r29
          case hi29 => (simp only [List.getElem?_toArray]; exact rfl)
          case hq29 => exact fun _ _ _ h => h
          case hw29 => rfl
          case hy29 => (intro w hSw; (try dsimp only at hSw); go_simp; try exact rfl)
          simp only [Act.put, List.setIfInBounds_toArray, List.set_cons_zero, List.set_cons_succ]
          refine wpAnyH_take (i := 2) (oi := ?o30) (v := ?v30) ?hi30 (by kernel_rfl) (by kernel_rfl) (by kernel_rfl) ?hq30 (Or.inl ⟨?hw30, ?hy30⟩) (by assumption) ?r30
          case hi30 => (simp only [List.getElem?_toArray]; exact rfl)
          case hq30 => exact fun _ _ _ h => h
          case hw30 => rfl
          case hy30 => (intro w hSw; (try dsimp only at hSw); go_simp; try exact rfl)
          simp only [Act.put, List.setIfInBounds_toArray, List.set_cons_zero, List.set_cons_succ]
          refine wpAnyH_take (i := 3) (oi := ?o31) (v := ?v31) ?hi31 (by kernel_rfl) (by kernel_rfl) (by kernel_rfl) ?hq31 (Or.inl ⟨?hw31, ?hy31⟩) (by assumption) ?r31
          case hi31 => (simp only [List.getElem?_toArray]; exact rfl)
          case hq31 => exact fun _ _ _ h => h
          case hw31 => rfl
          case hy31 => (intro w hSw; (try dsimp only at hSw); go_simp; try exact rfl)
          simp only [Act.put, List.setIfInBounds_toArray, List.set_cons_zero, List.set_cons_succ]
          refine wpAnyH_take (i := 4) (oi := ?o32) (v := ?v32) ?hi32 (by kernel_rfl) (by kernel_rfl) (by kernel_rfl) ?hq32 (Or.inl ⟨?hw32, ?hy32⟩) (by assumption) ?r32
          case hi32 => (simp only [List.getElem?_toArray]; exact rfl)
          case hq32 => exact fun _ _ _ h => h
          case hw32 => rfl
          case hy32 => (intro w hSw; (try dsimp only at hSw); go_simp; try exact rfl)
          simp only [Act.put, List.setIfInBounds_toArray, List.set_cons_zero, List.set_cons_succ]
          refine wpAnyH_take (i := 5) (oi := ?o33) (v := ?v33) ?hi33 (by kernel_rfl) (by kernel_rfl) (by kernel_rfl) ?hq33 (Or.inl ⟨?hw33, ?hy33⟩) (by assumption) ?r33
          case hi33 => (simp only [List.getElem?_toArray]; exact rfl)
          case hq33 => exact fun _ _ _ h => h
          case hw33 => rfl
          case hy33 => (intro w hSw; (try dsimp only at hSw); go_simp; try exact rfl)
          simp only [Act.put, List.setIfInBounds_toArray, List.set_cons_zero, List.set_cons_succ]
          refine wpAnyH_take (i := 6) (oi := ?o34) (v := ?v34) ?hi34 (by kernel_rfl) (by kernel_rfl) (by kernel_rfl) ?hq34 (Or.inl ⟨?hw34, ?hy34⟩) (by assumption) ?r34
          case hi34 => (simp only [List.getElem?_toArray]; exact rfl)
          case hq34 => exact fun _ _ _ h => h
          case hw34 => rfl
          case hy34 => (intro w hSw; (try dsimp only at hSw); go_simp; try exact rfl)
          simp only [Act.put, List.setIfInBounds_toArray, List.set_cons_zero, List.set_cons_succ]
          refine wpAnyH_take (i := 7) (oi := ?o35) (v := ?v35) ?hi35 (by kernel_rfl) (by kernel_rfl) (by kernel_rfl) ?hq35 (Or.inl ⟨?hw35, ?hy35⟩) (by assumption) ?r35
          case hi35 => (simp only [List.getElem?_toArray]; exact rfl)
          case hq35 => exact fun _ _ _ h => h
          case hw35 => rfl
          case hy35 => (intro w hSw; (try dsimp only at hSw); go_simp; try exact rfl)
          simp only [Act.put, List.setIfInBounds_toArray, List.set_cons_zero, List.set_cons_succ]
          refine wpAnyH_take (i := 8) (oi := ?o36) (v := ?v36) ?hi36 (by kernel_rfl) (by kernel_rfl) (by kernel_rfl) ?hq36 (Or.inl ⟨?hw36, ?hy36⟩) (by assumption) ?r36
          case hi36 => (simp only [List.getElem?_toArray]; exact rfl)
          case hq36 => exact fun _ _ _ h => h
          case hw36 => rfl
          case hy36 => (intro w hSw; (try dsimp only at hSw); go_simp; try exact rfl)
          simp only [Act.put, List.setIfInBounds_toArray, List.set_cons_zero, List.set_cons_succ]
          refine wpAnyH_ready (rs := [9]) (by kernel_rfl) (by simp) ?_
          refine AllReadyH.cons (o := ?o64) ?hi64 (fun K hK => ?_) AllReadyH.nil
          case hi64 => (simp only [List.getElem?_toArray]; exact rfl)
          go_simp
          go_at_call 13
          refine KC.out.mono ?_
          rintro e w9 ⟨rfl, b⟩
          replace L := Kept.mk (api.ledBelow L.out b); replace R0 := Kept.mk (R0.out.below b); replace R3 := Kept.mk (R3.out.below b); replace RP3 := Kept.mk (RP3.out.below b); replace R4 := Kept.mk (R4.out.below b); replace RP4 := Kept.mk (RP4.out.below b); replace X3 := Kept.mk (X3.out.below b); replace X4 := Kept.mk (X4.out.below b); replace B := Kept.mk (B.out.trans (b.mono B.out.size))
          refine hK.out _ _ (CT X3.out.blk X4.out.blk) (fun _ => ?_)
          have KQ := rsamea_any s2.clock (s2.e.length : Nat) A3 0 c3 [] D3 m3 d3 _ s2.clock (s2.e.length : Nat) A4 0 c4 [] D4 m4 d4 _ w9 RP3.out.rc RP4.out.rc R3.out.rc R4.out.rc (by omega) (by omega) (fun v hv => (fromL_may L.out.wl from_ v hv).2) (fun v hv => (fromL_may L.out.wl from_ v hv).2)
          have KQ2 := Kept.mk KQ
          unfold SamePost at KQ2
          clear hK K KC b KQ
          refine wpAnyH_take (i := 10) (oi := ?o37) (v := ?v37) ?hi37 (by kernel_rfl) (by kernel_rfl) (by kernel_rfl) ?hq37 (Or.inl ⟨?hw37, ?hy37⟩) (by assumption) ?r37
          case hi37 => (simp only [List.getElem?_toArray]; exact rfl)
          case hq37 => exact fun _ _ _ h => h
          case hw37 => rfl
          case hy37 => (intro w hSw; (try dsimp only at hSw); go_simp; try exact rfl)
          simp only [Act.put, List.setIfInBounds_toArray, List.set_cons_zero, List.set_cons_succ]
          refine wpAnyH_take (i := 11) (oi := ?o38) (v := ?v38) ?hi38 (by kernel_rfl) (by kernel_rfl) (by kernel_rfl) ?hq38 (Or.inl ⟨?hw38, ?hy38⟩) (by assumption) ?r38
          case hi38 => (simp only [List.getElem?_toArray]; exact rfl)
          case hq38 => exact fun _ _ _ h => h
          case hw38 => rfl
          case hy38 => (intro w hSw; (try dsimp only at hSw); go_simp; try exact rfl)
          simp only [Act.put, List.setIfInBounds_toArray, List.set_cons_zero, List.set_cons_succ]
          refine wpAnyH_take (i := 12) (oi := ?o39) (v := ?v39) ?hi39 (by kernel_rfl) (by kernel_rfl) (by kernel_rfl) ?hq39 (Or.inl ⟨?hw39, ?hy39⟩) (by assumption) ?r39
          case hi39 => (simp only [List.getElem?_toArray]; exact rfl)
          case hq39 => exact fun _ _ _ h => h
          case hw39 => rfl
          case hy39 => (intro w hSw; (try dsimp only at hSw); go_simp; try exact rfl)
          simp only [Act.put, List.setIfInBounds_toArray, List.set_cons_zero, List.set_cons_succ]
          refine wpAnyH_take (i := 13) (oi := ?o40) (v := ?v40) ?hi40 (by kernel_rfl) (by kernel_rfl) (by kernel_rfl) ?hq40 (Or.inl ⟨?hw40, ?hy40⟩) (by assumption) ?r40
          case hi40 => (simp only [List.getElem?_toArray]; exact rfl)
          case hq40 => exact fun _ _ _ h => h
          case hw40 => rfl
          case hy40 => (intro w hSw; (try dsimp only at hSw); go_simp; try exact rfl)
          simp only [Act.put, List.setIfInBounds_toArray, List.set_cons_zero, List.set_cons_succ]
          refine wpAnyH_take (i := 14) (oi := ?o41) (v := ?v41) ?hi41 (by kernel_rfl) (by kernel_rfl) (by kernel_rfl) ?hq41 (Or.inl ⟨?hw41, ?hy41⟩) (by assumption) ?r41
          case hi41 => (simp only [List.getElem?_toArray]; exact rfl)
          case hq41 => exact fun _ _ _ h => h
          case hw41 => rfl
          case hy41 => (intro w hSw; (try dsimp only at hSw); go_simp; try exact rfl)
          simp only [Act.put, List.setIfInBounds_toArray, List.set_cons_zero, List.set_cons_succ]
          refine wpAnyH_take (i := 15) (oi := ?o42) (v := ?v42) ?hi42 (by kernel_rfl) (by kernel_rfl) (by kernel_rfl) ?hq42 (Or.inl ⟨?hw42, ?hy42⟩) (by assumption) ?r42
          case hi42 => (simp only [List.getElem?_toArray]; exact rfl)
          case hq42 => exact fun _ _ _ h => h
          case hw42 => rfl
          case hy42 => (intro w hSw; (try dsimp only at hSw); go_simp; try exact rfl)
          simp only [Act.put, List.setIfInBounds_toArray, List.set_cons_zero, List.set_cons_succ]
          refine wpAnyH_take (i := 16) (oi := ?o43) (v := ?v43) ?hi43 (by kernel_rfl) (by kernel_rfl) (by kernel_rfl) ?hq43 (Or.inl ⟨?hw43, ?hy43⟩) (by assumption) ?r43
          case hi43 => (simp only [List.getElem?_toArray]; exact rfl)
          case hq43 => exact fun _ _ _ h => h
          case hw43 => rfl
          case hy43 => (intro w hSw; (try dsimp only at hSw); go_simp; try exact rfl)
          simp only [Act.put, List.setIfInBounds_toArray, List.set_cons_zero, List.set_cons_succ]
          refine wpAnyH_take (i := 17) (oi := ?o44) (v := ?v44) ?hi44 (by kernel_rfl) (by kernel_rfl) (by kernel_rfl) ?hq44 (Or.inl ⟨?hw44, ?hy44⟩) (by assumption) ?r44
          case hi44 => (simp only [List.getElem?_toArray]; exact rfl)
          case hq44 => exact fun _ _ _ h => h
          case hw44 => rfl
          case hy44 => (intro w hSw; (try dsimp only at hSw); go_simp; try exact rfl)
          simp only [Act.put, List.setIfInBounds_toArray, List.set_cons_zero, List.set_cons_succ]
          refine wpAnyH_take (i := 18) (oi := ?o45) (v := ?v45) ?hi45 (by kernel_rfl) (by kernel_rfl) (by kernel_rfl) ?hq45 (Or.inl ⟨?hw45, ?hy45⟩) (by assumption) ?r45
          case hi45 => (simp only [List.getElem?_toArray]; exact rfl)
          case hq45 => exact fun _ _ _ h => h
          case hw45 => rfl
          case hy45 => (intro w hSw; (try dsimp only at hSw); go_simp; try exact rfl)
          simp only [Act.put, List.setIfInBounds_toArray, List.set_cons_zero, List.set_cons_succ]
          refine wpAnyH_take (i := 19) (oi := ?o46) (v := ?v46) ?hi46 (by kernel_rfl) (by kernel_rfl) (by kernel_rfl) ?hq46 (Or.inl ⟨?hw46, ?hy46⟩) (by assumption) ?r46
          case hi46 => (simp only [List.getElem?_toArray]; exact rfl)
          case hq46 => exact fun _ _ _ h => h
          case hw46 => rfl
          case hy46 => (intro w hSw; (try dsimp only at hSw); go_simp; try exact rfl)
          simp only [Act.put, List.setIfInBounds_toArray, List.set_cons_zero, List.set_cons_succ]
          refine wpAnyH_take (i := 20) (oi := ?o47) (v := ?v47) ?hi47 (by kernel_rfl) (by kernel_rfl) (by kernel_rfl) ?hq47 (Or.inl ⟨?hw47, ?hy47⟩) (by assumption) ?r47
          case hi47 => (simp only [List.getElem?_toArray]; exact rfl)
          case hq47 => exact fun _ _ _ h => h
          case hw47 => rfl
          case hy47 => (intro w hSw; (try dsimp only at hSw); go_simp; try exact rfl)
          simp only [Act.put, List.setIfInBounds_toArray, List.set_cons_zero, List.set_cons_succ]
          refine wpAnyH_ready (rs := [21]) (by kernel_rfl) (by simp) ?_
          refine AllReadyH.cons (o := ?o65) ?hi65 (fun K hK => ?_) AllReadyH.nil
          case hi65 => (simp only [List.getElem?_toArray]; exact rfl)
          go_simp
          go_at_call 21
          refine KQ2.out.mono ?_
          rintro e w10 ⟨q, rfl, hq, b⟩
          obtain rfl : q = true := hq.2 rfl
          replace L := Kept.mk (api.ledBelow L.out b); replace R0 := Kept.mk (R0.out.below b); replace R3 := Kept.mk (R3.out.below b); replace RP3 := Kept.mk (RP3.out.below b); replace R4 := Kept.mk (R4.out.below b); replace RP4 := Kept.mk (RP4.out.below b); replace X3 := Kept.mk (X3.out.below b); replace X4 := Kept.mk (X4.out.below b); replace B := Kept.mk (B.out.trans (b.mono B.out.size))
          refine hK.out _ _ (CT X3.out.blk X4.out.blk) (fun _ => ?_)
          have KE := Kept.mk (api.events L.out.lk L.out.wl)
          unfold EventsPost at KE
          clear hK K KQ2 b hq
          refine wpAnyH_take (i := 22) (oi := ?o48) (v := ?v48) ?hi48 (by kernel_rfl) (by kernel_rfl) (by kernel_rfl) ?hq48 (Or.inl ⟨?hw48, ?hy48⟩) (by assumption) ?r48
          case hi48 => (simp only [List.getElem?_toArray]; exact rfl)
          case hq48 => exact fun _ _ _ h => h
          case hw48 => rfl
          case hy48 => (intro w hSw; (try dsimp only at hSw); go_simp; try exact rfl)
          simp only [Act.put, List.setIfInBounds_toArray, List.set_cons_zero, List.set_cons_succ]
          refine wpAnyH_take (i := 23) (oi := ?o49) (v := ?v49) ?hi49 (by kernel_rfl) (by kernel_rfl) (by kernel_rfl) ?hq49 (Or.inl ⟨?hw49, ?hy49⟩) (by assumption) ?r49
          case hi49 => (simp only [List.getElem?_toArray]; exact rfl)
          case hq49 => exact fun _ _ _ h => h
          case hw49 => rfl
          case hy49 => (intro w hSw; (try dsimp only at hSw); go_simp; try exact rfl)
          simp only [Act.put, List.setIfInBounds_toArray, List.set_cons_zero, List.set_cons_succ]
          refine wpAnyH_take (i := 24) (oi := ?o50) (v := ?v50) ?hi50 (by kernel_rfl) (by kernel_rfl) (by kernel_rfl) ?hq50 (Or.inl ⟨?hw50, ?hy50⟩) (by assumption) ?r50
          case hi50 => (simp only [List.getElem?_toArray]; exact rfl)
          case hq50 => exact fun _ _ _ h => h
          case hw50 => rfl
          case hy50 => (intro w hSw; (try dsimp only at hSw); go_simp; try exact rfl)
          simp only [Act.put, List.setIfInBounds_toArray, List.set_cons_zero, List.set_cons_succ]
          refine wpAnyH_take (i := 25) (oi := ?o51) (v := ?v51) ?hi51 (by kernel_rfl) (by kernel_rfl) (by kernel_rfl) ?hq51 (Or.inl ⟨?hw51, ?hy51⟩) (by assumption) ?r51
          case hi51 => (simp only [List.getElem?_toArray]; exact rfl)
          case hq51 => exact fun _ _ _ h => h
          case hw51 => rfl
          case hy51 => (intro w hSw; (try dsimp only at hSw); go_simp; try exact rfl)
          simp only [Act.put, List.setIfInBounds_toArray, List.set_cons_zero, List.set_cons_succ]
          refine wpAnyH_take (i := 27) (oi := ?o52) (v := ?v52) ?hi52 (by kernel_rfl) (by kernel_rfl) (by kernel_rfl) ?hq52 (Or.inl ⟨?hw52, ?hy52⟩) (by assumption) ?r52
          case hi52 => (simp only [List.getElem?_toArray]; exact rfl)
          case hq52 => exact fun _ _ _ h => h
          case hw52 => rfl
          case hy52 => (intro w hSw; (try dsimp only at hSw); go_simp; try exact rfl)
          simp only [Act.put, List.setIfInBounds_toArray, List.set_cons_zero, List.set_cons_succ]
          refine wpAnyH_ready (rs := [26]) (by kernel_rfl) (by simp) ?_
          refine AllReadyH.cons (o := ?o66) ?hi66 (fun K hK => ?_) AllReadyH.nil
          case hi66 => (simp only [List.getElem?_toArray]; exact rfl)
          go_simp
          go_at_call 15
          refine KE.out.mono ?_
          rintro e w11 ⟨A5, n5, c5, rfl, g1, g2, hv, -, b⟩
          have RE := Kept.mk hv
          replace L := Kept.mk (api.ledBelow L.out b); replace R0 := Kept.mk (R0.out.below b); replace R3 := Kept.mk (R3.out.below b); replace RP3 := Kept.mk (RP3.out.below b); replace R4 := Kept.mk (R4.out.below b); replace RP4 := Kept.mk (RP4.out.below b); replace X3 := Kept.mk (X3.out.below b); replace X4 := Kept.mk (X4.out.below b); replace B := Kept.mk (B.out.trans (b.mono B.out.size))
          refine hK.out _ _ (CT X3.out.blk X4.out.blk) (fun _ => ?_)
          have KQ := Kept.mk (rsameev_any A5 n5 c5 (evs s2) A2 _ c2 (evs s2) w11 RE.out R0.out.rc (by omega) (evs_ok L.out.wl) (evs_ok L.out.wl))
          unfold SamePost at KQ
          clear hK K KE b hv
          refine wpAnyH_ready (rs := [28]) (by kernel_rfl) (by simp) ?_
          refine AllReadyH.cons (o := ?o67) ?hi67 (fun K hK => ?_) AllReadyH.nil
          case hi67 => (simp only [List.getElem?_toArray]; exact rfl)
          go_simp
          go_at_call 14
          refine KQ.out.mono ?_
          rintro e w12 ⟨q, rfl, hq, b⟩
          obtain rfl : q = true := hq.2 rfl
          replace L := Kept.mk (api.ledBelow L.out b); replace R0 := Kept.mk (R0.out.below b); replace R3 := Kept.mk (R3.out.below b); replace RP3 := Kept.mk (RP3.out.below b); replace R4 := Kept.mk (R4.out.below b); replace RP4 := Kept.mk (RP4.out.below b); replace X3 := Kept.mk (X3.out.below b); replace X4 := Kept.mk (X4.out.below b); replace B := Kept.mk (B.out.trans (b.mono B.out.size))
          refine hK.out _ _ (CT X3.out.blk X4.out.blk) (fun _ => ?_)
          clear hK K KQ b hq RE
          refine wpAnyH_take (i := 29) (oi := ?o53) (v := ?v53) ?hi53 (by kernel_rfl) (by kernel_rfl) (by kernel_rfl) ?hq53 (Or.inl ⟨?hw53, ?hy53⟩) (by assumption) ?r53
          case hi53 => (simp only [List.getElem?_toArray]; exact rfl)
          case hq53 => exact fun _ _ _ h => h
          case hw53 => rfl
          case hy53 => (intro w hSw; (try dsimp only at hSw); go_simp; try exact rfl)
          simp only [Act.put, List.setIfInBounds_toArray, List.set_cons_zero, List.set_cons_succ]
          refine wpAnyH_take (i := 30) (oi := ?o54) (v := ?v54) ?hi54 (by kernel_rfl) (by kernel_rfl) (by kernel_rfl) ?hq54 (Or.inl ⟨?hw54, ?hy54⟩) (by assumption) ?r54
          case hi54 => (simp only [List.getElem?_toArray]; exact rfl)
          case hq54 => exact fun _ _ _ h => h
          case hw54 => rfl
          case hy54 => (intro w hSw; (try dsimp only at hSw); go_simp; try exact rfl)
          simp only [Act.put, List.setIfInBounds_toArray, List.set_cons_zero, List.set_cons_succ]
          refine wpAnyH_done (by kernel_rfl) ?_ _
          refine NoPanic.normal ?_
          clear CT
          by_cases hf0 : 0 ≤ from_
          · by_cases hf1 : from_ ≤ (s2.e.length : Nat)
            · obtain ⟨q, rfl⟩ : ∃ q : Nat, from_ = q := ⟨from_.toNat, by omega⟩
              have hql : q ≤ s2.e.length := by omega
              have hq0 : (0 : Int) ≤ (q : Int) := by omega
              obtain ⟨A6, hsl, hdr⟩ := evs_l A2 s2.e.length c2 q hql e1 (q : Int) rfl
              have HDR := Kept.mk hdr
              clear hdr
              go_upto_region 18 with (fail)
              have CT : ∀ {u : World}, Blk u N3 59 #[.int .i64 s2.clock, .int .i64 (s2.e.length : Nat), .slice A3 0 c3, .slice D3 m3 d3] → u.cell? ⟨N3, 0, none⟩ = some (.int .i64 s2.clock) ∧ u.cell? ⟨N3, 1, none⟩ = some (.int .i64 (s2.e.length : Nat)) ∧ u.cell? ⟨N3, 2, none⟩ = some (.slice A3 0 c3) ∧ u.cell? ⟨N3, 3, none⟩ = some (.slice D3 m3 d3) := fun h => ⟨h.cell 0, h.cell 1, h.cell 2, h.cell 3⟩
              refine wp_region_noPanic ?_
              refine wp_region_held_drew (S := fun u : World => u.cell? ⟨N3, 0, none⟩ = some (.int .i64 s2.clock) ∧ u.cell? ⟨N3, 1, none⟩ = some (.int .i64 (s2.e.length : Nat)) ∧ u.cell? ⟨N3, 2, none⟩ = some (.slice A3 0 c3) ∧ u.cell? ⟨N3, 3, none⟩ = some (.slice D3 m3 d3)) (by kernel_rfl) (CT X3.out.blk.drew) (fun _ => ?_)
              have b : Below w12.heap.size w12 w12.drew := below_drewN (Below.refl _ w12) 1
              replace L := Kept.mk (api.ledBelow L.out b); replace R0 := Kept.mk (R0.out.below b); replace R3 := Kept.mk (R3.out.below b); replace RP3 := Kept.mk (RP3.out.below b); replace R4 := Kept.mk (R4.out.below b); replace RP4 := Kept.mk (RP4.out.below b); replace X3 := Kept.mk (X3.out.below b); replace X4 := Kept.mk (X4.out.below b); replace B := Kept.mk (B.out.trans (b.mono B.out.size))
              clear b
              generalize w12.drew = w13 at *
              have KQ := Kept.mk (rsameev_any D3 m3 d3 (fromL s2 q) A6 _ (c2 - q) ((evs s2).drop q) w13 R3.out.rc (HDR.out w13 (evs s2) R0.out.rc) (by omega) (fun v hv => (fromL_may L.out.wl q v hv).2) (fun v hv => evs_ok L.out.wl v (List.mem_of_mem_drop hv)))
              unfold SamePost at KQ
              have FI := Kept.mk (fromL_in hql)
              clear HDR
              refine wpAnyH_take (i := 0) (oi := ?o55) (v := ?v55) ?hi55 (by kernel_rfl) (by kernel_rfl) (by kernel_rfl) ?hq55 (Or.inl ⟨?hw55, ?hy55⟩) (by assumption) ?r55
              case hi55 => (simp only [List.getElem?_toArray]; exact rfl)
              case hq55 => exact fun _ _ _ h => h
              case hw55 => rfl
              case hy55 => (intro w hSw; (try dsimp only at hSw); go_simp; try exact rfl)
              simp only [Act.put, List.setIfInBounds_toArray, List.set_cons_zero, List.set_cons_succ]
              refine wpAnyH_take (i := 1) (oi := ?o56) (v := ?v56) ?hi56 (by kernel_rfl) (by kernel_rfl) (by kernel_rfl) ?hq56 (Or.inl ⟨?hw56, ?hy56⟩) (by assumption) ?r56
              case hi56 => (simp only [List.getElem?_toArray]; exact rfl)
              case hq56 => exact fun _ _ _ h => h
              case hw56 => rfl
              case hy56 => (intro w hSw; (try dsimp only at hSw); go_simp; try exact rfl)
              simp only [Act.put, List.setIfInBounds_toArray, List.set_cons_zero, List.set_cons_succ]
              refine wpAnyH_take (i := 2) (oi := ?o57) (v := ?v57) ?hi57 (by kernel_rfl) (by kernel_rfl) (by kernel_rfl) ?hq57 (Or.inl ⟨?hw57, ?hy57⟩) (by assumption) ?r57
              case hi57 => (simp only [List.getElem?_toArray]; exact rfl)
              case hq57 => exact fun _ _ _ h => h
              case hw57 => rfl
              case hy57 => (intro w hSw; (try dsimp only at hSw); go_simp; try exact rfl)
              simp only [Act.put, List.setIfInBounds_toArray, List.set_cons_zero, List.set_cons_succ]
              refine wpAnyH_take (i := 3) (oi := ?o58) (v := ?v58) ?hi58 (by kernel_rfl) (by kernel_rfl) (by kernel_rfl) ?hq58 (Or.inl ⟨?hw58, ?hy58⟩) (by assumption) ?r58
              case hi58 => (simp only [List.getElem?_toArray]; exact rfl)
              case hq58 => exact fun _ _ _ h => h
              case hw58 => rfl
              case hy58 => (intro w hSw; (try dsimp only at hSw); go_simp; try exact rfl)
              simp only [Act.put, List.setIfInBounds_toArray, List.set_cons_zero, List.set_cons_succ]
              refine wpAnyH_take (i := 4) (oi := ?o59) (v := ?v59) ?hi59 (by kernel_rfl) (by kernel_rfl) (by kernel_rfl) ?hq59 (Or.inl ⟨?hw59, ?hy59⟩) (by assumption) ?r59
              case hi59 => (simp only [List.getElem?_toArray]; exact rfl)
              case hq59 => exact fun _ _ _ h => h
              case hw59 => rfl
              case hy59 => (intro w hSw; (try dsimp only at hSw); go_simp; try exact rfl)
              simp only [Act.put, List.setIfInBounds_toArray, List.set_cons_zero, List.set_cons_succ]
              refine wpAnyH_ready (rs := [5]) (by kernel_rfl) (by simp) ?_
              refine AllReadyH.cons (o := ?o68) ?hi68 (fun K hK => ?_) AllReadyH.nil
              case hi68 => (simp only [List.getElem?_toArray]; exact rfl)
              go_simp
              go_at_call 14
              refine KQ.out.mono ?_
              rintro e w14 ⟨q', rfl, hq, b⟩
              obtain rfl : q' = true := hq.2 FI.out
              replace L := Kept.mk (api.ledBelow L.out b); replace R0 := Kept.mk (R0.out.below b); replace R3 := Kept.mk (R3.out.below b); replace RP3 := Kept.mk (RP3.out.below b); replace R4 := Kept.mk (R4.out.below b); replace RP4 := Kept.mk (RP4.out.below b); replace X3 := Kept.mk (X3.out.below b); replace X4 := Kept.mk (X4.out.below b); replace B := Kept.mk (B.out.trans (b.mono B.out.size))
              refine hK.out _ _ (CT X3.out.blk) (fun _ => ?_)
              clear hK K KQ b hq CT hsl
              refine wpAnyH_take (i := 6) (oi := ?o60) (v := ?v60) ?hi60 (by kernel_rfl) (by kernel_rfl) (by kernel_rfl) ?hq60 (Or.inl ⟨?hw60, ?hy60⟩) (by assumption) ?r60
              case hi60 => (simp only [List.getElem?_toArray]; exact rfl)
              case hq60 => exact fun _ _ _ h => h
              case hw60 => rfl
              case hy60 => (intro w hSw; (try dsimp only at hSw); go_simp; try exact rfl)
              simp only [Act.put, List.setIfInBounds_toArray, List.set_cons_zero, List.set_cons_succ]
              refine wpAnyH_done (by kernel_rfl) ?_ _
              refine NoPanic.normal ?_
              go_wp2
              go_roundw
              case rel => exact ⟨k + 1, F4, s2, by omega, by go_num, L, B⟩
              case measure => simp [Go.RowKit.intOf]; omega
            · have hf2 : ((s2.e.length : Nat) : Int) < from_ := by omega
              have hm0 : m3 = 0 := by
                have := R3.out.rc.1
                rw [fromL_out (fun h => hf1 h.2)] at this
                exact this.symm
              subst hm0
              have x3 := X3.out.blk.cell 3
              go_wp2
              go_roundw
              case rel => exact ⟨k + 1, F4, s2, by omega, by go_num, L, B⟩
              case measure => simp [Go.RowKit.intOf]; omega
          · have hf2 : from_ < 0 := by omega
            have hm0 : m3 = 0 := by
              have := R3.out.rc.1
              rw [fromL_out (fun h => hf0 h.1)] at this
              exact this.symm
            subst hm0
            have x3 := X3.out.blk.cell 3
            go_wp2
            go_roundw
            case rel => exact ⟨k + 1, F4, s2, by omega, by go_num, L, B⟩
            case measure => simp [Go.RowKit.intOf]; omega
        · have hkn' : ¬ (k : Int) < m := by omega
          have KF := Kept.mk (first_any api wr)
          unfold Holds at KF
          go_wp2_with fail
          refine KF.out.mono ?_
          rintro e w7 ⟨rfl, b⟩
          replace B := Kept.mk (B.out.trans (b.mono B.out.size))
          clear KF b
          go_wp2
          go_ret
          exact ⟨rfl, B.out⟩
end
end Go.Proofs.YtjjonbpgggldmaaGreat.Ledger
