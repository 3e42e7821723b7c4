/-
  Package purse: Copy.
-/
import Derived.Test.YtlgeckgeiknmjaaPurseNew
import Derived.Test.YtlgeckgeiknmjaaCloneI
namespace Go.Proofs.Ytlgeckgeiknmjaa.Purse
open Go.RowKit Go.Proofs.Ytlgeckgeiknmjaa.Sha Go.Proofs.Ytlgeckgeiknmjaa.Num

def CopyPost (Pk : World → List Nat → Nat → PS → Prop) (w : World) (s : PS) (e : Ending) (w' : World) : Prop := ∃ p F, e = .returned (.pointer (some ⟨p, 0, none⟩)) ∧ Pk w' F p s ∧ Fp [] F w w'
/-- the lists of Copy's loop -/
def some_ (s : PS) (b a : Nat) : List Int := if a < b then colV s.v s.np a else []
theorem own_more {w : World} {b b' size : Nat} {e : TypeId} {v : Value} {n : Nat} {xs : List Value} (h : w.ownsRow b e size v n xs) (hb : b' ≤ b) : w.ownsRow b' e size v n xs := by
  refine ⟨h.1, h.2.imp id ?_⟩
  rintro ⟨g, cap, cur, hv, hg, r⟩
  exact ⟨g, cap, cur, hv, Nat.le_trans hb hg, r⟩
theorem grown_of {w w' : World} (b : Below w.heap.size w w') (row : Option Nat) : w.grownBy w' row := ⟨b.os, b.tape, b.output, b.size, fun k hk _ => b.block k hk⟩
/-- row a is a new one -/
theorem Gr.cloned {T : TypeId} {w w0 : World} {N p g na a k : Nat} {L L' : Nat → List Int} {V : Nat → Value} {l : List Int} {v' : Value} {w1 : World} (h : Gr T w N p g na L V) (ha : a < na) (hk : l.length = k) (hown : w1.ownsRow w.heap.size 3 1 v' k (Sha.ints .i64 l)) (bel : Below w.heap.size w w1)
    (hL : L' a = l) (hL' : ∀ b, b < na → b ≠ a → L' b = L b) (B : Kept (Below N w0 w)) (NN : N ≤ w.heap.size) :
    ∃ V', Kept (Gr T (w1.setCell ⟨g, a, none⟩ v') N p g na L' V') ∧ Kept (Below N w0 (w1.setCell ⟨g, a, none⟩ v')) := by
  have h1 := h.turn ha (v' := v') (l := l) (grown_of bel _) (by rw [hk]; exact own_more hown NN) (.inr (fun q hq => (hown.lt q hq).1)) hL hL'
  exact ⟨_, ⟨h1.1⟩, ⟨B.out.trans h1.2⟩⟩
set_option maxRecDepth 100000 in
set_option maxHeartbeats 1000000 in
theorem copy_any {w : World} {F : List Nat} {p : Nat} {s : PS} (h : Pc w F p s) : Calls Try.prog 23 #[.pointer (some ⟨p, 0, none⟩)] w (CopyPost Pc w s) := by
  have WFs := h.1
  obtain ⟨h0, g, c, R, C, h⟩ := h
  have p0 := h.p0
  have H := Kept.mk h
  have a4 := h0.a4; have a1 := h0.a1; have p16 := h0.p16; have p2 := h0.p2
  have W0 := Kept.mk h0
  obtain ⟨na, hna⟩ : ∃ na, s.na = na := ⟨_, rfl⟩
  rw [hna] at p0 a4 a1 H
  obtain ⟨w1, hmk, k1, b1⟩ := make_rows w na (by omega)
  obtain ⟨N, hN⟩ : ∃ N, w.heap.size = N := ⟨_, rfl⟩
  rw [hN] at k1 b1 hmk
  have hN1 : N + 1 ≤ w1.heap.size := k1.lt
  have G0 := Kept.mk (Gr.congr (Gr.start (N := N) purse_T (Blk.new w1 46 #[.slice (some ⟨N, 0, none⟩) na na]) (k1.alloc _) (by omega) (Nat.le_refl _) (by omega)) (L' := some_ s 0) (fun a _ => by simp [some_]))
  have B0 : Kept (Below N w (w1.alloc (.cells #[.slice (some ⟨N, 0, none⟩) na na] 46))) := ⟨b1.alloc (by omega) _⟩
  have x1 : w1.cell? ⟨p, 0, none⟩ = some (.slice (some ⟨g, 0, none⟩) na c) := by rw [b1.cell (by have := h.hp.lt; simp; omega)]; exact p0
  have x2 : (w1.alloc (.cells #[.slice (some ⟨N, 0, none⟩) na na] 46)).cell? ⟨p, 0, none⟩ = some (.slice (some ⟨g, 0, none⟩) na c) := by rw [B0.out.cell (by have := h.hp.lt; simp; omega)]; exact p0
  have HN := Kept.mk hN
  have HA := Kept.mk hna
  clear k1 b1 hN hna h h0 WFs
  obtain ⟨q, hq⟩ : ∃ q, w1.heap.size = q := ⟨_, rfl⟩
  rw [hq] at G0
  have HQ := Kept.mk hq
  go_enter Try.func23, Try.ntmps23
  go_wp2
  clear hmk hq x1 x2 p0
  generalize w1.alloc (.cells #[.slice (some ⟨N, 0, none⟩) na na] 46) = w2 at *
  go_loopw [19] (fun i wr => ∃ (b : Nat) (V : Nat → Value), b ≤ na ∧ i = .int .i64 b ∧ Kept (Gr 46 wr N q N na (some_ s b) V) ∧ Kept (Below N w wr)) (fun i _ => na - (Go.RowKit.intOf i).toNat)
  case atStart => exact ⟨0, _, by omega, rfl, G0, B0⟩
  case round =>
    clear G0 B0
    obtain ⟨b, V, hb, rfl, G, B⟩ := hrel
    by_cases hbn : b < na
    · have hbn' : (b : Int) < na := by omega
      have g0 : wr.cell? ⟨g, b, none⟩ = some (.slice (some ⟨R b, 0, none⟩) s.np (C b)) := by rw [B.out.cell (by have := H.out.gt; have := HN.out; simp; omega)]; exact H.out.gi hbn
      have RI : Kept (Ri wr.drew (some ⟨R b, 0, none⟩) s.np (colV s.v s.np b)) := ⟨colV_len _ _ _, .inr ⟨R b, 0, rfl, fun i hi => by
        rw [Nat.zero_add, colV_at _ _ _ _ hi, B.out.drew.cell (by have := (H.out.hr b hbn).2.2.lt; have := HN.out; simp; omega)]
        exact H.out.rij hbn hi⟩⟩
      go_upto_region 5 with (fail)
      refine wp_region_noPanic ?_
      refine wp_region_held_drew (S := fun w' : World => w'.cell? ⟨q, 0, none⟩ = some (.slice (some ⟨N, 0, none⟩) na na)) (by kernel_rfl) G.out.p0 (fun hHeld => ?_)
      have bd : Below wr.heap.size wr wr.drew := (Below.refl _ _).drew
      have G2 := Kept.mk (G.out.below bd)
      have B2 : Kept (Below N w wr.drew) := ⟨B.out.drew⟩
      clear G B bd g0
      generalize wr.drew = w3 at *
      refine wpAnyH_take (i := 0) (oi := ?o1) (v := ?v1) ?hi1 (by kernel_rfl) (by kernel_rfl) (by kernel_rfl) ?hq1 (Or.inl ⟨?hw1, ?hy1⟩) (by assumption) ?r1
      case hi1 => (simp only [List.getElem?_toArray, List.getElem?_cons_zero]; exact rfl)
      case hq1 => exact fun _ _ _ h => h
      case hw1 => rfl
      case hy1 => (intro w hSw; (try dsimp only at hSw); go_simp; try exact rfl)
      simp only [Act.put, List.setIfInBounds_toArray, List.set_cons_zero, List.set_cons_succ]
      refine wpAnyH_take (i := 1) (oi := ?o2) (v := ?v2) ?hi2 (by kernel_rfl) (by kernel_rfl) (by kernel_rfl) ?hq2 (Or.inl ⟨?hw2, ?hy2⟩) (by assumption) ?r2
      case hi2 => (simp only [List.getElem?_toArray, List.getElem?_cons_succ, List.getElem?_cons_zero]; exact rfl)
      case hq2 => exact fun _ _ _ h => h
      case hw2 => rfl
      case hy2 => (intro w hSw; (try dsimp only at hSw); go_simp; try exact rfl)
      simp only [Act.put, List.setIfInBounds_toArray, List.set_cons_zero, List.set_cons_succ]
      refine wpAnyH_take (i := 2) (oi := ?o3) (v := ?v3) ?hi3 (by kernel_rfl) (by kernel_rfl) (by kernel_rfl) ?hq3 (Or.inl ⟨?hw3, ?hy3⟩) (by assumption) ?r3
      case hi3 => (simp only [List.getElem?_toArray, List.getElem?_cons_succ, List.getElem?_cons_zero]; exact rfl)
      case hq3 => exact fun _ _ _ h => h
      case hw3 => rfl
      case hy3 => (intro w hSw; (try dsimp only at hSw); go_simp; try exact rfl)
      simp only [Act.put, List.setIfInBounds_toArray, List.set_cons_zero, List.set_cons_succ]
      refine wpAnyH_take (i := 3) (oi := ?o4) (v := ?v4) ?hi4 (by kernel_rfl) (by kernel_rfl) (by kernel_rfl) ?hq4 (Or.inl ⟨?hw4, ?hy4⟩) (by assumption) ?r4
      case hi4 => (simp only [List.getElem?_toArray, List.getElem?_cons_succ, List.getElem?_cons_zero]; exact rfl)
      case hq4 => exact fun _ _ _ h => h
      case hw4 => rfl
      case hy4 => (intro w hSw; (try dsimp only at hSw); go_simp; try exact rfl)
      simp only [Act.put, List.setIfInBounds_toArray, List.set_cons_zero, List.set_cons_succ]
      refine wpAnyH_take (i := 4) (oi := ?o5) (v := ?v5) ?hi5 (by kernel_rfl) (by kernel_rfl) (by kernel_rfl) ?hq5 (Or.inl ⟨?hw5, ?hy5⟩) (by assumption) ?r5
      case hi5 => (simp only [List.getElem?_toArray, List.getElem?_cons_succ, List.getElem?_cons_zero]; exact rfl)
      case hq5 => exact fun _ _ _ h => h
      case hw5 => rfl
      case hy5 => (intro w hSw; (try dsimp only at hSw); go_simp; try exact rfl)
      simp only [Act.put, List.setIfInBounds_toArray, List.set_cons_zero, List.set_cons_succ]
      refine wpAnyH_take (i := 5) (oi := ?o6) (v := ?v6) ?hi6 (by kernel_rfl) (by kernel_rfl) (by kernel_rfl) ?hq6 (Or.inl ⟨?hw6, ?hy6⟩) (by assumption) ?r6
      case hi6 => (simp only [List.getElem?_toArray, List.getElem?_cons_succ, List.getElem?_cons_zero]; exact rfl)
      case hq6 => exact fun _ _ _ h => h
      case hw6 => rfl
      case hy6 => (intro w hSw; (try dsimp only at hSw); go_simp; try exact rfl)
      simp only [Act.put, List.setIfInBounds_toArray, List.set_cons_zero, List.set_cons_succ]
      refine wpAnyH_ready (rs := [6]) (by kernel_rfl) (by simp) ?_
      refine AllReadyH.cons (o := ?o8) ?hi8 (fun K hK => ?_) AllReadyH.nil
      case hi8 => (simp only [List.getElem?_toArray, List.getElem?_cons_succ, List.getElem?_cons_zero]; exact rfl)
      go_simp
      go_at_call 33
      refine (clonei_any (some ⟨R b, 0, none⟩) s.np (C b) (colV s.v s.np b) w3 RI.out (by omega)).mono ?_
      rintro e w4 ⟨v', rfl, hown, bel⟩
      obtain ⟨A', c', rfl⟩ := own_shape hown
      have G4 := Kept.mk (G2.out.below bel)
      have NN : N ≤ w3.heap.size := by have := G2.out.gt; omega
      obtain ⟨V', g5, b5⟩ := G2.out.cloned hbn (colV_len _ _ _) hown bel (L' := some_ s (b + 1)) (by simp [some_]) (fun a _ hne => by
        unfold some_
        by_cases e : a < b
        · rw [if_pos e, if_pos (by omega)]
        · rw [if_neg e, if_neg (by omega)]) B2 NN
      have q1 := G4.out.ga hbn
      have q2 := G4.out.fz b
      have q3 := G4.out.p0
      clear hown bel G2 B2 NN
      refine hK.out _ _ q3 (fun hHeld2 => ?_)
      clear hK K hHeld
      try simp only [Act.put, List.setIfInBounds_toArray, List.set_cons_zero, List.set_cons_succ]
      refine wpAnyH_take (i := 7) (oi := ?o7) (v := ?v7) ?hi7 (by kernel_rfl) (by kernel_rfl) (by kernel_rfl) ?hq7 (Or.inl ⟨?hw7, ?hy7⟩) (by assumption) ?r7
      case hi7 => (simp only [List.getElem?_toArray, List.getElem?_cons_succ, List.getElem?_cons_zero]; exact rfl)
      case hq7 => exact fun _ _ _ h => h
      case hw7 => rfl
      case hy7 => (intro w hSw; (try dsimp only at hSw); go_simp; try exact rfl)
      simp only [Act.put, List.setIfInBounds_toArray, List.set_cons_zero, List.set_cons_succ]
      refine wpAnyH_ready (rs := [8]) (by kernel_rfl) (by simp) ?_
      refine AllReadyH.cons (o := ?o9) ?hi9 (fun K hK => ?_) AllReadyH.nil
      case hi9 => (simp only [List.getElem?_toArray, List.getElem?_cons_succ, List.getElem?_cons_zero]; exact rfl)
      go_simp
      refine hK.out _ _ g5.out.p0 (fun hHeld3 => ?_)
      clear hK K hHeld2 q1 q2 q3
      try simp only [Act.put, List.setIfInBounds_toArray, List.set_cons_zero, List.set_cons_succ]
      refine wpAnyH_done (by kernel_rfl) ?_ _
      refine NoPanic.normal ?_
      go_wp2
      go_roundw
      case rel => exact ⟨b + 1, V', by omega, by go_num, g5, b5⟩
      case measure => simp [Go.RowKit.intOf]; omega
    · have hbn' : ¬ (b : Int) < na := by omega
      obtain rfl : b = na := by omega
      obtain ⟨F', m1, m2⟩ := G.out.mx (m := s.np) (by omega) (fun a ha => by simp [some_, ha, colV_len])
      have M1 := Kept.mk (show Pc wr F' q s from ⟨W0.out, by
        rw [HA.out]
        exact m1.congr (fun a i ha hi => by simp only [some_, if_pos ha]; exact (colV_at _ _ _ _ hi).symm)⟩)
      have M2 := Kept.mk m2
      clear m1 m2
      go_wp2
      go_ret
      exact ⟨q, F', rfl, M1.out, barOf (by rw [HN.out]; exact B.out) [], fun k hk => .inr (by rw [HN.out]; exact M2.out k hk)⟩
end Go.Proofs.Ytlgeckgeiknmjaa.Purse
