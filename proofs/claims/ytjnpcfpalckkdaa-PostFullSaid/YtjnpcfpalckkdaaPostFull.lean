/-
  The law PostFull, walked.
-/
import Derived.Test.YtjnpcfpalckkdaaPostFirst
namespace Go.Proofs.Ytjnpcfpalckkdaa.Post
open Go.RowKit Go.Proofs.Ytjnpcfpalckkdaa.Sha

/-- a post of so many, none with bytes -/
def Bare (l : List PV) (k : Nat) : Prop := l.length = k ∧ ∀ p ∈ l, p.b = []
theorem bare_at {l : List PV} {k : Nat} (h : Bare l k) (i : Int) : (atP i l).b = [] := by
  unfold atP
  split
  · rename_i hi
    obtain ⟨j, rfl, hj⟩ := has_true hi
    rw [Int.toNat_natCast, List.getD_eq_getElem?_getD, List.getElem?_eq_getElem hj]
    exact h.2 _ (List.getElem_mem _)
  · rfl
theorem bare_put {l : List PV} {k : Nat} {m : Nat} (h : Bare l k) (to : Int) (hk : k ≤ m) : (putE m l [] = if k < m then 0 else 12) ∧ Bare (putP m l to []) (if k < m then k + 1 else m) := by
  unfold putP putE
  rw [h.1]
  by_cases hm : k < m
  · rw [if_neg (by omega), if_neg (by simp), if_pos hm, if_pos hm, if_pos rfl]
    refine ⟨rfl, by rw [List.length_append, h.1]; rfl, fun p hp => ?_⟩
    rcases List.mem_append.1 hp with hp | hp
    · exact h.2 p hp
    · rw [List.mem_singleton] at hp; subst hp; rfl
  · rw [if_pos (by omega), if_neg hm, if_neg hm, if_neg (by omega)]
    exact ⟨rfl, by rw [h.1]; omega, h.2⟩
theorem bare_copy {l : List PV} {k m : Nat} (h : Bare l k) (hk : k ≤ m) : (copyE m 0 l = if 0 < k then (if k < m then 0 else 12) else 8) ∧ Bare (copyP m 0 l) (if 0 < k then (if k < m then k + 1 else m) else k) := by
  unfold copyE copyP
  have hh : hasB 0 l = decide (0 < k) := by unfold hasB; rw [h.1]; simp
  rw [hh]
  by_cases h0 : 0 < k
  · simp only [h0, decide_true, if_true, bare_at h]
    exact bare_put h _ hk
  · simp only [h0, decide_false, Bool.false_eq_true, if_false]
    exact ⟨trivial, h⟩
theorem bare_del {l : List PV} {k : Nat} (h : Bare l k) (i : Nat) : (hasB i l = decide (i < k)) ∧ Bare (delP i l) (if i < k then k - 1 else k) := by
  have hh : hasB i l = decide (i < k) := by unfold hasB; rw [h.1]; simp
  unfold delP
  rw [hh]
  by_cases h0 : i < k
  · rw [if_pos (by simpa using h0), if_pos h0]
    refine ⟨rfl, by rw [List.length_append, List.length_take, List.length_drop, h.1, Int.toNat_natCast]; omega, fun p hp => h.2 p ?_⟩
    rcases List.mem_append.1 hp with hp | hp
    · exact List.mem_of_mem_take hp
    · exact List.mem_of_mem_drop hp
  · rw [if_neg (by simpa using h0), if_neg h0]
    exact ⟨rfl, h⟩
set_option maxRecDepth 100000 in
set_option maxHeartbeats 4000000 in
theorem pfull_walk (m0 ex : Int) (w : World) : Calls Try.prog 6 #[.int .i64 m0, .int .i64 ex] w fun e w' => e = .returned (.bool true) ∧ Below w.heap.size w w' := by
  obtain ⟨N, hN⟩ : ∃ N, w.heap.size = N := ⟨_, rfl⟩
  have EN : Kept (∀ wz, Below N w wz → Calls Try.prog 7 #[] wz fun e w' => e = .returned (.bool true) ∧ Below N w w' ∧ Below wz.heap.size wz w') := ⟨fun wz hz => (first_any wz).mono (fun e w' h => ⟨h.1, hz.trans (h.2.mono (by have := hz.size; omega)), h.2⟩)⟩
  by_cases hm : 1 ≤ m0 ∧ m0 ≤ 200
  · obtain ⟨m, rfl⟩ : ∃ m : Nat, m0 = m := ⟨m0.toNat, by omega⟩
    have q1 : ((m : Int) < 1) = False := eq_false (by omega)
    have q2 : (200 < (m : Int)) = False := eq_false (by omega)
    go_enter Try.func6, Try.ntmps6
    go_wp2_with fail
    refine (EN.out w (Below.refl _ _)).mono ?_
    rintro e w1 ⟨rfl, b1, -⟩
    have B := Kept.mk b1
    have hs1 := b1.size
    clear b1
    go_wp2_with fail
    refine (cnew_any m N w1 hm (by omega)).mono ?_
    rintro e w2 ⟨rfl, hp, bb⟩
    obtain ⟨x, hx⟩ : ∃ x, w1.heap.size = x := ⟨_, rfl⟩
    rw [hx] at hp bb ⊢
    have P := Kept.mk hp
    replace B := Kept.mk (B.out.trans (bb.mono (by omega)))
    clear hp bb hx hs1
    by_cases he : 0 ≤ ex ∧ ex ≤ 50
    · obtain ⟨xn, rfl⟩ : ∃ z : Nat, ex = z := ⟨ex.toNat, by omega⟩
      have q3 : ((xn : Int) < 0) = False := eq_false (by omega)
      have q4 : (50 < (xn : Int)) = False := eq_false (by omega)
      go_wp2_with fail
      go_loopw [7, 8] (fun i f wr => ∃ (k : Nat) (l : List PV) (F : List Nat) (u : Value), k ≤ m + xn ∧ i = .int .i64 k ∧ u = f ∧ Kept (Bare l (min k m)) ∧ Kept (Ps 52 F N wr x m l) ∧ Kept (Below N w wr)) (fun i _ _ => m + xn - (Go.RowKit.intOf i).toNat)
      case atStart => exact ⟨0, [], _, _, by omega, rfl, rfl, ⟨by simp, by simp⟩, P, B⟩
      case round =>
        clear P B
        obtain ⟨k, l, F, u, hk, rfl, rfl, HB, P, B⟩ := hrel
        by_cases hlt : k < m + xn
        · have hlt' : (k : Int) < (m : Int) + xn := by omega
          have HP := bare_put (m := m) HB.out k (by omega)
          have C := Kept.mk (cput_any (A := none) (n := 0) (c := 0) (b := []) k P.out Rd.nil_)
          obtain ⟨l2, hl2⟩ : ∃ z, putP m l k [] = z := ⟨_, rfl⟩
          rw [hl2] at C HP
          have HB2 : Kept (Bare l2 (min (k + 1) m)) := ⟨by
            have := HP.2
            by_cases h : min k m < m
            · rw [if_pos h] at this
              rwa [show min (k + 1) m = min k m + 1 by omega]
            · rw [if_neg h] at this
              rwa [show min (k + 1) m = m by omega]⟩
          unfold NumP at C
          by_cases h : k < m
          · rw [HP.1, if_pos (by omega)] at C
            have h' : (k : Int) < m := by omega
            clear HP hl2 HB
            go_wp2_with fail
            refine C.out.mono ?_
            rintro e w3 ⟨F3, rfl, hp, hf⟩
            have B3 := Kept.mk (P.out.step B.out hf)
            have P3 := Kept.mk hp
            clear C hp hf P B
            go_wp2
            go_roundw
            case rel => exact ⟨k + 1, l2, F3, _, by omega, by go_num, rfl, HB2, P3, B3⟩
            case measure => simp only [Go.RowKit.intOf]; omega
          · rw [HP.1, if_neg (by omega)] at C
            have h' : ((k : Int) < m) = False := eq_false (by omega)
            clear HP hl2 HB
            go_wp2_with fail
            refine C.out.mono ?_
            rintro e w3 ⟨F3, rfl, hp, hf⟩
            have B3 := Kept.mk (P.out.step B.out hf)
            have P3 := Kept.mk hp
            clear C hp hf P B
            go_wp2
            go_roundw
            case rel => exact ⟨k + 1, l2, F3, _, by omega, by go_num, rfl, HB2, P3, B3⟩
            case measure => simp only [Go.RowKit.intOf]; omega
        · have hke : k = m + xn := by omega
          subst hke
          replace HB : Kept (Bare l m) := ⟨by have := HB.out; rwa [show min (m + xn) m = m by omega] at this⟩
          have hl := HB.out.1
          have C := Kept.mk (clen_any P.out)
          rw [hl] at C
          have CC := bare_copy (m := m) HB.out (Nat.le_refl _)
          rw [if_pos (by omega), if_neg (by omega), if_pos (by omega), if_neg (by omega)] at CC
          have C2 := Kept.mk (ccopy_any 0 P.out)
          rw [CC.1] at C2
          obtain ⟨l2, hl2⟩ : ∃ z, copyP m 0 l = z := ⟨_, rfl⟩
          rw [hl2] at C2 CC
          have HB2 := Kept.mk CC.2
          unfold NumP at C2
          clear CC hl2 HB hl
          go_wp2_with fail
          refine C.out.mono ?_
          rintro e w3 ⟨rfl, rfl⟩
          clear C
          go_wp2_with fail
          refine C2.out.mono ?_
          rintro e w4 ⟨F4, rfl, hp, hf⟩
          replace B := Kept.mk (P.out.step B.out hf)
          replace P := Kept.mk hp
          clear C2 hp hf
          have D := bare_del HB2.out (m - 1)
          rw [if_pos (by omega)] at D
          have C := Kept.mk (cdrop_any ((m - 1 : Nat) : Int) P.out)
          rw [D.1, decide_eq_true (by omega : m - 1 < m)] at C
          obtain ⟨l3, hl3⟩ : ∃ z, delP ((m - 1 : Nat) : Int) l2 = z := ⟨_, rfl⟩
          rw [hl3] at C D
          have HB3 := Kept.mk D.2
          unfold NumP at C
          rw [show ((m - 1 : Nat) : Int) = (m : Int) - 1 by omega] at C
          clear D hl3 HB2
          go_wp2_with fail
          refine C.out.mono ?_
          rintro e w5 ⟨F5, rfl, hp, hf⟩
          replace B := Kept.mk (P.out.step B.out hf)
          replace P := Kept.mk hp
          clear C hp hf
          have D := bare_del HB3.out (m - 1)
          rw [if_neg (by omega)] at D
          have C := Kept.mk (cdrop_any ((m - 1 : Nat) : Int) P.out)
          rw [D.1, decide_eq_false (by omega : ¬ m - 1 < m - 1)] at C
          obtain ⟨l4, hl4⟩ : ∃ z, delP ((m - 1 : Nat) : Int) l3 = z := ⟨_, rfl⟩
          rw [hl4] at C D
          have HB4 := Kept.mk D.2
          unfold NumP at C
          rw [show ((m - 1 : Nat) : Int) = (m : Int) - 1 by omega] at C
          clear D hl4 HB3
          go_wp2_with fail
          refine C.out.mono ?_
          rintro e w6 ⟨F6, rfl, hp, hf⟩
          replace B := Kept.mk (P.out.step B.out hf)
          replace P := Kept.mk hp
          clear C hp hf
          have D := bare_copy (m := m) HB4.out (by omega)
          have C := Kept.mk (ccopy_any 0 P.out)
          obtain ⟨l5, hl5⟩ : ∃ z, copyP m 0 l4 = z := ⟨_, rfl⟩
          rw [hl5] at C D
          rw [D.1] at C
          unfold NumP at C
          clear hl5 HB4
          by_cases h1 : m = 1
          · subst h1
            rw [if_neg (by omega)] at C D
            rw [if_neg (by omega)] at D
            have HB5 := Kept.mk D.2
            clear D
            go_wp2_with fail
            refine C.out.mono ?_
            rintro e w7 ⟨F7, rfl, hp, hf⟩
            replace B := Kept.mk (P.out.step B.out hf)
            replace P := Kept.mk hp
            clear C hp hf
            go_wp2_with fail
            refine (EN.out w7 B.out).mono ?_
            rintro e w8 ⟨rfl, b8, b9⟩
            replace B := Kept.mk b8
            have C := Kept.mk (clen_any (P.out.below b9))
            rw [HB5.out.1] at C
            clear b8 b9
            go_wp2_with fail
            refine C.out.mono ?_
            rintro e w9 ⟨rfl, rfl⟩
            clear C
            go_wp2
            go_ret
            exact ⟨rfl, hN.symm ▸ B.out⟩
          · have h2 : 1 < m := by omega
            rw [if_pos (by omega), if_pos (by omega)] at C
            have D2 := D.2
            rw [if_pos (by omega), if_pos (by omega), show m - 1 + 1 = m by omega] at D2
            have HB5 := Kept.mk D2
            have h3 : (1 : Int) < m := by omega
            have h4 : ((m : Int) == (m : Int) - 1) = false := by simp; omega
            clear D D2 h1
            go_wp2_with fail
            refine C.out.mono ?_
            rintro e w7 ⟨F7, rfl, hp, hf⟩
            replace B := Kept.mk (P.out.step B.out hf)
            replace P := Kept.mk hp
            clear C hp hf
            go_wp2_with fail
            refine (EN.out w7 B.out).mono ?_
            rintro e w8 ⟨rfl, b8, b9⟩
            replace B := Kept.mk b8
            replace P := Kept.mk (P.out.below b9)
            have C := Kept.mk (clen_any P.out)
            rw [HB5.out.1] at C
            clear b8 b9
            go_wp2_with fail
            refine C.out.mono ?_
            rintro e w9 ⟨rfl, rfl⟩
            go_wp2_with fail
            refine C.out.mono ?_
            rintro e w9 ⟨rfl, rfl⟩
            clear C
            go_wp2
            go_ret
            exact ⟨rfl, hN.symm ▸ B.out⟩
    · by_cases h0 : ex < 0
      · clear he
        go_wp2_with fail
        refine (EN.out w2 B.out).mono ?_
        rintro e w3 ⟨rfl, b3, -⟩
        replace B := Kept.mk b3
        clear b3
        go_wp2
        go_ret
        exact ⟨rfl, hN.symm ▸ B.out⟩
      · have q3 : (ex < 0) = False := eq_false h0
        have q4 : 50 < ex := by omega
        clear he h0
        go_wp2_with fail
        refine (EN.out w2 B.out).mono ?_
        rintro e w3 ⟨rfl, b3, -⟩
        replace B := Kept.mk b3
        clear b3
        go_wp2
        go_ret
        exact ⟨rfl, hN.symm ▸ B.out⟩
  · have CN := fun wz => cnew_no m0 wz hm
    go_enter Try.func6, Try.ntmps6
    go_wp2_with fail
    refine (EN.out w (Below.refl _ _)).mono ?_
    rintro e w1 ⟨rfl, b1, -⟩
    have B := Kept.mk b1
    clear b1
    go_wp2_with fail
    refine (CN w1).mono ?_
    rintro e w2 ⟨rfl, rfl⟩
    by_cases h0 : m0 < 1
    · clear hm
      go_wp2_with fail
      refine (EN.out w1 B.out).mono ?_
      rintro e w3 ⟨rfl, b3, -⟩
      replace B := Kept.mk b3
      clear b3
      go_wp2
      go_ret
      exact ⟨rfl, hN.symm ▸ B.out⟩
    · have q3 : (m0 < 1) = False := eq_false h0
      have q4 : 200 < m0 := by omega
      clear hm h0
      go_wp2_with fail
      refine (EN.out w1 B.out).mono ?_
      rintro e w3 ⟨rfl, b3, -⟩
      replace B := Kept.mk b3
      clear b3
      go_wp2
      go_ret
      exact ⟨rfl, hN.symm ▸ B.out⟩
end Go.Proofs.Ytjnpcfpalckkdaa.Post
