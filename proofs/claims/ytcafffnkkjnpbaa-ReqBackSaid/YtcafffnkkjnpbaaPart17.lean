/-
  Parts laid together: ReqCGAll ReqCDec ReqCDecA ReqCodeApi.
-/
import Derived.Test.YtcafffnkkjnpbaaPart16
import Derived.Test.YtcafffnkkjnpbaaPart8
import Derived.Test.YtcafffnkkjnpbaaPart7
import Derived.Test.YtcafffnkkjnpbaaPart9
import Derived.Test.YtcafffnkkjnpbaaPart10

namespace Go.Proofs.Ytcafffnkkjnpbaa.Req
open Go.RowKit Go.Proofs.Ytcafffnkkjnpbaa.Sha Go.Proofs.Ytcafffnkkjnpbaa.Wire

/-- what getAll answers -/
def GetPost {α : Type} (C : α → List Value) (s d : Nat) (G : List Nat) (it : List α × St) (P : Prop) (w : World) (x : Ending) (w' : World) : Prop :=
  ∃ q A m c, x = .returned (.tuple #[.slice A m c, .bool q]) ∧ m ≤ c ∧ c ≤ 9223372036854775807 ∧ (q = true ↔ P) ∧ Bar [d] w w' ∧ (∀ b o, A = some ⟨b, o, none⟩ → w.heap.size ≤ b) ∧ (q = true → Rc C s w' A m it.1 ∧ De 104 w' d G it.2)

theorem decNum_nonneg (st : St) (s : Int) : 0 ≤ (decNum st s).1 := by
  unfold decNum
  split
  · split
    · split
      · exact Int.natCast_nonneg _
      · exact Int.le_refl _
    · exact Int.le_refl _
  · exact Int.le_refl _

set_option maxRecDepth 100000 in
set_option maxHeartbeats 2000000 in
theorem getallr_any {w : World} {d : Nat} {G : List Nat} {st : St} (h : De 104 w d G st) (hd : d ∉ G) :
    Calls Try.prog 37 #[.pointer (some ⟨d, 0, none⟩), .int .i64 1, .int .i64 64, .func (.func 38) #[] #[]] w (GetPost rvC 8 d G (iter cReq (decNum st 1).1.toNat (decNum st 1).2) ((decNum st 1).1 ≤ 64 ∧ ∀ r ∈ (iter cReq (decNum st 1).1.toNat (decNum st 1).2).1, HoldR r) w) := by
  have hby := h.bytes
  have hbs := decNum_bytes st 1 hby
  have h0 : 0 ≤ (decNum st 1).1 := decNum_nonneg st 1
  have KC := dnum_any w d G 1 st h hd
  have hlt := h.lt; have hG := Kept.mk h.1
  clear h hby
  obtain ⟨a, ha⟩ : ∃ a, decNum st 1 = a := ⟨_, rfl⟩
  rw [ha] at KC hbs h0 ⊢
  clear ha
  obtain ⟨z, s1⟩ := a
  dsimp only at KC hbs h0 ⊢
  obtain ⟨n, rfl⟩ : ∃ n : Nat, z = n := ⟨z.toNat, by omega⟩
  rw [Int.toNat_natCast]
  generalize hP : ((n : Int) ≤ 64 ∧ ∀ r ∈ (iter cReq n s1).1, HoldR r) = P
  have HP := Kept.mk hP
  have HBS := Kept.mk hbs
  clear hP hbs h0
  have KK := Kept.mk KC
  clear KC
  by_cases hm : (n : Int) ≤ 64
  · have hnm : n ≤ 400 := by omega
    go_enter Try.func37, Try.ntmps37
    go_wp2_with fail
    refine KK.out.mono ?_
    rintro x w1 ⟨rfl, he, b⟩
    have B := Kept.mk b
    have hlt1 : d < w1.heap.size := he.lt
    obtain ⟨w2, cs0, hmk, hblk, hcs, b2⟩ := make_req w1 n hnm
    obtain ⟨M, hM⟩ : ∃ M, w1.heap.size = M := ⟨_, rfl⟩
    have hMw : w.heap.size ≤ M := by rw [← hM]; exact b.size
    have DM : Kept (M ∉ [d] ∧ d ∉ [M] ∧ Disj G [M]) := ⟨by simp; omega, by simp; omega, fun g hg hm => by have := hG.out g hg; simp at hm; omega⟩
    rw [hM] at hmk hblk
    have X := Kept.mk hblk
    have RP : Kept (RowP rvC 8 n cs0 (iter cReq 0 s1).1) := ⟨RowP.new hcs⟩
    have HD : Kept (De 104 w2 d G (iter cReq 0 s1).2) := ⟨he.below b2⟩
    replace B := Kept.mk (B.out.trans (barOf b2 [d]) (fun x hx => .inl hx))
    have MW := Kept.mk hMw; have HLN : Kept (∀ k, (iter cReq k s1).1.length = k) := ⟨fun k => iter_len _ k s1⟩
    have HH : Kept (∀ r ∈ (iter cReq 0 s1).1, HoldR r) := ⟨by simp [iter]⟩
    clear he b KK hblk hcs b2 hlt hM hMw hlt1
    go_wp2
    clear hmk
    go_loopw [24] (fun i wr => ∃ (k : Nat) (cs : Array Value), k ≤ n ∧ i = .int .i64 k ∧ Kept (De 104 wr d G (iter cReq k s1).2) ∧ Kept (Blk wr M 48 cs) ∧ Kept (RowP rvC 8 n cs (iter cReq k s1).1) ∧ Kept (Bar [d] w wr) ∧ Kept (∀ r ∈ (iter cReq k s1).1, HoldR r)) (fun i _ => n - (Go.RowKit.intOf i).toNat)
    case atStart => exact ⟨0, cs0, by omega, rfl, HD, X, RP, B, HH⟩
    case round =>
      clear HD X RP B HH
      obtain ⟨k, cs, hk, rfl, HD, X, RP, B, HH⟩ := hrel
      by_cases hkn : k < n
      · have hkn' : (k : Int) < n := by omega
        have KC := cgetr_any HD.out hd
        have hit : iter cReq (k + 1) s1 = ((iter cReq k s1).1 ++ [(cReq (iter cReq k s1).2).1], (cReq (iter cReq k s1).2).2) := rfl
        have hin : (cReq (iter cReq k s1).2).1 ∈ (iter cReq n s1).1 := iter_mem cReq s1 hkn
        obtain ⟨R, hR⟩ : ∃ R, cReq (iter cReq k s1).2 = R := ⟨_, rfl⟩
        rw [hR] at KC hit hin
        have HIT := Kept.mk hit; have HIN := Kept.mk hin
        clear hR hit hin
        obtain ⟨R, st2⟩ := R
        obtain ⟨kind, dst, asset, amount, id, due, hash, sec⟩ := R
        unfold rqv at KC
        dsimp only at KC HIT HIN
        have KK := Kept.mk KC
        clear KC
        by_cases hh : HoldR ⟨kind, dst, asset, amount, id, due, hash, sec⟩
        · have KD := KK.out
          rw [decide_eq_true hh] at KD
          replace KK := Kept.mk KD
          have HH2 : Kept (∀ r ∈ (iter cReq (k + 1) s1).1, HoldR r) := ⟨by
            rw [HIT.out]
            intro y hy
            rcases List.mem_append.1 hy with hy | hy
            · exact HH.out y hy
            · rw [List.mem_singleton] at hy; subst hy; exact hh⟩
          clear KD hh HIN
          go_wp2_with fail
          refine KK.out.mono ?_
          rintro x w3 ⟨rfl, -, he, b⟩
          replace X := Kept.mk (X.out.bar b DM.out.1)
          replace B := Kept.mk (B.out.trans b (fun x hx => .inl hx))
          have hsz : k * 8 + 8 ≤ cs.size := by rw [RP.out.size]; omega
          obtain ⟨u0, c0⟩ : ∃ u, w3.cell? ⟨M, k * 8, none⟩ = some u := ⟨_, (X.out.cell (k * 8)).trans (Array.getElem?_eq_getElem (by omega))⟩
          have f0 := X.out.frozen (k * 8)
          obtain ⟨u1, c1⟩ : ∃ u, w3.cell? ⟨M, k * 8 + 1, none⟩ = some u := ⟨_, (X.out.cell (k * 8 + 1)).trans (Array.getElem?_eq_getElem (by omega))⟩
          have f1 := X.out.frozen (k * 8 + 1)
          obtain ⟨u2, c2⟩ : ∃ u, w3.cell? ⟨M, k * 8 + 2, none⟩ = some u := ⟨_, (X.out.cell (k * 8 + 2)).trans (Array.getElem?_eq_getElem (by omega))⟩
          have f2 := X.out.frozen (k * 8 + 2)
          obtain ⟨u3, c3⟩ : ∃ u, w3.cell? ⟨M, k * 8 + 3, none⟩ = some u := ⟨_, (X.out.cell (k * 8 + 3)).trans (Array.getElem?_eq_getElem (by omega))⟩
          have f3 := X.out.frozen (k * 8 + 3)
          obtain ⟨u4, c4⟩ : ∃ u, w3.cell? ⟨M, k * 8 + 4, none⟩ = some u := ⟨_, (X.out.cell (k * 8 + 4)).trans (Array.getElem?_eq_getElem (by omega))⟩
          have f4 := X.out.frozen (k * 8 + 4)
          obtain ⟨u5, c5⟩ : ∃ u, w3.cell? ⟨M, k * 8 + 5, none⟩ = some u := ⟨_, (X.out.cell (k * 8 + 5)).trans (Array.getElem?_eq_getElem (by omega))⟩
          have f5 := X.out.frozen (k * 8 + 5)
          obtain ⟨u6, c6⟩ : ∃ u, w3.cell? ⟨M, k * 8 + 6, none⟩ = some u := ⟨_, (X.out.cell (k * 8 + 6)).trans (Array.getElem?_eq_getElem (by omega))⟩
          have f6 := X.out.frozen (k * 8 + 6)
          obtain ⟨u7, c7⟩ : ∃ u, w3.cell? ⟨M, k * 8 + 7, none⟩ = some u := ⟨_, (X.out.cell (k * 8 + 7)).trans (Array.getElem?_eq_getElem (by omega))⟩
          have f7 := X.out.frozen (k * 8 + 7)
          have RP2 : Kept (RowP rvC 8 n ((((((((cs.setIfInBounds (k * 8) (.int .i64 kind)).setIfInBounds (k * 8 + 1) (.int .i64 dst)).setIfInBounds (k * 8 + 2) (.int .i64 asset)).setIfInBounds (k * 8 + 3) (.int .i64 amount)).setIfInBounds (k * 8 + 4) (.int .i64 id)).setIfInBounds (k * 8 + 5) (.int .i64 due)).setIfInBounds (k * 8 + 6) (.string (strOfNums hash))).setIfInBounds (k * 8 + 7) (.string (strOfNums sec))) (iter cReq (k + 1) s1).1) := ⟨by
            rw [HIT.out]
            refine RP.out.next (HLN.out k) (fun _ => rfl) (by simp) ?_ ?_
            · intro j v hv
              have hj : j < 8 := (List.getElem?_eq_some_iff.1 hv).1
              have hj2 : j = 0 ∨ j = 1 ∨ j = 2 ∨ j = 3 ∨ j = 4 ∨ j = 5 ∨ j = 6 ∨ j = 7 := by omega
              rcases hj2 with rfl | rfl | rfl | rfl | rfl | rfl | rfl | rfl <;> (simp only [rvC] at hv; simp at hv; subst hv; simp [Array.getElem?_setIfInBounds]; try omega)
            · intro i hi
              simp only [Array.getElem?_setIfInBounds]
              rw [if_neg (by omega)]; rw [if_neg (by omega)]; rw [if_neg (by omega)]; rw [if_neg (by omega)]; rw [if_neg (by omega)]; rw [if_neg (by omega)]; rw [if_neg (by omega)]; rw [if_neg (by omega)]⟩
          have hbM : Bar [M] w3 ((((((((w3.setCell ⟨M, k * 8, none⟩ (.int .i64 kind)).setCell ⟨M, k * 8 + 1, none⟩ (.int .i64 dst)).setCell ⟨M, k * 8 + 2, none⟩ (.int .i64 asset)).setCell ⟨M, k * 8 + 3, none⟩ (.int .i64 amount)).setCell ⟨M, k * 8 + 4, none⟩ (.int .i64 id)).setCell ⟨M, k * 8 + 5, none⟩ (.int .i64 due)).setCell ⟨M, k * 8 + 6, none⟩ (.string (strOfNums hash))).setCell ⟨M, k * 8 + 7, none⟩ (.string (strOfNums sec))) := (Bar.setCell (Bar.setCell (Bar.setCell (Bar.setCell (Bar.setCell (Bar.setCell (Bar.setCell (Bar.setCell (Bar.refl _ _) (p := ⟨M, k * 8, none⟩) (.inl (by simp)) (.int .i64 kind)) (p := ⟨M, k * 8 + 1, none⟩) (.inl (by simp)) (.int .i64 dst)) (p := ⟨M, k * 8 + 2, none⟩) (.inl (by simp)) (.int .i64 asset)) (p := ⟨M, k * 8 + 3, none⟩) (.inl (by simp)) (.int .i64 amount)) (p := ⟨M, k * 8 + 4, none⟩) (.inl (by simp)) (.int .i64 id)) (p := ⟨M, k * 8 + 5, none⟩) (.inl (by simp)) (.int .i64 due)) (p := ⟨M, k * 8 + 6, none⟩) (.inl (by simp)) (.string (strOfNums hash))) (p := ⟨M, k * 8 + 7, none⟩) (.inl (by simp)) (.string (strOfNums sec)))
          replace X : Kept (Blk ((((((((w3.setCell ⟨M, k * 8, none⟩ (.int .i64 kind)).setCell ⟨M, k * 8 + 1, none⟩ (.int .i64 dst)).setCell ⟨M, k * 8 + 2, none⟩ (.int .i64 asset)).setCell ⟨M, k * 8 + 3, none⟩ (.int .i64 amount)).setCell ⟨M, k * 8 + 4, none⟩ (.int .i64 id)).setCell ⟨M, k * 8 + 5, none⟩ (.int .i64 due)).setCell ⟨M, k * 8 + 6, none⟩ (.string (strOfNums hash))).setCell ⟨M, k * 8 + 7, none⟩ (.string (strOfNums sec))) M 48 ((((((((cs.setIfInBounds (k * 8) (.int .i64 kind)).setIfInBounds (k * 8 + 1) (.int .i64 dst)).setIfInBounds (k * 8 + 2) (.int .i64 asset)).setIfInBounds (k * 8 + 3) (.int .i64 amount)).setIfInBounds (k * 8 + 4) (.int .i64 id)).setIfInBounds (k * 8 + 5) (.int .i64 due)).setIfInBounds (k * 8 + 6) (.string (strOfNums hash))).setIfInBounds (k * 8 + 7) (.string (strOfNums sec)))) := ⟨(Blk.set_ (Blk.set_ (Blk.set_ (Blk.set_ (Blk.set_ (Blk.set_ (Blk.set_ (Blk.set_ X.out (k * 8) (.int .i64 kind)) (k * 8 + 1) (.int .i64 dst)) (k * 8 + 2) (.int .i64 asset)) (k * 8 + 3) (.int .i64 amount)) (k * 8 + 4) (.int .i64 id)) (k * 8 + 5) (.int .i64 due)) (k * 8 + 6) (.string (strOfNums hash))) (k * 8 + 7) (.string (strOfNums sec)))⟩
          have HD2 : Kept (De 104 ((((((((w3.setCell ⟨M, k * 8, none⟩ (.int .i64 kind)).setCell ⟨M, k * 8 + 1, none⟩ (.int .i64 dst)).setCell ⟨M, k * 8 + 2, none⟩ (.int .i64 asset)).setCell ⟨M, k * 8 + 3, none⟩ (.int .i64 amount)).setCell ⟨M, k * 8 + 4, none⟩ (.int .i64 id)).setCell ⟨M, k * 8 + 5, none⟩ (.int .i64 due)).setCell ⟨M, k * 8 + 6, none⟩ (.string (strOfNums hash))).setCell ⟨M, k * 8 + 7, none⟩ (.string (strOfNums sec))) d G (iter cReq (k + 1) s1).2) := ⟨by rw [HIT.out]; exact he.keep hbM DM.out.2.1 DM.out.2.2⟩
          replace B := Kept.mk (B.out.trans hbM (fun x hx => .inr (by simp at hx; subst hx; exact MW.out)))
          clear he b KK hbM hsz RP HD
          go_wp2
          go_roundw
          case rel => exact ⟨k + 1, _, by omega, by go_num, HD2, X, RP2, B, HH2⟩
          case measure => simp [Go.RowKit.intOf]; omega
        · have KD := KK.out
          rw [decide_eq_false hh] at KD
          replace KK := Kept.mk KD
          have NO : Kept (¬ P) := ⟨fun h => by rw [← HP.out] at h; exact hh (h.2 _ HIN.out)⟩
          clear KD hh HIN
          go_wp2_with fail
          refine KK.out.mono ?_
          rintro x w3 ⟨rfl, -, he, b⟩
          replace X := Kept.mk (X.out.bar b DM.out.1)
          replace B := Kept.mk (B.out.trans b (fun x hx => .inl hx))
          have hsz : k * 8 + 8 ≤ cs.size := by rw [RP.out.size]; omega
          obtain ⟨u0, c0⟩ : ∃ u, w3.cell? ⟨M, k * 8, none⟩ = some u := ⟨_, (X.out.cell (k * 8)).trans (Array.getElem?_eq_getElem (by omega))⟩
          have f0 := X.out.frozen (k * 8)
          obtain ⟨u1, c1⟩ : ∃ u, w3.cell? ⟨M, k * 8 + 1, none⟩ = some u := ⟨_, (X.out.cell (k * 8 + 1)).trans (Array.getElem?_eq_getElem (by omega))⟩
          have f1 := X.out.frozen (k * 8 + 1)
          obtain ⟨u2, c2⟩ : ∃ u, w3.cell? ⟨M, k * 8 + 2, none⟩ = some u := ⟨_, (X.out.cell (k * 8 + 2)).trans (Array.getElem?_eq_getElem (by omega))⟩
          have f2 := X.out.frozen (k * 8 + 2)
          obtain ⟨u3, c3⟩ : ∃ u, w3.cell? ⟨M, k * 8 + 3, none⟩ = some u := ⟨_, (X.out.cell (k * 8 + 3)).trans (Array.getElem?_eq_getElem (by omega))⟩
          have f3 := X.out.frozen (k * 8 + 3)
          obtain ⟨u4, c4⟩ : ∃ u, w3.cell? ⟨M, k * 8 + 4, none⟩ = some u := ⟨_, (X.out.cell (k * 8 + 4)).trans (Array.getElem?_eq_getElem (by omega))⟩
          have f4 := X.out.frozen (k * 8 + 4)
          obtain ⟨u5, c5⟩ : ∃ u, w3.cell? ⟨M, k * 8 + 5, none⟩ = some u := ⟨_, (X.out.cell (k * 8 + 5)).trans (Array.getElem?_eq_getElem (by omega))⟩
          have f5 := X.out.frozen (k * 8 + 5)
          obtain ⟨u6, c6⟩ : ∃ u, w3.cell? ⟨M, k * 8 + 6, none⟩ = some u := ⟨_, (X.out.cell (k * 8 + 6)).trans (Array.getElem?_eq_getElem (by omega))⟩
          have f6 := X.out.frozen (k * 8 + 6)
          obtain ⟨u7, c7⟩ : ∃ u, w3.cell? ⟨M, k * 8 + 7, none⟩ = some u := ⟨_, (X.out.cell (k * 8 + 7)).trans (Array.getElem?_eq_getElem (by omega))⟩
          have f7 := X.out.frozen (k * 8 + 7)
          have RP2 : Kept (RowP rvC 8 n ((((((((cs.setIfInBounds (k * 8) (.int .i64 kind)).setIfInBounds (k * 8 + 1) (.int .i64 dst)).setIfInBounds (k * 8 + 2) (.int .i64 asset)).setIfInBounds (k * 8 + 3) (.int .i64 amount)).setIfInBounds (k * 8 + 4) (.int .i64 id)).setIfInBounds (k * 8 + 5) (.int .i64 due)).setIfInBounds (k * 8 + 6) (.string (strOfNums hash))).setIfInBounds (k * 8 + 7) (.string (strOfNums sec))) (iter cReq (k + 1) s1).1) := ⟨by
            rw [HIT.out]
            refine RP.out.next (HLN.out k) (fun _ => rfl) (by simp) ?_ ?_
            · intro j v hv
              have hj : j < 8 := (List.getElem?_eq_some_iff.1 hv).1
              have hj2 : j = 0 ∨ j = 1 ∨ j = 2 ∨ j = 3 ∨ j = 4 ∨ j = 5 ∨ j = 6 ∨ j = 7 := by omega
              rcases hj2 with rfl | rfl | rfl | rfl | rfl | rfl | rfl | rfl <;> (simp only [rvC] at hv; simp at hv; subst hv; simp [Array.getElem?_setIfInBounds]; try omega)
            · intro i hi
              simp only [Array.getElem?_setIfInBounds]
              rw [if_neg (by omega)]; rw [if_neg (by omega)]; rw [if_neg (by omega)]; rw [if_neg (by omega)]; rw [if_neg (by omega)]; rw [if_neg (by omega)]; rw [if_neg (by omega)]; rw [if_neg (by omega)]⟩
          have hbM : Bar [M] w3 ((((((((w3.setCell ⟨M, k * 8, none⟩ (.int .i64 kind)).setCell ⟨M, k * 8 + 1, none⟩ (.int .i64 dst)).setCell ⟨M, k * 8 + 2, none⟩ (.int .i64 asset)).setCell ⟨M, k * 8 + 3, none⟩ (.int .i64 amount)).setCell ⟨M, k * 8 + 4, none⟩ (.int .i64 id)).setCell ⟨M, k * 8 + 5, none⟩ (.int .i64 due)).setCell ⟨M, k * 8 + 6, none⟩ (.string (strOfNums hash))).setCell ⟨M, k * 8 + 7, none⟩ (.string (strOfNums sec))) := (Bar.setCell (Bar.setCell (Bar.setCell (Bar.setCell (Bar.setCell (Bar.setCell (Bar.setCell (Bar.setCell (Bar.refl _ _) (p := ⟨M, k * 8, none⟩) (.inl (by simp)) (.int .i64 kind)) (p := ⟨M, k * 8 + 1, none⟩) (.inl (by simp)) (.int .i64 dst)) (p := ⟨M, k * 8 + 2, none⟩) (.inl (by simp)) (.int .i64 asset)) (p := ⟨M, k * 8 + 3, none⟩) (.inl (by simp)) (.int .i64 amount)) (p := ⟨M, k * 8 + 4, none⟩) (.inl (by simp)) (.int .i64 id)) (p := ⟨M, k * 8 + 5, none⟩) (.inl (by simp)) (.int .i64 due)) (p := ⟨M, k * 8 + 6, none⟩) (.inl (by simp)) (.string (strOfNums hash))) (p := ⟨M, k * 8 + 7, none⟩) (.inl (by simp)) (.string (strOfNums sec)))
          replace X : Kept (Blk ((((((((w3.setCell ⟨M, k * 8, none⟩ (.int .i64 kind)).setCell ⟨M, k * 8 + 1, none⟩ (.int .i64 dst)).setCell ⟨M, k * 8 + 2, none⟩ (.int .i64 asset)).setCell ⟨M, k * 8 + 3, none⟩ (.int .i64 amount)).setCell ⟨M, k * 8 + 4, none⟩ (.int .i64 id)).setCell ⟨M, k * 8 + 5, none⟩ (.int .i64 due)).setCell ⟨M, k * 8 + 6, none⟩ (.string (strOfNums hash))).setCell ⟨M, k * 8 + 7, none⟩ (.string (strOfNums sec))) M 48 ((((((((cs.setIfInBounds (k * 8) (.int .i64 kind)).setIfInBounds (k * 8 + 1) (.int .i64 dst)).setIfInBounds (k * 8 + 2) (.int .i64 asset)).setIfInBounds (k * 8 + 3) (.int .i64 amount)).setIfInBounds (k * 8 + 4) (.int .i64 id)).setIfInBounds (k * 8 + 5) (.int .i64 due)).setIfInBounds (k * 8 + 6) (.string (strOfNums hash))).setIfInBounds (k * 8 + 7) (.string (strOfNums sec)))) := ⟨(Blk.set_ (Blk.set_ (Blk.set_ (Blk.set_ (Blk.set_ (Blk.set_ (Blk.set_ (Blk.set_ X.out (k * 8) (.int .i64 kind)) (k * 8 + 1) (.int .i64 dst)) (k * 8 + 2) (.int .i64 asset)) (k * 8 + 3) (.int .i64 amount)) (k * 8 + 4) (.int .i64 id)) (k * 8 + 5) (.int .i64 due)) (k * 8 + 6) (.string (strOfNums hash))) (k * 8 + 7) (.string (strOfNums sec)))⟩
          have HD2 : Kept (De 104 ((((((((w3.setCell ⟨M, k * 8, none⟩ (.int .i64 kind)).setCell ⟨M, k * 8 + 1, none⟩ (.int .i64 dst)).setCell ⟨M, k * 8 + 2, none⟩ (.int .i64 asset)).setCell ⟨M, k * 8 + 3, none⟩ (.int .i64 amount)).setCell ⟨M, k * 8 + 4, none⟩ (.int .i64 id)).setCell ⟨M, k * 8 + 5, none⟩ (.int .i64 due)).setCell ⟨M, k * 8 + 6, none⟩ (.string (strOfNums hash))).setCell ⟨M, k * 8 + 7, none⟩ (.string (strOfNums sec))) d G (iter cReq (k + 1) s1).2) := ⟨by rw [HIT.out]; exact he.keep hbM DM.out.2.1 DM.out.2.2⟩
          replace B := Kept.mk (B.out.trans hbM (fun x hx => .inr (by simp at hx; subst hx; exact MW.out)))
          clear he b KK hbM hsz RP HD
          go_wp2
          go_ret2
          exact ⟨false, none, 0, 0, rfl, Nat.le_refl _, by omega, ⟨fun h => (by cases h), fun h => (NO.out h).elim⟩, B.out, fun b o h => (by cases h), fun h => (by cases h)⟩
      · have hkn' : ¬ (k : Int) < n := by omega
        obtain rfl : k = n := by omega
        have YES : Kept P := ⟨by rw [← HP.out]; exact ⟨hm, HH.out⟩⟩
        have RC := Kept.mk (RP.out.read X.out (HLN.out k))
        go_wp2
        go_ret2
        exact ⟨true, _, k, k, rfl, Nat.le_refl _, by omega, ⟨fun _ => YES.out, fun _ => rfl⟩, B.out, fun b o h => by injection h with h; injection h with h1; rw [← h1]; exact MW.out, fun _ => ⟨RC.out, HD.out⟩⟩
  · have hm2 : (64 : Int) < n := by omega
    have NO : Kept (¬ P) := ⟨fun h => by rw [← HP.out] at h; exact hm h.1⟩
    clear hm
    go_enter Try.func37, Try.ntmps37
    go_wp2_with fail
    refine KK.out.mono ?_
    rintro x w1 ⟨rfl, he, b⟩
    have B := Kept.mk b
    clear he b KK
    go_wp2
    go_ret2
    exact ⟨false, none, 0, 0, rfl, Nat.le_refl _, by omega, ⟨fun h => (by cases h), fun h => (NO.out h).elim⟩, B.out, fun b o h => (by cases h), fun h => (by cases h)⟩

set_option maxRecDepth 100000 in
set_option maxHeartbeats 2000000 in
theorem getallp_any {w : World} {d : Nat} {G : List Nat} {st : St} (h : De 104 w d G st) (hd : d ∉ G) :
    Calls Try.prog 53 #[.pointer (some ⟨d, 0, none⟩), .int .i64 1, .int .i64 64, .func (.func 54) #[] #[]] w (GetPost pvC 2 d G (iter cRep (decNum st 1).1.toNat (decNum st 1).2) ((decNum st 1).1 ≤ 64) w) := by
  have hby := h.bytes
  have hbs := decNum_bytes st 1 hby
  have h0 : 0 ≤ (decNum st 1).1 := decNum_nonneg st 1
  have KC := dnum_any w d G 1 st h hd
  have hlt := h.lt; have hG := Kept.mk h.1
  clear h hby
  obtain ⟨a, ha⟩ : ∃ a, decNum st 1 = a := ⟨_, rfl⟩
  rw [ha] at KC hbs h0 ⊢
  clear ha
  obtain ⟨z, s1⟩ := a
  dsimp only at KC hbs h0 ⊢
  obtain ⟨n, rfl⟩ : ∃ n : Nat, z = n := ⟨z.toNat, by omega⟩
  rw [Int.toNat_natCast]
  generalize hP : ((n : Int) ≤ 64) = P
  have HP := Kept.mk hP
  have HBS := Kept.mk hbs
  clear hP hbs h0
  have KK := Kept.mk KC
  clear KC
  by_cases hm : (n : Int) ≤ 64
  · have hnm : n ≤ 400 := by omega
    go_enter Try.func53, Try.ntmps53
    go_wp2_with fail
    refine KK.out.mono ?_
    rintro x w1 ⟨rfl, he, b⟩
    have B := Kept.mk b
    have hlt1 : d < w1.heap.size := he.lt
    obtain ⟨w2, cs0, hmk, hblk, hcs, b2⟩ := make_rep w1 n hnm
    obtain ⟨M, hM⟩ : ∃ M, w1.heap.size = M := ⟨_, rfl⟩
    have hMw : w.heap.size ≤ M := by rw [← hM]; exact b.size
    have DM : Kept (M ∉ [d] ∧ d ∉ [M] ∧ Disj G [M]) := ⟨by simp; omega, by simp; omega, fun g hg hm => by have := hG.out g hg; simp at hm; omega⟩
    rw [hM] at hmk hblk
    have X := Kept.mk hblk
    have RP : Kept (RowP pvC 2 n cs0 (iter cRep 0 s1).1) := ⟨RowP.new hcs⟩
    have HD : Kept (De 104 w2 d G (iter cRep 0 s1).2) := ⟨he.below b2⟩
    replace B := Kept.mk (B.out.trans (barOf b2 [d]) (fun x hx => .inl hx))
    have MW := Kept.mk hMw; have HLN : Kept (∀ k, (iter cRep k s1).1.length = k) := ⟨fun k => iter_len _ k s1⟩
    clear he b KK hblk hcs b2 hlt hM hMw hlt1
    go_wp2
    clear hmk
    go_loopw [24] (fun i wr => ∃ (k : Nat) (cs : Array Value), k ≤ n ∧ i = .int .i64 k ∧ Kept (De 104 wr d G (iter cRep k s1).2) ∧ Kept (Blk wr M 80 cs) ∧ Kept (RowP pvC 2 n cs (iter cRep k s1).1) ∧ Kept (Bar [d] w wr)) (fun i _ => n - (Go.RowKit.intOf i).toNat)
    case atStart => exact ⟨0, cs0, by omega, rfl, HD, X, RP, B⟩
    case round =>
      clear HD X RP B
      obtain ⟨k, cs, hk, rfl, HD, X, RP, B⟩ := hrel
      by_cases hkn : k < n
      · have hkn' : (k : Int) < n := by omega
        have KC := cgetp_any HD.out hd
        have hit : iter cRep (k + 1) s1 = ((iter cRep k s1).1 ++ [(cRep (iter cRep k s1).2).1], (cRep (iter cRep k s1).2).2) := rfl
        have hin : (cRep (iter cRep k s1).2).1 ∈ (iter cRep n s1).1 := iter_mem cRep s1 hkn
        obtain ⟨R, hR⟩ : ∃ R, cRep (iter cRep k s1).2 = R := ⟨_, rfl⟩
        rw [hR] at KC hit hin
        have HIT := Kept.mk hit; have HIN := Kept.mk hin
        clear hR hit hin
        obtain ⟨R, st2⟩ := R
        obtain ⟨code, id⟩ := R
        unfold pqv at KC
        dsimp only at KC HIT HIN
        have KK := Kept.mk KC
        clear KC
        go_wp2_with fail
        refine KK.out.mono ?_
        rintro x w3 ⟨rfl, he, b⟩
        replace X := Kept.mk (X.out.bar b DM.out.1)
        replace B := Kept.mk (B.out.trans b (fun x hx => .inl hx))
        have hsz : k * 2 + 2 ≤ cs.size := by rw [RP.out.size]; omega
        obtain ⟨u0, c0⟩ : ∃ u, w3.cell? ⟨M, k * 2, none⟩ = some u := ⟨_, (X.out.cell (k * 2)).trans (Array.getElem?_eq_getElem (by omega))⟩
        have f0 := X.out.frozen (k * 2)
        obtain ⟨u1, c1⟩ : ∃ u, w3.cell? ⟨M, k * 2 + 1, none⟩ = some u := ⟨_, (X.out.cell (k * 2 + 1)).trans (Array.getElem?_eq_getElem (by omega))⟩
        have f1 := X.out.frozen (k * 2 + 1)
        have RP2 : Kept (RowP pvC 2 n ((cs.setIfInBounds (k * 2) (.int .i64 code)).setIfInBounds (k * 2 + 1) (.int .i64 id)) (iter cRep (k + 1) s1).1) := ⟨by
          rw [HIT.out]
          refine RP.out.next (HLN.out k) (fun _ => rfl) (by simp) ?_ ?_
          · intro j v hv
            have hj : j < 2 := (List.getElem?_eq_some_iff.1 hv).1
            have hj2 : j = 0 ∨ j = 1 := by omega
            rcases hj2 with rfl | rfl <;> (simp only [pvC] at hv; simp at hv; subst hv; simp [Array.getElem?_setIfInBounds]; try omega)
          · intro i hi
            simp only [Array.getElem?_setIfInBounds]
            rw [if_neg (by omega)]; rw [if_neg (by omega)]⟩
        have hbM : Bar [M] w3 ((w3.setCell ⟨M, k * 2, none⟩ (.int .i64 code)).setCell ⟨M, k * 2 + 1, none⟩ (.int .i64 id)) := (Bar.setCell (Bar.setCell (Bar.refl _ _) (p := ⟨M, k * 2, none⟩) (.inl (by simp)) (.int .i64 code)) (p := ⟨M, k * 2 + 1, none⟩) (.inl (by simp)) (.int .i64 id))
        replace X : Kept (Blk ((w3.setCell ⟨M, k * 2, none⟩ (.int .i64 code)).setCell ⟨M, k * 2 + 1, none⟩ (.int .i64 id)) M 80 ((cs.setIfInBounds (k * 2) (.int .i64 code)).setIfInBounds (k * 2 + 1) (.int .i64 id))) := ⟨(Blk.set_ (Blk.set_ X.out (k * 2) (.int .i64 code)) (k * 2 + 1) (.int .i64 id))⟩
        have HD2 : Kept (De 104 ((w3.setCell ⟨M, k * 2, none⟩ (.int .i64 code)).setCell ⟨M, k * 2 + 1, none⟩ (.int .i64 id)) d G (iter cRep (k + 1) s1).2) := ⟨by rw [HIT.out]; exact he.keep hbM DM.out.2.1 DM.out.2.2⟩
        replace B := Kept.mk (B.out.trans hbM (fun x hx => .inr (by simp at hx; subst hx; exact MW.out)))
        clear he b KK hbM hsz RP HD
        go_wp2
        go_roundw
        case rel => exact ⟨k + 1, _, by omega, by go_num, HD2, X, RP2, B⟩
        case measure => simp [Go.RowKit.intOf]; omega
      · have hkn' : ¬ (k : Int) < n := by omega
        obtain rfl : k = n := by omega
        have YES : Kept P := ⟨by rw [← HP.out]; exact hm⟩
        have RC := Kept.mk (RP.out.read X.out (HLN.out k))
        go_wp2
        go_ret2
        exact ⟨true, _, k, k, rfl, Nat.le_refl _, by omega, ⟨fun _ => YES.out, fun _ => rfl⟩, B.out, fun b o h => by injection h with h; injection h with h1; rw [← h1]; exact MW.out, fun _ => ⟨RC.out, HD.out⟩⟩
  · have hm2 : (64 : Int) < n := by omega
    have NO : Kept (¬ P) := ⟨fun h => by rw [← HP.out] at h; exact hm h⟩
    clear hm
    go_enter Try.func53, Try.ntmps53
    go_wp2_with fail
    refine KK.out.mono ?_
    rintro x w1 ⟨rfl, he, b⟩
    have B := Kept.mk b
    clear he b KK
    go_wp2
    go_ret2
    exact ⟨false, none, 0, 0, rfl, Nat.le_refl _, by omega, ⟨fun h => (by cases h), fun h => (NO.out h).elim⟩, B.out, fun b o h => (by cases h), fun h => (by cases h)⟩

set_option maxRecDepth 100000 in
set_option maxHeartbeats 2000000 in
theorem getallv_any {w : World} {d : Nat} {G : List Nat} {st : St} (h : De 104 w d G st) (hd : d ∉ G) :
    Calls Try.prog 55 #[.pointer (some ⟨d, 0, none⟩), .int .i64 2, .int .i64 400, .func (.func 56) #[] #[]] w (GetPost vvC 9 d G (iter cEv (decNum st 2).1.toNat (decNum st 2).2) ((decNum st 2).1 ≤ 400 ∧ ∀ r ∈ (iter cEv (decNum st 2).1.toNat (decNum st 2).2).1, HoldV r) w) := by
  have hby := h.bytes
  have hbs := decNum_bytes st 2 hby
  have h0 : 0 ≤ (decNum st 2).1 := decNum_nonneg st 2
  have KC := dnum_any w d G 2 st h hd
  have hlt := h.lt; have hG := Kept.mk h.1
  clear h hby
  obtain ⟨a, ha⟩ : ∃ a, decNum st 2 = a := ⟨_, rfl⟩
  rw [ha] at KC hbs h0 ⊢
  clear ha
  obtain ⟨z, s1⟩ := a
  dsimp only at KC hbs h0 ⊢
  obtain ⟨n, rfl⟩ : ∃ n : Nat, z = n := ⟨z.toNat, by omega⟩
  rw [Int.toNat_natCast]
  generalize hP : ((n : Int) ≤ 400 ∧ ∀ r ∈ (iter cEv n s1).1, HoldV r) = P
  have HP := Kept.mk hP
  have HBS := Kept.mk hbs
  clear hP hbs h0
  have KK := Kept.mk KC
  clear KC
  by_cases hm : (n : Int) ≤ 400
  · have hnm : n ≤ 400 := by omega
    go_enter Try.func55, Try.ntmps55
    go_wp2_with fail
    refine KK.out.mono ?_
    rintro x w1 ⟨rfl, he, b⟩
    have B := Kept.mk b
    have hlt1 : d < w1.heap.size := he.lt
    obtain ⟨w2, cs0, hmk, hblk, hcs, b2⟩ := make_ev w1 n hnm
    obtain ⟨M, hM⟩ : ∃ M, w1.heap.size = M := ⟨_, rfl⟩
    have hMw : w.heap.size ≤ M := by rw [← hM]; exact b.size
    have DM : Kept (M ∉ [d] ∧ d ∉ [M] ∧ Disj G [M]) := ⟨by simp; omega, by simp; omega, fun g hg hm => by have := hG.out g hg; simp at hm; omega⟩
    rw [hM] at hmk hblk
    have X := Kept.mk hblk
    have RP : Kept (RowP vvC 9 n cs0 (iter cEv 0 s1).1) := ⟨RowP.new hcs⟩
    have HD : Kept (De 104 w2 d G (iter cEv 0 s1).2) := ⟨he.below b2⟩
    replace B := Kept.mk (B.out.trans (barOf b2 [d]) (fun x hx => .inl hx))
    have MW := Kept.mk hMw; have HLN : Kept (∀ k, (iter cEv k s1).1.length = k) := ⟨fun k => iter_len _ k s1⟩
    have HH : Kept (∀ r ∈ (iter cEv 0 s1).1, HoldV r) := ⟨by simp [iter]⟩
    clear he b KK hblk hcs b2 hlt hM hMw hlt1
    go_wp2
    clear hmk
    go_loopw [24] (fun i wr => ∃ (k : Nat) (cs : Array Value), k ≤ n ∧ i = .int .i64 k ∧ Kept (De 104 wr d G (iter cEv k s1).2) ∧ Kept (Blk wr M 76 cs) ∧ Kept (RowP vvC 9 n cs (iter cEv k s1).1) ∧ Kept (Bar [d] w wr) ∧ Kept (∀ r ∈ (iter cEv k s1).1, HoldV r)) (fun i _ => n - (Go.RowKit.intOf i).toNat)
    case atStart => exact ⟨0, cs0, by omega, rfl, HD, X, RP, B, HH⟩
    case round =>
      clear HD X RP B HH
      obtain ⟨k, cs, hk, rfl, HD, X, RP, B, HH⟩ := hrel
      by_cases hkn : k < n
      · have hkn' : (k : Int) < n := by omega
        have KC := cgetv_any HD.out hd
        have hit : iter cEv (k + 1) s1 = ((iter cEv k s1).1 ++ [(cEv (iter cEv k s1).2).1], (cEv (iter cEv k s1).2).2) := rfl
        have hin : (cEv (iter cEv k s1).2).1 ∈ (iter cEv n s1).1 := iter_mem cEv s1 hkn
        obtain ⟨R, hR⟩ : ∃ R, cEv (iter cEv k s1).2 = R := ⟨_, rfl⟩
        rw [hR] at KC hit hin
        have HIT := Kept.mk hit; have HIN := Kept.mk hin
        clear hR hit hin
        obtain ⟨R, st2⟩ := R
        obtain ⟨kind, src, dst, asset, amount, id, due, hash, sec⟩ := R
        unfold vqv at KC
        dsimp only at KC HIT HIN
        have KK := Kept.mk KC
        clear KC
        by_cases hh : HoldV ⟨kind, src, dst, asset, amount, id, due, hash, sec⟩
        · have KD := KK.out
          rw [decide_eq_true hh] at KD
          replace KK := Kept.mk KD
          have HH2 : Kept (∀ r ∈ (iter cEv (k + 1) s1).1, HoldV r) := ⟨by
            rw [HIT.out]
            intro y hy
            rcases List.mem_append.1 hy with hy | hy
            · exact HH.out y hy
            · rw [List.mem_singleton] at hy; subst hy; exact hh⟩
          clear KD hh HIN
          go_wp2_with fail
          refine KK.out.mono ?_
          rintro x w3 ⟨rfl, -, he, b⟩
          replace X := Kept.mk (X.out.bar b DM.out.1)
          replace B := Kept.mk (B.out.trans b (fun x hx => .inl hx))
          have hsz : k * 9 + 9 ≤ cs.size := by rw [RP.out.size]; omega
          obtain ⟨u0, c0⟩ : ∃ u, w3.cell? ⟨M, k * 9, none⟩ = some u := ⟨_, (X.out.cell (k * 9)).trans (Array.getElem?_eq_getElem (by omega))⟩
          have f0 := X.out.frozen (k * 9)
          obtain ⟨u1, c1⟩ : ∃ u, w3.cell? ⟨M, k * 9 + 1, none⟩ = some u := ⟨_, (X.out.cell (k * 9 + 1)).trans (Array.getElem?_eq_getElem (by omega))⟩
          have f1 := X.out.frozen (k * 9 + 1)
          obtain ⟨u2, c2⟩ : ∃ u, w3.cell? ⟨M, k * 9 + 2, none⟩ = some u := ⟨_, (X.out.cell (k * 9 + 2)).trans (Array.getElem?_eq_getElem (by omega))⟩
          have f2 := X.out.frozen (k * 9 + 2)
          obtain ⟨u3, c3⟩ : ∃ u, w3.cell? ⟨M, k * 9 + 3, none⟩ = some u := ⟨_, (X.out.cell (k * 9 + 3)).trans (Array.getElem?_eq_getElem (by omega))⟩
          have f3 := X.out.frozen (k * 9 + 3)
          obtain ⟨u4, c4⟩ : ∃ u, w3.cell? ⟨M, k * 9 + 4, none⟩ = some u := ⟨_, (X.out.cell (k * 9 + 4)).trans (Array.getElem?_eq_getElem (by omega))⟩
          have f4 := X.out.frozen (k * 9 + 4)
          obtain ⟨u5, c5⟩ : ∃ u, w3.cell? ⟨M, k * 9 + 5, none⟩ = some u := ⟨_, (X.out.cell (k * 9 + 5)).trans (Array.getElem?_eq_getElem (by omega))⟩
          have f5 := X.out.frozen (k * 9 + 5)
          obtain ⟨u6, c6⟩ : ∃ u, w3.cell? ⟨M, k * 9 + 6, none⟩ = some u := ⟨_, (X.out.cell (k * 9 + 6)).trans (Array.getElem?_eq_getElem (by omega))⟩
          have f6 := X.out.frozen (k * 9 + 6)
          obtain ⟨u7, c7⟩ : ∃ u, w3.cell? ⟨M, k * 9 + 7, none⟩ = some u := ⟨_, (X.out.cell (k * 9 + 7)).trans (Array.getElem?_eq_getElem (by omega))⟩
          have f7 := X.out.frozen (k * 9 + 7)
          obtain ⟨u8, c8⟩ : ∃ u, w3.cell? ⟨M, k * 9 + 8, none⟩ = some u := ⟨_, (X.out.cell (k * 9 + 8)).trans (Array.getElem?_eq_getElem (by omega))⟩
          have f8 := X.out.frozen (k * 9 + 8)
          have RP2 : Kept (RowP vvC 9 n (((((((((cs.setIfInBounds (k * 9) (.int .i64 kind)).setIfInBounds (k * 9 + 1) (.int .i64 src)).setIfInBounds (k * 9 + 2) (.int .i64 dst)).setIfInBounds (k * 9 + 3) (.int .i64 asset)).setIfInBounds (k * 9 + 4) (.int .i64 amount)).setIfInBounds (k * 9 + 5) (.int .i64 id)).setIfInBounds (k * 9 + 6) (.int .i64 due)).setIfInBounds (k * 9 + 7) (.string (strOfNums hash))).setIfInBounds (k * 9 + 8) (.string (strOfNums sec))) (iter cEv (k + 1) s1).1) := ⟨by
            rw [HIT.out]
            refine RP.out.next (HLN.out k) (fun _ => rfl) (by simp) ?_ ?_
            · intro j v hv
              have hj : j < 9 := (List.getElem?_eq_some_iff.1 hv).1
              have hj2 : j = 0 ∨ j = 1 ∨ j = 2 ∨ j = 3 ∨ j = 4 ∨ j = 5 ∨ j = 6 ∨ j = 7 ∨ j = 8 := by omega
              rcases hj2 with rfl | rfl | rfl | rfl | rfl | rfl | rfl | rfl | rfl <;> (simp only [vvC] at hv; simp at hv; subst hv; simp [Array.getElem?_setIfInBounds]; try omega)
            · intro i hi
              simp only [Array.getElem?_setIfInBounds]
              rw [if_neg (by omega)]; rw [if_neg (by omega)]; rw [if_neg (by omega)]; rw [if_neg (by omega)]; rw [if_neg (by omega)]; rw [if_neg (by omega)]; rw [if_neg (by omega)]; rw [if_neg (by omega)]; rw [if_neg (by omega)]⟩
          have hbM : Bar [M] w3 (((((((((w3.setCell ⟨M, k * 9, none⟩ (.int .i64 kind)).setCell ⟨M, k * 9 + 1, none⟩ (.int .i64 src)).setCell ⟨M, k * 9 + 2, none⟩ (.int .i64 dst)).setCell ⟨M, k * 9 + 3, none⟩ (.int .i64 asset)).setCell ⟨M, k * 9 + 4, none⟩ (.int .i64 amount)).setCell ⟨M, k * 9 + 5, none⟩ (.int .i64 id)).setCell ⟨M, k * 9 + 6, none⟩ (.int .i64 due)).setCell ⟨M, k * 9 + 7, none⟩ (.string (strOfNums hash))).setCell ⟨M, k * 9 + 8, none⟩ (.string (strOfNums sec))) := (Bar.setCell (Bar.setCell (Bar.setCell (Bar.setCell (Bar.setCell (Bar.setCell (Bar.setCell (Bar.setCell (Bar.setCell (Bar.refl _ _) (p := ⟨M, k * 9, none⟩) (.inl (by simp)) (.int .i64 kind)) (p := ⟨M, k * 9 + 1, none⟩) (.inl (by simp)) (.int .i64 src)) (p := ⟨M, k * 9 + 2, none⟩) (.inl (by simp)) (.int .i64 dst)) (p := ⟨M, k * 9 + 3, none⟩) (.inl (by simp)) (.int .i64 asset)) (p := ⟨M, k * 9 + 4, none⟩) (.inl (by simp)) (.int .i64 amount)) (p := ⟨M, k * 9 + 5, none⟩) (.inl (by simp)) (.int .i64 id)) (p := ⟨M, k * 9 + 6, none⟩) (.inl (by simp)) (.int .i64 due)) (p := ⟨M, k * 9 + 7, none⟩) (.inl (by simp)) (.string (strOfNums hash))) (p := ⟨M, k * 9 + 8, none⟩) (.inl (by simp)) (.string (strOfNums sec)))
          replace X : Kept (Blk (((((((((w3.setCell ⟨M, k * 9, none⟩ (.int .i64 kind)).setCell ⟨M, k * 9 + 1, none⟩ (.int .i64 src)).setCell ⟨M, k * 9 + 2, none⟩ (.int .i64 dst)).setCell ⟨M, k * 9 + 3, none⟩ (.int .i64 asset)).setCell ⟨M, k * 9 + 4, none⟩ (.int .i64 amount)).setCell ⟨M, k * 9 + 5, none⟩ (.int .i64 id)).setCell ⟨M, k * 9 + 6, none⟩ (.int .i64 due)).setCell ⟨M, k * 9 + 7, none⟩ (.string (strOfNums hash))).setCell ⟨M, k * 9 + 8, none⟩ (.string (strOfNums sec))) M 76 (((((((((cs.setIfInBounds (k * 9) (.int .i64 kind)).setIfInBounds (k * 9 + 1) (.int .i64 src)).setIfInBounds (k * 9 + 2) (.int .i64 dst)).setIfInBounds (k * 9 + 3) (.int .i64 asset)).setIfInBounds (k * 9 + 4) (.int .i64 amount)).setIfInBounds (k * 9 + 5) (.int .i64 id)).setIfInBounds (k * 9 + 6) (.int .i64 due)).setIfInBounds (k * 9 + 7) (.string (strOfNums hash))).setIfInBounds (k * 9 + 8) (.string (strOfNums sec)))) := ⟨(Blk.set_ (Blk.set_ (Blk.set_ (Blk.set_ (Blk.set_ (Blk.set_ (Blk.set_ (Blk.set_ (Blk.set_ X.out (k * 9) (.int .i64 kind)) (k * 9 + 1) (.int .i64 src)) (k * 9 + 2) (.int .i64 dst)) (k * 9 + 3) (.int .i64 asset)) (k * 9 + 4) (.int .i64 amount)) (k * 9 + 5) (.int .i64 id)) (k * 9 + 6) (.int .i64 due)) (k * 9 + 7) (.string (strOfNums hash))) (k * 9 + 8) (.string (strOfNums sec)))⟩
          have HD2 : Kept (De 104 (((((((((w3.setCell ⟨M, k * 9, none⟩ (.int .i64 kind)).setCell ⟨M, k * 9 + 1, none⟩ (.int .i64 src)).setCell ⟨M, k * 9 + 2, none⟩ (.int .i64 dst)).setCell ⟨M, k * 9 + 3, none⟩ (.int .i64 asset)).setCell ⟨M, k * 9 + 4, none⟩ (.int .i64 amount)).setCell ⟨M, k * 9 + 5, none⟩ (.int .i64 id)).setCell ⟨M, k * 9 + 6, none⟩ (.int .i64 due)).setCell ⟨M, k * 9 + 7, none⟩ (.string (strOfNums hash))).setCell ⟨M, k * 9 + 8, none⟩ (.string (strOfNums sec))) d G (iter cEv (k + 1) s1).2) := ⟨by rw [HIT.out]; exact he.keep hbM DM.out.2.1 DM.out.2.2⟩
          replace B := Kept.mk (B.out.trans hbM (fun x hx => .inr (by simp at hx; subst hx; exact MW.out)))
          clear he b KK hbM hsz RP HD
          go_wp2
          go_roundw
          case rel => exact ⟨k + 1, _, by omega, by go_num, HD2, X, RP2, B, HH2⟩
          case measure => simp [Go.RowKit.intOf]; omega
        · have KD := KK.out
          rw [decide_eq_false hh] at KD
          replace KK := Kept.mk KD
          have NO : Kept (¬ P) := ⟨fun h => by rw [← HP.out] at h; exact hh (h.2 _ HIN.out)⟩
          clear KD hh HIN
          go_wp2_with fail
          refine KK.out.mono ?_
          rintro x w3 ⟨rfl, -, he, b⟩
          replace X := Kept.mk (X.out.bar b DM.out.1)
          replace B := Kept.mk (B.out.trans b (fun x hx => .inl hx))
          have hsz : k * 9 + 9 ≤ cs.size := by rw [RP.out.size]; omega
          obtain ⟨u0, c0⟩ : ∃ u, w3.cell? ⟨M, k * 9, none⟩ = some u := ⟨_, (X.out.cell (k * 9)).trans (Array.getElem?_eq_getElem (by omega))⟩
          have f0 := X.out.frozen (k * 9)
          obtain ⟨u1, c1⟩ : ∃ u, w3.cell? ⟨M, k * 9 + 1, none⟩ = some u := ⟨_, (X.out.cell (k * 9 + 1)).trans (Array.getElem?_eq_getElem (by omega))⟩
          have f1 := X.out.frozen (k * 9 + 1)
          obtain ⟨u2, c2⟩ : ∃ u, w3.cell? ⟨M, k * 9 + 2, none⟩ = some u := ⟨_, (X.out.cell (k * 9 + 2)).trans (Array.getElem?_eq_getElem (by omega))⟩
          have f2 := X.out.frozen (k * 9 + 2)
          obtain ⟨u3, c3⟩ : ∃ u, w3.cell? ⟨M, k * 9 + 3, none⟩ = some u := ⟨_, (X.out.cell (k * 9 + 3)).trans (Array.getElem?_eq_getElem (by omega))⟩
          have f3 := X.out.frozen (k * 9 + 3)
          obtain ⟨u4, c4⟩ : ∃ u, w3.cell? ⟨M, k * 9 + 4, none⟩ = some u := ⟨_, (X.out.cell (k * 9 + 4)).trans (Array.getElem?_eq_getElem (by omega))⟩
          have f4 := X.out.frozen (k * 9 + 4)
          obtain ⟨u5, c5⟩ : ∃ u, w3.cell? ⟨M, k * 9 + 5, none⟩ = some u := ⟨_, (X.out.cell (k * 9 + 5)).trans (Array.getElem?_eq_getElem (by omega))⟩
          have f5 := X.out.frozen (k * 9 + 5)
          obtain ⟨u6, c6⟩ : ∃ u, w3.cell? ⟨M, k * 9 + 6, none⟩ = some u := ⟨_, (X.out.cell (k * 9 + 6)).trans (Array.getElem?_eq_getElem (by omega))⟩
          have f6 := X.out.frozen (k * 9 + 6)
          obtain ⟨u7, c7⟩ : ∃ u, w3.cell? ⟨M, k * 9 + 7, none⟩ = some u := ⟨_, (X.out.cell (k * 9 + 7)).trans (Array.getElem?_eq_getElem (by omega))⟩
          have f7 := X.out.frozen (k * 9 + 7)
          obtain ⟨u8, c8⟩ : ∃ u, w3.cell? ⟨M, k * 9 + 8, none⟩ = some u := ⟨_, (X.out.cell (k * 9 + 8)).trans (Array.getElem?_eq_getElem (by omega))⟩
          have f8 := X.out.frozen (k * 9 + 8)
          have RP2 : Kept (RowP vvC 9 n (((((((((cs.setIfInBounds (k * 9) (.int .i64 kind)).setIfInBounds (k * 9 + 1) (.int .i64 src)).setIfInBounds (k * 9 + 2) (.int .i64 dst)).setIfInBounds (k * 9 + 3) (.int .i64 asset)).setIfInBounds (k * 9 + 4) (.int .i64 amount)).setIfInBounds (k * 9 + 5) (.int .i64 id)).setIfInBounds (k * 9 + 6) (.int .i64 due)).setIfInBounds (k * 9 + 7) (.string (strOfNums hash))).setIfInBounds (k * 9 + 8) (.string (strOfNums sec))) (iter cEv (k + 1) s1).1) := ⟨by
            rw [HIT.out]
            refine RP.out.next (HLN.out k) (fun _ => rfl) (by simp) ?_ ?_
            · intro j v hv
              have hj : j < 9 := (List.getElem?_eq_some_iff.1 hv).1
              have hj2 : j = 0 ∨ j = 1 ∨ j = 2 ∨ j = 3 ∨ j = 4 ∨ j = 5 ∨ j = 6 ∨ j = 7 ∨ j = 8 := by omega
              rcases hj2 with rfl | rfl | rfl | rfl | rfl | rfl | rfl | rfl | rfl <;> (simp only [vvC] at hv; simp at hv; subst hv; simp [Array.getElem?_setIfInBounds]; try omega)
            · intro i hi
              simp only [Array.getElem?_setIfInBounds]
              rw [if_neg (by omega)]; rw [if_neg (by omega)]; rw [if_neg (by omega)]; rw [if_neg (by omega)]; rw [if_neg (by omega)]; rw [if_neg (by omega)]; rw [if_neg (by omega)]; rw [if_neg (by omega)]; rw [if_neg (by omega)]⟩
          have hbM : Bar [M] w3 (((((((((w3.setCell ⟨M, k * 9, none⟩ (.int .i64 kind)).setCell ⟨M, k * 9 + 1, none⟩ (.int .i64 src)).setCell ⟨M, k * 9 + 2, none⟩ (.int .i64 dst)).setCell ⟨M, k * 9 + 3, none⟩ (.int .i64 asset)).setCell ⟨M, k * 9 + 4, none⟩ (.int .i64 amount)).setCell ⟨M, k * 9 + 5, none⟩ (.int .i64 id)).setCell ⟨M, k * 9 + 6, none⟩ (.int .i64 due)).setCell ⟨M, k * 9 + 7, none⟩ (.string (strOfNums hash))).setCell ⟨M, k * 9 + 8, none⟩ (.string (strOfNums sec))) := (Bar.setCell (Bar.setCell (Bar.setCell (Bar.setCell (Bar.setCell (Bar.setCell (Bar.setCell (Bar.setCell (Bar.setCell (Bar.refl _ _) (p := ⟨M, k * 9, none⟩) (.inl (by simp)) (.int .i64 kind)) (p := ⟨M, k * 9 + 1, none⟩) (.inl (by simp)) (.int .i64 src)) (p := ⟨M, k * 9 + 2, none⟩) (.inl (by simp)) (.int .i64 dst)) (p := ⟨M, k * 9 + 3, none⟩) (.inl (by simp)) (.int .i64 asset)) (p := ⟨M, k * 9 + 4, none⟩) (.inl (by simp)) (.int .i64 amount)) (p := ⟨M, k * 9 + 5, none⟩) (.inl (by simp)) (.int .i64 id)) (p := ⟨M, k * 9 + 6, none⟩) (.inl (by simp)) (.int .i64 due)) (p := ⟨M, k * 9 + 7, none⟩) (.inl (by simp)) (.string (strOfNums hash))) (p := ⟨M, k * 9 + 8, none⟩) (.inl (by simp)) (.string (strOfNums sec)))
          replace X : Kept (Blk (((((((((w3.setCell ⟨M, k * 9, none⟩ (.int .i64 kind)).setCell ⟨M, k * 9 + 1, none⟩ (.int .i64 src)).setCell ⟨M, k * 9 + 2, none⟩ (.int .i64 dst)).setCell ⟨M, k * 9 + 3, none⟩ (.int .i64 asset)).setCell ⟨M, k * 9 + 4, none⟩ (.int .i64 amount)).setCell ⟨M, k * 9 + 5, none⟩ (.int .i64 id)).setCell ⟨M, k * 9 + 6, none⟩ (.int .i64 due)).setCell ⟨M, k * 9 + 7, none⟩ (.string (strOfNums hash))).setCell ⟨M, k * 9 + 8, none⟩ (.string (strOfNums sec))) M 76 (((((((((cs.setIfInBounds (k * 9) (.int .i64 kind)).setIfInBounds (k * 9 + 1) (.int .i64 src)).setIfInBounds (k * 9 + 2) (.int .i64 dst)).setIfInBounds (k * 9 + 3) (.int .i64 asset)).setIfInBounds (k * 9 + 4) (.int .i64 amount)).setIfInBounds (k * 9 + 5) (.int .i64 id)).setIfInBounds (k * 9 + 6) (.int .i64 due)).setIfInBounds (k * 9 + 7) (.string (strOfNums hash))).setIfInBounds (k * 9 + 8) (.string (strOfNums sec)))) := ⟨(Blk.set_ (Blk.set_ (Blk.set_ (Blk.set_ (Blk.set_ (Blk.set_ (Blk.set_ (Blk.set_ (Blk.set_ X.out (k * 9) (.int .i64 kind)) (k * 9 + 1) (.int .i64 src)) (k * 9 + 2) (.int .i64 dst)) (k * 9 + 3) (.int .i64 asset)) (k * 9 + 4) (.int .i64 amount)) (k * 9 + 5) (.int .i64 id)) (k * 9 + 6) (.int .i64 due)) (k * 9 + 7) (.string (strOfNums hash))) (k * 9 + 8) (.string (strOfNums sec)))⟩
          have HD2 : Kept (De 104 (((((((((w3.setCell ⟨M, k * 9, none⟩ (.int .i64 kind)).setCell ⟨M, k * 9 + 1, none⟩ (.int .i64 src)).setCell ⟨M, k * 9 + 2, none⟩ (.int .i64 dst)).setCell ⟨M, k * 9 + 3, none⟩ (.int .i64 asset)).setCell ⟨M, k * 9 + 4, none⟩ (.int .i64 amount)).setCell ⟨M, k * 9 + 5, none⟩ (.int .i64 id)).setCell ⟨M, k * 9 + 6, none⟩ (.int .i64 due)).setCell ⟨M, k * 9 + 7, none⟩ (.string (strOfNums hash))).setCell ⟨M, k * 9 + 8, none⟩ (.string (strOfNums sec))) d G (iter cEv (k + 1) s1).2) := ⟨by rw [HIT.out]; exact he.keep hbM DM.out.2.1 DM.out.2.2⟩
          replace B := Kept.mk (B.out.trans hbM (fun x hx => .inr (by simp at hx; subst hx; exact MW.out)))
          clear he b KK hbM hsz RP HD
          go_wp2
          go_ret2
          exact ⟨false, none, 0, 0, rfl, Nat.le_refl _, by omega, ⟨fun h => (by cases h), fun h => (NO.out h).elim⟩, B.out, fun b o h => (by cases h), fun h => (by cases h)⟩
      · have hkn' : ¬ (k : Int) < n := by omega
        obtain rfl : k = n := by omega
        have YES : Kept P := ⟨by rw [← HP.out]; exact ⟨hm, HH.out⟩⟩
        have RC := Kept.mk (RP.out.read X.out (HLN.out k))
        go_wp2
        go_ret2
        exact ⟨true, _, k, k, rfl, Nat.le_refl _, by omega, ⟨fun _ => YES.out, fun _ => rfl⟩, B.out, fun b o h => by injection h with h; injection h with h1; rw [← h1]; exact MW.out, fun _ => ⟨RC.out, HD.out⟩⟩
  · have hm2 : (400 : Int) < n := by omega
    have NO : Kept (¬ P) := ⟨fun h => by rw [← HP.out] at h; exact hm h.1⟩
    clear hm
    go_enter Try.func55, Try.ntmps55
    go_wp2_with fail
    refine KK.out.mono ?_
    rintro x w1 ⟨rfl, he, b⟩
    have B := Kept.mk b
    clear he b KK
    go_wp2
    go_ret2
    exact ⟨false, none, 0, 0, rfl, Nat.le_refl _, by omega, ⟨fun h => (by cases h), fun h => (NO.out h).elim⟩, B.out, fun b o h => (by cases h), fun h => (by cases h)⟩

end Go.Proofs.Ytcafffnkkjnpbaa.Req

namespace Go.Proofs.Ytcafffnkkjnpbaa.Req
open Go.RowKit Go.Proofs.Ytcafffnkkjnpbaa.Sha Go.Proofs.Ytcafffnkkjnpbaa.Wire

set_option maxRecDepth 100000 in
set_option maxHeartbeats 2000000 in
theorem cdecb_any {A : Option Addr} {n c : Nat} {b : List Int} {w : World} (hr : Rd w A n b) (hn : n ≤ 100000) : Calls Try.prog 13 #[.slice A n c] w (DecBPost b w) := by
  have hby := hr.2.1
  have DY : Kept (DecBC b → DecB b 0 ⟨(decNum (0, b) 2).1, (iter cReq (decNum (decNum (0, b) 2).2 1).1.toNat (decNum (decNum (0, b) 2).2 1).2).1⟩) := ⟨decB_yes hby⟩
  have DN : Kept (¬ DecBC b → DecB b 2 ⟨0, []⟩) := ⟨decB_no hby⟩
  have hb1 := decNum_bytes (0, b) 2 hby
  have hb2 := decNum_bytes (decNum (0, b) 2).2 1 hb1
  have OK : Kept (∀ r ∈ (iter cReq (decNum (decNum (0, b) 2).2 1).1.toNat (decNum (decNum (0, b) 2).2 1).2).1, r.ok) := ⟨(iter_all req_rest cReq_ok _ _ hb2).2⟩
  have DI : Kept (DecBC b ↔ ((decNum (decNum (0, b) 2).2 1).1 ≤ 64 ∧ ∀ r ∈ (iter cReq (decNum (decNum (0, b) 2).2 1).1.toNat (decNum (decNum (0, b) 2).2 1).2).1, HoldR r) ∧ endOf (iter cReq (decNum (decNum (0, b) 2).2 1).1.toNat (decNum (decNum (0, b) 2).2 1).2).2 = 0) := ⟨⟨fun h => ⟨⟨h.1, h.2.1⟩, h.2.2⟩, fun h => ⟨h.1.1, h.1.2, h.2⟩⟩⟩
  clear hb1 hb2 hby
  generalize DecBC b = Q at *
  obtain ⟨N, hN⟩ : ∃ N, w.heap.size = N := ⟨_, rfl⟩
  have HN := Kept.mk hN
  have B0 : Below N w (w.alloc (.cells #[.int .i64 0, .slice none 0 0] 24)) := (Below.refl _ _).alloc (by omega) _
  have Y : Kept (Blk (w.alloc (.cells #[.int .i64 0, .slice none 0 0] 24)) N 24 #[.int .i64 0, .slice none 0 0]) := ⟨Blk.new_at w _ _ N hN.symm⟩
  have KN := newdec_any A n c b (w.alloc (.cells #[.int .i64 0, .slice none 0 0] 24)) (hr.below (hN ▸ B0)) (by omega)
  have B := Kept.mk B0
  clear B0 hr
  go_enter Try.func13, Try.ntmps13
  go_upto_region 1 with (fail)
  generalize w.alloc (.cells #[.int .i64 0, .slice none 0 0] 24) = w0 at *
  have KK := Kept.mk KN
  clear KN
  go_wp2_with fail
  refine KK.out.mono ?_
  rintro x w1 ⟨d, G, rfl, he, hd1, -, hd, b1⟩
  have hNw := Y.out.lt
  have hNd : N ∉ [d] := by simp; omega
  have HND := Kept.mk hNd
  have DNX : Kept (N ≤ d) := ⟨by omega⟩
  replace Y := Kept.mk (Y.out.below b1 hNw)
  replace B := Kept.mk (B.out.trans (b1.mono (by omega)))
  have KC := dnum_any w1 d G 2 (0, b) he hd
  have KD := Kept.mk KC
  clear he b1 hNd KK KC hd1 hNw
  go_wp2_with fail
  refine KD.out.mono ?_
  rintro x w2 ⟨rfl, he, b2⟩
  replace Y := Kept.mk (Y.out.bar b2 HND.out)
  replace B := Kept.mk (B.out.trans (b2.below (by have := B.out.size; have := HN.out; omega) (by simpa using DNX.out)))
  have KC := getallr_any he hd
  have KA := Kept.mk KC
  unfold GetPost at KA
  obtain ⟨s, hs⟩ : ∃ s, decNum (0, b) 2 = s := ⟨_, rfl⟩
  rw [hs] at KA DY OK DI
  obtain ⟨it, hit⟩ : ∃ it, iter cReq (decNum s.2 1).1.toNat (decNum s.2 1).2 = it := ⟨_, rfl⟩
  rw [hit] at KA DY OK DI
  generalize hP : ((decNum s.2 1).1 ≤ 64 ∧ ∀ r ∈ it.1, HoldR r) = P at *
  rw [hs]
  clear he b2 KD KC hs hit hP
  have KB := Kept.mk KA.out
  clear KA
  go_wp2_with fail
  refine KB.out.mono ?_
  rintro x w3 ⟨q, A3, m, c3, rfl, hm, hc3, hq, b3, hnew, hres⟩
  have AN : Kept (∀ o, A3 ≠ some ⟨N, o, none⟩) := ⟨fun o ho => by have := hnew N o ho; have := Y.out.lt; omega⟩
  replace Y := Kept.mk (Y.out.bar b3 HND.out)
  replace B := Kept.mk (B.out.trans (b3.below (by have := B.out.size; have := HN.out; omega) (by simpa using DNX.out)))
  clear b3 KB hnew
  have y0 : w3.cell? ⟨N, 0, none⟩ = some (.int .i64 0) := Y.out.cell 0; have y1 : w3.cell? ⟨N, 1, none⟩ = some (.slice none 0 0) := Y.out.cell 1; have z0 := Y.out.frozen 0; have z1 := Y.out.frozen 1
  cases q with
  | false =>
    have DB := Kept.mk (DN.out (fun h => by have := hq.2 (DI.out.1 h).1; cases this))
    clear hq hres hm hc3
    have P2 : Kept (Blk ((w3.setCell ⟨N, 0, none⟩ (.int .i64 0)).setCell ⟨N, 1, none⟩ (.slice none 0 0)) N 24 #[.int .i64 0, .slice none 0 0]) := ⟨(Y.out.set_ 0 _).set_ 1 _⟩
    have PB : Kept (Bar [N] w3 ((w3.setCell ⟨N, 0, none⟩ (.int .i64 0)).setCell ⟨N, 1, none⟩ (.slice none 0 0))) := ⟨((Bar.refl [N] w3).setCell (p := ⟨N, 0, none⟩) (by simp) _).setCell (p := ⟨N, 1, none⟩) (by simp) _⟩
    have BE : Kept (Below w.heap.size w ((w3.setCell ⟨N, 0, none⟩ (.int .i64 0)).setCell ⟨N, 1, none⟩ (.slice none 0 0))) := ⟨by rw [HN.out]; exact B.out.trans (PB.out.below (by have := B.out.size; have := HN.out; omega) (by simp))⟩
    go_wp2
    (try simp only [Exit.inBlock, Exit.then])
    refine bodyPost_ret (results_row_tmp rfl _ _ N 24 #[.int .i64 0, .slice none 0 0] (0, 0) _ rfl P2.out Try.underlying24 rfl batch_size) rfl ?_
    exact ⟨2, 0, none, 0, 0, [], rfl, Nat.le_refl _, by omega, Rc.nil, by simp, DB.out, BE.out⟩
  | true =>
    obtain ⟨rc, hde⟩ := hres rfl
    have hp := hq.1 rfl
    have KE := Kept.mk (end_any w3 d G it.2 hde)
    have RC := Kept.mk rc
    have HM := Kept.mk hm; have HC := Kept.mk hc3
    obtain ⟨e0, he0⟩ : ∃ e0, endOf it.2 = e0 := ⟨_, rfl⟩
    rw [he0] at KE DI
    by_cases h0 : e0 = 0
    · subst h0
      have DB := Kept.mk (DY.out (DI.out.2 ⟨hp, rfl⟩))
      clear rc hde hp hq hres hm hc3 he0
      have P2 : Kept (Blk ((w3.setCell ⟨N, 0, none⟩ (.int .i64 s.1)).setCell ⟨N, 1, none⟩ (.slice A3 m c3)) N 24 #[.int .i64 s.1, .slice A3 m c3]) := ⟨(Y.out.set_ 0 _).set_ 1 _⟩
      have PB : Kept (Bar [N] w3 ((w3.setCell ⟨N, 0, none⟩ (.int .i64 s.1)).setCell ⟨N, 1, none⟩ (.slice A3 m c3))) := ⟨((Bar.refl [N] w3).setCell (p := ⟨N, 0, none⟩) (by simp) _).setCell (p := ⟨N, 1, none⟩) (by simp) _⟩
      have BE : Kept (Below w.heap.size w ((w3.setCell ⟨N, 0, none⟩ (.int .i64 s.1)).setCell ⟨N, 1, none⟩ (.slice A3 m c3))) := ⟨by rw [HN.out]; exact B.out.trans (PB.out.below (by have := B.out.size; have := HN.out; omega) (by simp))⟩
      go_wp2_with (go_at_call 39; refine KE.out.mono ?_; rintro x w' ⟨rfl, rfl⟩)
      (try simp only [Exit.inBlock, Exit.then])
      refine bodyPost_ret (results_row_tmp rfl _ _ N 24 #[.int .i64 s.1, .slice A3 m c3] (0, 0) _ rfl P2.out Try.underlying24 rfl batch_size) rfl ?_
      exact ⟨0, s.1, A3, m, c3, it.1, rfl, HM.out, HC.out, RC.out.bar PB.out (fun x hx => .inr (fun o ho => by rw [List.mem_singleton] at hx; subst hx; exact AN.out o ho)), OK.out, DB.out, BE.out⟩
    · have h1 : (e0 != 0) = true := by simpa using h0
      have DB := Kept.mk (DN.out (fun h => h0 (DI.out.1 h).2))
      clear rc hde hp hq hres hm hc3 he0
      have P2 : Kept (Blk ((w3.setCell ⟨N, 0, none⟩ (.int .i64 0)).setCell ⟨N, 1, none⟩ (.slice none 0 0)) N 24 #[.int .i64 0, .slice none 0 0]) := ⟨(Y.out.set_ 0 _).set_ 1 _⟩
      have PB : Kept (Bar [N] w3 ((w3.setCell ⟨N, 0, none⟩ (.int .i64 0)).setCell ⟨N, 1, none⟩ (.slice none 0 0))) := ⟨((Bar.refl [N] w3).setCell (p := ⟨N, 0, none⟩) (by simp) _).setCell (p := ⟨N, 1, none⟩) (by simp) _⟩
      have BE : Kept (Below w.heap.size w ((w3.setCell ⟨N, 0, none⟩ (.int .i64 0)).setCell ⟨N, 1, none⟩ (.slice none 0 0))) := ⟨by rw [HN.out]; exact B.out.trans (PB.out.below (by have := B.out.size; have := HN.out; omega) (by simp))⟩
      go_wp2_with (go_at_call 39; refine KE.out.mono ?_; rintro x w' ⟨rfl, rfl⟩)
      (try simp only [Exit.inBlock, Exit.then])
      refine bodyPost_ret (results_row_tmp rfl _ _ N 24 #[.int .i64 0, .slice none 0 0] (0, 0) _ rfl P2.out Try.underlying24 rfl batch_size) rfl ?_
      exact ⟨2, 0, none, 0, 0, [], rfl, Nat.le_refl _, by omega, Rc.nil, by simp, DB.out, BE.out⟩
end Go.Proofs.Ytcafffnkkjnpbaa.Req

namespace Go.Proofs.Ytcafffnkkjnpbaa.Req
open Go.RowKit Go.Proofs.Ytcafffnkkjnpbaa.Sha Go.Proofs.Ytcafffnkkjnpbaa.Wire Go.Proofs.Ytcafffnkkjnpbaa.Num

theorem canswer_size : (Try.prog.info? 39).map (·.size) = some 4 := by kernel_rfl
set_option maxRecDepth 100000 in
set_option maxHeartbeats 3000000 in
theorem cdeca_any {A : Option Addr} {n c : Nat} {b : List Int} {w : World} (hr : Rd w A n b) (hn : n ≤ 100000) : Calls Try.prog 21 #[.slice A n c] w (DecAPost b w) := by
  have hby := hr.2.1
  have DY : Kept (DecAC b → DecA b 0 ⟨(decNum (0, b) 8).1, (decNum (decNum (0, b) 8).2 2).1, (dA2 b).1, (dA4 b).1⟩) := ⟨decA_yes hby⟩
  have DN : Kept (¬ DecAC b → DecA b 2 ⟨0, 0, [], []⟩) := ⟨decA_no hby⟩
  have b0 := decNum_bytes (0, b) 8 hby
  have b1 : Bytes (dA0 b).2 := decNum_bytes _ 2 b0
  have b2 : Bytes (dA1 b).2.2 := decNum_bytes _ 1 b1
  have b3 : Bytes (dA2 b).2.2 := (rep_way.iter _ _ b2).1
  have b4 : Bytes (dA3 b).2.2 := decNum_bytes _ 2 b3
  have OK : Kept (∀ r ∈ (dA4 b).1, r.ok) := ⟨(iter_all ev_rest cEv_ok _ _ b4).2⟩
  have DI : Kept (DecAC b ↔ Tck (decNum (0, b) 8).1 ∧ (dA1 b).1 ≤ 64 ∧ ((dA3 b).1 ≤ 400 ∧ ∀ r ∈ (dA4 b).1, HoldV r) ∧ endOf (dA4 b).2 = 0) := ⟨⟨fun h => ⟨h.1, h.2.1, ⟨h.2.2.1, h.2.2.2.1⟩, h.2.2.2.2⟩, fun h => ⟨h.1, h.2.1, h.2.2.1.1, h.2.2.1.2, h.2.2.2⟩⟩⟩
  clear b0 b1 b2 b3 b4 hby
  generalize DecAC b = Q at *
  have E2 : Kept (dA2 b = iter cRep (decNum (decNum (decNum (0, b) 8).2 2).2 1).1.toNat (decNum (decNum (decNum (0, b) 8).2 2).2 1).2) := ⟨rfl⟩
  have E1 : Kept (dA1 b = decNum (decNum (decNum (0, b) 8).2 2).2 1) := ⟨rfl⟩
  have E4 : Kept (dA4 b = iter cEv (decNum (dA2 b).2 2).1.toNat (decNum (dA2 b).2 2).2) := ⟨rfl⟩
  have E3 : Kept (dA3 b = decNum (dA2 b).2 2) := ⟨rfl⟩
  generalize dA1 b = a1 at *
  generalize dA2 b = a2 at *
  generalize dA3 b = a3 at *
  generalize dA4 b = a4 at *
  obtain ⟨N, hN⟩ : ∃ N, w.heap.size = N := ⟨_, rfl⟩
  have HN := Kept.mk hN
  have B0 : Below N w (w.alloc (.cells #[.int .i64 0, .int .i64 0, .slice none 0 0, .slice none 0 0] 39)) := (Below.refl _ _).alloc (by omega) _
  have Y : Kept (Blk (w.alloc (.cells #[.int .i64 0, .int .i64 0, .slice none 0 0, .slice none 0 0] 39)) N 39 #[.int .i64 0, .int .i64 0, .slice none 0 0, .slice none 0 0]) := ⟨Blk.new_at w _ _ N hN.symm⟩
  have KN := newdec_any A n c b (w.alloc (.cells #[.int .i64 0, .int .i64 0, .slice none 0 0, .slice none 0 0] 39)) (hr.below (hN ▸ B0)) (by omega)
  have B := Kept.mk B0
  clear B0 hr
  go_enter Try.func21, Try.ntmps21
  go_upto_region 1 with (fail)
  generalize w.alloc (.cells #[.int .i64 0, .int .i64 0, .slice none 0 0, .slice none 0 0] 39) = w0 at *
  have KK := Kept.mk KN
  clear KN
  go_wp2_with fail
  refine KK.out.mono ?_
  rintro x w1 ⟨d, G, rfl, he, hd1, -, hd, b1⟩
  have hNw := Y.out.lt
  have hNd : N ∉ [d] := by simp; omega
  have HND := Kept.mk hNd
  have DNX : Kept (N ≤ d) := ⟨by omega⟩
  replace Y := Kept.mk (Y.out.below b1 hNw)
  replace B := Kept.mk (B.out.trans (b1.mono (by omega)))
  have KC := dnum_any w1 d G 8 (0, b) he hd
  obtain ⟨s8, hs8⟩ : ∃ s, decNum (0, b) 8 = s := ⟨_, rfl⟩
  rw [hs8] at KC DY DI E1 E2
  have KD := Kept.mk KC
  clear he b1 hNd KK KC hd1 hNw hs8
  go_wp2_with fail
  refine KD.out.mono ?_
  rintro x w2 ⟨rfl, he, b2⟩
  replace Y := Kept.mk (Y.out.bar b2 HND.out)
  replace B := Kept.mk (B.out.trans (b2.below (by have := B.out.size; have := HN.out; omega) (by simpa using DNX.out)))
  have KC := dnum_any w2 d G 2 s8.2 he hd
  obtain ⟨s2, hs2⟩ : ∃ s, decNum s8.2 2 = s := ⟨_, rfl⟩
  rw [hs2] at KC DY E1 E2
  have KD2 := Kept.mk KC
  clear he b2 KC KD hs2
  go_wp2_with fail
  refine KD2.out.mono ?_
  rintro x w3 ⟨rfl, he, b3⟩
  replace Y := Kept.mk (Y.out.bar b3 HND.out)
  replace B := Kept.mk (B.out.trans (b3.below (by have := B.out.size; have := HN.out; omega) (by simpa using DNX.out)))
  have KT := Kept.mk (fun w => tick_any s8.1 w)
  rw [ctick_iff] at KT
  have KP := getallp_any he hd
  rw [← E1.out] at KP
  have E2' := E2.out
  rw [← E1.out] at E2'
  rw [← E2'] at KP
  have KA := Kept.mk KP
  unfold GetPost at KA
  have DLT : Kept (d < w3.heap.size) := ⟨he.lt⟩
  clear b3 KD2 he KP E2' E2 E1
  by_cases hc : Tck s8.1
  · rw [decide_eq_true hc] at KT
    go_wp2_with (go_at_call 44; refine (KT.out _).mono ?_; rintro x w' ⟨rfl, rfl⟩)
    refine KA.out.mono ?_
    rintro x w4 ⟨q, A4, m4, c4, rfl, hm4, hc4, hq, b4, hnew, hres⟩
    have hdw : N < w3.heap.size := Y.out.lt
    have AN : Kept (∀ o, A4 ≠ some ⟨N, o, none⟩) := ⟨fun o ho => by have := hnew N o ho; omega⟩
    replace Y := Kept.mk (Y.out.bar b4 HND.out)
    replace B := Kept.mk (B.out.trans (b4.below (by have := B.out.size; have := HN.out; omega) (by simpa using DNX.out)))
    cases q with
    | false =>
      have DB := Kept.mk (DN.out (fun h => by have := hq.2 (DI.out.1 h).2.1; cases this))
      clear hq hres hm4 hc4 hnew b4 KA hdw
      have P2 : Kept (Blk ((((w4.setCell ⟨N, 0, none⟩ (.int .i64 0)).setCell ⟨N, 1, none⟩ (.int .i64 0)).setCell ⟨N, 2, none⟩ (.slice none 0 0)).setCell ⟨N, 3, none⟩ (.slice none 0 0)) N 39 #[.int .i64 0, .int .i64 0, .slice none 0 0, .slice none 0 0]) := ⟨(Blk.set_ (Blk.set_ (Blk.set_ (Blk.set_ Y.out 0 (.int .i64 0)) 1 (.int .i64 0)) 2 (.slice none 0 0)) 3 (.slice none 0 0))⟩
      have PB : Kept (Bar [N] w4 ((((w4.setCell ⟨N, 0, none⟩ (.int .i64 0)).setCell ⟨N, 1, none⟩ (.int .i64 0)).setCell ⟨N, 2, none⟩ (.slice none 0 0)).setCell ⟨N, 3, none⟩ (.slice none 0 0))) := ⟨(Bar.setCell (Bar.setCell (Bar.setCell (Bar.setCell (Bar.refl [N] w4) (p := ⟨N, 0, none⟩) (.inl (by simp)) (.int .i64 0)) (p := ⟨N, 1, none⟩) (.inl (by simp)) (.int .i64 0)) (p := ⟨N, 2, none⟩) (.inl (by simp)) (.slice none 0 0)) (p := ⟨N, 3, none⟩) (.inl (by simp)) (.slice none 0 0))⟩
      have BE : Kept (Below w.heap.size w ((((w4.setCell ⟨N, 0, none⟩ (.int .i64 0)).setCell ⟨N, 1, none⟩ (.int .i64 0)).setCell ⟨N, 2, none⟩ (.slice none 0 0)).setCell ⟨N, 3, none⟩ (.slice none 0 0))) := ⟨by rw [HN.out]; exact B.out.trans (PB.out.below (by have := B.out.size; have := HN.out; omega) (by simp))⟩
      have y0 : w4.cell? ⟨N, 0, none⟩ = some (.int .i64 0) := Y.out.cell 0; have y1 : w4.cell? ⟨N, 1, none⟩ = some (.int .i64 0) := Y.out.cell 1; have y2 : w4.cell? ⟨N, 2, none⟩ = some (.slice none 0 0) := Y.out.cell 2; have y3 : w4.cell? ⟨N, 3, none⟩ = some (.slice none 0 0) := Y.out.cell 3
      have z0 := Y.out.frozen 0; have z1 := Y.out.frozen 1; have z2 := Y.out.frozen 2; have z3 := Y.out.frozen 3
      go_wp2
      (try simp only [Exit.inBlock, Exit.then])
      refine bodyPost_ret (results_row_tmp rfl _ _ N 39 #[.int .i64 0, .int .i64 0, .slice none 0 0, .slice none 0 0] (0, 0) _ rfl P2.out Try.underlying39 rfl canswer_size) rfl ?_
      exact ⟨2, 0, 0, none, 0, 0, [], none, 0, 0, [], rfl, Nat.le_refl _, by omega, Nat.le_refl _, by omega, Rc.nil, Rc.nil, by simp, DB.out, BE.out⟩
    | true =>
      obtain ⟨rc, hde⟩ := hres rfl
      have HP := Kept.mk (hq.1 rfl)
      have HDD := hde.lt
      have AD : Kept (∀ o, A4 ≠ some ⟨d, o, none⟩) := ⟨fun o ho => by have h1 := hnew d o ho; have h2 := DLT.out; omega⟩
      have RC := Kept.mk rc
      have HM4 := Kept.mk hm4; have HC4 := Kept.mk hc4
      have KP := getallv_any hde hd
      rw [← E3.out] at KP
      have E4' := E4.out
      rw [← E3.out] at E4'
      rw [← E4'] at KP
      have KB := Kept.mk KP
      unfold GetPost at KB
      clear rc hde hq hres hm4 hc4 hnew b4 KA hdw KP E4' E4 E3 HDD
      go_wp2_with fail
      refine KB.out.mono ?_
      rintro x w5 ⟨q, A5, m5, c5, rfl, hm5, hc5, hq, b5, hnew, hres⟩
      have AN5 : Kept (∀ o, A5 ≠ some ⟨N, o, none⟩) := ⟨fun o ho => by have := hnew N o ho; have := Y.out.lt; omega⟩
      replace Y := Kept.mk (Y.out.bar b5 HND.out)
      replace B := Kept.mk (B.out.trans (b5.below (by have := B.out.size; have := HN.out; omega) (by simpa using DNX.out)))
      replace RC := Kept.mk (RC.out.bar b5 (fun x hx => .inr (fun o ho => by rw [List.mem_singleton] at hx; subst hx; exact AD.out o ho)))
      cases q with
      | false =>
        have DB := Kept.mk (DN.out (fun h => by have := hq.2 (DI.out.1 h).2.2.1; cases this))
        clear hq hres hm5 hc5 hnew b5 KB
        have P2 : Kept (Blk ((((w5.setCell ⟨N, 0, none⟩ (.int .i64 0)).setCell ⟨N, 1, none⟩ (.int .i64 0)).setCell ⟨N, 2, none⟩ (.slice none 0 0)).setCell ⟨N, 3, none⟩ (.slice none 0 0)) N 39 #[.int .i64 0, .int .i64 0, .slice none 0 0, .slice none 0 0]) := ⟨(Blk.set_ (Blk.set_ (Blk.set_ (Blk.set_ Y.out 0 (.int .i64 0)) 1 (.int .i64 0)) 2 (.slice none 0 0)) 3 (.slice none 0 0))⟩
        have PB : Kept (Bar [N] w5 ((((w5.setCell ⟨N, 0, none⟩ (.int .i64 0)).setCell ⟨N, 1, none⟩ (.int .i64 0)).setCell ⟨N, 2, none⟩ (.slice none 0 0)).setCell ⟨N, 3, none⟩ (.slice none 0 0))) := ⟨(Bar.setCell (Bar.setCell (Bar.setCell (Bar.setCell (Bar.refl [N] w5) (p := ⟨N, 0, none⟩) (.inl (by simp)) (.int .i64 0)) (p := ⟨N, 1, none⟩) (.inl (by simp)) (.int .i64 0)) (p := ⟨N, 2, none⟩) (.inl (by simp)) (.slice none 0 0)) (p := ⟨N, 3, none⟩) (.inl (by simp)) (.slice none 0 0))⟩
        have BE : Kept (Below w.heap.size w ((((w5.setCell ⟨N, 0, none⟩ (.int .i64 0)).setCell ⟨N, 1, none⟩ (.int .i64 0)).setCell ⟨N, 2, none⟩ (.slice none 0 0)).setCell ⟨N, 3, none⟩ (.slice none 0 0))) := ⟨by rw [HN.out]; exact B.out.trans (PB.out.below (by have := B.out.size; have := HN.out; omega) (by simp))⟩
        have y0 : w5.cell? ⟨N, 0, none⟩ = some (.int .i64 0) := Y.out.cell 0; have y1 : w5.cell? ⟨N, 1, none⟩ = some (.int .i64 0) := Y.out.cell 1; have y2 : w5.cell? ⟨N, 2, none⟩ = some (.slice none 0 0) := Y.out.cell 2; have y3 : w5.cell? ⟨N, 3, none⟩ = some (.slice none 0 0) := Y.out.cell 3
        have z0 := Y.out.frozen 0; have z1 := Y.out.frozen 1; have z2 := Y.out.frozen 2; have z3 := Y.out.frozen 3
        go_wp2
        (try simp only [Exit.inBlock, Exit.then])
        refine bodyPost_ret (results_row_tmp rfl _ _ N 39 #[.int .i64 0, .int .i64 0, .slice none 0 0, .slice none 0 0] (0, 0) _ rfl P2.out Try.underlying39 rfl canswer_size) rfl ?_
        exact ⟨2, 0, 0, none, 0, 0, [], none, 0, 0, [], rfl, Nat.le_refl _, by omega, Nat.le_refl _, by omega, Rc.nil, Rc.nil, by simp, DB.out, BE.out⟩
      | true =>
        obtain ⟨rc, hde⟩ := hres rfl
        have hp := hq.1 rfl
        have KE := Kept.mk (end_any w5 d G a4.2 hde)
        have RC5 := Kept.mk rc
        have HM5 := Kept.mk hm5; have HC5 := Kept.mk hc5
        obtain ⟨e0, he0⟩ : ∃ e0, endOf a4.2 = e0 := ⟨_, rfl⟩
        rw [he0] at KE DI
        by_cases h0 : e0 = 0
        · subst h0
          have DB := Kept.mk (DY.out (DI.out.2 ⟨hc, HP.out, hp, rfl⟩))
          clear rc hde hp hq hres hm5 hc5 he0 hnew b5 KB
          have P2 : Kept (Blk ((((w5.setCell ⟨N, 0, none⟩ (.int .i64 s8.1)).setCell ⟨N, 1, none⟩ (.int .i64 s2.1)).setCell ⟨N, 2, none⟩ (.slice A4 m4 c4)).setCell ⟨N, 3, none⟩ (.slice A5 m5 c5)) N 39 #[.int .i64 s8.1, .int .i64 s2.1, .slice A4 m4 c4, .slice A5 m5 c5]) := ⟨(Blk.set_ (Blk.set_ (Blk.set_ (Blk.set_ Y.out 0 (.int .i64 s8.1)) 1 (.int .i64 s2.1)) 2 (.slice A4 m4 c4)) 3 (.slice A5 m5 c5))⟩
          have PB : Kept (Bar [N] w5 ((((w5.setCell ⟨N, 0, none⟩ (.int .i64 s8.1)).setCell ⟨N, 1, none⟩ (.int .i64 s2.1)).setCell ⟨N, 2, none⟩ (.slice A4 m4 c4)).setCell ⟨N, 3, none⟩ (.slice A5 m5 c5))) := ⟨(Bar.setCell (Bar.setCell (Bar.setCell (Bar.setCell (Bar.refl [N] w5) (p := ⟨N, 0, none⟩) (.inl (by simp)) (.int .i64 s8.1)) (p := ⟨N, 1, none⟩) (.inl (by simp)) (.int .i64 s2.1)) (p := ⟨N, 2, none⟩) (.inl (by simp)) (.slice A4 m4 c4)) (p := ⟨N, 3, none⟩) (.inl (by simp)) (.slice A5 m5 c5))⟩
          have BE : Kept (Below w.heap.size w ((((w5.setCell ⟨N, 0, none⟩ (.int .i64 s8.1)).setCell ⟨N, 1, none⟩ (.int .i64 s2.1)).setCell ⟨N, 2, none⟩ (.slice A4 m4 c4)).setCell ⟨N, 3, none⟩ (.slice A5 m5 c5))) := ⟨by rw [HN.out]; exact B.out.trans (PB.out.below (by have := B.out.size; have := HN.out; omega) (by simp))⟩
          have y0 : w5.cell? ⟨N, 0, none⟩ = some (.int .i64 0) := Y.out.cell 0; have y1 : w5.cell? ⟨N, 1, none⟩ = some (.int .i64 0) := Y.out.cell 1; have y2 : w5.cell? ⟨N, 2, none⟩ = some (.slice none 0 0) := Y.out.cell 2; have y3 : w5.cell? ⟨N, 3, none⟩ = some (.slice none 0 0) := Y.out.cell 3
          have z0 := Y.out.frozen 0; have z1 := Y.out.frozen 1; have z2 := Y.out.frozen 2; have z3 := Y.out.frozen 3
          go_wp2_with (go_at_call 39; refine KE.out.mono ?_; rintro x w' ⟨rfl, rfl⟩)
          (try simp only [Exit.inBlock, Exit.then])
          refine bodyPost_ret (results_row_tmp rfl _ _ N 39 #[.int .i64 s8.1, .int .i64 s2.1, .slice A4 m4 c4, .slice A5 m5 c5] (0, 0) _ rfl P2.out Try.underlying39 rfl canswer_size) rfl ?_
          exact ⟨0, s8.1, s2.1, A4, m4, c4, a2.1, A5, m5, c5, a4.1, rfl, HM4.out, HC4.out, HM5.out, HC5.out, RC.out.bar PB.out (fun x hx => .inr (fun o ho => by rw [List.mem_singleton] at hx; subst hx; exact AN.out o ho)), RC5.out.bar PB.out (fun x hx => .inr (fun o ho => by rw [List.mem_singleton] at hx; subst hx; exact AN5.out o ho)), OK.out, DB.out, BE.out⟩
        · have h1 : (e0 != 0) = true := by simpa using h0
          have DB := Kept.mk (DN.out (fun h => h0 (DI.out.1 h).2.2.2))
          clear rc hde hp hq hres hm5 hc5 he0 hnew b5 KB
          have P2 : Kept (Blk ((((w5.setCell ⟨N, 0, none⟩ (.int .i64 0)).setCell ⟨N, 1, none⟩ (.int .i64 0)).setCell ⟨N, 2, none⟩ (.slice none 0 0)).setCell ⟨N, 3, none⟩ (.slice none 0 0)) N 39 #[.int .i64 0, .int .i64 0, .slice none 0 0, .slice none 0 0]) := ⟨(Blk.set_ (Blk.set_ (Blk.set_ (Blk.set_ Y.out 0 (.int .i64 0)) 1 (.int .i64 0)) 2 (.slice none 0 0)) 3 (.slice none 0 0))⟩
          have PB : Kept (Bar [N] w5 ((((w5.setCell ⟨N, 0, none⟩ (.int .i64 0)).setCell ⟨N, 1, none⟩ (.int .i64 0)).setCell ⟨N, 2, none⟩ (.slice none 0 0)).setCell ⟨N, 3, none⟩ (.slice none 0 0))) := ⟨(Bar.setCell (Bar.setCell (Bar.setCell (Bar.setCell (Bar.refl [N] w5) (p := ⟨N, 0, none⟩) (.inl (by simp)) (.int .i64 0)) (p := ⟨N, 1, none⟩) (.inl (by simp)) (.int .i64 0)) (p := ⟨N, 2, none⟩) (.inl (by simp)) (.slice none 0 0)) (p := ⟨N, 3, none⟩) (.inl (by simp)) (.slice none 0 0))⟩
          have BE : Kept (Below w.heap.size w ((((w5.setCell ⟨N, 0, none⟩ (.int .i64 0)).setCell ⟨N, 1, none⟩ (.int .i64 0)).setCell ⟨N, 2, none⟩ (.slice none 0 0)).setCell ⟨N, 3, none⟩ (.slice none 0 0))) := ⟨by rw [HN.out]; exact B.out.trans (PB.out.below (by have := B.out.size; have := HN.out; omega) (by simp))⟩
          have y0 : w5.cell? ⟨N, 0, none⟩ = some (.int .i64 0) := Y.out.cell 0; have y1 : w5.cell? ⟨N, 1, none⟩ = some (.int .i64 0) := Y.out.cell 1; have y2 : w5.cell? ⟨N, 2, none⟩ = some (.slice none 0 0) := Y.out.cell 2; have y3 : w5.cell? ⟨N, 3, none⟩ = some (.slice none 0 0) := Y.out.cell 3
          have z0 := Y.out.frozen 0; have z1 := Y.out.frozen 1; have z2 := Y.out.frozen 2; have z3 := Y.out.frozen 3
          go_wp2_with (go_at_call 39; refine KE.out.mono ?_; rintro x w' ⟨rfl, rfl⟩)
          (try simp only [Exit.inBlock, Exit.then])
          refine bodyPost_ret (results_row_tmp rfl _ _ N 39 #[.int .i64 0, .int .i64 0, .slice none 0 0, .slice none 0 0] (0, 0) _ rfl P2.out Try.underlying39 rfl canswer_size) rfl ?_
          exact ⟨2, 0, 0, none, 0, 0, [], none, 0, 0, [], rfl, Nat.le_refl _, by omega, Nat.le_refl _, by omega, Rc.nil, Rc.nil, by simp, DB.out, BE.out⟩
  · rw [decide_eq_false hc] at KT
    have DB := Kept.mk (DN.out (fun h => hc (DI.out.1 h).1))
    clear KA
    have P2 : Kept (Blk ((((w3.setCell ⟨N, 0, none⟩ (.int .i64 0)).setCell ⟨N, 1, none⟩ (.int .i64 0)).setCell ⟨N, 2, none⟩ (.slice none 0 0)).setCell ⟨N, 3, none⟩ (.slice none 0 0)) N 39 #[.int .i64 0, .int .i64 0, .slice none 0 0, .slice none 0 0]) := ⟨(Blk.set_ (Blk.set_ (Blk.set_ (Blk.set_ Y.out 0 (.int .i64 0)) 1 (.int .i64 0)) 2 (.slice none 0 0)) 3 (.slice none 0 0))⟩
    have PB : Kept (Bar [N] w3 ((((w3.setCell ⟨N, 0, none⟩ (.int .i64 0)).setCell ⟨N, 1, none⟩ (.int .i64 0)).setCell ⟨N, 2, none⟩ (.slice none 0 0)).setCell ⟨N, 3, none⟩ (.slice none 0 0))) := ⟨(Bar.setCell (Bar.setCell (Bar.setCell (Bar.setCell (Bar.refl [N] w3) (p := ⟨N, 0, none⟩) (.inl (by simp)) (.int .i64 0)) (p := ⟨N, 1, none⟩) (.inl (by simp)) (.int .i64 0)) (p := ⟨N, 2, none⟩) (.inl (by simp)) (.slice none 0 0)) (p := ⟨N, 3, none⟩) (.inl (by simp)) (.slice none 0 0))⟩
    have BE : Kept (Below w.heap.size w ((((w3.setCell ⟨N, 0, none⟩ (.int .i64 0)).setCell ⟨N, 1, none⟩ (.int .i64 0)).setCell ⟨N, 2, none⟩ (.slice none 0 0)).setCell ⟨N, 3, none⟩ (.slice none 0 0))) := ⟨by rw [HN.out]; exact B.out.trans (PB.out.below (by have := B.out.size; have := HN.out; omega) (by simp))⟩
    have y0 : w3.cell? ⟨N, 0, none⟩ = some (.int .i64 0) := Y.out.cell 0; have y1 : w3.cell? ⟨N, 1, none⟩ = some (.int .i64 0) := Y.out.cell 1; have y2 : w3.cell? ⟨N, 2, none⟩ = some (.slice none 0 0) := Y.out.cell 2; have y3 : w3.cell? ⟨N, 3, none⟩ = some (.slice none 0 0) := Y.out.cell 3
    have z0 := Y.out.frozen 0; have z1 := Y.out.frozen 1; have z2 := Y.out.frozen 2; have z3 := Y.out.frozen 3
    go_wp2_with (go_at_call 44; refine (KT.out _).mono ?_; rintro x w' ⟨rfl, rfl⟩)
    (try simp only [Exit.inBlock, Exit.then])
    refine bodyPost_ret (results_row_tmp rfl _ _ N 39 #[.int .i64 0, .int .i64 0, .slice none 0 0, .slice none 0 0] (0, 0) _ rfl P2.out Try.underlying39 rfl canswer_size) rfl ?_
    exact ⟨2, 0, 0, none, 0, 0, [], none, 0, 0, [], rfl, Nat.le_refl _, by omega, Nat.le_refl _, by omega, Rc.nil, Rc.nil, by simp, DB.out, BE.out⟩
end Go.Proofs.Ytcafffnkkjnpbaa.Req

namespace Go.Proofs.Ytcafffnkkjnpbaa.Req
open Go.RowKit Go.Proofs.Ytcafffnkkjnpbaa.Sha Go.Proofs.Ytcafffnkkjnpbaa.Wire

theorem rapi : ReqApi where
  encb := by
    intro seen A n c l w hr _ _ _ ho _
    exact cencb_any seen hr ho
  decb := by
    intro A n c b w hr _ _ hn
    exact cdecb_any hr hn
  sameb := by
    intro s1 A1 n1 c1 l1 s2 A2 n2 c2 l2 w h1 h2 hc1 hm1 _ _ _ _ o1 o2
    exact csameb_any s1 _ _ _ _ s2 _ _ _ _ _ h1 (by omega) o1 h2 o2
  enca := by
    intro clock seen A n c l D m d v w hr hv _ _ _ _ _ _ ho _
    exact cenca_any clock seen hr hv ho
  deca := by
    intro A n c b w hr _ _ hn
    exact cdeca_any hr hn
  samea := by
    intro t1 s1 A1 n1 c1 l1 D1 m1 e1 v1 t2 s2 A2 n2 c2 l2 D2 m2 e2 v2 w p1 p2 q1 q2 h1 h2 h3 h4 h5 h6 h7 h8 k1 k2 k3 k4 o1 o2
    exact csamea_any t1 s1 _ _ _ _ _ _ _ _ t2 s2 _ _ _ _ _ _ _ _ _ p1 (by omega) q1 (by omega) o1 p2 q2 o2
end Go.Proofs.Ytcafffnkkjnpbaa.Req
