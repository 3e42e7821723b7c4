/-
  (*Hash).pad, Sum, One: the sum of what was written.
-/
import Derived.Test.YtblhfbpokfegnaaShaWrite
namespace Go.Proofs.Ytblhfbpokfegnaa.Sha
open Go.RowKit

/-- byte x of the end as it is built: the count's last 8 - k bytes stand -/
def tc (L k x : Nat) : Int := if x = 0 then 128 else if 1 + padn L + k ≤ x ∧ x < 9 + padn L then ((L * 8 / 256 ^ (7 - (x - (1 + padn L))) % 256 : Nat) : Int) else 0
def TL (L k : Nat) : List Int := (List.range 72).map (tc L k)
theorem TL_len (L k : Nat) : (TL L k).length = 72 := by simp [TL]
theorem TL_at (L k x : Nat) (h : x < 72) : at_ (TL L k) x = tc L k x := at_range _ _ _ h
theorem padn_le (L : Nat) : padn L ≤ 63 := by unfold padn; omega
theorem TL_set (L k : Nat) (hk : k < 8) : (TL L (k + 1)).set (1 + padn L + k) ((L * 8 / 256 ^ (7 - k) % 256 : Nat) : Int) = TL L k := by
  have hp := padn_le L
  apply at_ext
  · rw [List.length_set, TL_len, TL_len]
  · intro i hi
    rw [List.length_set, TL_len] at hi
    rw [at_set _ _ _ _ (by rw [TL_len]; exact hi), TL_at _ _ _ hi, TL_at _ _ _ hi]
    by_cases h : 1 + padn L + k = i
    · subst h
      rw [if_pos rfl, tc, if_neg (by omega), if_pos (by omega), show 1 + padn L + k - (1 + padn L) = k by omega]
    · rw [if_neg h, tc, tc]
      by_cases h0 : i = 0
      · rw [if_pos h0, if_pos h0]
      · rw [if_neg h0, if_neg h0]
        by_cases h1 : 1 + padn L + (k + 1) ≤ i ∧ i < 9 + padn L
        · rw [if_pos h1, if_pos (by omega)]
        · rw [if_neg h1, if_neg (by omega)]
theorem TL_8 (L : Nat) : TL L 8 = (List.replicate 72 (0 : Int)).set 0 128 := by
  apply at_ext
  · rw [TL_len, List.length_set, List.length_replicate]
  · intro i hi
    rw [TL_len] at hi
    rw [TL_at _ _ _ hi, at_set _ _ _ _ (by rw [List.length_replicate]; exact hi), tc]
    by_cases h0 : i = 0
    · subst h0; simp
    · rw [if_neg h0, if_neg (by omega), if_neg (by omega)]
      unfold at_
      rw [List.getD_eq_getElem?_getD, List.getElem?_replicate, if_pos hi]
      rfl
theorem TL_0 (L : Nat) : (TL L 0).take (9 + padn L) = tail L := by
  have hp := padn_le L
  apply at_ext
  · rw [List.length_take, TL_len, tail_len]; omega
  · intro i hi
    rw [List.length_take, TL_len] at hi
    rw [at_take (by omega), TL_at _ _ _ (by omega), tc, tail]
    match i with
    | 0 => rfl
    | i + 1 =>
      rw [if_neg (by omega)]
      show _ = at_ (List.replicate (padn L) 0 ++ be8 (L * 8)) i
      by_cases h : i < padn L
      · rw [if_neg (by omega), at_append_left (by simpa using h)]
        simp [at_, h]
      · rw [if_pos (by omega), at_append_right (by simp; omega), List.length_replicate, be8, at_range _ _ _ (by omega), show i + 1 - (1 + padn L) = i - padn L by omega]
theorem be8_bytes (n : Nat) : Bytes (be8 n) := by
  intro x hx
  unfold be8 at hx
  obtain ⟨i, _, rfl⟩ := List.mem_map.1 hx
  omega
theorem tail_bytes (L : Nat) : Bytes (tail L) := by
  intro x hx
  unfold tail at hx
  rcases List.mem_cons.1 hx with rfl | hx
  · omega
  · rcases List.mem_append.1 hx with hx | hx
    · obtain ⟨_, rfl⟩ := List.mem_replicate.1 hx; omega
    · exact be8_bytes _ x hx

set_option maxRecDepth 100000 in
set_option maxHeartbeats 1000000 in
theorem pad_any (hb t : Nat) (text : List Int) (w : World) (hh : Hs w hb t text) (hL0 : text.length < 576460752303423488) :
    Calls Try.prog 34 #[.pointer (some ⟨hb, 0, none⟩)] w fun e w' => e = .returned (.tuple #[]) ∧ Hs w' hb t (text ++ tail text.length) ∧ Bar [hb] w w' := by
  obtain ⟨L, hL⟩ : ∃ L, text.length = L := ⟨_, rfl⟩
  obtain ⟨N, hN⟩ : ∃ N, w.heap.size = N := ⟨_, rfl⟩
  have hbN : hb < N := by obtain ⟨_, _, _, _, _, _, _, k⟩ := hh; rw [← hN]; exact k.lt
  have c1 : w.cell? ⟨hb, 73, none⟩ = some (.int .u64 (L : Nat)) := by
    obtain ⟨_, _, _, r, hr, _, _, k⟩ := hh
    rw [← hL]; exact (k.cell 73).trans (hc_size _ _ _ _ rfl hr)
  have tN : t < N := by obtain ⟨_, m, _⟩ := hh; rw [← hN]; exact Blk.lt m
  rw [hL] at hL0
  obtain ⟨P, hP⟩ : ∃ P, padn L = P := ⟨_, rfl⟩
  have hP63 : P ≤ 63 := by rw [← hP]; exact padn_le L
  have eP : (119 - (L : Int) % 64) % 64 = (P : Nat) := by rw [← hP]; unfold padn; omega
  have HL := Kept.mk hL
  have HP := Kept.mk hP
  have Hh := Kept.mk hh
  clear hL hP hh
  go_enter Try.func34, Try.ntmps34
  go_wp2
  rw [eP]
  clear eP c1
  go_loopw [4, 5] (fun v i wr => ∃ k : Nat, k ≤ 8 ∧ v = .int .u64 ((L * 8 / 256 ^ (8 - k) : Nat) : Int) ∧ i = .int .i64 ((k : Int) - 1) ∧ Hid (Blk wr N 85 (arr .u8 (TL L k))) ∧ Below N w wr) (fun _ i _ => (intOf i + 1).toNat)
  case atStart =>
    refine ⟨8, by omega, by simp, rfl, ?_, (Below.refl _ _).alloc (by omega) _⟩
    rw [TL_8, ← arr_set]
    exact Blk.new_at _ _ _ N hN.symm
  case round =>
    obtain ⟨k, hk, rfl, rfl, h1, b1⟩ := hrel
    cases k with
    | zero =>
      rw [show ((0 : Nat) : Int) - 1 = -1 by rfl]
      have hk1 := Hh.out
      have hs : Sl wr (some ⟨N, 0, none⟩) (1 + P + 8) (tail text.length) hb := by
        refine ⟨by rw [tail_len, HL.out, HP.out]; omega, tail_bytes _, .inr ⟨N, 0, rfl, by omega, fun i hi => ?_⟩⟩
        have hlt : i < 9 + padn L := by rw [HP.out]; omega
        rw [Nat.zero_add, HL.out, ← TL_0, at_take hlt]
        exact h1.out.at_ i (by rw [TL_len]; omega)
      have hh2 : Hs wr hb t text := by
        obtain ⟨hne, hm, hby, r, hr, hrb, he, hblk⟩ := hk1
        exact ⟨hne, hm.below b1 tN, hby, r, hr, hrb, he, hblk.below b1 hbN⟩
      have cw := write_any hb t text (tail text.length) (some ⟨N, 0, none⟩) (1 + P + 8) 72 wr hh2 hs (by omega) (by omega) (by rw [HL.out]; omega)
      have Cw := Kept.mk cw
      have B1 := Kept.mk b1
      clear hk1 hs hh2 cw h1 b1
      have s1 : (0 : Int) ≤ 1 + (P : Int) + 8 := by omega
      have s2 : 1 + (P : Int) + 8 ≤ 72 := by omega
      have s3 : (1 + (P : Int) + 8).toNat = 1 + P + 8 := by omega
      go_wp2_with fail
      refine Cw.out.mono ?_
      rintro e w2 ⟨rfl, k2, b2⟩
      have K2 := Kept.mk k2
      clear k2
      go_wp2
      go_end0
      refine ⟨rfl, K2.out, (barOf (hN ▸ B1.out) [hb]).trans b2 (by simp)⟩
    | succ k =>
      rw [show ((k + 1 : Nat) : Int) - 1 = (k : Int) by omega]
      have e1 := TL_set L k (by omega)
      rw [HP.out] at e1
      have hq2 : L * 8 / 256 ^ (7 - k) / 256 = L * 8 / 256 ^ (8 - k) := by
        have e : 256 ^ (7 - k) * 256 = 256 ^ (8 - k) := by rw [show 8 - k = 7 - k + 1 by omega, Nat.pow_succ]
        rw [Nat.div_div_eq_div_mul, e]
      have hqle : L * 8 / 256 ^ (7 - k) ≤ L * 8 := Nat.div_le_self _ _
      rw [show 8 - (k + 1) = 7 - k by omega]
      generalize L * 8 / 256 ^ (7 - k) = q at *
      have hc0 := h1.out.at_ (1 + P + k) (by rw [TL_len]; omega)
      have hz0 := h1.out.frozen (1 + P + k)
      have E1 := Kept.mk e1
      have HQ := Kept.mk hq2
      clear e1 hq2
      go_wp2
      go_roundw
      case rel =>
        refine ⟨k, by omega, by rw [← HQ.out]; rfl, rfl, ?_, b1.setCell (by simp) _⟩
        have := h1.out.set_ (1 + P + k) (.int .u8 ((q % 256 : Nat) : Int))
        rw [arr_set, E1.out] at this
        exact this
      case measure => simp [intOf]
end Go.Proofs.Ytblhfbpokfegnaa.Sha
