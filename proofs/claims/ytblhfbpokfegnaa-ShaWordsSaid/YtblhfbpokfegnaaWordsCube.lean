/-
  The law ShaWords's own function cube: a cube held against a prime.
-/
import Derived.Test.YtblhfbpokfegnaaWordsTimes
namespace Go.Proofs.Ytblhfbpokfegnaa.Words
open Go.RowKit Go.Proofs.Ytblhfbpokfegnaa.Sha

def topL (c : List Int) : Nat → Int
  | 0 => 0
  | j + 1 => bits .or .u64 (topL c j * 65536 % 18446744073709551616) (at_ c (10 - j))
def restB (c : List Int) : Nat → Bool
  | 0 => false
  | j + 1 => restB c j || (at_ c j != 0)
def digs (whole wd : Nat) : List Int := [((wd % 65536 : Nat) : Int), ((wd / 65536 : Nat) : Int), (whole : Int)]
def cubL (whole wd : Nat) : List Int := timesL (timesL (digs whole wd) (digs whole wd)) (digs whole wd)
def cmpL (c : List Int) (p : Nat) : Int := if topL c 5 < p then -1 else if (p : Int) < topL c 5 ∨ restB c 6 = true then 1 else 0
def cubeL (whole wd p : Nat) : Int := cmpL (cubL whole wd) p
theorem digs_dg (whole wd : Nat) (h1 : whole ≤ 65535) (h2 : wd < 4294967296) : Dg (digs whole wd) := by
  intro i
  match i with
  | 0 => simp [at_, digs]; omega
  | 1 => simp [at_, digs]; omega
  | 2 => simp [at_, digs]; omega
  | i + 3 => simp [at_, digs]
theorem topL_64 (c : List Int) (j : Nat) : 0 ≤ topL c j ∧ topL c j < 18446744073709551616 := by
  cases j with
  | zero => simp [topL]
  | succ j =>
    simp only [topL]
    unfold bits
    simp only [IntKind.wrap_u64]
    omega

theorem timesL_ok {a b : List Int} (da : Dg a) (db : Dg b) : Dg (timesL a b) ∧ (timesL a b).length = a.length + b.length + 1 := by
  have h := tRows_ok da db a.length
  unfold timesL
  exact ⟨h.1, h.2.1⟩
theorem digs_len (whole wd : Nat) : (digs whole wd).length = 3 := rfl
theorem band16 (wd lo : Nat) (h2 : wd < 4294967296) (hlo : wd % 65536 = lo) : bits .and .u32 (wd : Int) 65535 = lo := by
  have h := u32_and_nat wd 65535 h2 (by omega)
  rw [show wd &&& 65535 = wd % 65536 from Nat.and_two_pow_sub_one_eq_mod wd 16, hlo] at h
  exact h

set_option maxRecDepth 100000 in
set_option maxHeartbeats 1000000 in
theorem cube_any (whole wd p : Nat) (w : World) (h1 : whole ≤ 15) (h2 : wd < 4294967296) (h3 : p ≤ 1000) :
    Calls Try.prog 21 #[.int .i64 whole, .int .u32 wd, .int .i64 p] w fun e w' => e = .returned (.int .i64 (cubeL whole wd p)) ∧ Below w.heap.size w w' := by
  obtain ⟨N, hN⟩ : ∃ N, w.heap.size = N := ⟨_, rfl⟩
  have hdg := digs_dg whole wd (by omega) h2
  obtain ⟨d, hd⟩ : ∃ d, digs whole wd = d := ⟨_, rfl⟩
  have hdl3 : d.length = 3 := by rw [← hd]; exact digs_len _ _
  rw [hd] at hdg
  obtain ⟨sq, hsq⟩ : ∃ sq, timesL d d = sq := ⟨_, rfl⟩
  have h2d := timesL_ok hdg hdg
  rw [hsq, hdl3] at h2d
  obtain ⟨c, hc⟩ : ∃ c, timesL sq d = c := ⟨_, rfl⟩
  have h3d := timesL_ok h2d.1 hdg
  rw [hc, h2d.2, hdl3] at h3d
  have hcube : cubeL whole wd p = cmpL c p := by unfold cubeL cubL; rw [hd, hsq, hc]
  obtain ⟨lo, hlo⟩ : ∃ lo, wd % 65536 = lo := ⟨_, rfl⟩
  obtain ⟨hi, hhi⟩ : ∃ hi, wd / 65536 = hi := ⟨_, rfl⟩
  have hlo' : (wd : Int) % 65536 = lo := by omega
  have hhi' : (wd : Int) / 65536 = hi := by omega
  have hloB : lo < 65536 := by omega
  have hhiB : hi < 65536 := by omega
  have hand := band16 wd lo h2 hlo
  have hdl : d = [(lo : Int), (hi : Int), (whole : Int)] := by rw [← hd]; unfold digs; rw [hlo, hhi]
  have wlo : IntKind.u64.wrap (lo : Int) = lo := by rw [IntKind.wrap_u64]; omega
  have whi : IntKind.u64.wrap (hi : Int) = hi := by rw [IntKind.wrap_u64]; omega
  have wwh : IntKind.u64.wrap (whole : Int) = whole := by rw [IntKind.wrap_u64]; omega
  have wpp : IntKind.u64.wrap (p : Int) = p := by rw [IntKind.wrap_u64]; omega
  have ka : Blk (w.alloc (.cells #[.int .u64 (lo : Int), .int .u64 (hi : Int), .int .u64 (whole : Int)] 68)) N 68 (arr .u64 d) := by
    rw [hdl]
    exact Blk.new_at w 68 (arr .u64 [(lo : Int), (hi : Int), (whole : Int)]) N hN.symm
  have hb : Below N w (w.alloc (.cells #[.int .u64 (lo : Int), .int .u64 (hi : Int), .int .u64 (whole : Int)] 68)) := (Below.refl _ _).alloc (by omega) _
  have hs1 : (w.alloc (.cells #[.int .u64 (lo : Int), .int .u64 (hi : Int), .int .u64 (whole : Int)] 68)).heap.size = N + 1 := by simp [hN]
  have KA := Kept.mk ka
  have B := Kept.mk hb
  have HDG := Kept.mk hdg
  have HD2 := Kept.mk h2d
  have HD3 := Kept.mk h3d
  have HSQ := Kept.mk hsq
  have HC := Kept.mk hc
  have HCube := Kept.mk hcube
  have HL3 := Kept.mk hdl3
  clear ka hb hdg h2d h3d hlo hhi hdl hd hsq hc hcube hdl3
  go_enter Try.func21, Try.ntmps21
  go_wp2_with fail
  generalize w.alloc (.cells #[.int .u64 (lo : Int), .int .u64 (hi : Int), .int .u64 (whole : Int)] 68) = w1 at *
  clear hand wlo whi wwh hlo' hhi'
  refine (times_any N N 3 3 3 3 d d w1 KA.out KA.out HL3.out HL3.out HDG.out HDG.out (by omega) (by omega)).mono ?_
  rw [HSQ.out]
  rintro e w2 ⟨M2, rfl, hM2, k2, b2⟩
  replace KA := Kept.mk (KA.out.below b2 (by omega))
  replace B := Kept.mk (B.out.trans (b2.mono (by omega)))
  have K2 := Kept.mk k2
  clear b2 k2
  go_wp2_with fail
  refine (times_any M2 N 7 3 7 3 sq d w2 K2.out KA.out HD2.out.2 HL3.out HD2.out.1 HDG.out (by omega) (by omega)).mono ?_
  rw [HC.out]
  rintro e w3 ⟨M3, rfl, hM3, k3, b3⟩
  replace B := Kept.mk (B.out.trans (b3.mono (by have := B.out.size; omega)))
  have K3 := Kept.mk k3
  clear b3 k3 KA K2 HSQ HC HD2 HDG HL3
  go_wp2
  go_loop [10, 11] (fun t i => ∃ j : Nat, j ≤ 5 ∧ t = .int .u64 (topL c j) ∧ i = .int .i64 ((10 - j : Nat) : Int)) (fun _ i => (intOf i).toNat)
  case atStart => exact ⟨0, by omega, rfl, rfl⟩
  case round =>
    obtain ⟨j, hj, rfl, rfl⟩ := hrel
    have ht := topL_64 c j
    have hsucc := Kept.mk (show topL c (j + 1) = bits .or .u64 (topL c j * 65536 % 18446744073709551616) (at_ c (10 - j)) from rfl)
    obtain ⟨m, hm⟩ : ∃ m, 10 - j = m := ⟨_, rfl⟩
    rw [hm] at hsucc ⊢
    by_cases h5 : j < 5
    · have hm6 : (6 : Int) ≤ m := by omega
      have c0 := K3.out.at_ m (by rw [HD3.out.2]; omega)
      generalize topL c j = t at *
      generalize at_ c m = v at *
      obtain ⟨ht0, ht1⟩ := ht
      go_wp2
      go_round
      case rel => exact ⟨j + 1, by omega, by rw [hsucc.out, IntKind.wrap_u64], by congr 1; omega⟩
      case measure => simp [intOf]; omega
    · obtain rfl : j = 5 := by omega
      obtain rfl : m = 5 := by omega
      have hm6 : ¬ (6 : Int) ≤ ((5 : Nat) : Int) := by omega
      obtain ⟨t, ht5⟩ : ∃ t, topL c 5 = t := ⟨_, rfl⟩
      rw [ht5] at ht ⊢
      have HT5 := Kept.mk ht5
      obtain ⟨ht0, ht1⟩ := ht
      clear hsucc ht5 hm
      go_wp2
      go_loop [12, 13] (fun r i => ∃ (j : Nat) (b : Bool), j ≤ 6 ∧ r = .bool b ∧ i = .int .i64 j ∧ Kept (restB c j = b)) (fun _ i => 6 - (intOf i).toNat)
      case atStart => exact ⟨0, false, by omega, rfl, rfl, ⟨rfl⟩⟩
      case round =>
        obtain ⟨j, b, hj, rfl, rfl, hb⟩ := hrel
        have hsucc := Kept.mk (show restB c (j + 1) = (restB c j || (at_ c j != 0)) from rfl)
        by_cases h6 : j < 6
        · have h6' : (j : Int) < 6 := by omega
          have h11 : (j : Int) < 11 := by omega
          have c0 := K3.out.at_ j (by rw [HD3.out.2]; omega)
          cases b
          · by_cases hz : at_ c j = 0
            · have hn := Kept.mk (show restB c (j + 1) = false by rw [hsucc.out, hb.out, hz]; rfl)
              rw [hz] at c0
              clear hz
              go_wp2
              go_round
              case rel => exact ⟨j + 1, false, by omega, rfl, by go_num, hn⟩
              case measure => simp [intOf]; omega
            · have hn := Kept.mk (show restB c (j + 1) = true by rw [hsucc.out, hb.out]; simpa using hz)
              have hzb : (at_ c j != 0) = true := by simpa using hz
              go_wp2
              go_round
              case rel => exact ⟨j + 1, true, by omega, rfl, by go_num, hn⟩
              case measure => simp [intOf]; omega
          · have hn := Kept.mk (show restB c (j + 1) = true by rw [hsucc.out, hb.out]; rfl)
            go_wp2
            go_round
            case rel => exact ⟨j + 1, true, by omega, rfl, by go_num, hn⟩
            case measure => simp [intOf]; omega
        · obtain rfl : j = 6 := by omega
          have h6' : ¬ ((6 : Nat) : Int) < 6 := by omega
          have HCm : Kept (cubeL whole wd p = if t < p then -1 else if (p : Int) < t ∨ b = true then 1 else 0) := ⟨by rw [HCube.out, cmpL, HT5.out, hb.out]⟩
          clear hsucc
          by_cases hl : t < p
          · have HE : Kept (cubeL whole wd p = -1) := ⟨by rw [HCm.out, if_pos hl]⟩
            go_wp2
            go_ret
            exact ⟨by rw [HE.out]; rfl, B.out⟩
          · by_cases hg : (p : Int) < t
            · have HE : Kept (cubeL whole wd p = 1) := ⟨by rw [HCm.out, if_neg hl, if_pos (.inl hg)]⟩
              go_wp2
              go_ret
              exact ⟨by rw [HE.out]; rfl, B.out⟩
            · cases b
              · have HE : Kept (cubeL whole wd p = 0) := ⟨by rw [HCm.out, if_neg hl, if_neg (by rintro (h | h); exact hg h; cases h)]⟩
                go_wp2
                go_ret
                exact ⟨by rw [HE.out]; rfl, B.out⟩
              · have HE : Kept (cubeL whole wd p = 1) := ⟨by rw [HCm.out, if_neg hl, if_pos (.inr rfl)]⟩
                go_wp2
                go_ret
                exact ⟨by rw [HE.out]; rfl, B.out⟩

theorem cube_all : ∀ i, i < 64 → ∃ q, q < 8 ∧ q * q * q ≤ pW i ∧ pW i < (q + 1) * (q + 1) * (q + 1) ∧ 1 ≤ q ∧ cubeL q (kW i) (pW i) ≤ 0 ∧ 0 < cubeL q (kW i + 1) (pW i) ∧ kW i + 1 < 4294967296 := by
  decide +kernel
end Go.Proofs.Ytblhfbpokfegnaa.Words
