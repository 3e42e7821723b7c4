/-
  The 64 rounds of SHA-256 in memory.
-/
import Derived.Test.YtblhfbpokfegnaaShaBlk
namespace Go.Proofs.Ytblhfbpokfegnaa.Sha
open Go.RowKit

theorem turns_1 (x : Int) (hx : W32 x) (w : World) : Calls Try.prog 52 #[.int .u32 x, .int .i64 6, .int .i64 11, .int .i64 25] w fun e w' => e = .returned (.int .u32 (turns3 x 6 11 25)) ∧ w = w' := turns_any x 6 11 25 (by omega) (by omega) (by omega) hx w
theorem turns_0 (x : Int) (hx : W32 x) (w : World) : Calls Try.prog 52 #[.int .u32 x, .int .i64 2, .int .i64 13, .int .i64 22] w fun e w' => e = .returned (.int .u32 (turns3 x 2 13 22)) ∧ w = w' := turns_any x 2 13 22 (by omega) (by omega) (by omega) hx w

theorem below_drewN {B : Nat} {a w : World} (h : Below B a w) (n : Nat) : Below B a (w.drewN n) := ⟨h.os, h.tape, h.output, h.size, h.block⟩
theorem round_end {s r : S8} {W : Nat → Int} {k : Nat} {t1 t2 : Int} (h : rnds s W k = r)
    (h1 : t1 = (r.h + turns3 r.e 6 11 25 + ch r.e r.f r.g + (kW k : Nat) + W k) % 4294967296) (h2 : t2 = (turns3 r.a 2 13 22 + maj r.a r.b r.c) % 4294967296) :
    rnds s W (k + 1) = ⟨(t1 + t2) % 4294967296, r.a, r.b, r.c, (r.d + t1) % 4294967296, r.e, r.f, r.g⟩ := by
  rw [rnds, h, h1, h2]; rfl
theorem t1_code (h S c k w : Int) : IntKind.u32.wrap (IntKind.u32.wrap (IntKind.u32.wrap (IntKind.u32.wrap (h + S) + c) + k) + w) = (h + S + c + k + w) % 4294967296 := by
  simp only [IntKind.wrap_u32]; omega

set_option maxRecDepth 100000 in
set_option maxHeartbeats 400000 in
theorem rounds_any (s : S8) (hs : s.ok) (W : Nat → Int) (hW : ∀ i, W32 (W i)) (t pb po : Nat) (w : World)
    (hk : ∀ i, i < 64 → w.cell? ⟨t, 3 + i, none⟩ = some (.int .u32 (kW i : Nat))) (hp : ∀ i, i < 64 → w.cell? ⟨pb, po + i, none⟩ = some (.int .u32 (W i))) :
    Calls Try.prog 43 #[.agg #[.int .u32 s.a, .int .u32 s.b, .int .u32 s.c, .int .u32 s.d, .int .u32 s.e, .int .u32 s.f, .int .u32 s.g, .int .u32 s.h], .pointer (some ⟨t, 3, none⟩), .pointer (some ⟨pb, po, none⟩)] w
      fun e w' => e = .returned (.agg (arr .u32 (rnds s W 64).toL)) ∧ Below w.heap.size w w' := by
  obtain ⟨N, hN⟩ : ∃ N, w.heap.size = N := ⟨_, rfl⟩
  have htN : t < N := by have h := World.block_lt_of_cell? _ _ (hk 0 (by omega)); rw [hN] at h; exact h
  have hpN : pb < N := by have h := World.block_lt_of_cell? _ _ (hp 0 (by omega)); rw [hN] at h; exact h
  have Hk := Lib.hid hk
  have Hp := Lib.hid hp
  have HW := Lib.hid hW
  have Hs := Lib.hid hs
  clear hk hp hW hs
  obtain ⟨s0, hs0⟩ : ∃ s0, s0 = s := ⟨_, rfl⟩
  obtain ⟨a, b, c, d, e, f, g, h⟩ := s
  have S0 := Kept.mk hs0
  clear hs0
  go_enter Try.func43, Try.ntmps43
  go_wp2
  go_quiet (fail)
  go_wp2
  go_loopw [7, 8, 9, 10, 11, 12, 13, 14, 38] (fun va vb vc vd ve vf vg vh i wr => ∃ (k : Nat) (a b c d e f g h : Int), k ≤ 64 ∧ Kept (rnds s0 W k = ⟨a, b, c, d, e, f, g, h⟩) ∧ va = .int .u32 a ∧ vb = .int .u32 b ∧ vc = .int .u32 c ∧ vd = .int .u32 d ∧ ve = .int .u32 e ∧ vf = .int .u32 f ∧ vg = .int .u32 g ∧ vh = .int .u32 h ∧ i = .int .i64 k ∧ Hid (Blk wr (N + 1) 64 (arr .u32 (List.replicate 8 0))) ∧ Below N w wr) (fun _ _ _ _ _ _ _ _ i _ => 64 - (intOf i).toNat)
  case atStart =>
    refine ⟨0, a, b, c, d, e, f, g, h, by omega, ⟨S0.out⟩, rfl, rfl, rfl, rfl, rfl, rfl, rfl, rfl, rfl, ?_, ?_⟩
    · exact Blk.new_at _ _ _ (N + 1) (by simp [hN])
    · exact below_drewN (((Below.refl _ _).alloc (by omega) _).alloc (by simp; omega) _) _
  case round =>
    obtain ⟨k, a', b', c', d', e', f', g', h', hk, hr, rfl, rfl, rfl, rfl, rfl, rfl, rfl, rfl, rfl, hz, hb⟩ := hrel
    obtain ⟨r1, r2, r3, r4, r5, r6, r7, r8⟩ : (⟨a', b', c', d', e', f', g', h'⟩ : S8).ok := by
      have := rnds_ok (S0.out ▸ Hs.out) W k
      rwa [hr.out] at this
    by_cases hlt : k < 64
    · have ck := (hb.cell (p := ⟨t, 3 + k, none⟩) htN).trans (Hk.out k hlt)
      have cp := (hb.cell (p := ⟨pb, po + k, none⟩) hpN).trans (Hp.out k hlt)
      have k64 : (k : Int) < 64 := by omega
      have R1 := Lib.hid r1
      have R5 := Lib.hid r5
      obtain ⟨p1, q1⟩ := r1; obtain ⟨p2, q2⟩ := r2; obtain ⟨p3, q3⟩ := r3; obtain ⟨p4, q4⟩ := r4
      obtain ⟨p5, q5⟩ := r5; obtain ⟨p6, q6⟩ := r6; obtain ⟨p7, q7⟩ := r7; obtain ⟨p8, q8⟩ := r8
      go_wp2
      go_quiet (fail)
      go_wp2
      replace cp : (wr.drewN nq).cell? ⟨pb, po + k, none⟩ = _ := cp
      replace hz : Hid (Blk (wr.drewN nq) (N + 1) 64 (arr .u32 (List.replicate 8 0))) := hz
      replace hb : Below N w (wr.drewN nq) := below_drewN hb _
      clear ck
      generalize wr.drewN nq = wq at *
      go_quiet ((go_at_call 52; exact Calls.quiet_of_same (still_of (turns_1 _ R5.out _))))
      go_wp2_with (go_at_call 52; refine (turns_0 _ R1.out _).mono ?_; rintro e w' ⟨rfl, rfl⟩)
      go_roundw
      case rel =>
        refine ⟨k + 1, _, _, _, _, _, _, _, _, by omega, ⟨round_end hr.out rfl rfl⟩, ?_, rfl, rfl, rfl, ?_, rfl, rfl, rfl, by go_num, hz, below_drewN hb _⟩
        · exact congrArg (Value.int .u32) (by unfold ch maj not32; simp only)
        · exact congrArg (Value.int .u32) (by unfold ch not32; simp only)
      case measure => simp [intOf]; omega
    · have ek : k = 64 := by omega
      rw [ek] at hr
      clear ek
      have z0 := hz.out.at_ 0 (by simp)
      have f0 := hz.out.frozen 0
      have z1 := hz.out.at_ 1 (by simp)
      have f1 := hz.out.frozen 1
      have z2 := hz.out.at_ 2 (by simp)
      have f2 := hz.out.frozen 2
      have z3 := hz.out.at_ 3 (by simp)
      have f3 := hz.out.frozen 3
      have z4 := hz.out.at_ 4 (by simp)
      have f4 := hz.out.frozen 4
      have z5 := hz.out.at_ 5 (by simp)
      have f5 := hz.out.frozen 5
      have z6 := hz.out.at_ 6 (by simp)
      have f6 := hz.out.frozen 6
      have z7 := hz.out.at_ 7 (by simp)
      have f7 := hz.out.frozen 7
      go_wp2
      have k0 := hz.out.set_ 0 (.int .u32 a')
      rw [arr_set] at k0
      have k1 := k0.set_ 1 (.int .u32 b')
      rw [arr_set] at k1
      have k2 := k1.set_ 2 (.int .u32 c')
      rw [arr_set] at k2
      have k3 := k2.set_ 3 (.int .u32 d')
      rw [arr_set] at k3
      have k4 := k3.set_ 4 (.int .u32 e')
      rw [arr_set] at k4
      have k5 := k4.set_ 5 (.int .u32 f')
      rw [arr_set] at k5
      have k6 := k5.set_ 6 (.int .u32 g')
      rw [arr_set] at k6
      have k7 := k6.set_ 7 (.int .u32 h')
      rw [arr_set] at k7
      have ee : arr .u32 ((((((((List.replicate 8 0).set 0 a').set 1 b').set 2 c').set 3 d').set 4 e').set 5 f').set 6 g' |>.set 7 h') = arr .u32 (rnds s0 W 64).toL := by rw [hr.out]; rfl
      rw [ee, S0.out] at k7
      refine bodyPost_ret (results_cell_row rfl _ _ (N + 1) 64 _ (0, 0) _ rfl k7 Try.underlying64 rfl (by rw [arr_size]; kernel_rfl)) rfl ⟨rfl, ?_⟩
      have q : ∀ (w1 : World) (i : Nat) (v : Value), Below N w w1 → Below N w (w1.setCell ⟨N + 1, i, none⟩ v) := fun w1 i v hq => hq.setCell (by simp) v
      exact q _ _ _ (q _ _ _ (q _ _ _ (q _ _ _ (q _ _ _ (q _ _ _ (q _ _ _ (q _ _ _ hb)))))))
end Go.Proofs.Ytblhfbpokfegnaa.Sha
