/-
  Parts laid together: ShaBlk ShaRnd ShaMix ShaHash ShaWr ShaWrite ShaSum ShaSum2 ShaCmp ShaUse FrameSum Clone WireDoneEnc WireSize WireInto WireFail WirePut WireNum WireNewEnc FrameHead MakeB.
-/
import Derived.Test.YtimdbljagpbecaaPart2
import Derived.Test.YtimdbljagpbecaaPart1
import Derived.Deep.MidRow
import Derived.Deep.Cut
import Derived.Laws.CopyOwn
import Derived.Lib.QuietBelow
import Derived.Laws.BytesArg
import Derived.Lib.SlBytesConst
import Derived.DataShut
import Derived.Laws.OwnMore
import Derived.Test.YtimdbljagpbecaaPart3
import Derived.Lib.SliceRun
import Derived.Deep.RegionHeld3
import Derived.Deep.AppendLies
import Derived.Lib.SmallJoins

/-
  One block of SHA-256 in memory: its 64 words, the rounds.
-/





namespace Go.Proofs.Ytimdbljagpbecaa.Sha
open Go.RowKit

theorem rot_m7 (x : Int) (hx : W32 x) (w : World) : Calls Try.prog 69 #[.int .u32 x, .int .i64 (-7)] w fun e w' => e = .returned (.int .u32 (rotr x 7)) ∧ w = w' := rot_any x 7 (by omega) (by omega) hx w
theorem rot_m17 (x : Int) (hx : W32 x) (w : World) : Calls Try.prog 69 #[.int .u32 x, .int .i64 (-17)] w fun e w' => e = .returned (.int .u32 (rotr x 17)) ∧ w = w' := rot_any x 17 (by omega) (by omega) hx w
theorem rot_m18 (x : Int) (hx : W32 x) (w : World) : Calls Try.prog 69 #[.int .u32 x, .int .i64 (-18)] w fun e w' => e = .returned (.int .u32 (rotr x 18)) ∧ w = w' := rot_any x 18 (by omega) (by omega) hx w
theorem rot_m19 (x : Int) (hx : W32 x) (w : World) : Calls Try.prog 69 #[.int .u32 x, .int .i64 (-19)] w fun e w' => e = .returned (.int .u32 (rotr x 19)) ∧ w = w' := rot_any x 19 (by omega) (by omega) hx w
theorem nxw_code (y b x d : Int) : IntKind.u32.wrap (IntKind.u32.wrap (IntKind.u32.wrap (bits .xor .u32 (bits .xor .u32 (rotr y 17) (rotr y 19)) (y / 1024) + b) + bits .xor .u32 (bits .xor .u32 (rotr x 7) (rotr x 18)) (x / 8)) + d) = nxw y b x d := by
  unfold nxw near far
  simp only [IntKind.wrap_u32]
  omega

set_option maxRecDepth 100000 in
set_option maxHeartbeats 400000 in
theorem spread_any (bb bo cap : Nat) (b : List Int) (w : World) (hbl : b.length = 64) (hby : Bytes b) (hcap : 64 ≤ cap) (hc : ∀ i, i < 64 → w.cell? ⟨bb, bo + i, none⟩ = some (.int .u8 (at_ b i))) :
    Calls Try.prog 60 #[.slice (some ⟨bb, bo, none⟩) 64 cap] w fun e w' => e = .returned (.agg (arr .u32 (sched b))) ∧ Below w.heap.size w w' := by
  obtain ⟨N, hN⟩ : ∃ N, w.heap.size = N := ⟨_, rfl⟩
  have hbb : bb < N := by have h := World.block_lt_of_cell? _ _ (hc 0 (by omega)); rw [hN] at h; exact h
  have Hc := Lib.hid hc
  have Hl := Lib.hid hbl
  have Hb := Lib.hid hby
  clear hc hbl hby
  go_enter Try.func60, Try.ntmps60
  go_wp2
  go_loopw [11] (fun i wr => ∃ k : Nat, k ≤ 16 ∧ i = .int .i64 k ∧ Hid (Blk wr N 60 (arr .u32 (upto (at_ (sched b)) 64 0))) ∧ Hid (Blk wr (N + 1) 60 (arr .u32 (upto (at_ (sched b)) 64 k))) ∧ Below N w wr) (fun i _ => 16 - (intOf i).toNat)
  case atStart =>
    refine ⟨0, by omega, rfl, ?_, ?_, ?_⟩
    · rw [zeros]; exact (Blk.new_at w _ _ N hN.symm).alloc _
    · rw [zeros]; exact Blk.new_at _ _ _ (N + 1) (by simp [hN])
    · exact ((Below.refl _ _).alloc (by omega) _).alloc (by simp; omega) _
  case round =>
    obtain ⟨k, hk, rfl, h1, h2, hb⟩ := hrel
    by_cases hlt : k < 16
    · have g0 : wr.cell? ⟨bb, bo + 4 * k, none⟩ = some (.int .u8 (at_ b (4 * k))) := (hb.cell (p := ⟨bb, bo + 4 * k, none⟩) hbb).trans (Hc.out (4 * k) (by omega))
      have g1 : wr.cell? ⟨bb, bo + 4 * k + 1, none⟩ = some (.int .u8 (at_ b (4 * k + 1))) := (hb.cell (p := ⟨bb, bo + (4 * k + 1), none⟩) hbb).trans (Hc.out (4 * k + 1) (by omega))
      have g2 : wr.cell? ⟨bb, bo + 4 * k + 2, none⟩ = some (.int .u8 (at_ b (4 * k + 2))) := (hb.cell (p := ⟨bb, bo + (4 * k + 2), none⟩) hbb).trans (Hc.out (4 * k + 2) (by omega))
      have g3 : wr.cell? ⟨bb, bo + 4 * k + 3, none⟩ = some (.int .u8 (at_ b (4 * k + 3))) := (hb.cell (p := ⟨bb, bo + (4 * k + 3), none⟩) hbb).trans (Hc.out (4 * k + 3) (by omega))
      have l0 := Hb.out.at_ (4 * k)
      have l1 := Hb.out.at_ (4 * k + 1)
      have l2 := Hb.out.at_ (4 * k + 2)
      have l3 := Hb.out.at_ (4 * k + 3)
      have Hw := sched_lo b k hlt
      have hc0 := h2.out.at_ k (by rw [upto_len]; omega)
      have hz0 := h2.out.frozen k
      unfold wordOf at Hw
      generalize at_ b (4 * k) = x0 at *
      generalize at_ b (4 * k + 1) = x1 at *
      generalize at_ b (4 * k + 2) = x2 at *
      generalize at_ b (4 * k + 3) = x3 at *
      replace Hw := Kept.mk Hw
      have hne : ¬ cap = 4 * k := by omega
      have k64 : (k : Int) < 64 := by omega
      have w0 : IntKind.u32.wrap x0 = x0 := by rw [IntKind.wrap_u32]; omega
      have w1 : IntKind.u32.wrap x1 = x1 := by rw [IntKind.wrap_u32]; omega
      have w2 : IntKind.u32.wrap x2 = x2 := by rw [IntKind.wrap_u32]; omega
      have w3 : IntKind.u32.wrap x3 = x3 := by rw [IntKind.wrap_u32]; omega
      have v0 : IntKind.u32.wrap (x0 * 16777216) = x0 * 16777216 := by rw [IntKind.wrap_u32]; omega
      have v1 : IntKind.u32.wrap (x1 * 65536) = x1 * 65536 := by rw [IntKind.wrap_u32]; omega
      have v2 : IntKind.u32.wrap (x2 * 256) = x2 * 256 := by rw [IntKind.wrap_u32]; omega
      go_wp2
      refine wp_region_still_tail 24 (by kernel_rfl) (by kernel_rfl) ?_
      simp only [List.take_succ_cons, List.take_zero, List.drop_succ_cons, List.drop_zero]
      repeat still_step
      refine wpStill_nil ?_
      change wpList _ _ _ _ _ wr.drew
      clear w0 w1 w2 w3 v0 v1 v2
      go_wp2
      go_roundw
      case rel =>
        refine ⟨k + 1, by omega, by go_num, (h1.out.far (by simp) _).drew, ?_, (hb.setCell (by simp) _).drew⟩
        have := h2.out.set_ k (.int .u32 (at_ (sched b) k))
        rw [arr_set, upto_set, Hw.out] at this
        exact this.drew
      case measure => simp [intOf]; omega
    · go_wp2
      have ek : k = 16 := by omega
      rw [ek] at h2
      clear ek hk hlt
      go_loopw [6] (fun i wr => ∃ k : Nat, 16 ≤ k ∧ k ≤ 64 ∧ i = .int .i64 k ∧ Hid (Blk wr N 60 (arr .u32 (upto (at_ (sched b)) 64 0))) ∧ Hid (Blk wr (N + 1) 60 (arr .u32 (upto (at_ (sched b)) 64 k))) ∧ Below N w wr) (fun i _ => 64 - (intOf i).toNat)
      case atStart => exact ⟨16, by omega, by omega, rfl, h1, h2, hb⟩
      case round =>
        clear h1 h2 hb
        obtain ⟨k, hk1, hk, rfl, h1, h2, hb⟩ := hrel
        by_cases hlt : k < 64
        · have hc0 := h2.out.at_ k (by rw [upto_len]; omega)
          have hz0 := h2.out.frozen k
          have c2 := h2.out.at_ (k - 2) (by rw [upto_len]; omega)
          have c7 := h2.out.at_ (k - 7) (by rw [upto_len]; omega)
          have c15 := h2.out.at_ (k - 15) (by rw [upto_len]; omega)
          have c16 := h2.out.at_ (k - 16) (by rw [upto_len]; omega)
          rw [upto_at _ _ _ _ (by omega), if_pos (by omega)] at c2 c7 c15 c16
          have Hw := sched_hi b k hk1 hlt
          have b2 := sched32 b (k - 2)
          have b7 := sched32 b (k - 7)
          have b15 := sched32 b (k - 15)
          have b16 := sched32 b (k - 16)
          generalize at_ (sched b) (k - 2) = y at *
          generalize at_ (sched b) (k - 7) = y7 at *
          generalize at_ (sched b) (k - 15) = x at *
          generalize at_ (sched b) (k - 16) = x16 at *
          replace Hw := Kept.mk Hw
          have e15 : (k : Int) - 15 = ((k - 15 : Nat) : Int) := by omega
          have e2 : (k : Int) - 2 = ((k - 2 : Nat) : Int) := by omega
          have i2 : IntKind.i64.wrap ((k : Int) - 2) = ((k - 2 : Nat) : Int) := by rw [IntKind.wrap_i64]; omega
          have i7 : IntKind.i64.wrap ((k : Int) - 7) = ((k - 7 : Nat) : Int) := by rw [IntKind.wrap_i64]; omega
          have i15 : IntKind.i64.wrap ((k : Int) - 15) = ((k - 15 : Nat) : Int) := by rw [IntKind.wrap_i64]; omega
          have i16 : IntKind.i64.wrap ((k : Int) - 16) = ((k - 16 : Nat) : Int) := by rw [IntKind.wrap_i64]; omega
          have j2 : ((k - 2 : Nat) : Int) < 64 := by omega
          have j7 : ((k - 7 : Nat) : Int) < 64 := by omega
          have j15 : ((k - 15 : Nat) : Int) < 64 := by omega
          have j16 : ((k - 16 : Nat) : Int) < 64 := by omega
          clear e2 e15
          go_wp2
          go_quiet (fail)
          replace hc0 : (wr.drewN nq).cell? ⟨N + 1, k, none⟩ = _ := hc0
          replace hz0 : (wr.drewN nq).frozen? ⟨N + 1, k, none⟩ = _ := hz0
          replace c7 : (wr.drewN nq).cell? ⟨N + 1, k - 7, none⟩ = _ := c7
          replace c16 : (wr.drewN nq).cell? ⟨N + 1, k - 16, none⟩ = _ := c16
          replace h1 : Hid (Blk (wr.drewN nq) N 60 (arr .u32 (upto (at_ (sched b)) 64 0))) := h1
          replace h2 : Hid (Blk (wr.drewN nq) (N + 1) 60 (arr .u32 (upto (at_ (sched b)) 64 k))) := h2
          replace hb : Below N w (wr.drewN nq) := ⟨hb.os, hb.tape, hb.output, hb.size, hb.block⟩
          clear c2 c15
          generalize wr.drewN nq = wq at *
          obtain ⟨b2l, b2h⟩ := id b2
          obtain ⟨b15l, b15h⟩ := id b15
          have B2 := Lib.hid b2
          have B15 := Lib.hid b15
          clear b2 b15
          go_wp2_with fail
          refine (rot_m17 _ B2.out _).mono ?_
          rintro e w' ⟨rfl, rfl⟩
          go_wp2_with fail
          refine (rot_m19 _ B2.out _).mono ?_
          rintro e w' ⟨rfl, rfl⟩
          go_wp2_with fail
          refine (rot_m7 _ B15.out _).mono ?_
          rintro e w' ⟨rfl, rfl⟩
          go_wp2_with fail
          refine (rot_m18 _ B15.out _).mono ?_
          rintro e w' ⟨rfl, rfl⟩
          go_wp2
          refine wp_region_still_tail 15 (by kernel_rfl) (by kernel_rfl) ?_
          simp only [List.take_succ_cons, List.take_zero, List.drop_succ_cons, List.drop_zero]
          repeat still_step
          rw [nxw_code]
          refine wpStill_nil ?_
          change wpList _ _ _ _ _ wq.drew
          clear i2 i7 i15 i16
          go_wp2

          go_roundw
          case rel =>
            refine ⟨k + 1, by omega, by omega, by go_num, ?_, ?_, ?_⟩
            · exact (h1.out.far (by simp) _).drew
            · have := h2.out.set_ k (.int .u32 (at_ (sched b) k))
              rw [arr_set, upto_set, Hw.out] at this
              exact this.drew
            · exact (hb.setCell (by simp) _).drew
          case measure => simp [intOf]; omega
        · have ek : k = 64 := by omega
          rw [ek, upto_all _ _ (sched_len b)] at h2
          clear ek
          go_upto_region 15 with (fail)
          apply wp_region_lit
          refine wpList_load_row rfl 60 (.tmp 3) rfl (N + 1) rfl 60 _ (0, 0) _ h2.out Try.underlying60 rfl (by rw [arr_size, sched_len]; kernel_rfl) ?_
          refine wpList_store_row (o := ⟨none, .store _ _ _, _, _, _, _⟩) rfl 60 (.tmp 2) (.tmp 89) rfl N (arr .u32 (sched b)) rfl rfl 60 _ h1.out (by rw [arr_size, sched_len]; kernel_rfl) (by rw [arr_size, arr_size, sched_len, upto_len]) (all_oneCell_toArray (ints_one _ _)) ?_
          have h3 := h1.out.row (arr .u32 (sched b))
          go_wp2
          refine bodyPost_ret (v := .agg (arr .u32 (sched b))) (results_cell_row rfl _ _ N 60 _ (0, 0) _ rfl h3 Try.underlying60 rfl (by rw [arr_size, sched_len]; kernel_rfl)) rfl ⟨rfl, ?_⟩
          rw [hN]
          exact below_setRow hb (Nat.le_refl _) _
end Go.Proofs.Ytimdbljagpbecaa.Sha

/-
  The 64 rounds of SHA-256 in memory.
-/

namespace Go.Proofs.Ytimdbljagpbecaa.Sha
open Go.RowKit

theorem turns_1 (x : Int) (hx : W32 x) (w : World) : Calls Try.prog 70 #[.int .u32 x, .int .i64 6, .int .i64 11, .int .i64 25] w fun e w' => e = .returned (.int .u32 (turns3 x 6 11 25)) ∧ w = w' := turns_any x 6 11 25 (by omega) (by omega) (by omega) hx w
theorem turns_0 (x : Int) (hx : W32 x) (w : World) : Calls Try.prog 70 #[.int .u32 x, .int .i64 2, .int .i64 13, .int .i64 22] w fun e w' => e = .returned (.int .u32 (turns3 x 2 13 22)) ∧ w = w' := turns_any x 2 13 22 (by omega) (by omega) (by omega) hx w

theorem t1_code (h S c k w : Int) : IntKind.u32.wrap (IntKind.u32.wrap (IntKind.u32.wrap (IntKind.u32.wrap (h + S) + c) + k) + w) = (h + S + c + k + w) % 4294967296 := by
  simp only [IntKind.wrap_u32]; omega

set_option maxRecDepth 100000 in
set_option maxHeartbeats 400000 in
theorem rounds_any (s : S8) (hs : s.ok) (W : Nat → Int) (hW : ∀ i, W32 (W i)) (t pb po : Nat) (w : World)
    (hk : ∀ i, i < 64 → w.cell? ⟨t, 3 + i, none⟩ = some (.int .u32 (kW i : Nat))) (hp : ∀ i, i < 64 → w.cell? ⟨pb, po + i, none⟩ = some (.int .u32 (W i))) :
    Calls Try.prog 61 #[.agg #[.int .u32 s.a, .int .u32 s.b, .int .u32 s.c, .int .u32 s.d, .int .u32 s.e, .int .u32 s.f, .int .u32 s.g, .int .u32 s.h], .pointer (some ⟨t, 3, none⟩), .pointer (some ⟨pb, po, none⟩)] w
      fun e w' => e = .returned (.agg (arr .u32 (rnds s W 64).toL)) ∧ Below w.heap.size w w' := by
  obtain ⟨N, hN⟩ : ∃ N, w.heap.size = N := ⟨_, rfl⟩
  have htN : t < N := by have h := World.block_lt_of_cell? _ _ (hk 0 (by omega)); rw [hN] at h; exact h
  have hpN : pb < N := by have h := World.block_lt_of_cell? _ _ (hp 0 (by omega)); rw [hN] at h; exact h
  have Hk := Lib.hid hk
  have Hp := Lib.hid hp
  have HW := Lib.hid hW
  have Hs := Lib.hid hs
  clear hk hp hW hs
  obtain ⟨s0, hs0⟩ : ∃ s0, s0 = s := ⟨_, rfl⟩
  obtain ⟨a, b, c, d, e, f, g, h⟩ := s
  have S0 := Kept.mk hs0
  clear hs0
  go_enter Try.func61, Try.ntmps61
  go_wp2
  go_quiet (fail)
  go_wp2
  go_loopw [7, 8, 9, 10, 11, 12, 13, 14, 38] (fun va vb vc vd ve vf vg vh i wr => ∃ (k : Nat) (a b c d e f g h : Int), k ≤ 64 ∧ Kept (rnds s0 W k = ⟨a, b, c, d, e, f, g, h⟩) ∧ va = .int .u32 a ∧ vb = .int .u32 b ∧ vc = .int .u32 c ∧ vd = .int .u32 d ∧ ve = .int .u32 e ∧ vf = .int .u32 f ∧ vg = .int .u32 g ∧ vh = .int .u32 h ∧ i = .int .i64 k ∧ Hid (Blk wr (N + 1) 61 (arr .u32 (List.replicate 8 0))) ∧ Below N w wr) (fun _ _ _ _ _ _ _ _ i _ => 64 - (intOf i).toNat)
  case atStart =>
    refine ⟨0, a, b, c, d, e, f, g, h, by omega, ⟨S0.out⟩, rfl, rfl, rfl, rfl, rfl, rfl, rfl, rfl, rfl, ?_, ?_⟩
    · exact Blk.new_at _ _ _ (N + 1) (by simp [hN])
    · exact below_drewN (((Below.refl _ _).alloc (by omega) _).alloc (by simp; omega) _) _
  case round =>
    obtain ⟨k, a', b', c', d', e', f', g', h', hk, hr, rfl, rfl, rfl, rfl, rfl, rfl, rfl, rfl, rfl, hz, hb⟩ := hrel
    obtain ⟨r1, r2, r3, r4, r5, r6, r7, r8⟩ : (⟨a', b', c', d', e', f', g', h'⟩ : S8).ok := by
      have := rnds_ok (S0.out ▸ Hs.out) W k
      rwa [hr.out] at this
    by_cases hlt : k < 64
    · have ck := (hb.cell (p := ⟨t, 3 + k, none⟩) htN).trans (Hk.out k hlt)
      have cp := (hb.cell (p := ⟨pb, po + k, none⟩) hpN).trans (Hp.out k hlt)
      have k64 : (k : Int) < 64 := by omega
      have R1 := Lib.hid r1
      have R5 := Lib.hid r5
      obtain ⟨p1, q1⟩ := r1; obtain ⟨p2, q2⟩ := r2; obtain ⟨p3, q3⟩ := r3; obtain ⟨p4, q4⟩ := r4
      obtain ⟨p5, q5⟩ := r5; obtain ⟨p6, q6⟩ := r6; obtain ⟨p7, q7⟩ := r7; obtain ⟨p8, q8⟩ := r8
      go_wp2
      go_quiet (fail)
      go_wp2
      replace cp : (wr.drewN nq).cell? ⟨pb, po + k, none⟩ = _ := cp
      replace hz : Hid (Blk (wr.drewN nq) (N + 1) 61 (arr .u32 (List.replicate 8 0))) := hz
      replace hb : Below N w (wr.drewN nq) := below_drewN hb _
      clear ck
      generalize wr.drewN nq = wq at *
      go_quiet ((go_at_call 70; exact Calls.quiet_of_same (still_of (turns_1 _ R5.out _))))
      go_wp2_with (go_at_call 70; refine (turns_0 _ R1.out _).mono ?_; rintro e w' ⟨rfl, rfl⟩)
      go_roundw
      case rel =>
        refine ⟨k + 1, _, _, _, _, _, _, _, _, by omega, ⟨round_end hr.out rfl rfl⟩, ?_, rfl, rfl, rfl, ?_, rfl, rfl, rfl, by go_num, hz, below_drewN hb _⟩
        · exact congrArg (Value.int .u32) (by unfold ch maj not32; simp only)
        · exact congrArg (Value.int .u32) (by unfold ch not32; simp only)
      case measure => simp [intOf]; omega
    · have ek : k = 64 := by omega
      rw [ek] at hr
      clear ek
      have z0 := hz.out.at_ 0 (by simp)
      have f0 := hz.out.frozen 0
      have z1 := hz.out.at_ 1 (by simp)
      have f1 := hz.out.frozen 1
      have z2 := hz.out.at_ 2 (by simp)
      have f2 := hz.out.frozen 2
      have z3 := hz.out.at_ 3 (by simp)
      have f3 := hz.out.frozen 3
      have z4 := hz.out.at_ 4 (by simp)
      have f4 := hz.out.frozen 4
      have z5 := hz.out.at_ 5 (by simp)
      have f5 := hz.out.frozen 5
      have z6 := hz.out.at_ 6 (by simp)
      have f6 := hz.out.frozen 6
      have z7 := hz.out.at_ 7 (by simp)
      have f7 := hz.out.frozen 7
      go_wp2
      have k0 := hz.out.set_ 0 (.int .u32 a')
      rw [arr_set] at k0
      have k1 := k0.set_ 1 (.int .u32 b')
      rw [arr_set] at k1
      have k2 := k1.set_ 2 (.int .u32 c')
      rw [arr_set] at k2
      have k3 := k2.set_ 3 (.int .u32 d')
      rw [arr_set] at k3
      have k4 := k3.set_ 4 (.int .u32 e')
      rw [arr_set] at k4
      have k5 := k4.set_ 5 (.int .u32 f')
      rw [arr_set] at k5
      have k6 := k5.set_ 6 (.int .u32 g')
      rw [arr_set] at k6
      have k7 := k6.set_ 7 (.int .u32 h')
      rw [arr_set] at k7
      have ee : arr .u32 ((((((((List.replicate 8 0).set 0 a').set 1 b').set 2 c').set 3 d').set 4 e').set 5 f').set 6 g' |>.set 7 h') = arr .u32 (rnds s0 W 64).toL := by rw [hr.out]; rfl
      rw [ee, S0.out] at k7
      refine bodyPost_ret (results_cell_row rfl _ _ (N + 1) 61 _ (0, 0) _ rfl k7 Try.underlying61 rfl (by rw [arr_size]; kernel_rfl)) rfl ⟨rfl, ?_⟩
      have q : ∀ (w1 : World) (i : Nat) (v : Value), Below N w w1 → Below N w (w1.setCell ⟨N + 1, i, none⟩ v) := fun w1 i v hq => hq.setCell (by simp) v
      exact q _ _ _ (q _ _ _ (q _ _ _ (q _ _ _ (q _ _ _ (q _ _ _ (q _ _ _ (q _ _ _ hb)))))))
end Go.Proofs.Ytimdbljagpbecaa.Sha

/-
  A hash in memory; one block worked into it.
-/


namespace Go.Proofs.Ytimdbljagpbecaa.Sha
open Go.RowKit

/-- a hash's cells: its table, the state, the rest, the count -/
def hcl (tp : Nat) (s r : List Int) (n : Int) : List Value := [.pointer (some ⟨tp, 0, none⟩)] ++ (ints .u32 s ++ (ints .u8 r ++ [.int .u64 n]))
def hcells (tp : Nat) (s r : List Int) (n : Int) : Array Value := (hcl tp s r n).toArray
section
variable (tp : Nat) (s r : List Int) (n : Int)
theorem hc_len (hs : s.length = 8) (hr : r.length = 64) : (hcl tp s r n).length = 74 := by simp [hcl, ints_len, hs, hr]
theorem hc_0 : (hcells tp s r n)[0]? = some (.pointer (some ⟨tp, 0, none⟩)) := by simp [hcells, hcl]
theorem hc_state (hs : s.length = 8) (i : Nat) (hi : i < 8) : (hcells tp s r n)[1 + i]? = some (.int .u32 (at_ s i)) := by
  rw [hcells, List.getElem?_toArray, hcl, List.getElem?_append_right (by simp), List.getElem?_append_left (by simp [ints_len, hs]; omega)]
  simpa using ints_at .u32 s i (by omega)
theorem hc_rest (hs : s.length = 8) (hr : r.length = 64) (i : Nat) (hi : i < 64) : (hcells tp s r n)[9 + i]? = some (.int .u8 (at_ r i)) := by
  rw [hcells, List.getElem?_toArray, hcl, List.getElem?_append_right (show 1 ≤ 9 + i by omega), List.getElem?_append_right (by simp [ints_len, hs]; try omega), List.getElem?_append_left (by simp [ints_len, hs, hr]; try omega)]
  have := ints_at .u8 r i (by omega)
  simpa [ints_len, hs, show 9 + i - 1 - 8 = i by omega] using this
theorem hc_size (hs : s.length = 8) (hr : r.length = 64) : (hcells tp s r n)[73]? = some (.int .u64 n) := by
  rw [hcells, List.getElem?_toArray, hcl, List.getElem?_append_right (by simp), List.getElem?_append_right (by simp [ints_len, hs]), List.getElem?_append_right (by simp [ints_len, hs, hr])]
  simp [ints_len, hs, hr]
theorem hc_set (hs : s.length = 8) (i : Nat) (hi : i < 8) (x : Int) : (hcells tp s r n).setIfInBounds (1 + i) (.int .u32 x) = hcells tp (s.set i x) r n := by
  rw [hcells, List.setIfInBounds_toArray, hcl, List.set_append_right _ _ (by simp), List.set_append_left _ _ (by simp [ints_len, hs]; omega)]
  simp [hcells, hcl, ints_set, Nat.add_sub_cancel_left]
theorem hc_setn (hs : s.length = 8) (hr : r.length = 64) (x : Int) : (hcells tp s r n).setIfInBounds 73 (.int .u64 x) = hcells tp s r x := by
  rw [hcells, List.setIfInBounds_toArray, hcl, List.set_append_right _ _ (by simp), List.set_append_right _ _ (by simp [ints_len, hs]), List.set_append_right _ _ (by simp [ints_len, hs, hr])]
  simp [hcells, hcl, ints_len, hs, hr]
end

set_option maxRecDepth 100000 in
set_option maxHeartbeats 400000 in
theorem mix_any (hb tb bb bo cap : Nat) (s : S8) (hs : s.ok) (r : List Int) (n : Int) (b : List Int) (w : World) (hbl : b.length = 64) (hby : Bytes b) (hcap : 64 ≤ cap)
    (hm : Made w tb) (hh : Blk w hb 93 (hcells tb s.toL r n)) (hc : ∀ i, i < 64 → w.cell? ⟨bb, bo + i, none⟩ = some (.int .u8 (at_ b i))) :
    Calls Try.prog 50 #[.pointer (some ⟨hb, 0, none⟩), .slice (some ⟨bb, bo, none⟩) 64 cap] w
      fun e w' => e = .returned (.tuple #[]) ∧ Blk w' hb 93 (hcells tb (mixed s b).toL r n) ∧ Bar [hb] w w' := by
  have c0 := Lib.hid fun w' h => spread_any bb bo cap b w' hbl hby hcap h
  have Hc := Lib.hid hc
  have Hm := Lib.hid hm
  have Hh := Lib.hid hh
  have Hs := Lib.hid hs
  clear hc hm hh hs hbl hby hcap
  go_enter Try.func50, Try.ntmps50
  go_wp2_with fail
  refine (c0.out _ Hc.out).mono ?_
  rintro e w1 ⟨rfl, hb1⟩
  simp only []
  go_step
  go_step
  go_step
  go_step
  refine wpList_store_row rfl 60 (.tmp 4) (.tmp 8) rfl w1.heap.size (arr .u32 (sched b)) rfl rfl 60 _ (heap_alloc_new _ _) (by rw [arr_size, sched_len]; kernel_rfl) (by rw [arr_size, sched_len]; rfl) (all_oneCell_toArray (ints_one _ _)) ?_
  obtain ⟨M, hM⟩ : ∃ M, w1.heap.size = M := ⟨_, rfl⟩
  have hMw : w.heap.size ≤ M := by rw [← hM]; exact hb1.size
  have k1 : Blk ((w1.alloc (.cells (List.replicate 64 (Value.int .u32 0)).toArray 60)).setRow w1.heap.size (arr .u32 (sched b))) w1.heap.size 60 (arr .u32 (sched b)) := (Blk.new _ _ _).row _
  have b2 : Below w.heap.size w ((w1.alloc (.cells (List.replicate 64 (Value.int .u32 0)).toArray 60)).setRow w1.heap.size (arr .u32 (sched b))) := below_setRow (hb1.alloc hb1.size _) hb1.size _
  change wpList _ _ _ _ _ ((w1.alloc (.cells (List.replicate 64 (Value.int .u32 0)).toArray 60)).setRow w1.heap.size (arr .u32 (sched b)))
  generalize (w1.alloc (.cells (List.replicate 64 (Value.int .u32 0)).toArray 60)).setRow w1.heap.size (arr .u32 (sched b)) = w2 at *
  rw [hM] at k1 ⊢
  have k2 : Blk w2 hb 93 (hcells tb s.toL r n) := Hh.out.below b2 Hh.out.lt
  have m2 : Made w2 tb := Hm.out.below b2 Hm.out.lt
  have e0' := (k2.cell 0).trans (hc_0 _ _ _ _)
  have e0 : w2.cell? ⟨hb, 1, none⟩ = some (.int .u32 s.a) := (k2.cell 1).trans (hc_state _ _ _ _ rfl 0 (by omega))
  have e1 : w2.cell? ⟨hb, 2, none⟩ = some (.int .u32 s.b) := (k2.cell 2).trans (hc_state _ _ _ _ rfl 1 (by omega))
  have e2 : w2.cell? ⟨hb, 3, none⟩ = some (.int .u32 s.c) := (k2.cell 3).trans (hc_state _ _ _ _ rfl 2 (by omega))
  have e3 : w2.cell? ⟨hb, 4, none⟩ = some (.int .u32 s.d) := (k2.cell 4).trans (hc_state _ _ _ _ rfl 3 (by omega))
  have e4 : w2.cell? ⟨hb, 5, none⟩ = some (.int .u32 s.e) := (k2.cell 5).trans (hc_state _ _ _ _ rfl 4 (by omega))
  have e5 : w2.cell? ⟨hb, 6, none⟩ = some (.int .u32 s.f) := (k2.cell 6).trans (hc_state _ _ _ _ rfl 5 (by omega))
  have e6 : w2.cell? ⟨hb, 7, none⟩ = some (.int .u32 s.g) := (k2.cell 7).trans (hc_state _ _ _ _ rfl 6 (by omega))
  have e7 : w2.cell? ⟨hb, 8, none⟩ = some (.int .u32 s.h) := (k2.cell 8).trans (hc_state _ _ _ _ rfl 7 (by omega))
  have q0 := cell_regrown e0'
  have q1 := cell_regrown e0
  have q2 := cell_regrown e1
  have q3 := cell_regrown e2
  have q4 := cell_regrown e3
  have q5 := cell_regrown e4
  have q6 := cell_regrown e5
  have q7 := cell_regrown e6
  have q8 := cell_regrown e7
  have cM : ∀ d os, Calls Try.prog 49 #[.pointer (some ⟨tb, 0, none⟩)] (Go.Sort.grow (redrawn w2 d) os) fun e w'' => e = .returned (.pointer (some ⟨tb, 0, none⟩)) ∧ ∃ p : Regrown, w'' = Go.Sort.grow (redrawn w2 p.d) p.os := fun d os =>
    Calls.regrown_of ((made_again tb _ (m2.below (below_regrown w2 d os) m2.lt)).mono fun _ _ ⟨a, b⟩ => ⟨a, b ▸ Below.refl _ _⟩)
  have cR : ∀ d os, Calls Try.prog 61 #[.agg #[.int .u32 s.a, .int .u32 s.b, .int .u32 s.c, .int .u32 s.d, .int .u32 s.e, .int .u32 s.f, .int .u32 s.g, .int .u32 s.h], .pointer (some ⟨tb, 3, none⟩), .pointer (some ⟨M, 0, none⟩)] (Go.Sort.grow (redrawn w2 d) os)
      fun e w'' => e = .returned (.agg (arr .u32 (rnds s (at_ (sched b)) 64).toL)) ∧ ∃ p : Regrown, w'' = Go.Sort.grow (redrawn w2 p.d) p.os := fun d os =>
    Calls.regrown_of (rounds_any s Hs.out (at_ (sched b)) (sched32 b) tb M 0 _
      (fun i hi => ((below_regrown w2 d os).cell (p := ⟨tb, 3 + i, none⟩) m2.lt).trans ((m2.cell (3 + i)).trans (by rw [tbl_word _ _ _ _ _ _ hi, if_pos hi])))
      (fun i hi => ((below_regrown w2 d os).cell (p := ⟨M, 0 + i, none⟩) k1.lt).trans (by rw [Nat.zero_add]; exact k1.at_ i (by rw [sched_len]; exact hi))))
  have K2 := Lib.hid k2
  clear k1 k2 m2 hM e0' e0 e1 e2 e3 e4 e5 e6 e7
  replace cM := Lib.hid cM
  replace cR := Lib.hid cR
  go_wp2
  refine wp_region_quiet_below (by kernel_rfl) (by kernel_rfl) ?_
  repeat (quiet_step (first | exact cM.out _ _ | exact cR.out _ _))
  refine wpQuiet_nil ?_
  intro _ hw'
  obtain ⟨⟨dq, osq⟩, hw''⟩ := hw'
  subst hw''
  have b3 := below_regrown w2 dq osq
  have k3 := K2.out.below b3 K2.out.lt
  replace b3 := barOf (b2.trans (b3.mono b2.size)) [hb]
  clear q0 q1 q2 q3 q4 q5 q6 q7 q8 cM cR b2 K2
  simp only []
  generalize Go.Sort.grow (redrawn w2 dq) osq = w3 at *
  obtain ⟨V, hV⟩ : ∃ V, rnds s (at_ (sched b)) 64 = V := ⟨_, rfl⟩
  have HV := Kept.mk hV
  rw [hV]
  clear hV
  go_wp2
  go_loopw [21] (fun i wr => ∃ k : Nat, k ≤ 8 ∧ i = .int .i64 k ∧ Hid (Blk wr hb 93 (hcells tb (addTo s.toL V.toL k) r n)) ∧ Bar [hb] w wr) (fun i _ => 8 - (intOf i).toNat)
  case atStart => exact ⟨0, by omega, rfl, by rw [addTo_0 _ _ rfl]; exact k3, b3⟩
  case round =>
    clear k3 b3
    obtain ⟨k, hk, rfl, h1, b1⟩ := hrel
    by_cases hlt : k < 8
    · have k8 : (k : Int) < 8 := by omega
      have hc0 := (h1.out.cell (1 + k)).trans (hc_state _ _ _ _ (addTo_len _ _ _) k hlt)
      rw [addTo_at _ _ _ _ hlt, if_neg (by omega)] at hc0
      have hz0 := h1.out.frozen (1 + k)
      have hix := index_arr (P := Try.prog) (k := .u32) Try.underlying61 Try.underlying51 (by kernel_rfl) (show V.toL.length = 8 from rfl) k hlt wr
      have e := addTo_set s.toL V.toL k
      generalize at_ s.toL k = x at *
      generalize at_ V.toL k = y at *
      have E := Kept.mk e
      clear e
      go_wp2
      refine wp_region_still_tail 11 (by kernel_rfl) (by kernel_rfl) ?_
      simp only [List.take_succ_cons, List.take_zero, List.drop_succ_cons, List.drop_zero]
      repeat still_step
      rw [IntKind.wrap_u32]
      refine wpStill_nil ?_
      change wpList _ _ _ _ _ wr.drew
      go_wp2
      go_roundw
      case rel =>
        refine ⟨k + 1, by omega, by go_num, ?_, (b1.setCell (by simp) _).drew⟩
        have := h1.out.set_ (1 + k) (.int .u32 ((x + y) % 4294967296))
        rw [hc_set _ _ _ _ (addTo_len _ _ _) _ hlt, E.out] at this
        exact this.drew
      case measure => simp [intOf]; omega
    · have ek : k = 8 := by omega
      have h2 := h1.out
      rw [ek, addTo_8] at h2
      clear ek
      go_wp2
      go_end0
      exact ⟨rfl, by unfold mixed; rw [HV.out]; exact h2, b1⟩
end Go.Proofs.Ytimdbljagpbecaa.Sha

/-
  A hash under way: nothing written yet; what is put behind; the sum.
-/

namespace Go.Proofs.Ytimdbljagpbecaa.Sha
open Go.RowKit

def Hs (w : World) (h t : Nat) (text : List Int) : Prop := h ≠ t ∧ Made w t ∧ Bytes text ∧ ∃ r : List Int, r.length = 64 ∧ Bytes r ∧ r.take (text.length % 64) = text.drop (text.length / 64 * 64) ∧ Blk w h 93 (hcells t (st text).toL r (text.length : Nat))

theorem zc : Try.zeroCells93 = ([Value.pointer none, .int .u32 0, .int .u32 0, .int .u32 0, .int .u32 0, .int .u32 0, .int .u32 0, .int .u32 0, .int .u32 0] ++ (List.replicate 64 (Value.int .u8 0) ++ [Value.int .u64 0])).toArray := by kernel_rfl
theorem hc_new (t : Nat) : (((((((((Try.zeroCells93.setIfInBounds 0 (.pointer (some ⟨t, 0, none⟩))).setIfInBounds 1 (.int .u32 (hW 0 : Nat))).setIfInBounds 2 (.int .u32 (hW 1 : Nat))).setIfInBounds 3 (.int .u32 (hW 2 : Nat))).setIfInBounds 4 (.int .u32 (hW 3 : Nat))).setIfInBounds 5 (.int .u32 (hW 4 : Nat))).setIfInBounds 6 (.int .u32 (hW 5 : Nat))).setIfInBounds 7 (.int .u32 (hW 6 : Nat))).setIfInBounds 8 (.int .u32 (hW 7 : Nat))) = hcells t (st []).toL (List.replicate 64 0) (([] : List Int).length : Nat) := by
  have : st [] = S0 := rfl
  rw [zc, this]
  simp [hcells, hcl, ints, S8.toL, S0]
def NewPost (t : Nat) (w : World) (e : Ending) (w' : World) : Prop := ∃ h, e = .returned (.pointer (some ⟨h, 0, none⟩)) ∧ w.heap.size ≤ h ∧ Hs w' h t [] ∧ Bar [t] w w'

set_option maxRecDepth 100000 in
set_option maxHeartbeats 400000 in
theorem new_any (t : Nat) (w : World) (ht : Tab w t) : Calls Try.prog 33 #[.pointer (some ⟨t, 0, none⟩)] w (NewPost t w) := by
  have c := Lib.hid (made_any t w ht)
  have tl : t < w.heap.size := by
    rcases ht with h | h
    · exact Blk.lt h
    · exact Blk.lt h
  clear ht
  go_enter Try.func33, Try.ntmps33
  go_wp2_with fail
  refine c.out.mono ?_
  rintro e w1 ⟨rfl, k, b⟩
  have e0 : w1.cell? ⟨t, 67, none⟩ = some (.int .u32 (hW 0 : Nat)) := (k.cell 67).trans (tbl_start _ _ _ _ _ 0 (by omega))
  have e1 : w1.cell? ⟨t, 68, none⟩ = some (.int .u32 (hW 1 : Nat)) := (k.cell 68).trans (tbl_start _ _ _ _ _ 1 (by omega))
  have e2 : w1.cell? ⟨t, 69, none⟩ = some (.int .u32 (hW 2 : Nat)) := (k.cell 69).trans (tbl_start _ _ _ _ _ 2 (by omega))
  have e3 : w1.cell? ⟨t, 70, none⟩ = some (.int .u32 (hW 3 : Nat)) := (k.cell 70).trans (tbl_start _ _ _ _ _ 3 (by omega))
  have e4 : w1.cell? ⟨t, 71, none⟩ = some (.int .u32 (hW 4 : Nat)) := (k.cell 71).trans (tbl_start _ _ _ _ _ 4 (by omega))
  have e5 : w1.cell? ⟨t, 72, none⟩ = some (.int .u32 (hW 5 : Nat)) := (k.cell 72).trans (tbl_start _ _ _ _ _ 5 (by omega))
  have e6 : w1.cell? ⟨t, 73, none⟩ = some (.int .u32 (hW 6 : Nat)) := (k.cell 73).trans (tbl_start _ _ _ _ _ 6 (by omega))
  have e7 : w1.cell? ⟨t, 74, none⟩ = some (.int .u32 (hW 7 : Nat)) := (k.cell 74).trans (tbl_start _ _ _ _ _ 7 (by omega))
  have K := Lib.hid k
  clear k
  go_wp2
  go_ret
  refine ⟨w1.heap.size, rfl, b.size, ⟨?_, K.out.alloc _, by intro x hx; simp at hx, List.replicate 64 0, by simp, ?_, rfl, ?_⟩, b.alloc _⟩
  · have := b.size; omega
  · intro x hx
    obtain ⟨_, rfl⟩ := List.mem_replicate.1 hx
    omega
  · rw [← hc_new]
    exact Blk.new_at _ _ _ _ rfl
end Go.Proofs.Ytimdbljagpbecaa.Sha

/-
  What is put behind in a hash: the lists, and the copy into the hash's rest.
-/

namespace Go.Proofs.Ytimdbljagpbecaa.Sha
open Go.RowKit

theorem hcl_splice (t : Nat) (s r : List Int) (n : Int) (hs : s.length = 8) (hr : r.length = 64) (k : Nat) (cs : List Int) (hk : k + cs.length ≤ 64) :
    splice (hcl t s r n) (9 + k) (ints .u8 cs) = hcl t s (splice r k cs) n := by
  have l1 : ([Value.pointer (some ⟨t, 0, none⟩)] ++ ints .u32 s).length = 9 := by simp [ints_len, hs]
  have e : hcl t s r n = ([Value.pointer (some ⟨t, 0, none⟩)] ++ ints .u32 s) ++ (ints .u8 r ++ [.int .u64 n]) := by simp [hcl]
  have e2 : hcl t s (splice r k cs) n = ([Value.pointer (some ⟨t, 0, none⟩)] ++ ints .u32 s) ++ (ints .u8 (splice r k cs) ++ [.int .u64 n]) := by simp [hcl]
  rw [e, e2]
  unfold splice
  rw [List.take_append, List.drop_append, l1, List.take_of_length_le (by rw [l1]; omega), show 9 + k - 9 = k by omega, show 9 + k + (ints .u8 cs).length - 9 = k + cs.length by rw [ints_len]; omega,
    List.drop_eq_nil_of_le (by rw [l1, ints_len]; omega), List.take_append_of_le_length (by rw [ints_len]; omega), List.drop_append_of_le_length (by rw [ints_len]; omega)]
  simp [ints]
theorem splice_len {r cs : List Int} {k : Nat} (hk : k + cs.length ≤ r.length) : (splice r k cs).length = r.length := by simp [splice]; omega
theorem splice_bytes {r cs : List Int} {k : Nat} (h1 : Bytes r) (h2 : Bytes cs) : Bytes (splice r k cs) := (h1.take _).append (h2.append (h1.drop _))

/-- a slice of bytes in memory, to be read: they are xs; it lies outside block hb -/
def Sl (w : World) (A : Option Addr) (n : Nat) (xs : List Int) (hb : Nat) : Prop :=
  xs.length = n ∧ Bytes xs ∧ (n = 0 ∨ ∃ b o, A = some ⟨b, o, none⟩ ∧ b ≠ hb ∧ ∀ i, i < n → w.cell? ⟨b, o + i, none⟩ = some (.int .u8 (at_ xs i)))
theorem Sl.bar {w w' : World} {A : Option Addr} {n : Nat} {xs : List Int} {hb : Nat} {l : List Nat} (h : Sl w A n xs hb) (b : Bar l w w') (hl : ∀ x ∈ l, x = hb ∨ w.heap.size ≤ x) : Sl w' A n xs hb := by
  obtain ⟨h1, h2, h3⟩ := h
  refine ⟨h1, h2, h3.imp id ?_⟩
  rintro ⟨bb, o, rfl, hne, hc⟩
  refine ⟨bb, o, rfl, hne, fun i hi => ?_⟩
  have h := hc i hi
  have hlt : bb < w.heap.size := World.block_lt_of_cell? _ _ h
  rw [← h]
  exact World.cell?_of_block (w := w) (b.block bb hlt (fun hm => by
    rcases hl bb hm with h | h
    · exact hne h
    · omega))
theorem Sl.drop {w : World} {A : Option Addr} {n : Nat} {xs : List Int} {hb : Nat} (h : Sl w A n xs hb) (k : Nat) (hk : k ≤ n) : Sl w (Option.map (fun x => x.add k) A) (n - k) (xs.drop k) hb := by
  obtain ⟨h1, h2, h3⟩ := h
  refine ⟨by simp; omega, h2.drop _, ?_⟩
  rcases h3 with h3 | ⟨b, o, rfl, hne, hc⟩
  · exact .inl (by omega)
  · have e : (⟨b, o, none⟩ : Addr).add k = ⟨b, o + k, none⟩ := by cases k <;> simp [Addr.add]
    refine .inr ⟨b, o + k, by rw [Option.map_some, e], hne, fun i hi => ?_⟩
    rw [Nat.add_assoc, hc (k + i) (by omega), at_drop]
theorem Sl.nil_ {w : World} {A : Option Addr} {hb : Nat} : Sl w A 0 [] hb := ⟨rfl, by intro x hx; simp at hx, .inl rfl⟩

/-- the copy's premise -/
theorem Sl.src {w : World} {A : Option Addr} {n : Nat} {xs : List Int} {hb : Nat} (h : Sl w A n xs hb) (m : Nat) (hm : m ≤ n) : 0 < (ints .u8 (xs.take m)).length → ∃ ad, A = some ad ∧ ∀ j v, (ints .u8 (xs.take m))[j]? = some v → w.cell? (ad.add j) = some v := by
  obtain ⟨h1, h2, h3⟩ := h
  intro hp
  rw [ints_len, List.length_take] at hp
  rcases h3 with h3 | ⟨b, o, rfl, hne, hc⟩
  · omega
  · refine ⟨_, rfl, fun j v hj => ?_⟩
    have hjl : j < (xs.take m).length := by
      have := (List.getElem?_eq_some_iff.1 hj).1
      rwa [ints_len] at this
    rw [ints_at _ _ _ hjl, at_take (by rw [List.length_take] at hjl; omega)] at hj
    rw [← hj]
    have e : (⟨b, o, none⟩ : Addr).add j = ⟨b, o + j, none⟩ := by cases j <;> simp [Addr.add]
    rw [e]
    exact hc j (by rw [List.length_take] at hjl; omega)

section
variable {text xs r : List Int}
/-- not a block full yet -/
theorem few (hr : r.length = 64) (he : r.take (text.length % 64) = text.drop (text.length / 64 * 64)) (hn : text.length % 64 + xs.length < 64) :
    (splice r (text.length % 64) xs).take ((text ++ xs).length % 64) = (text ++ xs).drop ((text ++ xs).length / 64 * 64) ∧ st (text ++ xs) = st text := by
  refine ⟨?_, st_rest _ _ hn⟩
  rw [List.length_append, show (text.length + xs.length) % 64 = text.length % 64 + xs.length by omega, show (text.length + xs.length) / 64 = text.length / 64 by omega]
  rw [List.drop_append_of_le_length (by omega), ← he]
  unfold splice
  rw [← List.append_assoc, List.take_append_of_le_length (by simp; omega), List.take_of_length_le (by simp; omega)]
/-- a block that is full -/
theorem full (hr : r.length = 64) (he : r.take (text.length % 64) = text.drop (text.length / 64 * 64)) (h0 : 0 < text.length % 64) (hn : 64 ≤ text.length % 64 + xs.length) :
    st (text ++ xs.take (64 - text.length % 64)) = mixed (st text) (splice r (text.length % 64) (xs.take (64 - text.length % 64))) := by
  obtain ⟨h, hh⟩ : ∃ h, text.length % 64 = h := ⟨_, rfl⟩
  have e1 : text = text.take (text.length / 64 * 64) ++ r.take h := by rw [← hh, he, List.take_append_drop]
  have l0 : (text.take (text.length / 64 * 64)).length % 64 = 0 := by rw [List.length_take, Nat.min_eq_left (by omega)]; omega
  have e2 : splice r h (xs.take (64 - h)) = r.take h ++ xs.take (64 - h) := by
    unfold splice
    rw [List.drop_eq_nil_of_le (by rw [List.length_take]; omega), List.append_nil]
  rw [hh, e2]
  have e3 : st text = st (text.take (text.length / 64 * 64)) := by
    conv => lhs; rw [e1]
    rw [st_rest _ _ (by rw [l0, List.length_take]; omega)]
  rw [e3, ← st_block _ _ l0 (by rw [List.length_append, List.length_take, List.length_take]; omega), ← List.append_assoc, ← e1]
/-- one more block -/
theorem more (p : Nat) (h : (text ++ xs.take p).length % 64 = 0) (hp : p + 64 ≤ xs.length) : st (text ++ xs.take (p + 64)) = mixed (st (text ++ xs.take p)) ((xs.drop p).take 64) := by
  rw [← st_block _ _ h (by simp; omega), List.append_assoc, List.take_add]
/-- what is left -/
theorem left (p : Nat) (h : (text ++ xs.take p).length % 64 = 0) (hp : p ≤ xs.length) (hn : xs.length < p + 64) :
    (splice r 0 (xs.drop p)).take ((text ++ xs).length % 64) = (text ++ xs).drop ((text ++ xs).length / 64 * 64) ∧ st (text ++ xs) = st (text ++ xs.take p) := by
  have l : (text ++ xs.take p).length = text.length + p := by rw [List.length_append, List.length_take]; omega
  rw [l] at h
  have e : text ++ xs = (text ++ xs.take p) ++ xs.drop p := by rw [List.append_assoc, List.take_append_drop]
  constructor
  · conv => rhs; rw [e]
    rw [List.length_append, show (text.length + xs.length) % 64 = xs.length - p by omega, List.length_append, l, List.length_drop, show (text.length + p + (xs.length - p)) / 64 * 64 = text.length + p by omega, ← l, List.drop_left]
    unfold splice
    simp
  · rw [e, st_rest _ _ (by rw [l, List.length_drop]; omega)]
end
end Go.Proofs.Ytimdbljagpbecaa.Sha

/-
  (*Hash).Write: what is written stands behind what was.
-/

namespace Go.Proofs.Ytimdbljagpbecaa.Sha
open Go.RowKit

def Wrel (hb t : Nat) (text xs : List Int) (w : World) (p c : Nat) (A : Option Addr) (r : List Int) (wr : World) : Prop :=
  p ≤ xs.length ∧ xs.length - p ≤ c ∧ (text ++ xs.take p).length % 64 = 0 ∧ Sl wr A (xs.length - p) (xs.drop p) hb ∧ r.length = 64 ∧ Bytes r ∧ Made wr t ∧
  Blk wr hb 93 (hcells t (st (text ++ xs.take p)).toL r (text.length + xs.length : Nat)) ∧ Bar [hb] w wr
theorem Sl.some_ {w : World} {A : Option Addr} {n : Nat} {xs : List Int} {hb : Nat} (h : Sl w A n xs hb) (hn : 0 < n) : ∃ b o, A = some ⟨b, o, none⟩ ∧ b ≠ hb ∧ ∀ i, i < n → w.cell? ⟨b, o + i, none⟩ = some (.int .u8 (at_ xs i)) := by
  rcases h.2.2 with h | h
  · omega
  · exact h

set_option maxRecDepth 100000 in
set_option maxHeartbeats 1000000 in
theorem write_0 (hb t : Nat) (text xs : List Int) (A : Option Addr) (n cap : Nat) (w : World) (hh : Hs w hb t text) (hs : Sl w A n xs hb) (hcap : n ≤ cap) (hmax : cap ≤ 9223372036854775807) (htot : text.length + n < 1152921504606846976) (hheld : text.length % 64 = 0) :
    Calls Try.prog 34 #[.pointer (some ⟨hb, 0, none⟩), .slice A n cap] w fun e w' => e = .returned (.tuple #[]) ∧ Hs w' hb t (text ++ xs) ∧ Bar [hb] w w' := by
  obtain ⟨hne, hm, hby, r, hr, hrb, he, hblk⟩ := hh
  obtain ⟨rfl, hbx, -⟩ := id hs
  have HBX := Kept.mk hbx
  clear hbx
  obtain ⟨L, hL⟩ : ∃ L, text.length = L := ⟨_, rfl⟩
  rw [hL] at htot
  have HL := Kept.mk hL
  have c1 : w.cell? ⟨hb, 73, none⟩ = some (.int .u64 (L : Nat)) := by rw [← hL]; exact (hblk.cell 73).trans (hc_size _ _ _ _ rfl hr)
  have z1 := hblk.frozen 73
  obtain ⟨X, hX⟩ : ∃ X, X = xs.length := ⟨_, rfl⟩
  have HX := Kept.mk hX
  have hheld' : ((L : Nat) : Int) % 64 = 0 := by rw [← hL]; omega
  have k0 : Kept (Wrel hb t text xs w 0 cap A r (w.setCell ⟨hb, 73, none⟩ (.int .u64 ((L : Int) + (X : Int))))) := by
    refine ⟨⟨Nat.zero_le _, by omega, by simpa using hheld, by simpa using hs.bar ((Bar.refl [hb] w).setCell (by simp) _) (by simp), hr, hrb, hm.far (by simpa using hne.symm) _, ?_, (Bar.refl [hb] w).setCell (by simp) _⟩⟩
    have := hblk.set_ 73 (.int .u64 ((L : Int) + (X : Int)))
    rw [hc_setn _ _ _ _ rfl hr] at this
    rw [hX, ← hL] at this ⊢
    simpa using this
  rw [← hX] at htot hcap ⊢
  clear hs hcap hblk he hr hrb hm hL hX hheld
  go_enter Try.func34, Try.ntmps34
  go_wp2
  rw [hheld']
  clear hheld'
  go_loopw [1] (fun v wr => ∃ (p c : Nat) (A : Option Addr) (r : List Int), v = .slice A (X - p) c ∧ Kept (c ≤ 9223372036854775807 ∧ Wrel hb t text xs w p c A r wr)) (fun v _ => lenOf v)
  case atStart => exact ⟨0, cap, A, r, rfl, ⟨hmax, k0.out⟩⟩
  case round =>
    clear k0
    obtain ⟨p, c, A', r', rfl, hk⟩ := hrel
    obtain ⟨hc, h⟩ := hk.out
    obtain ⟨hp, hpc, hmod, hsl, hr, hrb, hm, hblk, hbar⟩ := h
    rw [← HX.out] at hp hpc hsl
    obtain ⟨q, hq⟩ : ∃ q, X - p = q := ⟨_, rfl⟩
    rw [hq] at hpc hsl
    rw [hq]
    by_cases h64 : 64 ≤ q
    · obtain ⟨b, o, rfl, hbn, hcell⟩ := hsl.some_ (by omega)
      have hql : (xs.drop p).length = q := hsl.1
      have cm := mix_any hb t b o c (st (text ++ xs.take p)) (st_ok _) r' _ ((xs.drop p).take 64) wr (by rw [List.length_take]; omega) (hsl.2.1.take _) (by omega) hm hblk (fun i hi => by rw [at_take hi]; exact hcell i (by omega))
      rw [← more p hmod (by have := HX.out; omega)] at cm
      have hs2 := Kept.mk (hsl.drop 64 h64)
      rw [Option.map_some, show (⟨b, o, none⟩ : Addr).add 64 = ⟨b, o + 64, none⟩ by simp [Addr.add], List.drop_drop] at hs2
      have hnext : ∀ (w2 : World) (A2 : Option Addr), Sl w2 A2 (q - 64) (xs.drop (p + 64)) hb → Blk w2 hb 93 (hcells t (st (text ++ xs.take (p + 64))).toL r' (text.length + xs.length : Nat)) → Bar [hb] wr w2 → Kept (c - 64 ≤ 9223372036854775807 ∧ Wrel hb t text xs w (p + 64) (c - 64) A2 r' w2) := by
        intro w2 A2 s2 k2 b2
        have hX := HX.out
        refine ⟨by omega, by omega, by omega, ?_, by rw [show xs.length - (p + 64) = q - 64 by omega]; exact s2, hr, hrb, hm.bar b2 (by simpa using hne.symm), k2, hbar.trans b2 (by simp)⟩
        rw [List.length_append, List.length_take] at hmod ⊢
        omega
      have Cm := Kept.mk cm
      have Hnext := Kept.mk hnext
      have hq' : X - (p + 64) = q - 64 := by omega
      have Hq := Kept.mk hq'
      have Hsl := Kept.mk hsl
      clear hk hmod hsl hr hrb hm hblk hbar cm hnext hq hq' hql hcell hp
      by_cases hc64 : c = 64
      · subst hc64
        have hq0 : q - 64 = 0 := by omega
        go_wp2_with fail
        refine Cm.out.mono ?_
        rintro e w2 ⟨rfl, k2, b2⟩
        have rel := Hnext.out w2 (some ⟨b, o, none⟩) (by
          have := hs2.out.1
          rw [hq0] at this ⊢
          rw [List.eq_nil_of_length_eq_zero this]
          exact Sl.nil_) k2 b2
        replace rel := Kept.mk rel
        clear k2 b2
        go_wp2
        go_roundw
        case rel => exact ⟨p + 64, 64 - 64, _, r', by rw [Hq.out, hq0], rel.out⟩
        case measure => simp [lenOf]; omega
      · go_wp2_with fail
        refine Cm.out.mono ?_
        rintro e w2 ⟨rfl, k2, b2⟩
        have rel := Hnext.out w2 (some ⟨b, o + 64, none⟩) (hs2.out.bar b2 (by simp)) k2 b2
        replace rel := Kept.mk rel
        clear k2 b2
        go_wp2
        go_roundw
        case rel => exact ⟨p + 64, c - 64, _, r', by rw [Hq.out], rel.out⟩
        case measure => simp [lenOf]; omega
    · have hlf := left (r := r') p hmod (by rw [← HX.out]; omega) (by rw [← HX.out]; omega)
      have hql : (xs.drop p).length = q := hsl.1
      have hsrc := hsl.src q (by omega)
      rw [List.take_of_length_le (by omega)] at hsrc
      have hby2 : Bytes (xs.drop p) := hsl.2.1
      have fin : ∀ w2, Blk w2 hb 93 (splice (hcl t (st (text ++ xs.take p)).toL r' (text.length + xs.length : Nat)) (9 + 0) (ints .u8 (xs.drop p))).toArray → Bar [hb] wr w2 → Hs w2 hb t (text ++ xs) ∧ Bar [hb] w w2 := by
        intro w2 k2 b2
        rw [hcl_splice _ _ _ _ rfl hr 0 _ (by omega), ← hlf.2] at k2
        refine ⟨⟨hne, hm.bar b2 (by simpa using hne.symm), hby.append HBX.out, splice r' 0 (xs.drop p), by rw [splice_len (by omega), hr], splice_bytes hrb hby2, hlf.1, ?_⟩, hbar.trans b2 (by simp)⟩
        rw [List.length_append]; exact k2
      have Fin := Kept.mk fin
      have Hsrc := Kept.mk hsrc
      have Hblk := Kept.mk hblk
      have Hql := Kept.mk hql
      have Hr := Kept.mk hr
      clear hk hmod hsl hr hrb hm hblk hbar hlf hq hql hp hby2 hsrc fin
      go_upto_region 10 with (fail)
      apply wp_region_lit
      go_wp2_with ((with_reducible refine sel 58 ?_); refine wpList_copy_bar rfl (.tmp 56) (.tmp 57) 22 22 rfl 5 Try.underlying22 (by kernel_rfl) _ _ _ _ _ _ rfl rfl hb (9 + 0) _ 93 Hblk.out (ints .u8 (xs.drop p)) (by rw [ints_len, Hql.out]; exact (Nat.min_eq_left (by omega)).symm) (fun h0 => ⟨rfl, Hsrc.out h0⟩) (by rw [ints_len, Hql.out, hc_len _ _ _ _ rfl Hr.out]; omega) (ints_one _ _) ?_; intro w2 HG HB)
      have F := Kept.mk (Fin.out w2 HG.out HB)
      clear HG HB
      go_wp2
      go_end0
      exact ⟨rfl, F.out⟩

set_option maxRecDepth 100000 in
set_option maxHeartbeats 1000000 in
theorem write_1 (hb t : Nat) (text xs : List Int) (A : Option Addr) (n cap : Nat) (w : World) (hh : Hs w hb t text) (hs : Sl w A n xs hb) (hcap : n ≤ cap) (hmax : cap ≤ 9223372036854775807) (htot : text.length + n < 1152921504606846976) (hheld : 0 < text.length % 64) :
    Calls Try.prog 34 #[.pointer (some ⟨hb, 0, none⟩), .slice A n cap] w fun e w' => e = .returned (.tuple #[]) ∧ Hs w' hb t (text ++ xs) ∧ Bar [hb] w w' := by
  obtain ⟨hne, hm, hby, r, hr, hrb, he, hblk⟩ := hh
  obtain ⟨rfl, hbx, -⟩ := id hs
  have HBX := Kept.mk hbx
  clear hbx
  obtain ⟨L, hL⟩ : ∃ L, text.length = L := ⟨_, rfl⟩
  obtain ⟨h, hh⟩ : ∃ h, text.length % 64 = h := ⟨_, rfl⟩
  rw [hL] at htot
  rw [hh] at hheld
  have hh64 : h < 64 := by omega
  have hh64' : (h : Int) ≤ 64 := by omega
  have HL := Kept.mk hL
  have c1 : w.cell? ⟨hb, 73, none⟩ = some (.int .u64 (L : Nat)) := by rw [← hL]; exact (hblk.cell 73).trans (hc_size _ _ _ _ rfl hr)
  have z1 := hblk.frozen 73
  obtain ⟨X, hX⟩ : ∃ X, X = xs.length := ⟨_, rfl⟩
  have HX := Kept.mk hX
  have hheld' : ((L : Nat) : Int) % 64 = (h : Nat) := by rw [← hL]; omega
  -- behind the count's store
  have k0 := hblk.set_ 73 (.int .u64 ((L : Int) + (X : Int)))
  rw [hc_setn _ _ _ _ rfl hr] at k0
  have s0 := hs.bar ((Bar.refl [hb] w).setCell (p := ⟨hb, 73, none⟩) (by simp) (.int .u64 ((L : Int) + (X : Int)))) (by simp)
  have m0 : Made (w.setCell ⟨hb, 73, none⟩ (.int .u64 ((L : Int) + (X : Int)))) t := hm.far (by simpa using hne.symm) _
  have b0 := (Bar.refl [hb] w).setCell (p := ⟨hb, 73, none⟩) (by simp) (.int .u64 ((L : Int) + (X : Int)))
  obtain ⟨m, hm'⟩ : ∃ m, min X (64 - h) = m := ⟨_, rfl⟩
  have hsrc := s0.src m (by omega)
  have hlm : (xs.take m).length = m := by rw [List.length_take]; omega
  have fin1 : X < 64 - h → ∀ w2, Blk w2 hb 93 (splice (hcl t (st text).toL r ((L : Int) + (X : Int))) (9 + h) (ints .u8 (xs.take m))).toArray → Bar [hb] (w.setCell ⟨hb, 73, none⟩ (.int .u64 ((L : Int) + (X : Int)))) w2 → Hs w2 hb t (text ++ xs) ∧ Bar [hb] w w2 := by
    intro hlt w2 k2 b2
    have e1 : xs.take m = xs := List.take_of_length_le (by omega)
    rw [e1] at k2
    have hf := few (xs := xs) hr he (by omega)
    rw [hcl_splice _ _ _ _ rfl hr h _ (by omega), ← hf.2] at k2
    refine ⟨⟨hne, m0.bar b2 (by simpa using hne.symm), hby.append HBX.out, splice r h xs, by rw [splice_len (by omega), hr], splice_bytes hrb HBX.out, by rw [← hh]; exact hf.1, ?_⟩, b0.trans b2 (by simp)⟩
    rw [List.length_append, Int.natCast_add, ← hX, hL]; exact k2
  have fin2 : 64 - h ≤ X → ∀ w2, Blk w2 hb 93 (splice (hcl t (st text).toL r ((L : Int) + (X : Int))) (9 + h) (ints .u8 (xs.take m))).toArray → Bar [hb] (w.setCell ⟨hb, 73, none⟩ (.int .u64 ((L : Int) + (X : Int)))) w2 →
      Calls Try.prog 50 #[.pointer (some ⟨hb, 0, none⟩), .slice (some ⟨hb, 9, none⟩) 64 64] w2 fun e w3 => e = .returned (.tuple #[]) ∧ Kept (Sl w3 A X xs hb ∧ ∀ A2, Sl w3 A2 (X - m) (xs.drop m) hb → Kept (cap - m ≤ 9223372036854775807 ∧ Wrel hb t text xs w m (cap - m) A2 (splice r h (xs.take m)) w3)) := by
    intro hge w2 k2 b2
    have hm2 : m = 64 - h := by omega
    have hl2 : (splice r h (xs.take m)).length = 64 := by rw [splice_len (by omega), hr]
    have hb2 : Bytes (splice r h (xs.take m)) := splice_bytes hrb (HBX.out.take _)
    rw [hcl_splice _ _ _ _ rfl hr h _ (by omega)] at k2
    have mw := m0.bar b2 (by simpa using hne.symm)
    refine (mix_any hb t hb 9 64 (st text) (st_ok _) _ _ _ w2 hl2 hb2 (Nat.le_refl _) mw k2 (fun i hi => (k2.cell (9 + i)).trans (hc_rest _ _ _ _ rfl hl2 i hi))).mono ?_
    rintro e w3 ⟨rfl, k3, b3⟩
    have hf := full (xs := xs) hr he (by omega) (by omega)
    rw [hh, ← hm2] at hf
    rw [← hf, ← hL, ← Int.natCast_add, hX] at k3
    refine ⟨rfl, ⟨?_, fun A2 s2 => ⟨by omega, by omega, by omega, ?_, by rw [← hX]; exact s2, hl2, hb2, mw.bar b3 (by simpa using hne.symm), k3, (b0.trans b2 (by simp)).trans b3 (by simp)⟩⟩⟩
    · have := (s0.bar b2 (by simp)).bar b3 (by simp)
      rw [hX]; exact this
    · rw [List.length_append, hlm]; omega
  have Fin1 := Kept.mk fin1
  have Fin2 := Kept.mk fin2
  have Hsrc := Kept.mk hsrc
  have K0 := Kept.mk k0
  have Hlm := Kept.mk hlm
  have Hr := Kept.mk hr
  have S0 := Kept.mk s0
  clear hsrc fin1 fin2 k0 s0 m0 b0 hblk he hr hrb hm hL hlm hh
  by_cases hlt : X < 64 - h
  · rw [Nat.min_eq_left (by omega)] at hm'
    subst hm'
    rw [← hX] at hcap ⊢
    clear hX hs
    have hlt' : (h : Int) + (X : Int) < 64 := by omega
    go_enter Try.func34, Try.ntmps34
    go_wp2_with ((with_reducible refine sel 30 ?_); refine wpList_copy_bar rfl (.tmp 28) (.tmp 29) 22 22 rfl 5 Try.underlying22 (by kernel_rfl) _ _ _ _ _ _ rfl rfl hb (9 + h) _ 93 K0.out (ints .u8 (xs.take X)) (by rw [ints_len, Hlm.out]; exact (Nat.min_eq_left (by omega)).symm) (fun h0 => ⟨rfl, Hsrc.out h0⟩) (by rw [ints_len, Hlm.out, hc_len _ _ _ _ rfl Hr.out]; omega) (ints_one _ _) ?_; intro w2 HG HB; have F := Kept.mk (Fin1.out hlt w2 HG.out HB); clear HG HB; rw [ints_len, Hlm.out])
    go_wp2
    refine bodyPost_ret (results_none rfl _ _ _) rfl ?_
    exact ⟨rfl, F.out⟩
  · have hge : 64 - h ≤ X := by omega
    have em : min X (64 - h) = 64 - h := by omega
    rw [em] at hm'
    have hmX : m ≤ X := by omega
    have eM : (64 : Nat) - h = m := hm'
    have EM := Kept.mk eM
    rw [← hX] at hcap ⊢
    clear hX hs em hm'
    obtain ⟨g, hg⟩ : ∃ g, (h : Int) + (m : Int) = g := ⟨_, rfl⟩
    have hg64 : (h : Int) + (m : Int) = 64 := by omega
    by_cases hcm : cap = m
    · obtain rfl : cap = X := by omega
      obtain rfl : cap = m := hcm
      clear hg eM
      go_enter Try.func34, Try.ntmps34
      go_wp2_with ((with_reducible refine sel 30 ?_); refine wpList_copy_bar rfl (.tmp 28) (.tmp 29) 22 22 rfl 5 Try.underlying22 (by kernel_rfl) _ _ _ _ _ _ rfl rfl hb (9 + h) _ 93 K0.out (ints .u8 (xs.take cap)) (by rw [ints_len, Hlm.out]; exact by rw [EM.out]; exact (Nat.min_self _).symm) (fun h0 => ⟨rfl, Hsrc.out h0⟩) (by rw [ints_len, Hlm.out, hc_len _ _ _ _ rfl Hr.out]; omega) (ints_one _ _) ?_; intro w2 HG HB; have F := Kept.mk (Fin2.out (by rw [EM.out]; exact Nat.le_refl _) w2 HG.out HB); clear HG HB; rw [ints_len, Hlm.out])
      refine F.out.mono ?_
      rintro e w3 ⟨rfl, R⟩
      clear F
      have R0 := R.out.2 A (by rw [Nat.sub_self, List.drop_eq_nil_of_le (by have := HX.out; omega)]; exact Sl.nil_)
      rw [Nat.sub_self] at R0
      clear R K0 Fin1 Fin2 Hsrc Hlm S0 hge hlt
      go_wp2
      go_loopw [1] (fun v wr => ∃ (p c : Nat) (A : Option Addr) (r : List Int), v = .slice A (cap - p) c ∧ Kept (c ≤ 9223372036854775807 ∧ Wrel hb t text xs w p c A r wr)) (fun v _ => lenOf v)
      case atStart => exact ⟨cap, 0, A, splice r h (xs.take cap), by rw [Nat.sub_self], R0⟩
      case round =>
        clear R0
        obtain ⟨p, c, A', r', rfl, hk⟩ := hrel
        obtain ⟨hc, h⟩ := hk.out
        obtain ⟨hp, hpc, hmod, hsl, hr, hrb, hm, hblk, hbar⟩ := h
        rw [← HX.out] at hp hpc hsl
        obtain ⟨q, hq⟩ : ∃ q, cap - p = q := ⟨_, rfl⟩
        rw [hq] at hpc hsl
        rw [hq]
        by_cases h64 : 64 ≤ q
        · obtain ⟨b, o, rfl, hbn, hcell⟩ := hsl.some_ (by omega)
          have hql : (xs.drop p).length = q := hsl.1
          have cm := mix_any hb t b o c (st (text ++ xs.take p)) (st_ok _) r' _ ((xs.drop p).take 64) wr (by rw [List.length_take]; omega) (hsl.2.1.take _) (by omega) hm hblk (fun i hi => by rw [at_take hi]; exact hcell i (by omega))
          rw [← more p hmod (by have := HX.out; omega)] at cm
          have hs2 := Kept.mk (hsl.drop 64 h64)
          rw [Option.map_some, show (⟨b, o, none⟩ : Addr).add 64 = ⟨b, o + 64, none⟩ by simp [Addr.add], List.drop_drop] at hs2
          have hnext : ∀ (w2 : World) (A2 : Option Addr), Sl w2 A2 (q - 64) (xs.drop (p + 64)) hb → Blk w2 hb 93 (hcells t (st (text ++ xs.take (p + 64))).toL r' (text.length + xs.length : Nat)) → Bar [hb] wr w2 → Kept (c - 64 ≤ 9223372036854775807 ∧ Wrel hb t text xs w (p + 64) (c - 64) A2 r' w2) := by
            intro w2 A2 s2 k2 b2
            have hX := HX.out
            refine ⟨by omega, by omega, by omega, ?_, by rw [show xs.length - (p + 64) = q - 64 by omega]; exact s2, hr, hrb, hm.bar b2 (by simpa using hne.symm), k2, hbar.trans b2 (by simp)⟩
            rw [List.length_append, List.length_take] at hmod ⊢
            omega
          have Cm := Kept.mk cm
          have Hnext := Kept.mk hnext
          have hq' : cap - (p + 64) = q - 64 := by omega
          have Hq := Kept.mk hq'
          have Hsl := Kept.mk hsl
          clear hk hmod hsl hr hrb hm hblk hbar cm hnext hq hq' hql hcell hp
          by_cases hc64 : c = 64
          · subst hc64
            have hq0 : q - 64 = 0 := by omega
            go_wp2_with fail
            refine Cm.out.mono ?_
            rintro e w2 ⟨rfl, k2, b2⟩
            have rel := Hnext.out w2 (some ⟨b, o, none⟩) (by
              have := hs2.out.1
              rw [hq0] at this ⊢
              rw [List.eq_nil_of_length_eq_zero this]
              exact Sl.nil_) k2 b2
            replace rel := Kept.mk rel
            clear k2 b2
            go_wp2
            go_roundw
            case rel => exact ⟨p + 64, 64 - 64, _, r', by rw [Hq.out, hq0], rel.out⟩
            case measure => simp [lenOf]; omega
          · go_wp2_with fail
            refine Cm.out.mono ?_
            rintro e w2 ⟨rfl, k2, b2⟩
            have rel := Hnext.out w2 (some ⟨b, o + 64, none⟩) (hs2.out.bar b2 (by simp)) k2 b2
            replace rel := Kept.mk rel
            clear k2 b2
            go_wp2
            go_roundw
            case rel => exact ⟨p + 64, c - 64, _, r', by rw [Hq.out], rel.out⟩
            case measure => simp [lenOf]; omega
        · have hlf := left (r := r') p hmod (by rw [← HX.out]; omega) (by rw [← HX.out]; omega)
          have hql : (xs.drop p).length = q := hsl.1
          have hsrc := hsl.src q (by omega)
          rw [List.take_of_length_le (by omega)] at hsrc
          have hby2 : Bytes (xs.drop p) := hsl.2.1
          have fin : ∀ w2, Blk w2 hb 93 (splice (hcl t (st (text ++ xs.take p)).toL r' (text.length + xs.length : Nat)) (9 + 0) (ints .u8 (xs.drop p))).toArray → Bar [hb] wr w2 → Hs w2 hb t (text ++ xs) ∧ Bar [hb] w w2 := by
            intro w2 k2 b2
            rw [hcl_splice _ _ _ _ rfl hr 0 _ (by omega), ← hlf.2] at k2
            refine ⟨⟨hne, hm.bar b2 (by simpa using hne.symm), hby.append HBX.out, splice r' 0 (xs.drop p), by rw [splice_len (by omega), hr], splice_bytes hrb hby2, hlf.1, ?_⟩, hbar.trans b2 (by simp)⟩
            rw [List.length_append]; exact k2
          have Fin := Kept.mk fin
          have Hsrc := Kept.mk hsrc
          have Hblk := Kept.mk hblk
          have Hql := Kept.mk hql
          have Hr := Kept.mk hr
          clear hk hmod hsl hr hrb hm hblk hbar hlf hq hql hp hby2 hsrc fin
          go_upto_region 10 with (fail)
          apply wp_region_lit
          go_wp2_with ((with_reducible refine sel 58 ?_); refine wpList_copy_bar rfl (.tmp 56) (.tmp 57) 22 22 rfl 5 Try.underlying22 (by kernel_rfl) _ _ _ _ _ _ rfl rfl hb (9 + 0) _ 93 Hblk.out (ints .u8 (xs.drop p)) (by rw [ints_len, Hql.out]; exact (Nat.min_eq_left (by omega)).symm) (fun h0 => ⟨rfl, Hsrc.out h0⟩) (by rw [ints_len, Hql.out, hc_len _ _ _ _ rfl Hr.out]; omega) (ints_one _ _) ?_; intro w2 HG HB)
          have F := Kept.mk (Fin.out w2 HG.out HB)
          clear HG HB
          go_wp2
          go_end0
          exact ⟨rfl, F.out⟩
    · obtain ⟨b0, o0, rfl, hbn0, hcell0⟩ := S0.out.some_ (by have := HX.out; omega)
      clear hcell0
      have hge2 : (m : Int) ≤ (X : Int) := by omega
      clear hg eM
      go_enter Try.func34, Try.ntmps34
      go_wp2_with ((with_reducible refine sel 30 ?_); refine wpList_copy_bar rfl (.tmp 28) (.tmp 29) 22 22 rfl 5 Try.underlying22 (by kernel_rfl) _ _ _ _ _ _ rfl rfl hb (9 + h) _ 93 K0.out (ints .u8 (xs.take m)) (by rw [ints_len, Hlm.out]; exact by rw [EM.out]; exact (Nat.min_eq_right hmX).symm) (fun h0 => ⟨rfl, Hsrc.out h0⟩) (by rw [ints_len, Hlm.out, hc_len _ _ _ _ rfl Hr.out]; omega) (ints_one _ _) ?_; intro w2 HG HB; have F := Kept.mk (Fin2.out hge w2 HG.out HB); clear HG HB; rw [ints_len, Hlm.out])
      refine F.out.mono ?_
      rintro e w3 ⟨rfl, R⟩
      clear F
      have R0 := R.out.2 (some ⟨b0, o0 + m, none⟩) (by
        have := R.out.1.drop m hmX
        rwa [Option.map_some, show (⟨b0, o0, none⟩ : Addr).add m = ⟨b0, o0 + m, none⟩ by cases m <;> simp [Addr.add]] at this)
      clear R K0 Fin1 Fin2 Hsrc Hlm S0 hge hlt
      go_wp2
      go_loopw [1] (fun v wr => ∃ (p c : Nat) (A : Option Addr) (r : List Int), v = .slice A (X - p) c ∧ Kept (c ≤ 9223372036854775807 ∧ Wrel hb t text xs w p c A r wr)) (fun v _ => lenOf v)
      case atStart => exact ⟨m, cap - m, some ⟨b0, o0 + m, none⟩, splice r h (xs.take m), rfl, R0⟩
      case round =>
        clear R0
        obtain ⟨p, c, A', r', rfl, hk⟩ := hrel
        obtain ⟨hc, h⟩ := hk.out
        obtain ⟨hp, hpc, hmod, hsl, hr, hrb, hm, hblk, hbar⟩ := h
        rw [← HX.out] at hp hpc hsl
        obtain ⟨q, hq⟩ : ∃ q, X - p = q := ⟨_, rfl⟩
        rw [hq] at hpc hsl
        rw [hq]
        by_cases h64 : 64 ≤ q
        · obtain ⟨b, o, rfl, hbn, hcell⟩ := hsl.some_ (by omega)
          have hql : (xs.drop p).length = q := hsl.1
          have cm := mix_any hb t b o c (st (text ++ xs.take p)) (st_ok _) r' _ ((xs.drop p).take 64) wr (by rw [List.length_take]; omega) (hsl.2.1.take _) (by omega) hm hblk (fun i hi => by rw [at_take hi]; exact hcell i (by omega))
          rw [← more p hmod (by have := HX.out; omega)] at cm
          have hs2 := Kept.mk (hsl.drop 64 h64)
          rw [Option.map_some, show (⟨b, o, none⟩ : Addr).add 64 = ⟨b, o + 64, none⟩ by simp [Addr.add], List.drop_drop] at hs2
          have hnext : ∀ (w2 : World) (A2 : Option Addr), Sl w2 A2 (q - 64) (xs.drop (p + 64)) hb → Blk w2 hb 93 (hcells t (st (text ++ xs.take (p + 64))).toL r' (text.length + xs.length : Nat)) → Bar [hb] wr w2 → Kept (c - 64 ≤ 9223372036854775807 ∧ Wrel hb t text xs w (p + 64) (c - 64) A2 r' w2) := by
            intro w2 A2 s2 k2 b2
            have hX := HX.out
            refine ⟨by omega, by omega, by omega, ?_, by rw [show xs.length - (p + 64) = q - 64 by omega]; exact s2, hr, hrb, hm.bar b2 (by simpa using hne.symm), k2, hbar.trans b2 (by simp)⟩
            rw [List.length_append, List.length_take] at hmod ⊢
            omega
          have Cm := Kept.mk cm
          have Hnext := Kept.mk hnext
          have hq' : X - (p + 64) = q - 64 := by omega
          have Hq := Kept.mk hq'
          have Hsl := Kept.mk hsl
          clear hk hmod hsl hr hrb hm hblk hbar cm hnext hq hq' hql hcell hp
          by_cases hc64 : c = 64
          · subst hc64
            have hq0 : q - 64 = 0 := by omega
            go_wp2_with fail
            refine Cm.out.mono ?_
            rintro e w2 ⟨rfl, k2, b2⟩
            have rel := Hnext.out w2 (some ⟨b, o, none⟩) (by
              have := hs2.out.1
              rw [hq0] at this ⊢
              rw [List.eq_nil_of_length_eq_zero this]
              exact Sl.nil_) k2 b2
            replace rel := Kept.mk rel
            clear k2 b2
            go_wp2
            go_roundw
            case rel => exact ⟨p + 64, 64 - 64, _, r', by rw [Hq.out, hq0], rel.out⟩
            case measure => simp [lenOf]; omega
          · go_wp2_with fail
            refine Cm.out.mono ?_
            rintro e w2 ⟨rfl, k2, b2⟩
            have rel := Hnext.out w2 (some ⟨b, o + 64, none⟩) (hs2.out.bar b2 (by simp)) k2 b2
            replace rel := Kept.mk rel
            clear k2 b2
            go_wp2
            go_roundw
            case rel => exact ⟨p + 64, c - 64, _, r', by rw [Hq.out], rel.out⟩
            case measure => simp [lenOf]; omega
        · have hlf := left (r := r') p hmod (by rw [← HX.out]; omega) (by rw [← HX.out]; omega)
          have hql : (xs.drop p).length = q := hsl.1
          have hsrc := hsl.src q (by omega)
          rw [List.take_of_length_le (by omega)] at hsrc
          have hby2 : Bytes (xs.drop p) := hsl.2.1
          have fin : ∀ w2, Blk w2 hb 93 (splice (hcl t (st (text ++ xs.take p)).toL r' (text.length + xs.length : Nat)) (9 + 0) (ints .u8 (xs.drop p))).toArray → Bar [hb] wr w2 → Hs w2 hb t (text ++ xs) ∧ Bar [hb] w w2 := by
            intro w2 k2 b2
            rw [hcl_splice _ _ _ _ rfl hr 0 _ (by omega), ← hlf.2] at k2
            refine ⟨⟨hne, hm.bar b2 (by simpa using hne.symm), hby.append HBX.out, splice r' 0 (xs.drop p), by rw [splice_len (by omega), hr], splice_bytes hrb hby2, hlf.1, ?_⟩, hbar.trans b2 (by simp)⟩
            rw [List.length_append]; exact k2
          have Fin := Kept.mk fin
          have Hsrc := Kept.mk hsrc
          have Hblk := Kept.mk hblk
          have Hql := Kept.mk hql
          have Hr := Kept.mk hr
          clear hk hmod hsl hr hrb hm hblk hbar hlf hq hql hp hby2 hsrc fin
          go_upto_region 10 with (fail)
          apply wp_region_lit
          go_wp2_with ((with_reducible refine sel 58 ?_); refine wpList_copy_bar rfl (.tmp 56) (.tmp 57) 22 22 rfl 5 Try.underlying22 (by kernel_rfl) _ _ _ _ _ _ rfl rfl hb (9 + 0) _ 93 Hblk.out (ints .u8 (xs.drop p)) (by rw [ints_len, Hql.out]; exact (Nat.min_eq_left (by omega)).symm) (fun h0 => ⟨rfl, Hsrc.out h0⟩) (by rw [ints_len, Hql.out, hc_len _ _ _ _ rfl Hr.out]; omega) (ints_one _ _) ?_; intro w2 HG HB)
          have F := Kept.mk (Fin.out w2 HG.out HB)
          clear HG HB
          go_wp2
          go_end0
          exact ⟨rfl, F.out⟩

theorem write_any (hb t : Nat) (text xs : List Int) (A : Option Addr) (n cap : Nat) (w : World) (hh : Hs w hb t text) (hs : Sl w A n xs hb) (hcap : n ≤ cap) (hmax : cap ≤ 9223372036854775807) (htot : text.length + n < 1152921504606846976) :
    Calls Try.prog 34 #[.pointer (some ⟨hb, 0, none⟩), .slice A n cap] w fun e w' => e = .returned (.tuple #[]) ∧ Hs w' hb t (text ++ xs) ∧ Bar [hb] w w' := by
  by_cases h : text.length % 64 = 0
  · exact write_0 hb t text xs A n cap w hh hs hcap hmax htot h
  · exact write_1 hb t text xs A n cap w hh hs hcap hmax htot (by omega)
end Go.Proofs.Ytimdbljagpbecaa.Sha

/-
  (*Hash).pad, Sum, One: the sum of what was written.
-/

namespace Go.Proofs.Ytimdbljagpbecaa.Sha
open Go.RowKit

/-- byte x of the end as it is built: the count's last 8 - k bytes stand -/
def tc (L k x : Nat) : Int := if x = 0 then 128 else if 1 + padn L + k ≤ x ∧ x < 9 + padn L then ((L * 8 / 256 ^ (7 - (x - (1 + padn L))) % 256 : Nat) : Int) else 0
def TL (L k : Nat) : List Int := (List.range 72).map (tc L k)
theorem TL_len (L k : Nat) : (TL L k).length = 72 := by simp [TL]
theorem TL_at (L k x : Nat) (h : x < 72) : at_ (TL L k) x = tc L k x := at_range _ _ _ h
theorem TL_set (L k : Nat) (hk : k < 8) : (TL L (k + 1)).set (1 + padn L + k) ((L * 8 / 256 ^ (7 - k) % 256 : Nat) : Int) = TL L k := by
  have hp := padn_le L
  apply at_ext
  · rw [List.length_set, TL_len, TL_len]
  · intro i hi
    rw [List.length_set, TL_len] at hi
    rw [at_set _ _ _ _ (by rw [TL_len]; exact hi), TL_at _ _ _ hi, TL_at _ _ _ hi]
    by_cases h : 1 + padn L + k = i
    · subst h
      rw [if_pos rfl, tc, if_neg (by omega), if_pos (by omega), show 1 + padn L + k - (1 + padn L) = k by omega]
    · rw [if_neg h, tc, tc]
      by_cases h0 : i = 0
      · rw [if_pos h0, if_pos h0]
      · rw [if_neg h0, if_neg h0]
        by_cases h1 : 1 + padn L + (k + 1) ≤ i ∧ i < 9 + padn L
        · rw [if_pos h1, if_pos (by omega)]
        · rw [if_neg h1, if_neg (by omega)]
theorem TL_8 (L : Nat) : TL L 8 = (List.replicate 72 (0 : Int)).set 0 128 := by
  apply at_ext
  · rw [TL_len, List.length_set, List.length_replicate]
  · intro i hi
    rw [TL_len] at hi
    rw [TL_at _ _ _ hi, at_set _ _ _ _ (by rw [List.length_replicate]; exact hi), tc]
    by_cases h0 : i = 0
    · subst h0; simp
    · rw [if_neg h0, if_neg (by omega), if_neg (by omega)]
      unfold at_
      rw [List.getD_eq_getElem?_getD, List.getElem?_replicate, if_pos hi]
      rfl
theorem TL_0 (L : Nat) : (TL L 0).take (9 + padn L) = tail L := by
  have hp := padn_le L
  apply at_ext
  · rw [List.length_take, TL_len, tail_len]; omega
  · intro i hi
    rw [List.length_take, TL_len] at hi
    rw [at_take (by omega), TL_at _ _ _ (by omega), tc, tail]
    match i with
    | 0 => rfl
    | i + 1 =>
      rw [if_neg (by omega)]
      show _ = at_ (List.replicate (padn L) 0 ++ be8 (L * 8)) i
      by_cases h : i < padn L
      · rw [if_neg (by omega), at_append_left (by simpa using h)]
        simp [at_, h]
      · rw [if_pos (by omega), at_append_right (by simp; omega), List.length_replicate, be8, at_range _ _ _ (by omega), show i + 1 - (1 + padn L) = i - padn L by omega]
set_option maxRecDepth 100000 in
set_option maxHeartbeats 1000000 in
theorem pad_any (hb t : Nat) (text : List Int) (w : World) (hh : Hs w hb t text) (hL0 : text.length < 576460752303423488) :
    Calls Try.prog 51 #[.pointer (some ⟨hb, 0, none⟩)] w fun e w' => e = .returned (.tuple #[]) ∧ Hs w' hb t (text ++ tail text.length) ∧ Bar [hb] w w' := by
  obtain ⟨L, hL⟩ : ∃ L, text.length = L := ⟨_, rfl⟩
  obtain ⟨N, hN⟩ : ∃ N, w.heap.size = N := ⟨_, rfl⟩
  have hbN : hb < N := by obtain ⟨_, _, _, _, _, _, _, k⟩ := hh; rw [← hN]; exact k.lt
  have c1 : w.cell? ⟨hb, 73, none⟩ = some (.int .u64 (L : Nat)) := by
    obtain ⟨_, _, _, r, hr, _, _, k⟩ := hh
    rw [← hL]; exact (k.cell 73).trans (hc_size _ _ _ _ rfl hr)
  have tN : t < N := by obtain ⟨_, m, _⟩ := hh; rw [← hN]; exact Blk.lt m
  rw [hL] at hL0
  obtain ⟨P, hP⟩ : ∃ P, padn L = P := ⟨_, rfl⟩
  have hP63 : P ≤ 63 := by rw [← hP]; exact padn_le L
  have eP : (119 - (L : Int) % 64) % 64 = (P : Nat) := by rw [← hP]; unfold padn; omega
  have HL := Kept.mk hL
  have HP := Kept.mk hP
  have Hh := Kept.mk hh
  clear hL hP hh
  go_enter Try.func51, Try.ntmps51
  go_wp2
  rw [eP]
  clear eP c1
  go_loopw [4, 5] (fun v i wr => ∃ k : Nat, k ≤ 8 ∧ v = .int .u64 ((L * 8 / 256 ^ (8 - k) : Nat) : Int) ∧ i = .int .i64 ((k : Int) - 1) ∧ Hid (Blk wr N 107 (arr .u8 (TL L k))) ∧ Below N w wr) (fun _ i _ => (intOf i + 1).toNat)
  case atStart =>
    refine ⟨8, by omega, by simp, rfl, ?_, (Below.refl _ _).alloc (by omega) _⟩
    rw [TL_8, ← arr_set]
    exact Blk.new_at _ _ _ N hN.symm
  case round =>
    obtain ⟨k, hk, rfl, rfl, h1, b1⟩ := hrel
    cases k with
    | zero =>
      rw [show ((0 : Nat) : Int) - 1 = -1 by rfl]
      have hk1 := Hh.out
      have hs : Sl wr (some ⟨N, 0, none⟩) (1 + P + 8) (tail text.length) hb := by
        refine ⟨by rw [tail_len, HL.out, HP.out]; omega, tail_bytes _, .inr ⟨N, 0, rfl, by omega, fun i hi => ?_⟩⟩
        have hlt : i < 9 + padn L := by rw [HP.out]; omega
        rw [Nat.zero_add, HL.out, ← TL_0, at_take hlt]
        exact h1.out.at_ i (by rw [TL_len]; omega)
      have hh2 : Hs wr hb t text := by
        obtain ⟨hne, hm, hby, r, hr, hrb, he, hblk⟩ := hk1
        exact ⟨hne, hm.below b1 tN, hby, r, hr, hrb, he, hblk.below b1 hbN⟩
      have cw := write_any hb t text (tail text.length) (some ⟨N, 0, none⟩) (1 + P + 8) 72 wr hh2 hs (by omega) (by omega) (by rw [HL.out]; omega)
      have Cw := Kept.mk cw
      have B1 := Kept.mk b1
      clear hk1 hs hh2 cw h1 b1
      have s1 : (0 : Int) ≤ 1 + (P : Int) + 8 := by omega
      have s2 : 1 + (P : Int) + 8 ≤ 72 := by omega
      have s3 : (1 + (P : Int) + 8).toNat = 1 + P + 8 := by omega
      go_wp2_with fail
      refine Cw.out.mono ?_
      rintro e w2 ⟨rfl, k2, b2⟩
      have K2 := Kept.mk k2
      clear k2
      go_wp2
      go_end0
      refine ⟨rfl, K2.out, (barOf (hN ▸ B1.out) [hb]).trans b2 (by simp)⟩
    | succ k =>
      rw [show ((k + 1 : Nat) : Int) - 1 = (k : Int) by omega]
      have e1 := TL_set L k (by omega)
      rw [HP.out] at e1
      have hq2 : L * 8 / 256 ^ (7 - k) / 256 = L * 8 / 256 ^ (8 - k) := by
        have e : 256 ^ (7 - k) * 256 = 256 ^ (8 - k) := by rw [show 8 - k = 7 - k + 1 by omega, Nat.pow_succ]
        rw [Nat.div_div_eq_div_mul, e]
      have hqle : L * 8 / 256 ^ (7 - k) ≤ L * 8 := Nat.div_le_self _ _
      rw [show 8 - (k + 1) = 7 - k by omega]
      generalize L * 8 / 256 ^ (7 - k) = q at *
      have hc0 := h1.out.at_ (1 + P + k) (by rw [TL_len]; omega)
      have hz0 := h1.out.frozen (1 + P + k)
      have E1 := Kept.mk e1
      have HQ := Kept.mk hq2
      clear e1 hq2
      go_wp2
      go_roundw
      case rel =>
        refine ⟨k, by omega, by rw [← HQ.out]; rfl, rfl, ?_, b1.setCell (by simp) _⟩
        have := h1.out.set_ (1 + P + k) (.int .u8 ((q % 256 : Nat) : Int))
        rw [arr_set, E1.out] at this
        exact this
      case measure => simp [intOf]
end Go.Proofs.Ytimdbljagpbecaa.Sha

/-
  (*Hash).Sum: 32 bytes in new memory; what was written stands as it stood.
-/

namespace Go.Proofs.Ytimdbljagpbecaa.Sha
open Go.RowKit

def SumPost (text : List Int) (w : World) (e : Ending) (w' : World) : Prop := ∃ M, e = .returned (.slice (some ⟨M, 0, none⟩) 32 32) ∧ w.heap.size ≤ M ∧ Blk w' M 5 (arr .u8 (sha text)) ∧ Below w.heap.size w w'

set_option maxRecDepth 100000 in
set_option maxHeartbeats 1000000 in
theorem sum_any (hb t : Nat) (text : List Int) (w : World) (hh : Hs w hb t text) (hL0 : text.length < 576460752303423488) :
    Calls Try.prog 35 #[.pointer (some ⟨hb, 0, none⟩)] w (SumPost text w) := by
  obtain ⟨N, hN⟩ : ∃ N, w.heap.size = N := ⟨_, rfl⟩
  obtain ⟨s, hs⟩ : ∃ s, st (text ++ tail text.length) = s := ⟨_, rfl⟩
  obtain ⟨hne, hm, hby, r, hr, hrb, he, hblk⟩ := hh
  have hbN : hb < N := by rw [← hN]; exact hblk.lt
  have tN : t < N := by rw [← hN]; exact Blk.lt hm
  have hcl74 : (hcells t (st text).toL r (text.length : Nat)).size = 74 := by
    rw [hcells, List.size_toArray]; exact hc_len _ _ _ _ rfl hr
  have hone : (hcells t (st text).toL r (text.length : Nat)).all (·.oneCell') = true := by
    refine all_oneCell_toArray fun v hv => ?_
    unfold hcl at hv
    simp only [List.mem_append, List.mem_singleton] at hv
    rcases hv with rfl | hv | hv | rfl
    · rfl
    · exact ints_one _ _ v hv
    · exact ints_one _ _ v hv
    · rfl
  have Hblk := Kept.mk hblk
  have Hcopy : Kept (∀ z : Array Value, Hs ((w.alloc (.cells z 93)).setRow N (hcells t (st text).toL r (text.length : Nat))) N t text ∧ Below N w ((w.alloc (.cells z 93)).setRow N (hcells t (st text).toL r (text.length : Nat)))) := by
    refine ⟨fun z => ?_⟩
    have b : Below N w ((w.alloc (.cells z 93)).setRow N (hcells t (st text).toL r (text.length : Nat))) := below_setRow ((Below.refl _ _).alloc (by omega) _) (Nat.le_refl _) _
    exact ⟨⟨by omega, hm.below b tN, hby, r, hr, hrb, he, (Blk.new_at w _ _ N hN.symm).row _⟩, b⟩
  clear hblk hm hby he hr hrb hne
  have Hone := Kept.mk hone
  have Hcl := Kept.mk hcl74
  clear hone hcl74
  go_enter Try.func35, Try.ntmps35
  go_wp2_with (first
    | ((with_reducible refine sel 9 ?_); refine wpList_load_row rfl 93 (.tmp 8) rfl hb rfl 93 _ (0, 0) _ Hblk.out Try.underlying93 rfl (by rw [Hcl.out]; kernel_rfl) ?_)
    | ((with_reducible refine selS 93 (.tmp 3) (.tmp 9) ?_); refine wpList_store_row rfl 93 (.tmp 3) (.tmp 9) rfl N _ rfl rfl 93 _ (Blk.new_at _ _ _ N hN.symm) (by rw [Hcl.out]; kernel_rfl) (by rw [Hcl.out]; kernel_rfl) Hone.out ?_))
  refine (pad_any N t text _ (Hcopy.out _).1 hL0).mono ?_
  rintro e w2 ⟨rfl, k2, b2⟩
  have bb := (Hcopy.out _).2.trans (b2.below (B := N) (by simp [World.setRow]; omega) (by simp))
  clear b2 Hcopy Hone Hcl Hblk
  obtain ⟨hne2, hm2, hby2, r2, hr2, hrb2, he2, kb⟩ := k2
  rw [hs] at kb
  have e0 : w2.cell? ⟨N, 1, none⟩ = some (.int .u32 s.a) := (kb.cell 1).trans (hc_state _ _ _ _ rfl 0 (by omega))
  have e1 : w2.cell? ⟨N, 2, none⟩ = some (.int .u32 s.b) := (kb.cell 2).trans (hc_state _ _ _ _ rfl 1 (by omega))
  have e2 : w2.cell? ⟨N, 3, none⟩ = some (.int .u32 s.c) := (kb.cell 3).trans (hc_state _ _ _ _ rfl 2 (by omega))
  have e3 : w2.cell? ⟨N, 4, none⟩ = some (.int .u32 s.d) := (kb.cell 4).trans (hc_state _ _ _ _ rfl 3 (by omega))
  have e4 : w2.cell? ⟨N, 5, none⟩ = some (.int .u32 s.e) := (kb.cell 5).trans (hc_state _ _ _ _ rfl 4 (by omega))
  have e5 : w2.cell? ⟨N, 6, none⟩ = some (.int .u32 s.f) := (kb.cell 6).trans (hc_state _ _ _ _ rfl 5 (by omega))
  have e6 : w2.cell? ⟨N, 7, none⟩ = some (.int .u32 s.g) := (kb.cell 7).trans (hc_state _ _ _ _ rfl 6 (by omega))
  have e7 : w2.cell? ⟨N, 8, none⟩ = some (.int .u32 s.h) := (kb.cell 8).trans (hc_state _ _ _ _ rfl 7 (by omega))
  have hN2 := kb.lt
  clear hne2 hm2 hby2 hr2 hrb2 he2 kb
  obtain ⟨M, hM⟩ : ∃ M, w2.heap.size = M := ⟨_, rfl⟩
  obtain ⟨iu, hi, hz0, hz1, hz2⟩ := info_parts info_u8
  have HI := Kept.mk hi; have Z0 := Kept.mk hz0; have Z1 := Kept.mk hz1; have Z2 := Kept.mk hz2
  clear hi hz0 hz1 hz2
  go_wp2_with ((with_reducible refine sel 11 ?_); refine wpList_make_own w2 rfl _ _ 22 rfl N 5 iu (.int .u8 0) 1 Try.underlying22 HI.out Z0.out Z1.out .i64 .i64 32 32 rfl rfl rfl (by rw [Z2.out]; omega) (by unfold maxLen; omega) (by have := bb.size; omega) ?_; intro w3 ho hg; have f0 := hg.cell e0 (by simp); have f1 := hg.cell e1 (by simp); have f2 := hg.cell e2 (by simp); have f3 := hg.cell e3 (by simp); have f4 := hg.cell e4 (by simp); have f5 := hg.cell e5 (by simp); have f6 := hg.cell e6 (by simp); have f7 := hg.cell e7 (by simp); have HO := Kept.mk ho; have HG := Kept.mk hg; clear ho hg; rw [hM])
  have b3 : Below N w w3 := bb.grown HG.out (by omega) (by simp)
  go_loopw [4, 14] (fun v i wr => ∃ k : Nat, k ≤ 8 ∧ v = .slice (some ⟨M, 0, none⟩) (4 * k) 32 ∧ i = .int .i64 k ∧ Kept (wr.ownsRow N 5 1 (.slice (some ⟨M, 0, none⟩) (4 * k) 32) (4 * k) (ints .u8 (outK s k))) ∧ Below N w wr) (fun _ i _ => 8 - (intOf i).toNat)
  case atStart => exact ⟨0, by omega, rfl, rfl, ⟨by have := HO.out; rw [hM] at this; exact this⟩, b3⟩
  case round =>
    clear HO HG f0 f1 f2 f3 f4 f5 f6 f7 b3 e0 e1 e2 e3 e4 e5 e6 e7
    obtain ⟨k, hk, rfl, rfl, ho, b1⟩ := hrel
    by_cases hlt : k < 8
    · have hix : (Instr.index 61 (.agg #[.int .u32 s.a, .int .u32 s.b, .int .u32 s.c, .int .u32 s.d, .int .u32 s.e, .int .u32 s.f, .int .u32 s.g, .int .u32 s.h]) (.int .i64 (k : Int))).run Try.prog wr = .ok (.int .u32 (at_ s.toL k)) wr :=
        index_arr (P := Try.prog) (k := .u32) (l := s.toL) Try.underlying61 Try.underlying51 (by kernel_rfl) rfl k hlt wr
      have k8 : (k : Int) < 8 := by omega
      have hx := S8.at32 (s := s) (by rw [← hs]; exact st_ok _) k
      have hsucc := outK_succ s k
      generalize at_ s.toL k = x at *
      obtain ⟨hx0, hx1⟩ := hx
      have Hsucc := Kept.mk hsucc
      clear hsucc
      have hx24 : x / 16777216 % 256 = x / 16777216 := by omega
      have Hx24 := Kept.mk hx24
      clear hx24
      have hMN : N ≤ M := by have := bb.size; omega
      go_wp2_with ((with_reducible refine sel 30 ?_); refine wpList_append_fits _ rfl (.tmp 17) (.tmp 29) 22 rfl N 5 iu 1 Try.underlying22 HI.out Z1.out M (4 * k) 32 (ints .u8 (outK s k)) rfl (ho.out.alloc _) ⟨wr.heap.size, 0, none⟩ 4 4 [.int .u8 (x / 16777216), .int .u8 (x / 65536 % 256), .int .u8 (x / 256 % 256), .int .u8 (x % 256)] rfl rfl (new_cells _ _ _) (by intro u hu; simp only [List.mem_cons, List.not_mem_nil, or_false] at hu; rcases hu with rfl | rfl | rfl | rfl <;> rfl) (by omega) ?_; intro w4 ho4 hg4; have b4 := Kept.mk ((b1.alloc (by have := b1.size; omega) _).grown hg4 (by have := b1.size; simp; omega) (by intro g hg; injection hg with hg; omega)); have O4 := Kept.mk ho4; clear ho4 hg4)
      go_roundw
      case rel =>
        refine ⟨k + 1, by omega, rfl, by go_num, ⟨?_⟩, b4.out⟩
        have := O4.out
        rw [Hsucc.out, ints_append]
        simpa [ints, Hx24.out, Nat.mul_add] using this
      case measure => simp [intOf]; omega
    · have ek : k = 8 := by omega
      have h8 := ho.out
      rw [ek] at h8
      clear ho hk hlt
      have hM2 : w.heap.size ≤ M := by have := bb.size; omega
      have hk2 : Blk wr M 5 (arr .u8 (sha text)) := by
        rcases h8.2 with ⟨h, _⟩ | ⟨g, cap, cur, hv, hg, hh, hnc, _, hsz, htk⟩
        · cases h
        · injection hv with h1 h2 h3
          injection h1 with h1
          injection h1 with h1
          subst h1 h3
          have e : cur = arr .u8 (sha text) := by
            have hs2 : sha text = outK s 8 := by rw [outK_8, ← hs]; rfl
            rw [hs2, arr, ← htk, List.take_of_length_le (by rw [Array.length_toList, hsz]; omega)]
          rw [← e]; exact hh
      have K2 := Kept.mk hk2
      clear hk2 h8
      subst ek
      go_wp2
      go_ret
      exact ⟨M, rfl, hM2, K2.out, hN ▸ b1⟩

/-- a table holds no bytes -/
theorem tab_u8 {w : World} {t i : Nat} {x : Int} (h : Tab w t) : w.cell? ⟨t, i, none⟩ ≠ some (.int .u8 x) := by
  have key : ∀ (a b : Int) (n m : Nat), (tbl (.int .u32 a) (.int .i32 b) (.int .u32 0) n m)[i]? ≠ some (.int .u8 x) := by
    intro a b n m
    by_cases h0 : i = 0
    · subst h0; rw [tbl_0]; simp
    · by_cases h1 : i = 1
      · subst h1; rw [tbl_1]; simp
      · by_cases h2 : i = 2
        · subst h2; rw [tbl_2]; simp
        · by_cases h3 : i < 67
          · obtain ⟨j, rfl⟩ : ∃ j, i = 3 + j := ⟨i - 3, by omega⟩
            rw [tbl_word _ _ _ _ _ _ (by omega)]; simp
          · by_cases h4 : i < 75
            · obtain ⟨j, rfl⟩ : ∃ j, i = 67 + j := ⟨i - 67, by omega⟩
              rw [tbl_start _ _ _ _ _ _ (by omega)]; simp
            · have : (tbl (.int .u32 a) (.int .i32 b) (.int .u32 0) n m)[i]? = none := by
                rw [tbl, List.getElem?_toArray, List.getElem?_eq_none]
                simp [partK_len]; omega
              rw [this]; simp
  rcases h with h | h
  · rw [Blk.cell h]; exact key _ _ _ _
  · rw [Blk.cell h]; exact key _ _ _ _

theorem Rd.sl {w w' : World} {A : Option Addr} {n : Nat} {xs : List Int} {t h : Nat} (r : Rd w A n xs) (ht : Tab w t) (b : Bar [t] w w') (hh : w.heap.size ≤ h) : Sl w' A n xs h := by
  obtain ⟨h1, h2, h3⟩ := r
  refine ⟨h1, h2, ?_⟩
  by_cases h0 : n = 0
  · exact .inl h0
  · rcases h3 with h3 | ⟨bb, o, rfl, hc⟩
    · exact absurd h3 h0
    · have hlt : bb < w.heap.size := World.block_lt_of_cell? _ _ (hc 0 (by omega))
      have hne : bb ≠ t := by
        rintro rfl
        exact tab_u8 ht (hc 0 (by omega))
      exact .inr ⟨bb, o, rfl, by omega, fun i hi => by rw [← hc i hi]; exact World.cell?_of_block (w := w) (b.block bb hlt (by simpa using hne))⟩
theorem Rd.tab {w w' : World} {A : Option Addr} {n : Nat} {xs : List Int} {t : Nat} (r : Rd w A n xs) (ht : Tab w t) (b : Bar [t] w w') : Rd w' A n xs := by
  obtain ⟨h1, h2, h3⟩ := r
  refine ⟨h1, h2, ?_⟩
  by_cases h0 : n = 0
  · exact .inl h0
  · rcases h3 with h3 | ⟨bb, o, rfl, hc⟩
    · exact absurd h3 h0
    · have hlt : bb < w.heap.size := World.block_lt_of_cell? _ _ (hc 0 (by omega))
      have hne : bb ≠ t := by
        rintro rfl
        exact tab_u8 ht (hc 0 (by omega))
      exact .inr ⟨bb, o, rfl, fun i hi => by rw [← hc i hi]; exact World.cell?_of_block (w := w) (b.block bb hlt (by simpa using hne))⟩
end Go.Proofs.Ytimdbljagpbecaa.Sha

/-
  Two lists of bytes held against each other by the document's own Bytes; bytes in memory.
-/




namespace Go.Proofs.Ytimdbljagpbecaa.Sha
open Go.RowKit

theorem none_at : at_ (sha []) 0 = 227 ∧ at_ (sha []) 1 = 176 ∧ at_ (sha []) 2 = 196 ∧ at_ (sha []) 3 = 66 := by
  have h := sha_none
  have e : ∀ i, i < 4 → at_ (sha []) i = at_ ((sha []).take 4) i := fun i hi => (at_take hi).symm
  rw [e 0 (by omega), e 1 (by omega), e 2 (by omega), e 3 (by omega), h]
  exact ⟨rfl, rfl, rfl, rfl⟩
theorem abc_at : at_ (sha [97, 98, 99]) 0 = 186 ∧ at_ (sha [97, 98, 99]) 1 = 120 ∧ at_ (sha [97, 98, 99]) 2 = 22 ∧ at_ (sha [97, 98, 99]) 3 = 191 := by
  have h := sha_abc
  have e : ∀ i, i < 4 → at_ (sha [97, 98, 99]) i = at_ ((sha [97, 98, 99]).take 4) i := fun i hi => (at_take hi).symm
  rw [e 0 (by omega), e 1 (by omega), e 2 (by omega), e 3 (by omega), h]
  exact ⟨rfl, rfl, rfl, rfl⟩

theorem sha_cell {w : World} {M : Nat} {xs : List Int} {i : Nat} {v : Int} (h : Blk w M 5 (arr .u8 (sha xs))) (hi : i < 32) (hv : at_ (sha xs) i = v) : w.cell? ⟨M, i, none⟩ = some (.int .u8 v) := by
  rw [← hv]; exact h.at_ i (by rw [sha_len]; exact hi)

end Go.Proofs.Ytimdbljagpbecaa.Sha

/-
  What is used of package sha by all that stands on it: facts of memory that outlast a call; an argument's bytes; rows of the call's own.
-/




namespace Go.Proofs.Ytimdbljagpbecaa.Sha
open Go.RowKit

theorem Tab.lt {w : World} {t : Nat} (h : Tab w t) : t < w.heap.size := by
  rcases h with h | h <;> exact Blk.lt h
theorem Tab.below {w w' : World} {t B : Nat} (h : Tab w t) (b : Below B w w') (hB : t < B) : Tab w' t := by
  rcases h with h | h
  · exact .inl (Blk.below h b hB)
  · exact .inr (Blk.below h b hB)

theorem Tab.bar {w w' : World} {t : Nat} {l : List Nat} (h : Tab w t) (b : Bar l w w') (hl : t ∉ l) : Tab w' t := by
  rcases h with h | h
  · exact .inl (Blk.bar h b hl)
  · exact .inr (Blk.bar h b hl)
theorem Hs.lt {w : World} {h t : Nat} {text : List Int} (x : Hs w h t text) : h < w.heap.size := by
  obtain ⟨_, _, _, r, _, _, _, k⟩ := x
  exact k.lt
theorem Hs.bar {w w' : World} {h t : Nat} {text : List Int} {l : List Nat} (x : Hs w h t text) (b : Bar l w w') (hh : h ∉ l) (ht : t ∉ l) : Hs w' h t text := by
  obtain ⟨h1, h2, h3, r, h4, h5, h6, k⟩ := x
  exact ⟨h1, Blk.bar h2 b ht, h3, r, h4, h5, h6, k.bar b hh⟩
theorem Hs.other {w w' : World} {h t : Nat} {text : List Int} (x : Hs w h t text) (b : Bar [t] w w') (m : Made w' t) : Hs w' h t text := by
  obtain ⟨h1, h2, h3, r, h4, h5, h6, k⟩ := x
  exact ⟨h1, m, h3, r, h4, h5, h6, k.bar b (by simpa using h1)⟩
theorem Rd.sl2 {w w' : World} {A : Option Addr} {n h : Nat} {xs : List Int} (r : Rd w A n xs) (b : Below w.heap.size w w') (hh : w.heap.size ≤ h) : Sl w' A n xs h := by
  obtain ⟨h1, h2, h3⟩ := r
  refine ⟨h1, h2, ?_⟩
  by_cases h0 : n = 0
  · exact .inl h0
  · obtain ⟨bb, o, rfl, hc⟩ := h3.resolve_left h0
    have hlt : bb < w.heap.size := World.block_lt_of_cell? _ _ (hc 0 (by omega))
    exact .inr ⟨bb, o, rfl, by omega, fun i hi => by rw [← hc i hi]; exact World.cell?_of_block (w := w) (b.block bb hlt)⟩
end Go.Proofs.Ytimdbljagpbecaa.Sha

/-
  Package frame: sum.
-/





namespace Go.Proofs.Ytimdbljagpbecaa.Frame
open Go.RowKit Go.Proofs.Ytimdbljagpbecaa.Sha Go.Proofs.Ytimdbljagpbecaa.Wire

theorem rd_sl {w w' : World} {A : Option Addr} {n h : Nat} {xs : List Int} (r : Rd w A n xs) (r' : Rd w' A n xs) (hh : w.heap.size ≤ h) : Sl w' A n xs h := by
  obtain ⟨h1, h2, h3⟩ := r
  refine ⟨h1, h2, ?_⟩
  by_cases h0 : n = 0
  · exact .inl h0
  · obtain ⟨bb, o, rfl, hc⟩ := h3.resolve_left h0
    have hlt : bb < w.heap.size := World.block_lt_of_cell? _ _ (hc 0 (by omega))
    obtain ⟨b2, o2, he, hc2⟩ := r'.2.2.resolve_left h0
    injection he with he
    injection he with e1 e2
    subst e1 e2
    exact .inr ⟨bb, o, rfl, by omega, hc2⟩
def CSumPost (t : Nat) (xs : List Int) (w : World) (e : Ending) (w' : World) : Prop := ∃ M, e = .returned (.slice (some ⟨M, 0, none⟩) 8 32) ∧ w.heap.size ≤ M ∧ Rd w' (some ⟨M, 0, none⟩) 8 ((sha xs).take 8) ∧ Tab w' t ∧ Bar [t] w w'

set_option maxRecDepth 100000 in
set_option maxHeartbeats 1000000 in
theorem csum_any (t : Nat) (A B : Option Addr) (n c m d : Nat) (H Bd : List Int) (w : World) (ht : Tab w t) (rh : Rd w A n H) (rb : Rd w B m Bd) (h1 : n ≤ c) (h2 : c ≤ 9223372036854775807) (h3 : m ≤ d) (h4 : d ≤ 9223372036854775807) (hn : n ≤ 1073741824) (hm : m ≤ 1073741824) :
    Calls Try.prog 21 #[.pointer (some ⟨t, 0, none⟩), .slice A n c, .slice B m d] w (CSumPost t (H ++ Bd) w) := by
  obtain ⟨N, hN⟩ : ∃ N, w.heap.size = N := ⟨_, rfl⟩
  have htN : t < N := by rw [← hN]; exact ht.lt
  have RH := Kept.mk rh; have RB := Kept.mk rb; have HT := Kept.mk ht
  have hl1 := rh.1; have hl2 := rb.1
  clear rh rb ht
  go_enter Try.func21, Try.ntmps21
  go_wp2_with fail
  refine (new_any t w HT.out).mono ?_
  rintro e w1 ⟨h, rfl, hh, s1, b1⟩
  rw [hN] at hh
  have H1 := Kept.mk s1
  have RH1 := Kept.mk (rd_sl RH.out (RH.out.tab HT.out b1) (hN.symm ▸ hh))
  have RB1 := Kept.mk (RB.out.tab HT.out b1)
  have B1 := Kept.mk b1
  clear s1 b1
  go_wp2_with fail
  refine (write_any h t [] H A n c w1 H1.out RH1.out h1 h2 (by simp; omega)).mono ?_
  rintro e w2 ⟨rfl, s2, b2⟩
  rw [List.nil_append] at s2
  have H2 := Kept.mk s2
  have RB2 := Kept.mk (rd_sl RB.out (RB1.out.far b2 (RB.out.off (F := [h]) (by intro k hk; rw [List.mem_singleton] at hk; omega))) (hN.symm ▸ hh))
  have B2 := Kept.mk (B1.out.trans b2 (by intro x hx; rw [List.mem_singleton] at hx; subst hx; exact .inr (by omega)))
  clear s2 b2 H1 RH1 RB1 B1
  go_wp2_with fail
  refine (write_any h t H Bd B m d w2 H2.out RB2.out h3 h4 (by omega)).mono ?_
  rintro e w3 ⟨rfl, s3, b3⟩
  have H3 := Kept.mk s3
  have hlt : h < w3.heap.size := s3.lt
  have htl : t < w3.heap.size := Blk.lt s3.2.1
  have B3 := Kept.mk (B2.out.trans b3 (by intro x hx; rw [List.mem_singleton] at hx; subst hx; exact .inr (by omega)))
  clear s3 b3 H2 RB2 B2
  go_wp2_with fail
  refine (sum_any h t (H ++ Bd) w3 H3.out (by rw [List.length_append]; omega)).mono ?_
  rintro e w4 ⟨M, rfl, hM, k4, b4⟩
  have R4 := Kept.mk ((Rd.blk k4 (fsha_bytes _) (sha_len _)).upto (m := 8) (by omega))
  have T4 : Kept (Tab w4 t) := ⟨.inr (Blk.below H3.out.2.1 b4 htl)⟩
  have B4 := Kept.mk (B3.out.trans (barOf b4 []) (by simp))
  have hNM : N ≤ M := by have := B3.out.size; omega
  have hs := slice_h_at (some ⟨M, 0, none⟩) 32 32 8 (by omega) 8 rfl
  clear k4 b4 H3 B3
  go_wp2
  go_ret
  exact ⟨M, rfl, by omega, R4.out, T4.out, B4.out⟩
end Go.Proofs.Ytimdbljagpbecaa.Frame

/-
  bytes.Clone: the same bytes in new memory.
-/


namespace Go.Proofs.Ytimdbljagpbecaa.Sha
open Go.RowKit

def NewRow (n : Nat) (xs : List Int) (w : World) (e : Ending) (w' : World) : Prop := ∃ v, e = .returned v ∧ w'.ownsRow w.heap.size 5 1 v n (ints .u8 xs) ∧ Below w.heap.size w w'

set_option maxRecDepth 100000 in
set_option maxHeartbeats 400000 in
theorem clone_any (A : Option Addr) (n cap : Nat) (xs : List Int) (w : World) (hr : Rd w A n xs) (hn : n < 2147483648) :
    Calls Try.prog 48 #[.slice A n cap] w (NewRow n xs w) := by
  cases A with
  | none =>
    have h0 : n = 0 := by
      rcases hr.2.2 with h | ⟨_, _, h, _⟩
      · exact h
      · cases h
    subst h0
    obtain rfl : xs = [] := List.eq_nil_of_length_eq_zero hr.1
    clear hr
    have hq := Lib.run_eql_slice_nil (P := Try.prog) w 22 5 none 0 cap 0 0 Try.underlying22
    go_enter Try.func48, Try.ntmps48
    go_wp2
    go_ret
    exact ⟨_, rfl, World.ownsRow_nil _ _ _ _, Below.refl _ _⟩
  | some a =>
    obtain ⟨N, hN⟩ : ∃ N, w.heap.size = N := ⟨_, rfl⟩
    have HR := Kept.mk (hr.keep (l := []) ((Bar.refl [] w).alloc (.cells #[] 5)) (by simp))
    have hown := World.ownsRow_made (base := N) (e := 5) (size := 1) w #[] 0 (by omega) (by unfold maxLen; omega) rfl
    rw [hN] at hown
    have bel : Below N w (w.alloc (.cells #[] 5)) := (Below.refl _ _).alloc (by omega) _
    have Own := Kept.mk hown
    have Bel := Kept.mk bel
    clear hown bel hr
    have hq := Lib.run_eql_slice_nil (P := Try.prog) w 22 5 (some a) n cap 0 0 Try.underlying22
    go_enter Try.func48, Try.ntmps48
    go_wp2_with ((with_reducible refine sel 7 ?_); refine wpList_append_rd rfl (.tmp 5) (.tmp 6) 22 rfl N 5 Try.underlying22 info_u8 (.slice (some ⟨N, 0, none⟩) 0 0) 0 [] rfl Own.out (some a) n cap xs rfl HR.out (by omega) (by simp [hN]) ?_; intro v' w' ho hg)
    go_ret
    refine ⟨v', rfl, ?_, ?_⟩
    · have := ho.out
      simpa [hN] using this
    · rw [hN]; exact Bel.out.grown hg (by simp; omega) (by intro k hk; injection hk with hk; simp at hk; omega)
end Go.Proofs.Ytimdbljagpbecaa.Sha

/-
  (*Enc).Done.
-/




namespace Go.Proofs.Ytimdbljagpbecaa.Wire
open Go.RowKit Go.Proofs.Ytimdbljagpbecaa.Sha

set_option maxRecDepth 100000 in
set_option maxHeartbeats 1000000 in
theorem done_any (w : World) (F : List Nat) (e : Nat) (st : St) (h : En 88 w F e st) (hb : Bytes st.2) (hl : st.2.length < 2147483648) :
    Calls Try.prog 31 #[.pointer (some ⟨e, 0, none⟩)] w fun x w' => ∃ v, x = .returned (.tuple #[v, .int .i64 st.1]) ∧ w'.ownsRow w.heap.size 5 1 v st.2.length (ints .u8 st.2) ∧ Below w.heap.size w w' := by
  obtain ⟨v, hbk, ho, hF⟩ := h
  have c0 : w.cell? ⟨e, 0, none⟩ = some v := hbk.cell 0
  have c1 : w.cell? ⟨e, 1, none⟩ = some (.int .i64 st.1) := hbk.cell 1
  obtain ⟨A, cap, rfl, h1, h2, hr⟩ := own_rd ho hb
  have HC := Kept.mk (fun w' (r : Rd w' A st.2.length st.2) => clone_any A st.2.length cap st.2 w' r hl)
  have HR := Kept.mk hr
  have HB := Kept.mk hbk
  clear hr ho hbk
  go_enter Try.func31, Try.ntmps31
  go_wp2
  go_region_held3 (fun w' => w'.cell? ⟨e, 0, none⟩ = some (.slice A st.2.length cap) ∧ w'.cell? ⟨e, 1, none⟩ = some (.int .i64 st.1))
    (first
      | go_keep
      | exact ⟨(HB.out.drew.below hbel HB.out.lt).cell 0, (HB.out.drew.below hbel HB.out.lt).cell 1⟩)
    ((go_at_call 48; refine (HC.out w.drew HR.out.drew).mono ?_; rintro x w' ⟨u, rfl, hown, hbel⟩))
  go_wp2
  go_ret2
  exact ⟨u, rfl, hown, ⟨hbel.os, hbel.tape, hbel.output, hbel.size, hbel.block⟩⟩
end Go.Proofs.Ytimdbljagpbecaa.Wire

/-
  isSize.
-/



namespace Go.Proofs.Ytimdbljagpbecaa.Wire
open Go.RowKit Go.Proofs.Ytimdbljagpbecaa.Sha

set_option maxHeartbeats 400000 in
theorem issize_any (s : Int) (w : World) : Calls Try.prog 44 #[.int .i64 s] w fun e w' => e = .returned (.bool (decide (1 ≤ s ∧ s ≤ 8))) ∧ w = w' := by
  by_cases h1 : 1 ≤ s
  · by_cases h2 : s ≤ 8
    · have h3 : decide (1 ≤ s ∧ s ≤ 8) = true := by simp [h1, h2]
      rw [h3]
      clear h3
      go_enter Try.func44, Try.ntmps44
      go_wp2
      go_ret
      exact ⟨rfl, rfl⟩
    · have h3 : decide (1 ≤ s ∧ s ≤ 8) = false := by simp [h1, h2]
      have h4 : decide (s ≤ 8) = false := by simp [h2]
      rw [h3]
      clear h3
      go_enter Try.func44, Try.ntmps44
      go_wp2
      go_ret
      exact ⟨rfl, rfl⟩
  · have h3 : decide (1 ≤ s ∧ s ≤ 8) = false := by simp [h1]
    have h4 : decide (1 ≤ s) = false := by simp [h1]
    rw [h3]
    clear h3
    go_enter Try.func44, Try.ntmps44
    go_wp2
    go_ret
    exact ⟨rfl, rfl⟩
end Go.Proofs.Ytimdbljagpbecaa.Wire

/-
  goesInto.
-/



namespace Go.Proofs.Ytimdbljagpbecaa.Wire
open Go.RowKit Go.Proofs.Ytimdbljagpbecaa.Sha

set_option maxHeartbeats 400000 in
theorem goesinto_any (n s : Int) (w : World) (h1 : 1 ≤ s) (h8 : s ≤ 8) : Calls Try.prog 45 #[.int .i64 n, .int .i64 s] w fun e w' => e = .returned (.bool (fits n s)) ∧ w = w' := by
  by_cases h2 : 0 ≤ n
  · by_cases h3 : n ≤ 4611686018427387904
    · have hw : IntKind.i64.wrap (8 * s) = 8 * s := by rw [IntKind.wrap_i64]; omega
      have HS := Kept.mk (shr_fits n s h1 h8 h2 h3)
      go_enter Try.func45, Try.ntmps45
      go_wp2
      go_ret
      exact ⟨by rw [← HS.out]; rfl, rfl⟩
    · have hf : fits n s = false := decide_eq_false (fun hc => h3 hc.2.2.2.1)
      have h4 : decide (n ≤ 4611686018427387904) = false := by simpa using h3
      rw [hf]
      clear hf
      go_enter Try.func45, Try.ntmps45
      go_wp2
      go_ret
      exact ⟨rfl, rfl⟩
  · have hf : fits n s = false := decide_eq_false (fun hc => h2 hc.2.2.1)
    have h4 : decide (0 ≤ n) = false := by simpa using h2
    rw [hf]
    clear hf
    go_enter Try.func45, Try.ntmps45
    go_wp2
    go_ret
    exact ⟨rfl, rfl⟩
end Go.Proofs.Ytimdbljagpbecaa.Wire

/-
  (*Enc).fail.
-/



namespace Go.Proofs.Ytimdbljagpbecaa.Wire
open Go.RowKit Go.Proofs.Ytimdbljagpbecaa.Sha

set_option maxRecDepth 100000 in
set_option maxHeartbeats 400000 in
theorem fail_any (w : World) (F : List Nat) (e : Nat) (st : St) (err : Int) (h : En 88 w F e st) : Calls Try.prog 46 #[.pointer (some ⟨e, 0, none⟩), .int .i64 err] w fun x w' => x = .returned (.tuple #[]) ∧ En 88 w' [e] e (err, []) ∧ Fp F [e] w w' := by
  obtain ⟨v, h1, h2, rfl⟩ := h
  have c0 := h1.cell 0
  have c1 := h1.cell 1
  have z0 := h1.frozen 0
  have z1 := h1.frozen 1
  have H1 := Kept.mk h1
  clear h1 h2
  go_enter Try.func46, Try.ntmps46
  go_wp2
  go_end0
  exact ⟨rfl, ⟨_, (H1.out.set_ 0 _).set_ 1 _, World.ownsRow_nil _ _ _ _, rfl⟩, ((Bar.refl _ _).setCell (by simp) _).setCell (by simp) _, fun k hk => .inl (by simp at hk; simp [hk])⟩
end Go.Proofs.Ytimdbljagpbecaa.Wire

/-
  (*Enc).put.
-/



namespace Go.Proofs.Ytimdbljagpbecaa.Wire
open Go.RowKit Go.Proofs.Ytimdbljagpbecaa.Sha

set_option maxRecDepth 100000 in
set_option maxHeartbeats 1000000 in
theorem put_any (w : World) (F : List Nat) (e n s : Nat) (xs : List Int) (h : En 88 w F e (0, xs)) (hs : s ≤ 8) (hl : xs.length ≤ 2147483648) :
    Calls Try.prog 47 #[.pointer (some ⟨e, 0, none⟩), .int .i64 n, .int .i64 s] w fun x w' => x = .returned (.tuple #[]) ∧ ∃ F', En 88 w' F' e (0, xs ++ be n s) ∧ Fp F F' w w' := by
  have HE := Kept.mk h
  clear h
  go_enter Try.func47, Try.ntmps47
  go_wp2
  go_loopw [6] (fun i wr => ∃ (k : Nat) (cur : List Int) (G : List Nat), k ≤ s ∧ i = .int .i64 ((k : Int) - 1) ∧ Kept (cur ++ be n k = xs ++ be n s) ∧ Kept (En 88 wr G e (0, cur)) ∧ Kept (Fp F G w wr)) (fun i _ => (intOf i + 1).toNat)
  case atStart => exact ⟨s, xs, F, by omega, by go_num, ⟨rfl⟩, HE, ⟨Fp.refl _ _⟩⟩
  case round =>
    clear HE
    obtain ⟨k, cur, G, hk, rfl, HC, HE, HF⟩ := hrel
    by_cases h0 : k = 0
    · subst h0
      go_wp2
      go_end0
      have hc := HC.out
      simp only [be, List.append_nil] at hc
      exact ⟨rfl, G, hc ▸ HE.out, HF.out⟩
    · obtain ⟨j, rfl⟩ : ∃ j, k = j + 1 := ⟨k - 1, by omega⟩
      obtain ⟨v, hb, ho, hG⟩ := HE.out
      have c0 := hb.cell 0
      rw [show (#[v, Value.int IntKind.i64 0] : Array Value)[0]? = some v from rfl] at c0
      have z0 := hb.frozen 0
      obtain ⟨b, hbb⟩ : ∃ b : Int, ((n / 256 ^ j % 256 : Nat) : Int) = b := ⟨_, rfl⟩
      have hB := byte_is n j
      have hm : IntKind.i64.wrap (8 * (j : Int)) = 8 * j := by rw [IntKind.wrap_i64]; omega
      rw [hbb] at hB
      have hbe : be n (j + 1) = b :: be n j := by rw [be, hbb]
      have HBE := Kept.mk hbe
      have hfar := own_far ho hb (by decide)
      have hlt := hb.lt
      have hsz : cur.length ≤ xs.length + s := by
        have := congrArg List.length HC.out
        simp only [List.length_append, be_len] at this
        omega
      have HO := Kept.mk ho; have HBk := Kept.mk hb
      clear hbb hbe hb ho
      obtain ⟨iu, hi, hz0, hz1, hz2⟩ := info_parts info_u8
      go_wp2_with fail
      have T1 : (wr.alloc (Obj.cells #[Value.int IntKind.u8 b] 5)).drew.frozen? { block := e, off := 0 } = false := (HBk.out.alloc _).drew.frozen 0
      have T2 : (wr.alloc (Obj.cells #[Value.int IntKind.u8 b] 5)).drew.cell? { block := e, off := 0 } = some v := (HBk.out.alloc _).drew.cell 0
      go_region_law
        ((refine step_append_lies _ (by rfl) _ _ _ (by rfl) 0 5 iu _ 1 1 Try.underlying22 hi hz0 hz1 hz2 rfl (by omega) v cur.length (ints .u8 cur) (by rfl) ((HO.out.alloc _).drew)
            ⟨wr.heap.size, 0, none⟩ 1 1 [.int .u8 b] (by rfl) (by rfl) (World.news_of_block (cs := #[.int .u8 b]) (t := 5) (fr := (0, 0)) (heap_alloc_new wr _)) (by simp [Value.oneCell'])
            (by omega) (by unfold maxLen; omega) (by omega) (by simp) (wr.heap.size + 1) (by simp) ?_; intro gg cg w1 hown1 hgrow hat hlt1; have U0 := (((HBk.out.alloc (.cells #[.int .u8 b] 5)).drew.grown hgrow (Ne.symm hfar)).cell 0); have U1 := (((HBk.out.alloc (.cells #[.int .u8 b] 5)).drew.grown hgrow (Ne.symm hfar)).frozen 0)))
      all_goals
        have hst := en_store (by decide) HBk.out ((Bar.refl [] wr).alloc (.cells #[.int .u8 b] 5)).drew hgrow hfar (ys := cur ++ [b]) (by rw [ints_append]; exact hown1) (by
          rcases hat with h | h
          · exact .inl h.symm
          · exact .inr ⟨gg, rfl, by omega⟩)
        have HST := Kept.mk hst
        clear hst hgrow hown1 U0 U1 T1 T2
        subst hG
        go_wp2
        go_roundw
        case rel =>
          refine ⟨j, cur ++ [b], _, by omega, by go_num, ⟨?_⟩, ⟨HST.out.1⟩, ⟨HF.out.trans HST.out.2⟩⟩
          have := HC.out
          rw [HBE.out] at this
          rw [List.append_assoc]
          exact this
        case measure => simp [intOf]
end Go.Proofs.Ytimdbljagpbecaa.Wire

/-
  (*Enc).Num.
-/






namespace Go.Proofs.Ytimdbljagpbecaa.Wire
open Go.RowKit Go.Proofs.Ytimdbljagpbecaa.Sha

set_option maxRecDepth 100000 in
set_option maxHeartbeats 1000000 in
theorem num_any (w : World) (F : List Nat) (e : Nat) (n s : Int) (st : St) (h : En 88 w F e st) (hl : st.2.length ≤ 2147483648) :
    Calls Try.prog 30 #[.pointer (some ⟨e, 0, none⟩), .int .i64 n, .int .i64 s] w fun x w' => x = .returned (.tuple #[]) ∧ ∃ F', En 88 w' F' e (encNum st n s) ∧ Fp F F' w w' := by
  obtain ⟨err, xs⟩ := st
  have HE := Kept.mk h
  have c1 : w.cell? ⟨e, 1, none⟩ = some (.int .i64 err) := by obtain ⟨v, hb, _⟩ := h; exact hb.cell 1
  clear h
  by_cases he : err = 0
  · subst he
    by_cases hs : 1 ≤ s ∧ s ≤ 8
    · have ci := Kept.mk fun w => issize_any s w
      rw [decide_eq_true hs] at ci
      cases hf : fits n s with
      | true =>
        have hg := Kept.mk fun w => goesinto_any n s w hs.1 hs.2
        rw [hf] at hg
        have h0 : 0 ≤ n := (fits_be hf).2.2.2.2
        have HR := Kept.mk (show encNum (0, xs) n s = (0, xs ++ be n.toNat s.toNat) by unfold encNum; simp [hf])
        have hp := Kept.mk (put_any w F e n.toNat s.toNat xs HE.out (by omega) hl)
        rw [Int.toNat_of_nonneg h0, Int.toNat_of_nonneg (show 0 ≤ s by omega)] at hp
        clear hf HE
        go_enter Try.func30, Try.ntmps30
        go_wp2_with (first
          | (go_at_call 44; refine (ci.out _).mono ?_; rintro x w' ⟨rfl, rfl⟩)
          | (go_at_call 45; refine (hg.out _).mono ?_; rintro x w' ⟨rfl, rfl⟩))
        refine hp.out.mono ?_
        rintro x w' ⟨rfl, F', h1, h2⟩
        rw [← HR.out] at h1
        have H1 := Kept.mk h1; have H2 := Kept.mk h2
        clear h1 h2
        go_wp2
        (first | go_end0 | ((try simp only [Exit.inBlock, Exit.then]); refine bodyPost_ret (results_none rfl _ _ _) rfl ?_))
        exact ⟨rfl, F', H1.out, H2.out⟩
      | false =>
        have hg := Kept.mk fun w => goesinto_any n s w hs.1 hs.2
        rw [hf] at hg
        have HR := Kept.mk (show encNum (0, xs) n s = (1, []) by unfold encNum; simp [hf])
        have hp := Kept.mk (fail_any w F e (0, xs) 1 HE.out)
        clear hf HE
        go_enter Try.func30, Try.ntmps30
        go_wp2_with (first
          | (go_at_call 44; refine (ci.out _).mono ?_; rintro x w' ⟨rfl, rfl⟩)
          | (go_at_call 45; refine (hg.out _).mono ?_; rintro x w' ⟨rfl, rfl⟩))
        refine hp.out.mono ?_
        rintro x w' ⟨rfl, h1, h2⟩
        rw [← HR.out] at h1
        have H1 := Kept.mk h1; have H2 := Kept.mk h2
        clear h1 h2
        go_wp2
        (first | go_end0 | ((try simp only [Exit.inBlock, Exit.then]); refine bodyPost_ret (results_none rfl _ _ _) rfl ?_))
        exact ⟨rfl, _, H1.out, H2.out⟩
    · have ci := Kept.mk fun w => issize_any s w
      rw [decide_eq_false hs] at ci
      have hf : fits n s = false := decide_eq_false (fun hc => hs ⟨hc.1, hc.2.1⟩)
      have HR := Kept.mk (show encNum (0, xs) n s = (1, []) by unfold encNum; simp [hf])
      have hp := Kept.mk (fail_any w F e (0, xs) 1 HE.out)
      clear hf HE
      go_enter Try.func30, Try.ntmps30
      go_wp2_with (go_at_call 44; refine (ci.out _).mono ?_; rintro x w' ⟨rfl, rfl⟩)
      refine hp.out.mono ?_
      rintro x w' ⟨rfl, h1, h2⟩
      rw [← HR.out] at h1
      have H1 := Kept.mk h1; have H2 := Kept.mk h2
      clear h1 h2
      go_wp2
      (first | go_end0 | ((try simp only [Exit.inBlock, Exit.then]); refine bodyPost_ret (results_none rfl _ _ _) rfl ?_))
      exact ⟨rfl, _, H1.out, H2.out⟩
  · have HR := Kept.mk (show encNum (err, xs) n s = (err, xs) by unfold encNum; simp [he])
    have he2 : (err != 0) = true := by simpa using he
    go_enter Try.func30, Try.ntmps30
    go_wp2
    (first | go_end0 | ((try simp only [Exit.inBlock, Exit.then]); refine bodyPost_ret (results_none rfl _ _ _) rfl ?_))
    rw [HR.out]
    exact ⟨rfl, F, HE.out, Fp.refl _ _⟩
end Go.Proofs.Ytimdbljagpbecaa.Wire

/-
  NewEnc.
-/



namespace Go.Proofs.Ytimdbljagpbecaa.Wire
open Go.RowKit Go.Proofs.Ytimdbljagpbecaa.Sha

set_option maxHeartbeats 400000 in
theorem newenc_any (w : World) : Calls Try.prog 29 #[] w fun x w' => x = .returned (.pointer (some ⟨w.heap.size, 0, none⟩)) ∧ En 88 w' [w.heap.size] w.heap.size (0, []) ∧ Fp [] [w.heap.size] w w' := by
  have h1 : En 88 (w.alloc (.cells #[.slice none 0 0, .int .i64 0] 88)) [w.heap.size] w.heap.size (0, []) := ⟨_, Blk.new _ _ _, World.ownsRow_nil _ _ _ _, rfl⟩
  have h2 : Fp [] [w.heap.size] w (w.alloc (.cells #[.slice none 0 0, .int .i64 0] 88)) := ⟨(Bar.refl _ _).alloc _, fun k hk => by simp at hk; omega⟩
  have H1 := Kept.mk h1; have H2 := Kept.mk h2
  clear h1 h2
  go_enter Try.func29, Try.ntmps29
  go_wp2
  go_ret
  exact ⟨rfl, H1.out, H2.out⟩
end Go.Proofs.Ytimdbljagpbecaa.Wire

/-
  Package frame: writeHead.
-/





namespace Go.Proofs.Ytimdbljagpbecaa.Frame
open Go.RowKit Go.Proofs.Ytimdbljagpbecaa.Sha Go.Proofs.Ytimdbljagpbecaa.Wire

/-- a beginning, as package wire writes it -/
def hst (f : FV) : St := encNum (encNum (encNum (encNum (encNum (encNum (0, []) 25446 2) f.kind 1) 0 1) f.gen 4) f.seq 4) f.body.length 4
theorem enc_err (e : Int) (h : e ≠ 0) (xs : List Int) (n s : Int) : encNum (e, xs) n s = (e, xs) := by unfold encNum; rw [if_neg h]
theorem enc_no {n s : Int} (h : fits n s = false) (xs : List Int) : encNum (0, xs) n s = (1, []) := by unfold encNum; simp [h]
theorem enc_yes {n s : Int} (h : fits n s = true) (xs : List Int) : encNum (0, xs) n s = (0, xs ++ be n.toNat s.toNat) := by unfold encNum; simp [h]
theorem be_two : be (Int.toNat 25446) (Int.toNat 2) = [99, 102] := by decide +kernel
theorem hst_is (f : FV) (hn : f.body.length ≤ 60000) : hst f = if errF f = 0 then (0, headF f) else (1, []) := by
  have hl : fits (f.body.length : Int) 4 = true := fits_four (by omega)
  unfold hst
  rw [enc_yes (by decide), be_two]
  have he : errF f = if fits f.kind 1 = true ∧ fits f.gen 4 = true ∧ fits f.seq 4 = true then 0 else 1 := by unfold errF; rw [if_neg (by omega)]
  cases f1 : fits f.kind 1 with
  | false =>
    rw [enc_no f1, enc_err 1 (by omega), enc_err 1 (by omega), enc_err 1 (by omega), enc_err 1 (by omega), if_neg (by rw [he, f1]; simp)]
  | true =>
    rw [enc_yes f1, enc_yes (by decide)]
    cases f2 : fits f.gen 4 with
    | false => rw [enc_no f2, enc_err 1 (by omega), enc_err 1 (by omega), if_neg (by rw [he, f2]; simp)]
    | true =>
      rw [enc_yes f2]
      cases f3 : fits f.seq 4 with
      | false => rw [enc_no f3, enc_err 1 (by omega), if_neg (by rw [he, f3]; simp)]
      | true =>
        rw [enc_yes f3, enc_yes hl, if_pos (by rw [he, f1, f2, f3]; simp)]
        rfl
theorem errF_two (f : FV) (hn : f.body.length ≤ 60000) : errF f = 0 ∨ errF f = 1 := by
  unfold errF; rw [if_neg (by omega)]; split <;> simp

/-- an Enc at block e while a beginning is made; the frame lies boxed in block N -/
def Hx (w0 : World) (N e : Nat) (cs : Array Value) (st : St) (w : World) : Prop :=
  ∃ F, En 88 w F e st ∧ Blk w N 24 cs ∧ Below w0.heap.size w0 w ∧ ∀ k ∈ F, w0.heap.size + 1 ≤ k
theorem Hx.blk {w0 : World} {N e : Nat} {cs : Array Value} {st : St} {w : World} (h : Hx w0 N e cs st w) : Blk w N 24 cs := h.choose_spec.2.1
theorem Hx.bel {w0 : World} {N e : Nat} {cs : Array Value} {st : St} {w : World} (h : Hx w0 N e cs st w) : Below w0.heap.size w0 w := h.choose_spec.2.2.1
theorem hx_num {w0 : World} {N e : Nat} {cs : Array Value} {st : St} {w : World} (hN : N = w0.heap.size) (h : Hx w0 N e cs st w) (x s : Int) (hl : st.2.length ≤ 2147483648) :
    Calls Try.prog 30 #[.pointer (some ⟨e, 0, none⟩), .int .i64 x, .int .i64 s] w fun r w' => r = .returned (.tuple #[]) ∧ Hx w0 N e cs (encNum st x s) w' := by
  obtain ⟨F, h1, h2, h4, h5⟩ := h
  refine (num_any w F e x s st h1 hl).mono ?_
  rintro r w' ⟨rfl, F', h6, hf⟩
  have hs : w0.heap.size + 1 ≤ w.heap.size := by have := h2.lt; omega
  have b : Below w0.heap.size w0 w' := h4.trans (hf.below (fun k hk => by have := h5 k hk; omega) (by omega))
  exact ⟨rfl, F', h6, h2.bar hf.1 (fun hk => by have := h5 _ hk; omega), b, hf.least h5 hs⟩

def HeadPost (st : St) (w : World) (x : Ending) (w' : World) : Prop := ∃ v, x = .returned (.tuple #[v, .int .i64 st.1]) ∧ w'.ownsRow w.heap.size 5 1 v st.2.length (ints .u8 st.2) ∧ Below w.heap.size w w'

set_option maxRecDepth 100000 in
set_option maxHeartbeats 1000000 in
theorem chead_any (f : FV) (A : Option Addr) (n cap : Nat) (w : World) (hlen : f.body.length = n) (hn : n ≤ 60000) :
    Calls Try.prog 19 #[.agg #[.int .i64 f.kind, .int .i64 f.gen, .int .i64 f.seq, .slice A n cap]] w (HeadPost (hst f) w) := by
  obtain ⟨N, hN⟩ : ∃ N, w.heap.size = N := ⟨_, rfl⟩
  have B0 := (Blk.new_at w 24 #[.int .i64 f.kind, .int .i64 f.gen, .int .i64 f.seq, .slice A n cap] N hN.symm)
  have b0 : Below N w (w.alloc (.cells #[.int .i64 f.kind, .int .i64 f.gen, .int .i64 f.seq, .slice A n cap] 24)) := (Below.refl _ _).alloc (by omega) _
  have hs0 : (w.alloc (.cells #[.int .i64 f.kind, .int .i64 f.gen, .int .i64 f.seq, .slice A n cap] 24)).heap.size = N + 1 := by simp [hN]
  have HB0 := Kept.mk B0; have Hb0 := Kept.mk b0
  clear B0 b0
  go_enter Try.func19, Try.ntmps19
  go_wp2_with fail
  generalize w.alloc (.cells #[.int .i64 f.kind, .int .i64 f.gen, .int .i64 f.seq, .slice A n cap] 24) = w1 at *
  have c1 := newenc_any w1
  rw [hs0] at c1
  refine c1.mono ?_
  clear c1
  rintro x w2 ⟨rfl, e2, f2⟩
  have T2 : Hx w N (N + 1) #[.int .i64 f.kind, .int .i64 f.gen, .int .i64 f.seq, .slice A n cap] (0, []) w2 :=
    ⟨[N + 1], e2, HB0.out.bar f2.1 (by simp), by rw [hN]; exact Hb0.out.trans (f2.below (by simp) (by omega)), by simp [hN]⟩
  clear e2 f2 HB0 Hb0 hs0
  go_wp2_with fail
  refine (hx_num hN.symm T2 25446 2 (by simp)).mono ?_
  rintro x w3 ⟨rfl, T3⟩
  obtain ⟨s3, e3⟩ : ∃ s, encNum (0, []) 25446 2 = s := ⟨_, rfl⟩
  have l3 : s3.2.length ≤ 8 := by have := encNum_len (0, []) 25446 2; rw [e3] at this; simp only [List.length_nil] at this; omega
  rw [e3] at T3
  have E3 := Kept.mk e3
  have t3 := T3.blk.cell 0
  clear T2 e3
  go_wp2_with fail
  refine (hx_num hN.symm T3 f.kind 1 (by omega)).mono ?_
  rintro x w4 ⟨rfl, T4⟩
  obtain ⟨s4, e4⟩ : ∃ s, encNum s3 f.kind 1 = s := ⟨_, rfl⟩
  have l4 : s4.2.length ≤ 16 := by have := encNum_len s3 f.kind 1; rw [e4] at this; omega
  rw [e4] at T4
  have E4 := Kept.mk e4
  clear T3 e4 t3
  go_wp2_with fail
  refine (hx_num hN.symm T4 0 1 (by omega)).mono ?_
  rintro x w5 ⟨rfl, T5⟩
  obtain ⟨s5, e5⟩ : ∃ s, encNum s4 0 1 = s := ⟨_, rfl⟩
  have l5 : s5.2.length ≤ 24 := by have := encNum_len s4 0 1; rw [e5] at this; omega
  rw [e5] at T5
  have E5 := Kept.mk e5
  have t5 := T5.blk.cell 1
  clear T4 e5
  go_wp2_with fail
  refine (hx_num hN.symm T5 f.gen 4 (by omega)).mono ?_
  rintro x w6 ⟨rfl, T6⟩
  obtain ⟨s6, e6⟩ : ∃ s, encNum s5 f.gen 4 = s := ⟨_, rfl⟩
  have l6 : s6.2.length ≤ 32 := by have := encNum_len s5 f.gen 4; rw [e6] at this; omega
  rw [e6] at T6
  have E6 := Kept.mk e6
  have t6 := T6.blk.cell 2
  clear T5 e6 t5
  go_wp2_with fail
  refine (hx_num hN.symm T6 f.seq 4 (by omega)).mono ?_
  rintro x w7 ⟨rfl, T7⟩
  obtain ⟨s7, e7⟩ : ∃ s, encNum s6 f.seq 4 = s := ⟨_, rfl⟩
  have l7 : s7.2.length ≤ 40 := by have := encNum_len s6 f.seq 4; rw [e7] at this; omega
  rw [e7] at T7
  have E7 := Kept.mk e7
  have t7 := T7.blk.cell 3
  clear T6 e7 t6
  go_wp2_with fail
  refine (hx_num hN.symm T7 n 4 (by omega)).mono ?_
  rintro x w8 ⟨rfl, T8⟩
  obtain ⟨s8, e8⟩ : ∃ s, encNum s7 n 4 = s := ⟨_, rfl⟩
  have l8 : s8.2.length ≤ 48 := by have := encNum_len s7 n 4; rw [e8] at this; omega
  rw [e8] at T8
  have E8 := Kept.mk e8
  clear T7 e8 t7
  have hst8 : hst f = s8 := by rw [← E8.out, ← E7.out, ← E6.out, ← E5.out, ← E4.out, ← E3.out, ← hlen]; rfl
  have hb8 : Bytes s8.2 := by
    rw [← hst8, hst_is f (by omega)]
    split
    · exact headF_bytes f
    · intro x hx; simp at hx
  have T8k := Kept.mk T8
  have hb := T8.bel
  rw [hN] at hb
  have HB := Kept.mk hb
  have HS := Kept.mk hst8
  clear T8 hb l3 l4 l5 l6 l7 E3 E4 E5 E6 E7 E8 hst8
  obtain ⟨F, e8, -⟩ := T8k.out
  have E8 := Kept.mk e8
  have H8 := Kept.mk hb8
  clear e8 T8k hb8
  go_wp2_with fail
  refine (done_any w8 F (N + 1) s8 E8.out H8.out (by omega)).mono ?_
  rintro x w9 ⟨v, rfl, o9, b9⟩
  have hs8 : N ≤ w8.heap.size := by rw [← hN]; exact HB.out.size
  have O9 := Kept.mk (Go.Joins.ownsRow_le (base' := N) o9 hs8)
  have B9 := Kept.mk (HB.out.trans (b9.mono hs8))
  obtain ⟨A9, c9, rfl⟩ := own_shape o9
  clear o9 b9
  go_wp2
  go_ret2
  unfold HeadPost
  rw [HS.out, hN]
  exact ⟨_, rfl, O9.out, B9.out⟩
end Go.Proofs.Ytimdbljagpbecaa.Frame

/-
  make([]byte, n), and with a capacity of its own, of any size that is not too great. For any seat with bytes.
-/

namespace Go.Proofs.Ytimdbljagpbecaa.Sha
open Go.RowKit

theorem make_big (w : World) (n : Nat) (hn : n ≤ 16777216) : ∃ w', (Instr.makeSlice 22 (.int .i64 (n : Int)) (.int .i64 (n : Int))).run Try.prog w = .ok (.slice (some ⟨w.heap.size, 0, none⟩) n n) w' ∧ Blk w' w.heap.size 5 (arr .u8 (List.replicate n 0)) ∧ Below w.heap.size w w' := by
  obtain ⟨iu, hi, hz0, hz1, hz2⟩ := info_parts info_u8
  obtain ⟨w', hm, own, gr⟩ := run_makeSlice_full (P := Try.prog) w w.heap.size 22 5 iu _ 1 Try.underlying22 hi hz0 hz1 .i64 .i64 n (by omega) (by rw [hz2]; omega) (by unfold maxLen; omega) (Nat.le_refl _)
  refine ⟨w', hm, ?_, ⟨gr.os, gr.tape, gr.output, gr.size, fun k hk => gr.block k hk (by simp)⟩⟩
  have e : (madeCells (Value.int .u8 0).cells (n * 1)).toList = ints .u8 (List.replicate n 0) := by
    rw [show (Value.int .u8 0).cells = #[.int .u8 0] from rfl, toList_madeCells_one, Nat.mul_one]
    simp [ints]
  rw [e] at own
  rcases own.2 with ⟨h0, -⟩ | ⟨g, cap, cur, hv, -, hh, h1, -, hs, ht⟩
  · cases h0
  · have hv2 : w.heap.size = g ∧ n = cap := by
      have := hv
      simp only [Value.slice.injEq, Option.some.injEq, Addr.mk.injEq] at this
      omega
    obtain ⟨hg, rfl⟩ := hv2
    rw [hg]
    have : cur = arr .u8 (List.replicate n 0) := by
      apply Array.toList_inj.1
      rw [List.take_of_length_le (by simp; omega)] at ht
      rw [ht]
      rfl
    rw [← this]
    exact hh
theorem rd_srcs {w : World} {A : Option Addr} {n : Nat} {xs : List Int} (r : Rd w A n xs) : 0 < (ints .u8 xs).length → ∃ ad, A = some ad ∧ ∀ j v, (ints .u8 xs)[j]? = some v → w.cell? (ad.add j) = some v := by
  intro hp
  obtain ⟨h1, h2, h3⟩ := r
  rw [ints_len] at hp
  rcases h3 with h3 | ⟨b, o, rfl, hc⟩
  · omega
  · refine ⟨_, rfl, fun j v hj => ?_⟩
    have hjl : j < xs.length := by
      have := (List.getElem?_eq_some_iff.1 hj).1
      rwa [ints_len] at this
    rw [Sha.ints_at _ _ _ hjl] at hj
    rw [← hj, show (⟨b, o, none⟩ : Addr).add j = ⟨b, o + j, none⟩ by cases j <;> simp [Addr.add]]
    exact hc j (by omega)
theorem splice_ints (k : IntKind) (l m : List Int) (o : Nat) : splice (ints k l) o (ints k m) = ints k (splice l o m) := by
  simp [splice, ints, List.map_take, List.map_drop]
end Go.Proofs.Ytimdbljagpbecaa.Sha
