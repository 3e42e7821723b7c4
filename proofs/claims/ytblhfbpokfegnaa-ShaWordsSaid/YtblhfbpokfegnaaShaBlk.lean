/-
  One block of SHA-256 in memory: its 64 words, the rounds.
-/
import Derived.Test.YtblhfbpokfegnaaShaOnce
import Derived.Test.YtblhfbpokfegnaaShaSpec
import Derived.Deep.MidRow
import Derived.Deep.Cut
import Derived.Laws.CopyOwn
namespace Go.Proofs.Ytblhfbpokfegnaa.Sha
open Go.RowKit

def ints (k : IntKind) (l : List Int) : List Value := l.map (Value.int k)
theorem ints_len (k : IntKind) (l : List Int) : (ints k l).length = l.length := by simp [ints]
theorem ints_at (k : IntKind) (l : List Int) (i : Nat) (h : i < l.length) : (ints k l)[i]? = some (.int k (at_ l i)) := by simp [ints, at_, h]
theorem ints_one (k : IntKind) (l : List Int) : ∀ v ∈ ints k l, v.oneCell' = true := by
  intro v hv
  obtain ⟨x, _, rfl⟩ := List.mem_map.1 hv
  rfl
theorem ints_set (k : IntKind) (l : List Int) (i : Nat) (x : Int) : (ints k l).set i (.int k x) = ints k (l.set i x) := by simp [ints, List.map_set]
/-- the first m of f, noughts behind, n in all -/
def upto (f : Nat → Int) (n m : Nat) : List Int := (List.range n).map fun i => if i < m then f i else 0
theorem upto_len (f : Nat → Int) (n m : Nat) : (upto f n m).length = n := by simp [upto]
theorem upto_at (f : Nat → Int) (n m i : Nat) (h : i < n) : at_ (upto f n m) i = if i < m then f i else 0 := at_range _ _ _ h
theorem at_set (l : List Int) (k i : Nat) (x : Int) (h : i < l.length) : at_ (l.set k x) i = if k = i then x else at_ l i := by
  simp [at_, List.getD_eq_getElem?_getD, List.getElem?_set]
  by_cases hk : k = i
  · subst hk; simp [h]
  · simp [hk]
theorem upto_set (f : Nat → Int) (n m : Nat) : (upto f n m).set m (f m) = upto f n (m + 1) := by
  apply at_ext
  · simp [upto_len]
  · intro i hi
    rw [List.length_set, upto_len] at hi
    rw [at_set _ _ _ _ (by rw [upto_len]; exact hi), upto_at _ _ _ _ hi, upto_at _ _ _ _ hi]
    by_cases h : m = i
    · subst h; simp
    · rw [if_neg h]
      by_cases h2 : i < m
      · rw [if_pos h2, if_pos (by omega)]
      · rw [if_neg h2, if_neg (by omega)]
theorem upto_all (l : List Int) (n : Nat) (h : l.length = n) : upto (at_ l) n n = l := by
  apply at_ext
  · rw [upto_len, h]
  · intro i hi
    rw [upto_len] at hi
    rw [upto_at _ _ _ _ hi, if_pos hi]
def arr (k : IntKind) (l : List Int) : Array Value := (ints k l).toArray
theorem arr_at (k : IntKind) (l : List Int) (i : Nat) (h : i < l.length) : (arr k l)[i]? = some (.int k (at_ l i)) := by
  rw [arr, List.getElem?_toArray]; exact ints_at k l i h
theorem arr_set (k : IntKind) (l : List Int) (i : Nat) (x : Int) : (arr k l).setIfInBounds i (.int k x) = arr k (l.set i x) := by
  rw [arr, List.setIfInBounds_toArray, ints_set, arr]
theorem arr_size (k : IntKind) (l : List Int) : (arr k l).size = l.length := by simp [arr, ints_len]
theorem Blk.at_ {w : World} {g : Nat} {t : TypeId} {k : IntKind} {l : List Int} (h : Blk w g t (arr k l)) (i : Nat) (hi : i < l.length) : w.cell? ⟨g, i, none⟩ = some (.int k (Sha.at_ l i)) := (h.cell i).trans (arr_at k l i hi)
theorem zeros (n : Nat) (k : IntKind) (f : Nat → Int) : arr k (upto f n 0) = (List.replicate n (Value.int k 0)).toArray := by
  unfold arr ints upto
  congr 1
  apply List.ext_getElem
  · simp
  · intro i h1 h2; simp

theorem rot_m7 (x : Int) (hx : W32 x) (w : World) : Calls Try.prog 51 #[.int .u32 x, .int .i64 (-7)] w fun e w' => e = .returned (.int .u32 (rotr x 7)) ∧ w = w' := rot_any x 7 (by omega) (by omega) hx w
theorem rot_m17 (x : Int) (hx : W32 x) (w : World) : Calls Try.prog 51 #[.int .u32 x, .int .i64 (-17)] w fun e w' => e = .returned (.int .u32 (rotr x 17)) ∧ w = w' := rot_any x 17 (by omega) (by omega) hx w
theorem rot_m18 (x : Int) (hx : W32 x) (w : World) : Calls Try.prog 51 #[.int .u32 x, .int .i64 (-18)] w fun e w' => e = .returned (.int .u32 (rotr x 18)) ∧ w = w' := rot_any x 18 (by omega) (by omega) hx w
theorem rot_m19 (x : Int) (hx : W32 x) (w : World) : Calls Try.prog 51 #[.int .u32 x, .int .i64 (-19)] w fun e w' => e = .returned (.int .u32 (rotr x 19)) ∧ w = w' := rot_any x 19 (by omega) (by omega) hx w
theorem nxw_code (y b x d : Int) : IntKind.u32.wrap (IntKind.u32.wrap (IntKind.u32.wrap (bits .xor .u32 (bits .xor .u32 (rotr y 17) (rotr y 19)) (y / 1024) + b) + bits .xor .u32 (bits .xor .u32 (rotr x 7) (rotr x 18)) (x / 8)) + d) = nxw y b x d := by
  unfold nxw near far
  simp only [IntKind.wrap_u32]
  omega

set_option maxRecDepth 100000 in
set_option maxHeartbeats 400000 in
theorem spread_any (bb bo cap : Nat) (b : List Int) (w : World) (hbl : b.length = 64) (hby : Bytes b) (hcap : 64 ≤ cap) (hc : ∀ i, i < 64 → w.cell? ⟨bb, bo + i, none⟩ = some (.int .u8 (at_ b i))) :
    Calls Try.prog 42 #[.slice (some ⟨bb, bo, none⟩) 64 cap] w fun e w' => e = .returned (.agg (arr .u32 (sched b))) ∧ Below w.heap.size w w' := by
  obtain ⟨N, hN⟩ : ∃ N, w.heap.size = N := ⟨_, rfl⟩
  have hbb : bb < N := by have h := World.block_lt_of_cell? _ _ (hc 0 (by omega)); rw [hN] at h; exact h
  have Hc := Lib.hid hc
  have Hl := Lib.hid hbl
  have Hb := Lib.hid hby
  clear hc hbl hby
  go_enter Try.func42, Try.ntmps42
  go_wp2
  go_loopw [11] (fun i wr => ∃ k : Nat, k ≤ 16 ∧ i = .int .i64 k ∧ Hid (Blk wr N 63 (arr .u32 (upto (at_ (sched b)) 64 0))) ∧ Hid (Blk wr (N + 1) 63 (arr .u32 (upto (at_ (sched b)) 64 k))) ∧ Below N w wr) (fun i _ => 16 - (intOf i).toNat)
  case atStart =>
    refine ⟨0, by omega, rfl, ?_, ?_, ?_⟩
    · rw [zeros]; exact (Blk.new_at w _ _ N hN.symm).alloc _
    · rw [zeros]; exact Blk.new_at _ _ _ (N + 1) (by simp [hN])
    · exact ((Below.refl _ _).alloc (by omega) _).alloc (by simp; omega) _
  case round =>
    obtain ⟨k, hk, rfl, h1, h2, hb⟩ := hrel
    by_cases hlt : k < 16
    · have g0 : wr.cell? ⟨bb, bo + 4 * k, none⟩ = some (.int .u8 (at_ b (4 * k))) := (hb.cell (p := ⟨bb, bo + 4 * k, none⟩) hbb).trans (Hc.out (4 * k) (by omega))
      have g1 : wr.cell? ⟨bb, bo + 4 * k + 1, none⟩ = some (.int .u8 (at_ b (4 * k + 1))) := (hb.cell (p := ⟨bb, bo + (4 * k + 1), none⟩) hbb).trans (Hc.out (4 * k + 1) (by omega))
      have g2 : wr.cell? ⟨bb, bo + 4 * k + 2, none⟩ = some (.int .u8 (at_ b (4 * k + 2))) := (hb.cell (p := ⟨bb, bo + (4 * k + 2), none⟩) hbb).trans (Hc.out (4 * k + 2) (by omega))
      have g3 : wr.cell? ⟨bb, bo + 4 * k + 3, none⟩ = some (.int .u8 (at_ b (4 * k + 3))) := (hb.cell (p := ⟨bb, bo + (4 * k + 3), none⟩) hbb).trans (Hc.out (4 * k + 3) (by omega))
      have l0 := Hb.out.at_ (4 * k)
      have l1 := Hb.out.at_ (4 * k + 1)
      have l2 := Hb.out.at_ (4 * k + 2)
      have l3 := Hb.out.at_ (4 * k + 3)
      have Hw := sched_lo b k hlt
      have hc0 := h2.out.at_ k (by rw [upto_len]; omega)
      have hz0 := h2.out.frozen k
      unfold wordOf at Hw
      generalize at_ b (4 * k) = x0 at *
      generalize at_ b (4 * k + 1) = x1 at *
      generalize at_ b (4 * k + 2) = x2 at *
      generalize at_ b (4 * k + 3) = x3 at *
      replace Hw := Kept.mk Hw
      have hne : ¬ cap = 4 * k := by omega
      have k64 : (k : Int) < 64 := by omega
      have w0 : IntKind.u32.wrap x0 = x0 := by rw [IntKind.wrap_u32]; omega
      have w1 : IntKind.u32.wrap x1 = x1 := by rw [IntKind.wrap_u32]; omega
      have w2 : IntKind.u32.wrap x2 = x2 := by rw [IntKind.wrap_u32]; omega
      have w3 : IntKind.u32.wrap x3 = x3 := by rw [IntKind.wrap_u32]; omega
      have v0 : IntKind.u32.wrap (x0 * 16777216) = x0 * 16777216 := by rw [IntKind.wrap_u32]; omega
      have v1 : IntKind.u32.wrap (x1 * 65536) = x1 * 65536 := by rw [IntKind.wrap_u32]; omega
      have v2 : IntKind.u32.wrap (x2 * 256) = x2 * 256 := by rw [IntKind.wrap_u32]; omega
      go_wp2
      refine wp_region_still_tail 24 (by kernel_rfl) (by kernel_rfl) ?_
      simp only [List.take_succ_cons, List.take_zero, List.drop_succ_cons, List.drop_zero]
      repeat still_step
      refine wpStill_nil ?_
      change wpList _ _ _ _ _ wr.drew
      clear w0 w1 w2 w3 v0 v1 v2
      go_wp2
      go_roundw
      case rel =>
        refine ⟨k + 1, by omega, by go_num, (h1.out.far (by simp) _).drew, ?_, (hb.setCell (by simp) _).drew⟩
        have := h2.out.set_ k (.int .u32 (at_ (sched b) k))
        rw [arr_set, upto_set, Hw.out] at this
        exact this.drew
      case measure => simp [intOf]; omega
    · go_wp2
      have ek : k = 16 := by omega
      rw [ek] at h2
      clear ek hk hlt
      go_loopw [6] (fun i wr => ∃ k : Nat, 16 ≤ k ∧ k ≤ 64 ∧ i = .int .i64 k ∧ Hid (Blk wr N 63 (arr .u32 (upto (at_ (sched b)) 64 0))) ∧ Hid (Blk wr (N + 1) 63 (arr .u32 (upto (at_ (sched b)) 64 k))) ∧ Below N w wr) (fun i _ => 64 - (intOf i).toNat)
      case atStart => exact ⟨16, by omega, by omega, rfl, h1, h2, hb⟩
      case round =>
        clear h1 h2 hb
        obtain ⟨k, hk1, hk, rfl, h1, h2, hb⟩ := hrel
        by_cases hlt : k < 64
        · have hc0 := h2.out.at_ k (by rw [upto_len]; omega)
          have hz0 := h2.out.frozen k
          have c2 := h2.out.at_ (k - 2) (by rw [upto_len]; omega)
          have c7 := h2.out.at_ (k - 7) (by rw [upto_len]; omega)
          have c15 := h2.out.at_ (k - 15) (by rw [upto_len]; omega)
          have c16 := h2.out.at_ (k - 16) (by rw [upto_len]; omega)
          rw [upto_at _ _ _ _ (by omega), if_pos (by omega)] at c2 c7 c15 c16
          have Hw := sched_hi b k hk1 hlt
          have b2 := sched32 b (k - 2)
          have b7 := sched32 b (k - 7)
          have b15 := sched32 b (k - 15)
          have b16 := sched32 b (k - 16)
          generalize at_ (sched b) (k - 2) = y at *
          generalize at_ (sched b) (k - 7) = y7 at *
          generalize at_ (sched b) (k - 15) = x at *
          generalize at_ (sched b) (k - 16) = x16 at *
          replace Hw := Kept.mk Hw
          have e15 : (k : Int) - 15 = ((k - 15 : Nat) : Int) := by omega
          have e2 : (k : Int) - 2 = ((k - 2 : Nat) : Int) := by omega
          have i2 : IntKind.i64.wrap ((k : Int) - 2) = ((k - 2 : Nat) : Int) := by rw [IntKind.wrap_i64]; omega
          have i7 : IntKind.i64.wrap ((k : Int) - 7) = ((k - 7 : Nat) : Int) := by rw [IntKind.wrap_i64]; omega
          have i15 : IntKind.i64.wrap ((k : Int) - 15) = ((k - 15 : Nat) : Int) := by rw [IntKind.wrap_i64]; omega
          have i16 : IntKind.i64.wrap ((k : Int) - 16) = ((k - 16 : Nat) : Int) := by rw [IntKind.wrap_i64]; omega
          have j2 : ((k - 2 : Nat) : Int) < 64 := by omega
          have j7 : ((k - 7 : Nat) : Int) < 64 := by omega
          have j15 : ((k - 15 : Nat) : Int) < 64 := by omega
          have j16 : ((k - 16 : Nat) : Int) < 64 := by omega
          clear e2 e15
          go_wp2
          go_quiet (fail)
          replace hc0 : (wr.drewN nq).cell? ⟨N + 1, k, none⟩ = _ := hc0
          replace hz0 : (wr.drewN nq).frozen? ⟨N + 1, k, none⟩ = _ := hz0
          replace c7 : (wr.drewN nq).cell? ⟨N + 1, k - 7, none⟩ = _ := c7
          replace c16 : (wr.drewN nq).cell? ⟨N + 1, k - 16, none⟩ = _ := c16
          replace h1 : Hid (Blk (wr.drewN nq) N 63 (arr .u32 (upto (at_ (sched b)) 64 0))) := h1
          replace h2 : Hid (Blk (wr.drewN nq) (N + 1) 63 (arr .u32 (upto (at_ (sched b)) 64 k))) := h2
          replace hb : Below N w (wr.drewN nq) := ⟨hb.os, hb.tape, hb.output, hb.size, hb.block⟩
          clear c2 c15
          generalize wr.drewN nq = wq at *
          obtain ⟨b2l, b2h⟩ := id b2
          obtain ⟨b15l, b15h⟩ := id b15
          have B2 := Lib.hid b2
          have B15 := Lib.hid b15
          clear b2 b15
          go_wp2_with fail
          refine (rot_m17 _ B2.out _).mono ?_
          rintro e w' ⟨rfl, rfl⟩
          go_wp2_with fail
          refine (rot_m19 _ B2.out _).mono ?_
          rintro e w' ⟨rfl, rfl⟩
          go_wp2_with fail
          refine (rot_m7 _ B15.out _).mono ?_
          rintro e w' ⟨rfl, rfl⟩
          go_wp2_with fail
          refine (rot_m18 _ B15.out _).mono ?_
          rintro e w' ⟨rfl, rfl⟩
          go_wp2
          refine wp_region_still_tail 15 (by kernel_rfl) (by kernel_rfl) ?_
          simp only [List.take_succ_cons, List.take_zero, List.drop_succ_cons, List.drop_zero]
          repeat still_step
          rw [nxw_code]
          refine wpStill_nil ?_
          change wpList _ _ _ _ _ wq.drew
          clear i2 i7 i15 i16
          go_wp2

          go_roundw
          case rel =>
            refine ⟨k + 1, by omega, by omega, by go_num, ?_, ?_, ?_⟩
            · exact (h1.out.far (by simp) _).drew
            · have := h2.out.set_ k (.int .u32 (at_ (sched b) k))
              rw [arr_set, upto_set, Hw.out] at this
              exact this.drew
            · exact (hb.setCell (by simp) _).drew
          case measure => simp [intOf]; omega
        · have ek : k = 64 := by omega
          rw [ek, upto_all _ _ (sched_len b)] at h2
          clear ek
          go_upto_region 15 with (fail)
          apply wp_region_lit
          refine wpList_load_row rfl 63 (.tmp 3) rfl (N + 1) rfl 63 _ (0, 0) _ h2.out Try.underlying63 rfl (by rw [arr_size, sched_len]; kernel_rfl) ?_
          refine wpList_store_row (o := ⟨none, .store _ _ _, _, _, _, _⟩) rfl 63 (.tmp 2) (.tmp 89) rfl N (arr .u32 (sched b)) rfl rfl 63 _ h1.out (by rw [arr_size, sched_len]; kernel_rfl) (by rw [arr_size, arr_size, sched_len, upto_len]) (all_oneCell_toArray (ints_one _ _)) ?_
          have h3 := h1.out.row (arr .u32 (sched b))
          go_wp2
          refine bodyPost_ret (v := .agg (arr .u32 (sched b))) (results_cell_row rfl _ _ N 63 _ (0, 0) _ rfl h3 Try.underlying63 rfl (by rw [arr_size, sched_len]; kernel_rfl)) rfl ⟨rfl, ?_⟩
          rw [hN]
          exact below_setRow hb (Nat.le_refl _) _
end Go.Proofs.Ytblhfbpokfegnaa.Sha
