/-
  What all laws of chapter 3 begin and end with: the example's first bytes.
-/
import Derived.Test.YtblhfbpokfegnaaMacEq
import Derived.Lib.SlBytesConst
namespace Go.Proofs.Ytblhfbpokfegnaa.Mac
open Go.RowKit Go.Proofs.Ytblhfbpokfegnaa.Sha

theorem hi_at : at_ (hmac (List.replicate 20 11) [72, 105, 32, 84, 104, 101, 114, 101]) 0 = 176 ∧ at_ (hmac (List.replicate 20 11) [72, 105, 32, 84, 104, 101, 114, 101]) 1 = 52 ∧ at_ (hmac (List.replicate 20 11) [72, 105, 32, 84, 104, 101, 114, 101]) 2 = 76 ∧ at_ (hmac (List.replicate 20 11) [72, 105, 32, 84, 104, 101, 114, 101]) 3 = 97 := by
  have h := hi_there
  have e : ∀ i, i < 4 → at_ (hmac (List.replicate 20 11) [72, 105, 32, 84, 104, 101, 114, 101]) i = at_ ((hmac (List.replicate 20 11) [72, 105, 32, 84, 104, 101, 114, 101]).take 4) i := fun i hi => (at_take hi).symm
  rw [e 0 (by omega), e 1 (by omega), e 2 (by omega), e 3 (by omega), h]
  exact ⟨rfl, rfl, rfl, rfl⟩

/-- the first k of 20 bytes 0b -/
def elevens (k : Nat) : List Int := List.replicate k 11 ++ List.replicate (20 - k) 0
theorem elevens_len (k : Nat) (h : k ≤ 20) : (elevens k).length = 20 := by simp [elevens]; omega
theorem elevens_set (k : Nat) (h : k < 20) : (elevens k).set k 11 = elevens (k + 1) := by
  unfold elevens
  rw [List.set_append_right _ _ (by simp), List.length_replicate, Nat.sub_self, show 20 - k = (20 - (k + 1)) + 1 by omega, List.replicate_succ, List.set_cons_zero, List.replicate_succ', List.append_assoc]
  rfl
theorem elevens_at (k : Nat) (h : k < 20) : at_ (elevens k) k = 0 := by
  unfold elevens
  rw [at_append_right (by simp)]
  simp [at_, show 0 < 20 - k by omega]

theorem make_blk (w : World) (n : Nat) (hn : n ≤ 400) : ∃ w', (Instr.makeSlice 29 (.int .i64 (n : Int)) (.int .i64 (n : Int))).run Try.prog w = .ok (.slice (some ⟨w.heap.size, 0, none⟩) n n) w' ∧ Blk w' w.heap.size 5 (arr .u8 (List.replicate n 0)) ∧ Below w.heap.size w w' := by
  obtain ⟨iu, hi, hz0, hz1, hz2⟩ := info_parts info_u8
  obtain ⟨w', hm, own, gr⟩ := run_makeSlice_full (P := Try.prog) w w.heap.size 29 5 iu _ 1 Try.underlying29 hi hz0 hz1 .i64 .i64 n (by omega) (by rw [hz2]; omega) (by unfold maxLen; omega) (Nat.le_refl _)
  refine ⟨w', hm, ?_, ⟨gr.os, gr.tape, gr.output, gr.size, fun k hk => gr.block k hk (by simp)⟩⟩
  have e : (madeCells (Value.int .u8 0).cells (n * 1)).toList = ints .u8 (List.replicate n 0) := by
    rw [show (Value.int .u8 0).cells = #[.int .u8 0] from rfl, toList_madeCells_one, Nat.mul_one]
    simp [ints]
  rw [e] at own
  rcases own.2 with ⟨h0, -⟩ | ⟨g, cap, cur, hv, -, hh, h1, -, hs, ht⟩
  · cases h0
  · have hv2 : w.heap.size = g ∧ n = cap := by
      have := hv
      simp only [Value.slice.injEq, Option.some.injEq, Addr.mk.injEq] at this
      omega
    obtain ⟨hg, rfl⟩ := hv2
    rw [hg]
    have : cur = arr .u8 (List.replicate n 0) := by
      apply Array.toList_inj.1
      rw [List.take_of_length_le (by simp; omega)] at ht
      rw [ht]
      rfl
    rw [← this]
    exact hh

set_option maxRecDepth 100000 in
set_option maxHeartbeats 1000000 in
theorem mfirst_any (w : World) : Calls Try.prog 22 #[] w fun e w' => e = .returned (.bool true) ∧ Below w.heap.size w w' := by
  obtain ⟨N, hN⟩ : ∃ N, w.heap.size = N := ⟨_, rfl⟩
  have hT : Kept (Tab (w.alloc (.cells (tbl (.int .u32 0) (.int .i32 0) (.int .u32 0) 0 0) 66)) N) := ⟨.inl (Blk.new_at _ _ _ N hN.symm)⟩
  have hB : Kept (Below N w (w.alloc (.cells (tbl (.int .u32 0) (.int .i32 0) (.int .u32 0) 0 0) 66))) := ⟨(Below.refl _ _).alloc (by omega) _⟩
  have hlt : (w.alloc (.cells (tbl (.int .u32 0) (.int .i32 0) (.int .u32 0) 0 0) 66)).heap.size = N + 1 := by simp [hN]
  go_enter Try.func22, Try.ntmps22
  go_wp2_with fail
  refine (newtable_any w).mono ?_
  rintro e w1 ⟨rfl, rfl⟩
  rw [hN]
  generalize w.alloc (.cells (tbl (.int .u32 0) (.int .i32 0) (.int .u32 0) 0 0) 66) = w1 at *
  obtain ⟨w2, hmk, kz, b2⟩ := make_blk w1 20 (by omega)
  rw [hlt] at hmk kz
  rw [show ((20 : Nat) : Int) = 20 from rfl] at hmk
  have T2 := Kept.mk (hT.out.below b2 (by omega))
  have B2 := Kept.mk (hB.out.trans (b2.mono (by omega)))
  have K2 := Kept.mk kz
  clear hT hB kz b2
  go_wp2
  go_loopw [3] (fun i wr => ∃ k : Nat, k ≤ 20 ∧ i = .int .i64 k ∧ Kept (Blk wr (N + 1) 5 (arr .u8 (elevens k))) ∧ Kept (Tab wr N) ∧ Kept (Below N w wr)) (fun i _ => 20 - (intOf i).toNat)
  case atStart => exact ⟨0, by omega, rfl, K2, T2, B2⟩
  case round =>
    clear K2 T2 B2 hmk
    obtain ⟨k, hk, rfl, K, T, B⟩ := hrel
    by_cases hlt : k < 20
    · have hk' : (k : Int) < 20 := by omega
      have c0 := K.out.at_ k (by rw [elevens_len _ hk]; exact hlt)
      rw [elevens_at k hlt] at c0
      have z0 := K.out.frozen k
      go_wp2
      go_roundw
      case rel =>
        refine ⟨k + 1, by omega, by go_num, ⟨?_⟩, ⟨T.out.bar ((Bar.refl [N + 1] wr).setCell (by simp) _) (by simp)⟩, ⟨B.out.setCell (by simp) _⟩⟩
        have := K.out.set_ k (.int .u8 11)
        rw [arr_set, elevens_set k hlt] at this
        exact this
      case measure => simp [intOf]; omega
    · obtain rfl : k = 20 := by omega
      have hk' : ¬ ((20 : Nat) : Int) < 20 := by omega
      have hel : elevens 20 = List.replicate 20 11 := by simp [elevens]
      rw [hel] at K
      clear hel
      have hcv := Lib.run_convert_bytes_const (P := Try.prog) wr 29 5 #[.int .u8 72, .int .u8 105, .int .u8 32, .int .u8 84, .int .u8 104, .int .u8 101, .int .u8 114, .int .u8 101] 8 8 Try.underlying29 Try.underlying5
      have hR : Rd (wr.alloc (.cells #[.int .u8 72, .int .u8 105, .int .u8 32, .int .u8 84, .int .u8 104, .int .u8 101, .int .u8 114, .int .u8 101] 5 (8, 9))) (some ⟨wr.heap.size, 0, none⟩) 8 [72, 105, 32, 84, 104, 101, 114, 101] :=
        Rd.made (heap_alloc_new wr (.cells (arr .u8 [72, 105, 32, 84, 104, 101, 114, 101]) 5 (8, 9))) (by intro x hx; simp only [List.mem_cons, List.not_mem_nil, or_false] at hx; omega) rfl
      have hA : Bar [] wr (wr.alloc (.cells #[.int .u8 72, .int .u8 105, .int .u8 32, .int .u8 84, .int .u8 104, .int .u8 101, .int .u8 114, .int .u8 101] 5 (8, 9))) := (Bar.refl _ _).alloc _
      have c2 := Kept.mk (mone_any N (some ⟨N + 1, 0, none⟩) (some ⟨wr.heap.size, 0, none⟩) 20 20 8 8 (List.replicate 20 11) _ _ (T.out.bar hA (by simp)) (Rd.blk (K.out.bar hA (by simp)) (by intro x hx; have := List.eq_of_mem_replicate hx; omega) (by simp)) hR (by omega) (by omega) (by omega) (by omega) (by omega) (by omega))
      have BA := Kept.mk (B.out.trans (hA.below (B := N) (by have := B.out.size; omega) (by simp)))
      clear hR hA T K B
      go_wp2_with fail
      refine c2.out.mono ?_
      rintro e w3 ⟨M, rfl, hM, k3, m3, b3⟩
      clear c2 hcv
      have u0 : w3.cell? ⟨M, 0, none⟩ = some (.int .u8 176) := by have := k3.at_ 0 (by rw [hmac_len]; omega); rw [hi_at.1] at this; exact this
      have u1 : w3.cell? ⟨M, 1, none⟩ = some (.int .u8 52) := by have := k3.at_ 1 (by rw [hmac_len]; omega); rw [hi_at.2.1] at this; exact this
      have u2 : w3.cell? ⟨M, 2, none⟩ = some (.int .u8 76) := by have := k3.at_ 2 (by rw [hmac_len]; omega); rw [hi_at.2.2.1] at this; exact this
      have u3 : w3.cell? ⟨M, 3, none⟩ = some (.int .u8 97) := by have := k3.at_ 3 (by rw [hmac_len]; omega); rw [hi_at.2.2.2] at this; exact this
      have B3 := Kept.mk (BA.out.trans (b3.below (B := N) (by have := BA.out.size; omega) (by simp)))
      clear k3 m3 b3 BA
      go_wp2
      go_ret
      exact ⟨rfl, by rw [hN]; exact B3.out⟩
end Go.Proofs.Ytblhfbpokfegnaa.Mac
