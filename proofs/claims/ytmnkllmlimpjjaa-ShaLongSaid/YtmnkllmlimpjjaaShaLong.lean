/-
  The law ShaLong, walked.
-/
import Derived.Test.YtmnkllmlimpjjaaShaTable
import Derived.Laws.OwnMore
namespace Go.Proofs.Ytmnkllmlimpjjaa.Sha
open Go.RowKit

theorem make_zeros (w : World) (n : Nat) (hn : n ≤ 400) : ∃ w', (Instr.makeSlice 22 (.int .i64 (n : Int)) (.int .i64 (n : Int))).run Try.prog w = .ok (.slice (some ⟨w.heap.size, 0, none⟩) n n) w' ∧ Rd w' (some ⟨w.heap.size, 0, none⟩) n (List.replicate n 0) ∧ Below w.heap.size w w' := by
  obtain ⟨iu, hi, hz0, hz1, hz2⟩ := info_parts info_u8
  obtain ⟨w', hm, own, gr⟩ := run_makeSlice_full (P := Try.prog) w w.heap.size 22 5 iu _ 1 Try.underlying22 hi hz0 hz1 .i64 .i64 n (by omega) (by rw [hz2]; omega) (by unfold maxLen; omega) (Nat.le_refl _)
  refine ⟨w', hm, ?_, ⟨gr.os, gr.tape, gr.output, gr.size, fun k hk => gr.block k hk (by simp)⟩⟩
  have e : (madeCells (Value.int .u8 0).cells (n * 1)).toList = ints .u8 (List.replicate n 0) := by
    rw [show (Value.int .u8 0).cells = #[.int .u8 0] from rfl, toList_madeCells_one, Nat.mul_one]
    simp [ints]
  rw [e] at own
  refine ⟨by simp, fun x hx => ?_, ?_⟩
  · have := List.eq_of_mem_replicate hx
    omega
  · exact .inr ⟨_, 0, rfl, fun i hi => by rw [Nat.zero_add]; exact own_cell own i hi⟩

set_option maxRecDepth 100000 in
set_option maxHeartbeats 1000000 in
theorem long_walk (i : Int) (w : World) :
    Calls Try.prog 6 #[.int .i64 i] w fun e w' => e = .returned (.bool true) ∧ Below w.heap.size w w' := by
  by_cases hneg : i < 0
  · go_enter Try.func6, Try.ntmps6
    go_wp2_with fail
    refine (first_any _).mono ?_
    rintro e w1 ⟨rfl, b1⟩
    go_wp2_with fail
    refine (newtable_any w1).mono ?_
    rintro e w2 ⟨rfl, rfl⟩
    have b2 := b1.alloc b1.size (.cells (tbl (.int .u32 0) (.int .i32 0) (.int .u32 0) 0 0) 58)
    generalize w1.alloc (.cells (tbl (.int .u32 0) (.int .i32 0) (.int .u32 0) 0 0) 58) = w2 at *
    clear b1
    generalize w1.heap.size = N
    go_wp2_with fail
    refine (first_any _).mono ?_
    rintro e w3 ⟨rfl, b3⟩
    have B3 := Kept.mk (b2.trans (b3.mono b2.size))
    clear b2 b3
    go_wp2
    go_ret
    exact ⟨rfl, B3.out⟩
  by_cases hbig : 400 < i
  · go_enter Try.func6, Try.ntmps6
    go_wp2_with fail
    refine (first_any _).mono ?_
    rintro e w1 ⟨rfl, b1⟩
    go_wp2_with fail
    refine (newtable_any w1).mono ?_
    rintro e w2 ⟨rfl, rfl⟩
    have b2 := b1.alloc b1.size (.cells (tbl (.int .u32 0) (.int .i32 0) (.int .u32 0) 0 0) 58)
    generalize w1.alloc (.cells (tbl (.int .u32 0) (.int .i32 0) (.int .u32 0) 0 0) 58) = w2 at *
    clear b1
    generalize w1.heap.size = N
    go_wp2_with fail
    refine (first_any _).mono ?_
    rintro e w3 ⟨rfl, b3⟩
    have B3 := Kept.mk (b2.trans (b3.mono b2.size))
    clear b2 b3
    go_wp2
    go_ret
    exact ⟨rfl, B3.out⟩
  · obtain ⟨n, rfl⟩ := Int.eq_ofNat_of_zero_le (show 0 ≤ i by omega)
    have hn : n ≤ 400 := by omega
    go_enter Try.func6, Try.ntmps6
    go_wp2_with fail
    refine (first_any _).mono ?_
    rintro e w1 ⟨rfl, b1⟩
    go_wp2_with fail
    refine (newtable_any w1).mono ?_
    rintro e w2 ⟨rfl, rfl⟩
    obtain ⟨N, hN⟩ : ∃ N, w1.heap.size = N := ⟨_, rfl⟩
    have t2 : Tab (w1.alloc (.cells (tbl (.int .u32 0) (.int .i32 0) (.int .u32 0) 0 0) 58)) N := .inl (Blk.new_at _ _ _ N hN.symm)
    have b2 := b1.alloc b1.size (.cells (tbl (.int .u32 0) (.int .i32 0) (.int .u32 0) 0 0) 58)
    have hlt : w.heap.size ≤ N := hN ▸ b1.size
    have hlt2 : N < (w1.alloc (.cells (tbl (.int .u32 0) (.int .i32 0) (.int .u32 0) 0 0) 58)).heap.size := by simp [hN]
    rw [hN]
    generalize w1.alloc (.cells (tbl (.int .u32 0) (.int .i32 0) (.int .u32 0) 0 0) 58) = w2 at *
    clear b1 hN
    have T2 := Kept.mk t2; have B2 := Kept.mk b2
    clear t2 b2
    obtain ⟨w3, hmk, rz, b⟩ := make_zeros w2 n hn
    obtain ⟨K, hK⟩ : ∃ K, w2.heap.size = K := ⟨_, rfl⟩
    have hNK : N < K := by omega
    have t3 := T2.out.below b (by omega)
    have b3 := B2.out.trans (b.mono B2.out.size)
    have hwK : w.heap.size ≤ K := by have := B2.out.size; omega
    rw [hK] at hmk rz
    have T3 := Kept.mk t3; have B3 := Kept.mk b3; have RZ := Kept.mk rz
    clear b t3 b3 rz T2 B2 hlt2 hK
    go_wp2_with fail
    refine (new_any N w3 T3.out).mono ?_
    rintro e w4 ⟨H, rfl, hH, hsH, b⟩
    have hHN : H ≠ N := hsH.1
    have hHB : w.heap.size ≤ H := by have := B3.out.size; omega
    have hHK : n = 0 ∨ K < H := by
      by_cases h0 : n = 0
      · exact .inl h0
      · obtain ⟨bb, o, he, hc⟩ := RZ.out.2.2.resolve_left h0
        injection he with he
        injection he with h1 h2
        subst h1
        have := World.block_lt_of_cell? _ _ (hc 0 (by omega))
        simp at this
        omega
    have RZ4 := Kept.mk (RZ.out.keep b (by simp; omega))
    have B := Kept.mk (B3.out.trans (b.below B3.out.size (by simpa using hlt)))
    have HH := Kept.mk hsH
    clear b hsH T3 B3 RZ hmk
    go_wp2
    go_loopw [6] (fun i w6 => ∃ k : Nat, k ≤ n ∧ i = .int .i64 k ∧ Kept (Hs w6 H N (List.replicate k 0)) ∧ Kept (Rd w6 (some ⟨K, 0, none⟩) n (List.replicate n 0)) ∧ Kept (Below w.heap.size w w6)) (fun i _ => n - (intOf i).toNat)
    case atStart => exact ⟨0, by omega, rfl, HH, RZ4, B⟩
    case round =>
      clear HH RZ4 B
      obtain ⟨k, hk, rfl, HH, RZ, B⟩ := hrel
      by_cases hkn : k < n
      · have hkn' : (k : Int) < n := by omega
        go_wp2_with fail
        have hne : K ≠ H := by omega
        have hz : wr.cell? ⟨K, k, none⟩ = some (.int .u8 0) := by
          obtain ⟨bb, o, he, hc⟩ := RZ.out.2.2.resolve_left (by omega)
          injection he with he
          injection he with h1 h2
          subst h1 h2
          have := hc k hkn
          rw [Nat.zero_add] at this
          rw [this]
          simp [at_, hkn]
        refine (write_any H N (List.replicate k 0) [0] (some ⟨K, k, none⟩) 1 (n - k) wr HH.out ⟨rfl, by intro x hx; rw [List.mem_singleton] at hx; omega, .inr ⟨K, k, rfl, hne, fun i hi => by have h0 : i = 0 := (by omega); rw [h0]; exact hz⟩⟩ (by omega) (by omega) (by simp; omega)).mono ?_
        rintro e w7 ⟨rfl, hsH, b⟩
        rw [← List.replicate_succ'] at hsH
        replace RZ := Kept.mk (RZ.out.keep b (fun x hx => .inr fun o ho => by
          rw [List.mem_singleton] at hx
          injection ho with ho
          injection ho with h1
          omega))
        replace B := Kept.mk (B.out.trans (b.below B.out.size (by simpa using hHB)))
        replace HH := Kept.mk hsH
        clear b hsH hz
        go_wp2_with fail
        refine (write_any H N (List.replicate (k + 1) 0) [] none 0 0 w7 HH.out Sl.nil_ (by omega) (by omega) (by simp; omega)).mono ?_
        rintro e w8 ⟨rfl, hsH, b⟩
        rw [List.append_nil] at hsH
        replace RZ := Kept.mk (RZ.out.keep b (fun x hx => .inr fun o ho => by
          rw [List.mem_singleton] at hx
          injection ho with ho
          injection ho with h1
          omega))
        replace B := Kept.mk (B.out.trans (b.below B.out.size (by simpa using hHB)))
        replace HH := Kept.mk hsH
        clear b hsH
        go_wp2
        go_roundw
        case rel => exact ⟨k + 1, by omega, by go_num, HH, RZ, B⟩
        case measure => simp [intOf]; omega
      · have hkn' : ¬ (k : Int) < n := by omega
        go_wp2_with fail
        refine (sum_any H N (List.replicate k 0) wr HH.out (by simp; omega)).mono ?_
        rintro e w7 ⟨M1, rfl, hM1, k1, b⟩
        replace HH := Kept.mk (HH.out.bar (barOf b []) (by simp) (by simp))
        replace RZ := Kept.mk (RZ.out.below b)
        replace B := Kept.mk (B.out.trans (b.mono B.out.size))
        have K1 := Kept.mk k1
        clear b k1
        go_wp2_with fail
        refine (sum_any H N (List.replicate k 0) w7 HH.out (by simp; omega)).mono ?_
        rintro e w8 ⟨M2, rfl, hM2, k1, b⟩
        replace RZ := Kept.mk (RZ.out.below b)
        replace K1 := Kept.mk (K1.out.below b K1.out.lt)
        replace B := Kept.mk (B.out.trans (b.mono B.out.size))
        have K2 := Kept.mk k1
        clear b k1 HH
        go_wp2_with fail
        refine (first_any _).mono ?_
        rintro e w9 ⟨rfl, b⟩
        replace RZ := Kept.mk (RZ.out.below b)
        replace K1 := Kept.mk (K1.out.below b K1.out.lt)
        replace K2 := Kept.mk (K2.out.below b K2.out.lt)
        replace B := Kept.mk (B.out.trans (b.mono B.out.size))
        clear b
        go_wp2_with fail
        refine (rhash_any _ n n (List.replicate n 0) w9 RZ.out (by omega)).mono ?_
        rintro e w10 ⟨M4, cap4, rfl, -, -, -, r8, b⟩
        replace K1 := Kept.mk (K1.out.below b K1.out.lt)
        replace K2 := Kept.mk (K2.out.below b K2.out.lt)
        replace B := Kept.mk (B.out.trans (b.mono B.out.size))
        rw [show n = k by omega] at r8
        have R8 := Kept.mk r8
        clear b r8
        go_wp2_with fail
        refine (bytes_same _ _ _ _ _ _ (sha (List.replicate k 0)) w10 (Rd.blk K1.out (sha_bytes _) (sha_len _)) R8.out).mono ?_
        rintro e w11 ⟨rfl, rfl⟩
        go_wp2_with fail
        refine (bytes_same _ _ _ _ _ _ (sha (List.replicate k 0)) w10 (Rd.blk K1.out (sha_bytes _) (sha_len _)) (Rd.blk K2.out (sha_bytes _) (sha_len _))).mono ?_
        rintro e w11 ⟨rfl, rfl⟩
        go_wp2
        go_ret
        exact ⟨rfl, B.out⟩
end Go.Proofs.Ytmnkllmlimpjjaa.Sha
