/-
  Parts laid together: MacRef.
-/
import Derived.Test.YtidjkhpekhpffaaPart12
import Derived.Test.YtidjkhpekhpffaaPart20
import Derived.Test.YtidjkhpekhpffaaPart3
import Derived.Maps.AppendAt

namespace Go.Proofs.Ytidjkhpekhpffaa.Mac
open Go.RowKit Go.Proofs.Ytidjkhpekhpffaa.Sha

theorem kp_take (key : List Int) (c : Int) (k : Nat) (h : k < 64) : (kp key c).take (k + 1) = (kp key c).take k ++ [bits .xor .u8 (at_ key k) c] := by
  rw [List.take_succ_eq_append_getElem (by rw [kp_len]; exact h)]
  congr 2
  have := kp_at key c k h
  simpa [at_, List.getD_eq_getElem?_getD, kp_len, h] using this

def RMacPost (text : List Int) (w : World) (e : Ending) (w' : World) : Prop := ∃ M cap, e = .returned (.slice (some ⟨M, 0, none⟩) 32 cap) ∧ w.heap.size ≤ M ∧ 32 ≤ cap ∧ cap ≤ maxLen ∧ Rd w' (some ⟨M, 0, none⟩) 32 text ∧ Below w.heap.size w w'

set_option maxRecDepth 100000 in
set_option maxHeartbeats 2000000 in
theorem rmac_any (A Bb : Option Addr) (na ca nb cb : Nat) (key text : List Int) (w : World) (hra : Rd w A na key) (hrb : Rd w Bb nb text) (hn : na < 1073741824) (hm : nb < 536870912) :
    Calls Try.prog 23 #[.slice A na ca, .slice Bb nb cb] w (RMacPost (hmac key text) w) := by
  have RA := Kept.mk hra
  have RB := Kept.mk hrb
  have LA := Kept.mk hra.1
  have LB := Kept.mk hrb.1
  clear hra hrb
  by_cases hbig : 64 < na
  · have hbig' := Kept.mk (keyOf_big (key := key) (by rw [LA.out]; exact hbig))
    go_enter Try.func23, Try.ntmps23
    go_wp2_with fail
    refine (rhash_any A na ca key w RA.out hn).mono ?_
    rintro e w0 ⟨M0, cap0, rfl, hM0, hc0, hm0, r0, b0⟩
    have R0 := Kept.mk r0
    have B0 := Kept.mk b0
    have RB' := Kept.mk (RB.out.below b0)
    clear r0 b0
    go_wp2
    go_loopw [5, 6, 7] (fun vi vo i wr => ∃ (k : Nat) (ui uo : Value), k ≤ 64 ∧ ui = vi ∧ uo = vo ∧ i = .int .i64 k ∧ Kept (wr.ownsRow w0.heap.size 5 1 ui k (ints .u8 ((kp (sha key) 54).take k))) ∧ Kept (wr.ownsRow w0.heap.size 5 1 uo k (ints .u8 ((kp (sha key) 92).take k))) ∧ Kept (Apart ui uo) ∧ Kept (Rd wr (some ⟨M0, 0, none⟩) 32 (sha key)) ∧ Kept (Below w0.heap.size w0 wr)) (fun _ _ i _ => 64 - (intOf i).toNat)
    case atStart => exact ⟨0, .slice none 0 0, .slice none 0 0, by omega, rfl, rfl, rfl, ⟨World.ownsRow_nil _ _ _ _⟩, ⟨World.ownsRow_nil _ _ _ _⟩, ⟨fun g h => by simp [Value.ownBlock] at h⟩, R0, ⟨Below.refl _ _⟩⟩
    case round =>
      obtain ⟨k, vi, vo, hk, rfl, rfl, rfl, OI, OO, AP, R, B⟩ := hrel
      by_cases h64 : k < 64
      · have k64 : (k : Int) < 64 := by omega
        have T54 := Kept.mk (kp_take (sha key) 54 k h64)
        have T92 := Kept.mk (kp_take (sha key) 92 k h64)
        by_cases hin : k < 32
        · obtain ⟨bb, oo, hA, hc⟩ := R.out.2.2.resolve_left (by omega)
          injection hA with hA
          injection hA with e1 e2
          subst e1 e2
          have hin' : (k : Int) < (32 : Nat) := by omega
          have x0 := hc k hin
          try rw [Nat.zero_add] at x0
          have hx := R.out.2.1.at_ k
          generalize at_ (sha key) k = c at *
          obtain ⟨hx0, hx1⟩ := hx
          clear hc
          go_wp2_with (first
            | ((with_reducible refine sel 30 ?_); refine wpList_append_rda rfl (.tmp 26) (.tmp 29) 22 rfl w0.heap.size 5 Try.underlying22 info_u8 vi k _ rfl (OI.out.alloc _) _ 1 1 [bits .xor .u8 c 54] rfl (rd_one _ _ (bits8 _ _ _)) (by omega) (by have := B.out.size; simp; omega) ?_; intro v7 w7 o7 g7 a7; have O7 := Kept.mk o7.out; have P7 := Kept.mk (apart_in AP.out (OO.out.alloc (.cells #[.int .u8 (bits .xor .u8 c 54)] 5)) g7 a7); have B7 := Kept.mk ((B.out.alloc B.out.size (.cells #[.int .u8 (bits .xor .u8 c 54)] 5)).trans (own_below (OI.out.alloc (.cells #[.int .u8 (bits .xor .u8 c 54)] 5)) g7 (by have := B.out.size; simp; omega))); clear o7 g7 a7)
            | ((with_reducible refine sel 35 ?_); refine wpList_append_rda rfl (.tmp 31) (.tmp 34) 22 rfl w0.heap.size 5 Try.underlying22 info_u8 vo k _ rfl (P7.out.1.alloc _) _ 1 1 [bits .xor .u8 c 92] rfl (rd_one _ _ (bits8 _ _ _)) (by omega) (by have := B7.out.size; simp; omega) ?_; intro v8 w8 o8 g8 a8; have O8 := Kept.mk o8.out; have P8 := Kept.mk (apart_in P7.out.2 (O7.out.alloc (.cells #[.int .u8 (bits .xor .u8 c 92)] 5)) g8 a8); have B8 := Kept.mk ((B7.out.alloc B7.out.size (.cells #[.int .u8 (bits .xor .u8 c 92)] 5)).trans (own_below (P7.out.1.alloc (.cells #[.int .u8 (bits .xor .u8 c 92)] 5)) g8 (by have := B7.out.size; simp; omega))); clear o8 g8 a8))
          go_roundw
          case rel =>
            refine ⟨k + 1, v7, v8, by omega, rfl, rfl, by go_num, ⟨?_⟩, ⟨?_⟩, ⟨P8.out.2⟩, ⟨R0.out.below B8.out⟩, B8⟩
            · have := P8.out.1
              rw [← ints_append, ← T54.out] at this
              exact this
            · have := O8.out
              rw [← ints_append, ← T92.out] at this
              exact this
          case measure => simp [intOf]; omega
        · have hin' : ¬ (k : Int) < (32 : Nat) := by omega
          rw [at_out (l := (sha key)) (by rw [R.out.1]; omega)] at T54 T92
          go_wp2_with (first
            | ((with_reducible refine sel 30 ?_); refine wpList_append_rda rfl (.tmp 26) (.tmp 29) 22 rfl w0.heap.size 5 Try.underlying22 info_u8 vi k _ rfl (OI.out.alloc _) _ 1 1 [bits .xor .u8 0 54] rfl (rd_one _ _ (bits8 _ _ _)) (by omega) (by have := B.out.size; simp; omega) ?_; intro v7 w7 o7 g7 a7; have O7 := Kept.mk o7.out; have P7 := Kept.mk (apart_in AP.out (OO.out.alloc (.cells #[.int .u8 (bits .xor .u8 0 54)] 5)) g7 a7); have B7 := Kept.mk ((B.out.alloc B.out.size (.cells #[.int .u8 (bits .xor .u8 0 54)] 5)).trans (own_below (OI.out.alloc (.cells #[.int .u8 (bits .xor .u8 0 54)] 5)) g7 (by have := B.out.size; simp; omega))); clear o7 g7 a7)
            | ((with_reducible refine sel 35 ?_); refine wpList_append_rda rfl (.tmp 31) (.tmp 34) 22 rfl w0.heap.size 5 Try.underlying22 info_u8 vo k _ rfl (P7.out.1.alloc _) _ 1 1 [bits .xor .u8 0 92] rfl (rd_one _ _ (bits8 _ _ _)) (by omega) (by have := B7.out.size; simp; omega) ?_; intro v8 w8 o8 g8 a8; have O8 := Kept.mk o8.out; have P8 := Kept.mk (apart_in P7.out.2 (O7.out.alloc (.cells #[.int .u8 (bits .xor .u8 0 92)] 5)) g8 a8); have B8 := Kept.mk ((B7.out.alloc B7.out.size (.cells #[.int .u8 (bits .xor .u8 0 92)] 5)).trans (own_below (P7.out.1.alloc (.cells #[.int .u8 (bits .xor .u8 0 92)] 5)) g8 (by have := B7.out.size; simp; omega))); clear o8 g8 a8))
          go_roundw
          case rel =>
            refine ⟨k + 1, v7, v8, by omega, rfl, rfl, by go_num, ⟨?_⟩, ⟨?_⟩, ⟨P8.out.2⟩, ⟨R0.out.below B8.out⟩, B8⟩
            · have := P8.out.1
              rw [← ints_append, ← T54.out] at this
              exact this
            · have := O8.out
              rw [← ints_append, ← T92.out] at this
              exact this
          case measure => simp [intOf]; omega
      · have hk64 : k = 64 := by omega
        subst hk64
        have k64 : ¬ ((64 : Nat) : Int) < 64 := by omega
        rw [List.take_of_length_le (Nat.le_of_eq (kp_len _ _))] at OI OO
        go_wp2_with ((with_reducible refine sel 39 ?_); refine wpList_append_rda rfl (.tmp 37) (.tmp 38) 22 rfl w0.heap.size 5 Try.underlying22 info_u8 vi 64 _ rfl OI.out Bb nb cb text rfl (RB'.out.below B.out) (by omega) B.out.size ?_; intro v7 w7 o7 g7 a7; rw [← ints_append] at o7; have P7 := Kept.mk (apart_in AP.out OO.out g7 a7).1; have B7 := Kept.mk (B.out.trans (own_below OI.out g7 B.out.size)); obtain ⟨A7, c7, rfl, -, -, r7⟩ := own_rd o7.out ((kp_bytes _ _).append RB'.out.2.1); have R7 := Kept.mk r7; clear o7 g7 a7 r7)
        refine (rhash_any A7 (64 + nb) c7 (kp (sha key) 54 ++ text) w7 R7.out (by omega)).mono ?_
        rintro e w8 ⟨M8, c8, rfl, -, -, -, r8, b8⟩
        have O8 := Kept.mk (own_bar P7.out (barOf b8 []) (by simp))
        have R8 := Kept.mk r8
        have B8 := Kept.mk (B7.out.trans (b8.mono B7.out.size))
        clear r8 b8 P7 R7 B7 OI OO AP B R
        go_wp2_with ((with_reducible refine sel 41 ?_); refine wpList_append_rda rfl (.tmp 36) (.tmp 40) 22 rfl w0.heap.size 5 Try.underlying22 info_u8 vo 64 _ rfl O8.out (some ⟨M8, 0, none⟩) 32 c8 (sha (kp (sha key) 54 ++ text)) rfl R8.out (by omega) B8.out.size ?_; intro v9 w9 o9 g9 a9; rw [← ints_append] at o9; have B9 := Kept.mk (B8.out.trans (own_below O8.out g9 B8.out.size)); obtain ⟨A9, c9, rfl, -, -, r9⟩ := own_rd o9.out ((kp_bytes _ _).append (sha_bytes _)); have R9 := Kept.mk r9; clear o9 g9 a9 r9)
        refine (rhash_any A9 (64 + 32) c9 (kp (sha key) 92 ++ sha (kp (sha key) 54 ++ text)) w9 R9.out (by omega)).mono ?_
        rintro e w10 ⟨M10, c10, rfl, hM10, hc10, hm10, r10, b10⟩
        have R10 := Kept.mk r10
        have B10 := Kept.mk (B0.out.trans ((B9.out.trans (b10.mono B9.out.size)).mono B0.out.size))
        have hw10 : w.heap.size ≤ M10 := by have := B0.out.size; have := B9.out.size; omega
        clear r10 b10 R9 B9 O8 R8 B8
        go_wp2
        go_ret
        refine ⟨M10, c10, rfl, hw10, hc10, hm10, ?_, B10.out⟩
        show Rd w10 _ 32 (hmacK (keyOf key) text)
        rw [hbig'.out]
        exact R10.out
  · have hbig' := Kept.mk (keyOf_small (key := key) (by rw [LA.out]; exact hbig))
    have B0 : Kept (Below w.heap.size w w) := ⟨Below.refl _ _⟩
    have R0 := RA
    have RB' := RB
    go_enter Try.func23, Try.ntmps23
    go_wp2
    go_loopw [5, 6, 7] (fun vi vo i wr => ∃ (k : Nat) (ui uo : Value), k ≤ 64 ∧ ui = vi ∧ uo = vo ∧ i = .int .i64 k ∧ Kept (wr.ownsRow w.heap.size 5 1 ui k (ints .u8 ((kp key 54).take k))) ∧ Kept (wr.ownsRow w.heap.size 5 1 uo k (ints .u8 ((kp key 92).take k))) ∧ Kept (Apart ui uo) ∧ Kept (Rd wr A na key) ∧ Kept (Below w.heap.size w wr)) (fun _ _ i _ => 64 - (intOf i).toNat)
    case atStart => exact ⟨0, .slice none 0 0, .slice none 0 0, by omega, rfl, rfl, rfl, ⟨World.ownsRow_nil _ _ _ _⟩, ⟨World.ownsRow_nil _ _ _ _⟩, ⟨fun g h => by simp [Value.ownBlock] at h⟩, R0, ⟨Below.refl _ _⟩⟩
    case round =>
      obtain ⟨k, vi, vo, hk, rfl, rfl, rfl, OI, OO, AP, R, B⟩ := hrel
      by_cases h64 : k < 64
      · have k64 : (k : Int) < 64 := by omega
        have T54 := Kept.mk (kp_take key 54 k h64)
        have T92 := Kept.mk (kp_take key 92 k h64)
        by_cases hin : k < na
        · obtain ⟨bb, oo, rfl, hc⟩ := R.out.2.2.resolve_left (by omega)
          have hin' : (k : Int) < (na : Nat) := by omega
          have x0 := hc k hin
          try rw [Nat.zero_add] at x0
          have hx := R.out.2.1.at_ k
          generalize at_ key k = c at *
          obtain ⟨hx0, hx1⟩ := hx
          clear hc
          go_wp2_with (first
            | ((with_reducible refine sel 30 ?_); refine wpList_append_rda rfl (.tmp 26) (.tmp 29) 22 rfl w.heap.size 5 Try.underlying22 info_u8 vi k _ rfl (OI.out.alloc _) _ 1 1 [bits .xor .u8 c 54] rfl (rd_one _ _ (bits8 _ _ _)) (by omega) (by have := B.out.size; simp; omega) ?_; intro v7 w7 o7 g7 a7; have O7 := Kept.mk o7.out; have P7 := Kept.mk (apart_in AP.out (OO.out.alloc (.cells #[.int .u8 (bits .xor .u8 c 54)] 5)) g7 a7); have B7 := Kept.mk ((B.out.alloc B.out.size (.cells #[.int .u8 (bits .xor .u8 c 54)] 5)).trans (own_below (OI.out.alloc (.cells #[.int .u8 (bits .xor .u8 c 54)] 5)) g7 (by have := B.out.size; simp; omega))); clear o7 g7 a7)
            | ((with_reducible refine sel 35 ?_); refine wpList_append_rda rfl (.tmp 31) (.tmp 34) 22 rfl w.heap.size 5 Try.underlying22 info_u8 vo k _ rfl (P7.out.1.alloc _) _ 1 1 [bits .xor .u8 c 92] rfl (rd_one _ _ (bits8 _ _ _)) (by omega) (by have := B7.out.size; simp; omega) ?_; intro v8 w8 o8 g8 a8; have O8 := Kept.mk o8.out; have P8 := Kept.mk (apart_in P7.out.2 (O7.out.alloc (.cells #[.int .u8 (bits .xor .u8 c 92)] 5)) g8 a8); have B8 := Kept.mk ((B7.out.alloc B7.out.size (.cells #[.int .u8 (bits .xor .u8 c 92)] 5)).trans (own_below (P7.out.1.alloc (.cells #[.int .u8 (bits .xor .u8 c 92)] 5)) g8 (by have := B7.out.size; simp; omega))); clear o8 g8 a8))
          go_roundw
          case rel =>
            refine ⟨k + 1, v7, v8, by omega, rfl, rfl, by go_num, ⟨?_⟩, ⟨?_⟩, ⟨P8.out.2⟩, ⟨R0.out.below B8.out⟩, B8⟩
            · have := P8.out.1
              rw [← ints_append, ← T54.out] at this
              exact this
            · have := O8.out
              rw [← ints_append, ← T92.out] at this
              exact this
          case measure => simp [intOf]; omega
        · have hin' : ¬ (k : Int) < (na : Nat) := by omega
          rw [at_out (l := key) (by rw [R.out.1]; omega)] at T54 T92
          go_wp2_with (first
            | ((with_reducible refine sel 30 ?_); refine wpList_append_rda rfl (.tmp 26) (.tmp 29) 22 rfl w.heap.size 5 Try.underlying22 info_u8 vi k _ rfl (OI.out.alloc _) _ 1 1 [bits .xor .u8 0 54] rfl (rd_one _ _ (bits8 _ _ _)) (by omega) (by have := B.out.size; simp; omega) ?_; intro v7 w7 o7 g7 a7; have O7 := Kept.mk o7.out; have P7 := Kept.mk (apart_in AP.out (OO.out.alloc (.cells #[.int .u8 (bits .xor .u8 0 54)] 5)) g7 a7); have B7 := Kept.mk ((B.out.alloc B.out.size (.cells #[.int .u8 (bits .xor .u8 0 54)] 5)).trans (own_below (OI.out.alloc (.cells #[.int .u8 (bits .xor .u8 0 54)] 5)) g7 (by have := B.out.size; simp; omega))); clear o7 g7 a7)
            | ((with_reducible refine sel 35 ?_); refine wpList_append_rda rfl (.tmp 31) (.tmp 34) 22 rfl w.heap.size 5 Try.underlying22 info_u8 vo k _ rfl (P7.out.1.alloc _) _ 1 1 [bits .xor .u8 0 92] rfl (rd_one _ _ (bits8 _ _ _)) (by omega) (by have := B7.out.size; simp; omega) ?_; intro v8 w8 o8 g8 a8; have O8 := Kept.mk o8.out; have P8 := Kept.mk (apart_in P7.out.2 (O7.out.alloc (.cells #[.int .u8 (bits .xor .u8 0 92)] 5)) g8 a8); have B8 := Kept.mk ((B7.out.alloc B7.out.size (.cells #[.int .u8 (bits .xor .u8 0 92)] 5)).trans (own_below (P7.out.1.alloc (.cells #[.int .u8 (bits .xor .u8 0 92)] 5)) g8 (by have := B7.out.size; simp; omega))); clear o8 g8 a8))
          go_roundw
          case rel =>
            refine ⟨k + 1, v7, v8, by omega, rfl, rfl, by go_num, ⟨?_⟩, ⟨?_⟩, ⟨P8.out.2⟩, ⟨R0.out.below B8.out⟩, B8⟩
            · have := P8.out.1
              rw [← ints_append, ← T54.out] at this
              exact this
            · have := O8.out
              rw [← ints_append, ← T92.out] at this
              exact this
          case measure => simp [intOf]; omega
      · have hk64 : k = 64 := by omega
        subst hk64
        have k64 : ¬ ((64 : Nat) : Int) < 64 := by omega
        rw [List.take_of_length_le (Nat.le_of_eq (kp_len _ _))] at OI OO
        go_wp2_with ((with_reducible refine sel 39 ?_); refine wpList_append_rda rfl (.tmp 37) (.tmp 38) 22 rfl w.heap.size 5 Try.underlying22 info_u8 vi 64 _ rfl OI.out Bb nb cb text rfl (RB'.out.below B.out) (by omega) B.out.size ?_; intro v7 w7 o7 g7 a7; rw [← ints_append] at o7; have P7 := Kept.mk (apart_in AP.out OO.out g7 a7).1; have B7 := Kept.mk (B.out.trans (own_below OI.out g7 B.out.size)); obtain ⟨A7, c7, rfl, -, -, r7⟩ := own_rd o7.out ((kp_bytes _ _).append RB'.out.2.1); have R7 := Kept.mk r7; clear o7 g7 a7 r7)
        refine (rhash_any A7 (64 + nb) c7 (kp key 54 ++ text) w7 R7.out (by omega)).mono ?_
        rintro e w8 ⟨M8, c8, rfl, -, -, -, r8, b8⟩
        have O8 := Kept.mk (own_bar P7.out (barOf b8 []) (by simp))
        have R8 := Kept.mk r8
        have B8 := Kept.mk (B7.out.trans (b8.mono B7.out.size))
        clear r8 b8 P7 R7 B7 OI OO AP B R
        go_wp2_with ((with_reducible refine sel 41 ?_); refine wpList_append_rda rfl (.tmp 36) (.tmp 40) 22 rfl w.heap.size 5 Try.underlying22 info_u8 vo 64 _ rfl O8.out (some ⟨M8, 0, none⟩) 32 c8 (sha (kp key 54 ++ text)) rfl R8.out (by omega) B8.out.size ?_; intro v9 w9 o9 g9 a9; rw [← ints_append] at o9; have B9 := Kept.mk (B8.out.trans (own_below O8.out g9 B8.out.size)); obtain ⟨A9, c9, rfl, -, -, r9⟩ := own_rd o9.out ((kp_bytes _ _).append (sha_bytes _)); have R9 := Kept.mk r9; clear o9 g9 a9 r9)
        refine (rhash_any A9 (64 + 32) c9 (kp key 92 ++ sha (kp key 54 ++ text)) w9 R9.out (by omega)).mono ?_
        rintro e w10 ⟨M10, c10, rfl, hM10, hc10, hm10, r10, b10⟩
        have R10 := Kept.mk r10
        have B10 := Kept.mk (B0.out.trans ((B9.out.trans (b10.mono B9.out.size)).mono B0.out.size))
        have hw10 : w.heap.size ≤ M10 := by have := B0.out.size; have := B9.out.size; omega
        clear r10 b10 R9 B9 O8 R8 B8
        go_wp2
        go_ret
        refine ⟨M10, c10, rfl, hw10, hc10, hm10, ?_, B10.out⟩
        show Rd w10 _ 32 (hmacK (keyOf key) text)
        rw [hbig'.out]
        exact R10.out
end Go.Proofs.Ytidjkhpekhpffaa.Mac
