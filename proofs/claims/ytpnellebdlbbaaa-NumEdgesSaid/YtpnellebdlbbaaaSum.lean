/-
  What num.Sum, and the document's own answer beside it, gives back of a list of whole numbers in memory; the world stays as it is.
-/
import Derived.Test.YtpnellebdlbbaaaNum
import Derived.ProofKit
namespace Go.Proofs.Ytpnellebdlbbaaa.Num
open Go.RowKit

/-- A slice of whole numbers in memory, to be read: its numbers are l. -/
def Ints (w : World) (a : Option Addr) (len : Nat) (l : List Int) : Prop :=
  l.length = len ∧ len ≤ 9223372036854775807 ∧ (len = 0 ∨ ∃ b off, a = some ⟨b, off, none⟩ ∧ ∀ i, i < len → w.cell? ⟨b, off + i, none⟩ = some (.int .i64 (l.getD i 0)))

theorem add_yes (a b : Int) (w : World) (h : addB a b = true) : Calls Try.prog 9 #[.int .i64 a, .int .i64 b] w fun e w' => e = .returned (.tuple #[.int .i64 (a + b), .int .i64 0]) ∧ w = w' := by
  have := add_any a b w; rwa [(add_at h).1, (add_at h).2] at this
theorem add_no (a b : Int) (w : World) (h : addB a b = false) : Calls Try.prog 9 #[.int .i64 a, .int .i64 b] w fun e w' => e = .returned (.tuple #[.int .i64 0, .int .i64 1]) ∧ w = w' := by
  have := add_any a b w; rwa [(add_not h).1, (add_not h).2] at this
theorem radd_yes (a b : Int) (w : World) (h : addB a b = true) : Calls Try.prog 10 #[.int .i64 a, .int .i64 b] w fun e w' => e = .returned (.tuple #[.int .i64 (a + b), .int .i64 0]) ∧ w = w' := by
  have := radd_any a b w; rwa [(add_at h).1, (add_at h).2] at this
theorem radd_no (a b : Int) (w : World) (h : addB a b = false) : Calls Try.prog 10 #[.int .i64 a, .int .i64 b] w fun e w' => e = .returned (.tuple #[.int .i64 0, .int .i64 1]) ∧ w = w' := by
  have := radd_any a b w; rwa [(add_not h).1, (add_not h).2] at this

theorem sum_end {l : List Int} {u : Int} (k : Nat) (hk : k = l.length) (h : sumGo 0 (l.take k) = some u) : Ending.returned (.tuple #[.int .i64 u, .int .i64 0]) = .returned (.tuple #[.int .i64 (sumN l), .int .i64 (sumE l)]) := by
  subst hk
  rw [List.take_length] at h
  simp [sumN, sumE, h, bit]
theorem sum_none {l : List Int} (k : Nat) (hk : k ≤ l.length) (h : sumGo 0 (l.take k) = none) : Ending.returned (.tuple #[.int .i64 0, .int .i64 1]) = .returned (.tuple #[.int .i64 (sumN l), .int .i64 (sumE l)]) := by
  have := sumGo_none l k h l.length hk
  rw [List.take_length] at this
  simp [sumN, sumE, this, bit]
theorem step_yes {l : List Int} {k : Nat} {u n : Int} (hk : k < l.length) (h : sumGo 0 (l.take k) = some u) (hn : l.getD k 0 = n) (hb : addB u n = true) : sumGo 0 (l.take (k + 1)) = some (u + n) := by
  rw [sumGo_take l k u hk h, hn, if_pos hb]
theorem step_no {l : List Int} {k : Nat} {u n : Int} (hk : k < l.length) (h : sumGo 0 (l.take k) = some u) (hn : l.getD k 0 = n) (hb : addB u n = false) : sumGo 0 (l.take (k + 1)) = none := by
  rw [sumGo_take l k u hk h, hn, if_neg (by simp [hb])]

set_option maxHeartbeats 400000 in
theorem sum_any (a : Option Addr) (len cap : Nat) (l : List Int) (w : World) (hl : Ints w a len l) :
    Calls Try.prog 15 #[.slice a len cap] w fun e w' => e = .returned (.tuple #[.int .i64 (sumN l), .int .i64 (sumE l)]) ∧ w = w' := by
  obtain ⟨hlen, hmax, hc⟩ := hl
  have Hlen := Lib.hid hlen
  clear hlen
  go_enter Try.func15, Try.ntmps15
  go_wp2
  go_loop [4, 11] (fun t i => ∃ (k : Nat) (u : Int), k ≤ len ∧ i = .int .i64 k ∧ t = .int .i64 u ∧ Hid (sumGo 0 (l.take k) = some u)) (fun _ i => len - (intOf i).toNat)
  case atStart => exact ⟨0, 0, Nat.zero_le _, rfl, rfl, rfl⟩
  case round =>
    obtain ⟨k, u, hk, rfl, rfl, hs⟩ := hrel
    by_cases hlt : k < len
    · rcases hc with h0 | ⟨b, off, rfl, hcell⟩
      · omega
      · have hck := hcell k hlt
        clear hcell
        obtain ⟨n, hn⟩ : ∃ n, l.getD k 0 = n := ⟨_, rfl⟩
        rw [hn] at hck
        have Hn := Lib.hid hn
        clear hn
        cases hb : addB u n
        · have Hb := Lib.hid hb
          clear hb
          go_wp2_with (go_at_call 9; refine (add_no _ _ _ Hb.out).mono ?_; rintro e w' ⟨rfl, rfl⟩)
          go_ret2
          exact ⟨sum_none (k + 1) (by have := Hlen.out; omega) (step_no (by have := Hlen.out; omega) hs.out Hn.out Hb.out), rfl⟩
        · have Hb := Lib.hid hb
          clear hb
          go_wp2_with (go_at_call 9; refine (add_yes _ _ _ Hb.out).mono ?_; rintro e w' ⟨rfl, rfl⟩)
          go_round
          case rel => exact ⟨k + 1, u + n, by omega, by go_num, rfl, step_yes (by have := Hlen.out; omega) hs.out Hn.out Hb.out⟩
          case measure => simp [intOf]; omega
    · go_wp2
      go_ret2
      exact ⟨sum_end k (by have := Hlen.out; omega) hs.out, rfl⟩

set_option maxHeartbeats 400000 in
theorem rsum_any (a : Option Addr) (len cap : Nat) (l : List Int) (w : World) (hl : Ints w a len l) :
    Calls Try.prog 16 #[.slice a len cap] w fun e w' => e = .returned (.tuple #[.int .i64 (sumN l), .int .i64 (sumE l)]) ∧ w = w' := by
  obtain ⟨hlen, hmax, hc⟩ := hl
  have Hlen := Lib.hid hlen
  clear hlen
  go_enter Try.func16, Try.ntmps16
  go_wp2
  go_loop [4, 5] (fun t i => ∃ (k : Nat) (u : Int), k ≤ len ∧ i = .int .i64 k ∧ t = .int .i64 u ∧ Hid (sumGo 0 (l.take k) = some u)) (fun _ i => len - (intOf i).toNat)
  case atStart => exact ⟨0, 0, Nat.zero_le _, rfl, rfl, rfl⟩
  case round =>
    obtain ⟨k, u, hk, rfl, rfl, hs⟩ := hrel
    by_cases hlt : k < len
    · rcases hc with h0 | ⟨b, off, rfl, hcell⟩
      · omega
      · have hck := hcell k hlt
        clear hcell
        obtain ⟨n, hn⟩ : ∃ n, l.getD k 0 = n := ⟨_, rfl⟩
        rw [hn] at hck
        have Hn := Lib.hid hn
        clear hn
        cases hb : addB u n
        · have Hb := Lib.hid hb
          clear hb
          go_wp2_with (go_at_call 10; refine (radd_no _ _ _ Hb.out).mono ?_; rintro e w' ⟨rfl, rfl⟩)
          go_ret2
          exact ⟨sum_none (k + 1) (by have := Hlen.out; omega) (step_no (by have := Hlen.out; omega) hs.out Hn.out Hb.out), rfl⟩
        · have Hb := Lib.hid hb
          clear hb
          go_wp2_with (go_at_call 10; refine (radd_yes _ _ _ Hb.out).mono ?_; rintro e w' ⟨rfl, rfl⟩)
          go_round
          case rel => exact ⟨k + 1, u + n, by omega, by go_num, rfl, step_yes (by have := Hlen.out; omega) hs.out Hn.out Hb.out⟩
          case measure => simp [intOf]; omega
    · go_wp2
      go_ret2
      exact ⟨sum_end k (by have := Hlen.out; omega) hs.out, rfl⟩

theorem Ints.below {w w' : World} {a : Option Addr} {len : Nat} {l : List Int} (h : Ints w a len l) (hb : Below w.heap.size w w') : Ints w' a len l := by
  obtain ⟨h1, h2, h3⟩ := h
  refine ⟨h1, h2, h3.imp id ?_⟩
  rintro ⟨b, off, rfl, hc⟩
  refine ⟨b, off, rfl, fun i hi => ?_⟩
  have := hc i hi
  rw [← this]
  exact hb.cell (p := ⟨b, off + i, none⟩) (World.block_lt_of_cell? _ _ this)

theorem sub12 (w : World) : Calls Try.prog 11 #[.int .i64 1, .int .i64 2] w fun e w' => e = .returned (.tuple #[.int .i64 0, .int .i64 1]) ∧ w = w' := by
  have := sub_any 1 2 w
  rwa [(sub_not (a := 1) (b := 2) (by decide)).1, (sub_not (a := 1) (b := 2) (by decide)).2] at this
theorem sum123 (w : World) (n : Nat) (hn : n = w.heap.size) : Calls Try.prog 15 #[.slice (some ⟨n, 0, none⟩) 3 3] (w.alloc (.cells #[.int .i64 1, .int .i64 2, .int .i64 3] 3)) fun e w' => e = .returned (.tuple #[.int .i64 6, .int .i64 0]) ∧ (w.alloc (.cells #[.int .i64 1, .int .i64 2, .int .i64 3] 3)) = w' := by
  have := sum_any (some ⟨n, 0, none⟩) 3 3 [1, 2, 3] (w.alloc (.cells #[.int .i64 1, .int .i64 2, .int .i64 3] 3)) ⟨rfl, by omega, .inr ⟨n, 0, rfl, fun i hi => by
    rw [World.cell?_alloc_at _ _ _ _ hn]
    match i, hi with
    | 0, _ => rfl
    | 1, _ => rfl
    | 2, _ => rfl⟩⟩
  rwa [show sumN [1, 2, 3] = 6 by decide, show sumE [1, 2, 3] = 0 by decide] at this

set_option maxHeartbeats 400000 in
theorem first_any (w : World) : Calls Try.prog 8 #[] w fun e w' => e = .returned (.bool true) ∧ Below w.heap.size w w' := by
  go_enter Try.func8, Try.ntmps8
  go_wp2_with fail
  refine (sub12 _).mono ?_
  rintro e w' ⟨rfl, rfl⟩
  go_wp2_with fail
  refine (sum123 _ _ rfl).mono ?_
  rintro e w' ⟨rfl, rfl⟩
  go_wp2
  go_ret
  exact ⟨rfl, (Below.refl _ _).alloc (Nat.le_refl _) _⟩

theorem ints_of_row {w : World} {a : Option Addr} {len cap : Nat} {zs : List Int}
    (h : (a = none ∧ len = 0 ∧ cap = 0 ∧ zs = []) ∨ ∃ x, a = some x ∧ len ≤ cap ∧ cap ≤ maxLen ∧ zs.length = cap ∧ (∀ i, i < zs.length → w.cell? (x.add i) = some (.int .i64 (zs.getD i 0))) ∧ ∀ n ∈ zs, (Lit.int .i64 n).wf = true) :
    Ints w a len (zs.take len) := by
  rcases h with ⟨rfl, rfl, rfl, rfl⟩ | ⟨x, rfl, hl, hm, hz, hcell, -⟩
  · exact ⟨rfl, by omega, .inl rfl⟩
  · unfold maxLen at hm
    refine ⟨by simp; omega, by omega, ?_⟩
    by_cases h0 : len = 0
    · exact .inl h0
    · refine .inr ?_
      obtain ⟨b, off, spot⟩ := x
      have hspot : spot = none := by
        have hc := hcell 0 (by omega)
        simpa [Addr.add] using World.cell?_spot hc
      subst hspot
      refine ⟨b, off, rfl, fun i hi => ?_⟩
      have := hcell i (by omega)
      have e : (⟨b, off, none⟩ : Addr).add i = ⟨b, off + i, none⟩ := by cases i <;> simp [Addr.add]
      rw [e] at this
      rw [this]
      simp [List.getD_eq_getElem?_getD, hi]

theorem row_cap {w : World} {a : Option Addr} {len cap : Nat} {zs : List Int}
    (h : (a = none ∧ len = 0 ∧ cap = 0 ∧ zs = []) ∨ ∃ x, a = some x ∧ len ≤ cap ∧ cap ≤ maxLen ∧ zs.length = cap ∧ (∀ i, i < zs.length → w.cell? (x.add i) = some (.int .i64 (zs.getD i 0))) ∧ ∀ n ∈ zs, (Lit.int .i64 n).wf = true) :
    len ≤ cap ∧ cap ≤ 9223372036854775807 := by
  rcases h with ⟨-, rfl, rfl, -⟩ | ⟨x, -, hl, hm, -⟩
  · omega
  · unfold maxLen at hm; omega

end Go.Proofs.Ytpnellebdlbbaaa.Num
