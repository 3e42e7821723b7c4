/-
  NumParts, walked: a sum is the sum of the sums of its parts, where it is an amount.
-/
import Derived.Test.YtpnellebdlbbaaaSum
namespace Go.Proofs.Ytpnellebdlbbaaa.Num
open Go.RowKit

theorem Ints.take {w : World} {a : Option Addr} {len : Nat} {l : List Int} (h : Ints w a len l) (k : Nat) (hk : k ≤ len) : Ints w a k (l.take k) := by
  obtain ⟨h1, h2, h3⟩ := h
  refine ⟨by simp; omega, by omega, ?_⟩
  rcases h3 with h3 | ⟨b, off, rfl, hc⟩
  · exact .inl (by omega)
  · by_cases h0 : k = 0
    · exact .inl h0
    · refine .inr ⟨b, off, rfl, fun i hi => ?_⟩
      rw [hc i (by omega)]
      simp [List.getD_eq_getElem?_getD, hi]
theorem Ints.drop {w : World} {s : Option Addr} {len : Nat} {l : List Int} (h : Ints w s len l) (k : Nat) (hk : k ≤ len) : Ints w (Option.map (fun x => x.add k) s) (len - k) (l.drop k) := by
  obtain ⟨h1, h2, h3⟩ := h
  refine ⟨by simp; omega, by omega, ?_⟩
  rcases h3 with h3 | ⟨b, off, rfl, hc⟩
  · exact .inl (by omega)
  · have e : (⟨b, off, none⟩ : Addr).add k = ⟨b, off + k, none⟩ := by cases k <;> simp [Addr.add]
    refine .inr ⟨b, off + k, by rw [Option.map_some, e], fun i hi => ?_⟩
    rw [Nat.add_assoc, hc (k + i) (by omega)]
    simp [List.getD_eq_getElem?_getD]
theorem Ints.drop0 {w : World} {s : Option Addr} {len : Nat} {l : List Int} (h : Ints w s len l) : Ints w s 0 (l.drop len) := by
  obtain ⟨h1, h2, h3⟩ := h
  exact ⟨by simp [h1], by omega, .inl rfl⟩
theorem Ints.none {w : World} {a : Option Addr} : Ints w a 0 [] := ⟨rfl, by omega, .inl rfl⟩

theorem sum_is (s : Option Addr) (len cap : Nat) (l : List Int) (u : Int) (w : World) (h : Ints w s len l) (hv : sumGo 0 l = some u) : Calls Try.prog 15 #[.slice s len cap] w fun e w' => e = .returned (.tuple #[.int .i64 u, .int .i64 0]) ∧ w = w' := by
  have := sum_any s len cap l w h
  rwa [show sumN l = u by simp [sumN, hv], show sumE l = 0 by simp [sumE, hv, bit]] at this
theorem sum_isnt (s : Option Addr) (len cap : Nat) (l : List Int) (w : World) (h : Ints w s len l) (hv : sumGo 0 l = none) : Calls Try.prog 15 #[.slice s len cap] w fun e w' => e = .returned (.tuple #[.int .i64 0, .int .i64 1]) ∧ w = w' := by
  have := sum_any s len cap l w h
  rwa [show sumN l = 0 by simp [sumN, hv], show sumE l = 1 by simp [sumE, hv, bit]] at this

/-- the parts of a list, and its whole -/
theorem parts_cases (l : List Int) (k : Nat) :
    (∃ t d, sumGo 0 l = some (t + d) ∧ sumGo 0 (l.take k) = some t ∧ sumGo 0 (l.drop k) = some d ∧ addB t d = true) ∨
    (sumGo 0 l = none ∧ (sumGo 0 (l.take k) = none ∨ (∃ t, sumGo 0 (l.take k) = some t ∧ sumGo 0 (l.drop k) = none) ∨ ∃ t d, sumGo 0 (l.take k) = some t ∧ sumGo 0 (l.drop k) = some d ∧ addB t d = false)) := by
  have e : sumGo 0 l = (sumGo 0 (l.take k)).bind fun u => sumGo u (l.drop k) := by
    rw [← sumGo_append, List.take_append_drop]
  cases ht : sumGo 0 (l.take k) with
  | none => rw [ht] at e; exact .inr ⟨e, .inl rfl⟩
  | some t =>
    have hb := sumGo_le 0 (l.take k) t (by omega) (by omega) ht
    rw [ht] at e
    have e2 : sumGo 0 l = sumGo t (l.drop k) := e
    rw [sumGo_shift t _ hb.1 hb.2] at e2
    cases hd : sumGo 0 (l.drop k) with
    | none => rw [hd] at e2; exact .inr ⟨e2, .inr (.inl ⟨t, rfl, rfl⟩)⟩
    | some d =>
      rw [hd] at e2
      cases ha : addB t d
      · simp only [Option.bind_some, ha] at e2
        exact .inr ⟨by simpa using e2, .inr (.inr ⟨t, d, rfl, rfl, ha⟩)⟩
      · simp only [Option.bind_some, ha, if_true] at e2
        exact .inl ⟨t, d, e2, rfl, rfl, ha⟩

set_option maxRecDepth 100000 in
set_option maxHeartbeats 1000000 in
theorem parts_a (s : Option Addr) (len cap : Nat) (l : List Int) (k : Nat) (t d : Int) (h0 : Hid (sumGo 0 l = some (t + d))) (h1 : Hid (sumGo 0 (l.take k) = some t)) (h2 : Hid (sumGo 0 (l.drop k) = some d)) (h3 : Hid (addB t d = true)) (w : World) (hl : Ints w s len l) (hcap : len ≤ cap) (hm : cap ≤ 9223372036854775807) (c1 : ¬ (200 < len)) (hk : k ≤ len) :
    Calls Try.prog 7 #[.slice s len cap, .int .i64 k] w fun e w' => e = .returned (.bool true) ∧ Below w.heap.size w w' := by
  have c2 : ¬ ((k : Int) < 0) := by omega
  have c3 : ¬ ((len : Int) < (k : Int)) := by omega
  by_cases hck : cap = k
  · obtain rfl : len = k := by omega
    obtain rfl : cap = len := hck
    go_enter Try.func7, Try.ntmps7
    go_wp2_with fail
    refine (first_any _).mono ?_
    rintro e w1 ⟨rfl, hb1⟩
    have hl1 := hl.below hb1
    clear hl
    go_wp2_with fail
    refine (sum_is _ _ _ _ _ _ hl1 h0.out).mono ?_
    rintro e w' ⟨rfl, rfl⟩
    go_wp2_with fail
    refine (sum_is _ _ _ _ _ _ (hl1.take _ hk) h1.out).mono ?_
    rintro e w' ⟨rfl, rfl⟩
    go_wp2_with fail
    refine (sum_is _ _ _ _ _ _ hl1.drop0 h2.out).mono ?_
    rintro e w' ⟨rfl, rfl⟩
    go_wp2_with fail
    refine (add_yes _ _ _ h3.out).mono ?_
    rintro e w' ⟨rfl, rfl⟩
    go_wp2_with fail
    refine (first_any _).mono ?_
    rintro e w2 ⟨rfl, hb2⟩
    go_wp2
    go_ret
    exact ⟨rfl, hb1.trans (hb2.mono hb1.size)⟩
  · go_enter Try.func7, Try.ntmps7
    go_wp2_with fail
    refine (first_any _).mono ?_
    rintro e w1 ⟨rfl, hb1⟩
    have hl1 := hl.below hb1
    clear hl
    go_wp2_with fail
    refine (sum_is _ _ _ _ _ _ hl1 h0.out).mono ?_
    rintro e w' ⟨rfl, rfl⟩
    go_wp2_with fail
    refine (sum_is _ _ _ _ _ _ (hl1.take _ hk) h1.out).mono ?_
    rintro e w' ⟨rfl, rfl⟩
    go_wp2_with fail
    refine (sum_is _ _ _ _ _ _ (hl1.drop k hk) h2.out).mono ?_
    rintro e w' ⟨rfl, rfl⟩
    go_wp2_with fail
    refine (add_yes _ _ _ h3.out).mono ?_
    rintro e w' ⟨rfl, rfl⟩
    go_wp2_with fail
    refine (first_any _).mono ?_
    rintro e w2 ⟨rfl, hb2⟩
    go_wp2
    go_ret
    exact ⟨rfl, hb1.trans (hb2.mono hb1.size)⟩

set_option maxRecDepth 100000 in
set_option maxHeartbeats 1000000 in
theorem parts_b1 (s : Option Addr) (len cap : Nat) (l : List Int) (k : Nat) (h0 : Hid (sumGo 0 l = none)) (h1 : Hid (sumGo 0 (l.take k) = none)) (w : World) (hl : Ints w s len l) (hcap : len ≤ cap) (hm : cap ≤ 9223372036854775807) (c1 : ¬ (200 < len)) (hk : k ≤ len) :
    Calls Try.prog 7 #[.slice s len cap, .int .i64 k] w fun e w' => e = .returned (.bool true) ∧ Below w.heap.size w w' := by
  have c2 : ¬ ((k : Int) < 0) := by omega
  have c3 : ¬ ((len : Int) < (k : Int)) := by omega
  by_cases hck : cap = k
  · obtain rfl : len = k := by omega
    obtain rfl : cap = len := hck
    go_enter Try.func7, Try.ntmps7
    go_wp2_with fail
    refine (first_any _).mono ?_
    rintro e w1 ⟨rfl, hb1⟩
    have hl1 := hl.below hb1
    clear hl
    go_wp2_with fail
    refine (sum_isnt _ _ _ _ _ hl1 h0.out).mono ?_
    rintro e w' ⟨rfl, rfl⟩
    go_wp2_with fail
    refine (sum_isnt _ _ _ _ _ (hl1.take _ hk) h1.out).mono ?_
    rintro e w' ⟨rfl, rfl⟩
    go_wp2_with fail
    refine (sum_any _ _ _ _ _ hl1.drop0).mono ?_
    rintro e w' ⟨rfl, rfl⟩
    go_wp2_with fail
    refine (add_any _ _ _).mono ?_
    rintro e w' ⟨rfl, rfl⟩
    go_wp2_with fail
    refine (first_any _).mono ?_
    rintro e w2 ⟨rfl, hb2⟩
    go_wp2
    go_ret
    exact ⟨rfl, hb1.trans (hb2.mono hb1.size)⟩
  · go_enter Try.func7, Try.ntmps7
    go_wp2_with fail
    refine (first_any _).mono ?_
    rintro e w1 ⟨rfl, hb1⟩
    have hl1 := hl.below hb1
    clear hl
    go_wp2_with fail
    refine (sum_isnt _ _ _ _ _ hl1 h0.out).mono ?_
    rintro e w' ⟨rfl, rfl⟩
    go_wp2_with fail
    refine (sum_isnt _ _ _ _ _ (hl1.take _ hk) h1.out).mono ?_
    rintro e w' ⟨rfl, rfl⟩
    go_wp2_with fail
    refine (sum_any _ _ _ _ _ (hl1.drop k hk)).mono ?_
    rintro e w' ⟨rfl, rfl⟩
    go_wp2_with fail
    refine (add_any _ _ _).mono ?_
    rintro e w' ⟨rfl, rfl⟩
    go_wp2_with fail
    refine (first_any _).mono ?_
    rintro e w2 ⟨rfl, hb2⟩
    go_wp2
    go_ret
    exact ⟨rfl, hb1.trans (hb2.mono hb1.size)⟩

set_option maxRecDepth 100000 in
set_option maxHeartbeats 1000000 in
theorem parts_b2 (s : Option Addr) (len cap : Nat) (l : List Int) (k : Nat) (t : Int) (h0 : Hid (sumGo 0 l = none)) (h1 : Hid (sumGo 0 (l.take k) = some t)) (h2 : Hid (sumGo 0 (l.drop k) = none)) (w : World) (hl : Ints w s len l) (hcap : len ≤ cap) (hm : cap ≤ 9223372036854775807) (c1 : ¬ (200 < len)) (hk : k ≤ len) :
    Calls Try.prog 7 #[.slice s len cap, .int .i64 k] w fun e w' => e = .returned (.bool true) ∧ Below w.heap.size w w' := by
  have c2 : ¬ ((k : Int) < 0) := by omega
  have c3 : ¬ ((len : Int) < (k : Int)) := by omega
  by_cases hck : cap = k
  · obtain rfl : len = k := by omega
    obtain rfl : cap = len := hck
    go_enter Try.func7, Try.ntmps7
    go_wp2_with fail
    refine (first_any _).mono ?_
    rintro e w1 ⟨rfl, hb1⟩
    have hl1 := hl.below hb1
    clear hl
    go_wp2_with fail
    refine (sum_isnt _ _ _ _ _ hl1 h0.out).mono ?_
    rintro e w' ⟨rfl, rfl⟩
    go_wp2_with fail
    refine (sum_is _ _ _ _ _ _ (hl1.take _ hk) h1.out).mono ?_
    rintro e w' ⟨rfl, rfl⟩
    go_wp2_with fail
    refine (sum_isnt _ _ _ _ _ hl1.drop0 h2.out).mono ?_
    rintro e w' ⟨rfl, rfl⟩
    go_wp2_with fail
    refine (add_any _ _ _).mono ?_
    rintro e w' ⟨rfl, rfl⟩
    go_wp2_with fail
    refine (first_any _).mono ?_
    rintro e w2 ⟨rfl, hb2⟩
    go_wp2
    go_ret
    exact ⟨rfl, hb1.trans (hb2.mono hb1.size)⟩
  · go_enter Try.func7, Try.ntmps7
    go_wp2_with fail
    refine (first_any _).mono ?_
    rintro e w1 ⟨rfl, hb1⟩
    have hl1 := hl.below hb1
    clear hl
    go_wp2_with fail
    refine (sum_isnt _ _ _ _ _ hl1 h0.out).mono ?_
    rintro e w' ⟨rfl, rfl⟩
    go_wp2_with fail
    refine (sum_is _ _ _ _ _ _ (hl1.take _ hk) h1.out).mono ?_
    rintro e w' ⟨rfl, rfl⟩
    go_wp2_with fail
    refine (sum_isnt _ _ _ _ _ (hl1.drop k hk) h2.out).mono ?_
    rintro e w' ⟨rfl, rfl⟩
    go_wp2_with fail
    refine (add_any _ _ _).mono ?_
    rintro e w' ⟨rfl, rfl⟩
    go_wp2_with fail
    refine (first_any _).mono ?_
    rintro e w2 ⟨rfl, hb2⟩
    go_wp2
    go_ret
    exact ⟨rfl, hb1.trans (hb2.mono hb1.size)⟩

set_option maxRecDepth 100000 in
set_option maxHeartbeats 1000000 in
theorem parts_b3 (s : Option Addr) (len cap : Nat) (l : List Int) (k : Nat) (t d : Int) (h0 : Hid (sumGo 0 l = none)) (h1 : Hid (sumGo 0 (l.take k) = some t)) (h2 : Hid (sumGo 0 (l.drop k) = some d)) (h3 : Hid (addB t d = false)) (w : World) (hl : Ints w s len l) (hcap : len ≤ cap) (hm : cap ≤ 9223372036854775807) (c1 : ¬ (200 < len)) (hk : k ≤ len) :
    Calls Try.prog 7 #[.slice s len cap, .int .i64 k] w fun e w' => e = .returned (.bool true) ∧ Below w.heap.size w w' := by
  have c2 : ¬ ((k : Int) < 0) := by omega
  have c3 : ¬ ((len : Int) < (k : Int)) := by omega
  by_cases hck : cap = k
  · obtain rfl : len = k := by omega
    obtain rfl : cap = len := hck
    go_enter Try.func7, Try.ntmps7
    go_wp2_with fail
    refine (first_any _).mono ?_
    rintro e w1 ⟨rfl, hb1⟩
    have hl1 := hl.below hb1
    clear hl
    go_wp2_with fail
    refine (sum_isnt _ _ _ _ _ hl1 h0.out).mono ?_
    rintro e w' ⟨rfl, rfl⟩
    go_wp2_with fail
    refine (sum_is _ _ _ _ _ _ (hl1.take _ hk) h1.out).mono ?_
    rintro e w' ⟨rfl, rfl⟩
    go_wp2_with fail
    refine (sum_is _ _ _ _ _ _ hl1.drop0 h2.out).mono ?_
    rintro e w' ⟨rfl, rfl⟩
    go_wp2_with fail
    refine (add_no _ _ _ h3.out).mono ?_
    rintro e w' ⟨rfl, rfl⟩
    go_wp2_with fail
    refine (first_any _).mono ?_
    rintro e w2 ⟨rfl, hb2⟩
    go_wp2
    go_ret
    exact ⟨rfl, hb1.trans (hb2.mono hb1.size)⟩
  · go_enter Try.func7, Try.ntmps7
    go_wp2_with fail
    refine (first_any _).mono ?_
    rintro e w1 ⟨rfl, hb1⟩
    have hl1 := hl.below hb1
    clear hl
    go_wp2_with fail
    refine (sum_isnt _ _ _ _ _ hl1 h0.out).mono ?_
    rintro e w' ⟨rfl, rfl⟩
    go_wp2_with fail
    refine (sum_is _ _ _ _ _ _ (hl1.take _ hk) h1.out).mono ?_
    rintro e w' ⟨rfl, rfl⟩
    go_wp2_with fail
    refine (sum_is _ _ _ _ _ _ (hl1.drop k hk) h2.out).mono ?_
    rintro e w' ⟨rfl, rfl⟩
    go_wp2_with fail
    refine (add_no _ _ _ h3.out).mono ?_
    rintro e w' ⟨rfl, rfl⟩
    go_wp2_with fail
    refine (first_any _).mono ?_
    rintro e w2 ⟨rfl, hb2⟩
    go_wp2
    go_ret
    exact ⟨rfl, hb1.trans (hb2.mono hb1.size)⟩

theorem parts_good (s : Option Addr) (len cap : Nat) (l : List Int) (k : Nat) (w : World) (hl : Ints w s len l) (hcap : len ≤ cap) (hm : cap ≤ 9223372036854775807) (c1 : ¬ (200 < len)) (hk : k ≤ len) :
    Calls Try.prog 7 #[.slice s len cap, .int .i64 k] w fun e w' => e = .returned (.bool true) ∧ Below w.heap.size w w' := by
  rcases parts_cases l k with ⟨t, d, h0, h1, h2, h3⟩ | ⟨h0, h1 | ⟨t, h1, h2⟩ | ⟨t, d, h1, h2, h3⟩⟩
  · exact parts_a s len cap l k t d h0 h1 h2 h3 w hl hcap hm c1 hk
  · exact parts_b1 s len cap l k h0 h1 w hl hcap hm c1 hk
  · exact parts_b2 s len cap l k t h0 h1 h2 w hl hcap hm c1 hk
  · exact parts_b3 s len cap l k t d h0 h1 h2 h3 w hl hcap hm c1 hk

set_option maxRecDepth 100000 in
set_option maxHeartbeats 1000000 in
theorem parts_walk (s : Option Addr) (len cap : Nat) (l : List Int) (at_ : Int) (w : World) (hl : Ints w s len l) (hcap : len ≤ cap) (hm : cap ≤ 9223372036854775807) :
    Calls Try.prog 7 #[.slice s len cap, .int .i64 at_] w fun e w' => e = .returned (.bool true) ∧ Below w.heap.size w w' := by
  by_cases hbad : 200 < len ∨ at_ < 0 ∨ (len : Int) < at_
  · by_cases c1 : 200 < len
    · go_enter Try.func7, Try.ntmps7
      go_wp2_with fail
      refine (first_any _).mono ?_
      rintro e w1 ⟨rfl, hb1⟩
      go_wp2_with fail
      refine (first_any _).mono ?_
      rintro e w2 ⟨rfl, hb2⟩
      go_wp2
      go_ret
      exact ⟨rfl, hb1.trans (hb2.mono hb1.size)⟩
    · by_cases c2 : at_ < 0
      · clear hbad
        go_enter Try.func7, Try.ntmps7
        go_wp2_with fail
        refine (first_any _).mono ?_
        rintro e w1 ⟨rfl, hb1⟩
        go_wp2_with fail
        refine (first_any _).mono ?_
        rintro e w2 ⟨rfl, hb2⟩
        go_wp2
        go_ret
        exact ⟨rfl, hb1.trans (hb2.mono hb1.size)⟩
      · have c3 : (len : Int) < at_ := by omega
        clear hbad
        go_enter Try.func7, Try.ntmps7
        go_wp2_with fail
        refine (first_any _).mono ?_
        rintro e w1 ⟨rfl, hb1⟩
        go_wp2_with fail
        refine (first_any _).mono ?_
        rintro e w2 ⟨rfl, hb2⟩
        go_wp2
        go_ret
        exact ⟨rfl, hb1.trans (hb2.mono hb1.size)⟩
  · obtain ⟨k, rfl⟩ := Int.eq_ofNat_of_zero_le (show 0 ≤ at_ by omega)
    exact parts_good s len cap l k w hl hcap hm (by omega) (by omega)

end Go.Proofs.Ytpnellebdlbbaaa.Num
