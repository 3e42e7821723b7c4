/-
  Package post: New, has, Len.
-/
import Derived.Test.YtjnpcfpalckkdaaPostMem
namespace Go.Proofs.Ytjnpcfpalckkdaa.Post
open Go.RowKit Go.Proofs.Ytjnpcfpalckkdaa.Sha

set_option maxRecDepth 100000 in
set_option maxHeartbeats 1000000 in
theorem cnew_no (m : Int) (w : World) (h : ¬ (1 ≤ m ∧ m ≤ 200)) : Calls Try.prog 9 #[.int .i64 m] w fun e w' => e = .returned (.tuple #[.pointer none, .int .i64 1]) ∧ w = w' := by
  by_cases h1 : m < 1
  · clear h
    go_enter Try.func9, Try.ntmps9
    go_wp2
    go_ret2
    exact ⟨rfl, rfl⟩
  · have h2 : 200 < m := by omega
    have q1 : (m < 1) = False := eq_false h1
    clear h h1
    go_enter Try.func9, Try.ntmps9
    go_wp2
    go_ret2
    exact ⟨rfl, rfl⟩
set_option maxRecDepth 100000 in
set_option maxHeartbeats 1000000 in
theorem cnew_any (m : Int) (N : Nat) (w : World) (h : 1 ≤ m ∧ m ≤ 200) (hN : N ≤ w.heap.size) :
    Calls Try.prog 9 #[.int .i64 m] w fun e w' => e = .returned (.tuple #[.pointer (some ⟨w.heap.size, 0, none⟩), .int .i64 0]) ∧ Ps 52 [w.heap.size] N w' w.heap.size m [] ∧ Below w.heap.size w w' := by
  have P : Kept (Ps 52 [w.heap.size] N (w.alloc (.cells #[.int .i64 m, .slice none 0 0] 52)) w.heap.size m [] ∧ Below w.heap.size w (w.alloc (.cells #[.int .i64 m, .slice none 0 0] 52))) :=
    ⟨⟨[], rfl, hN, by simp; omega, ⟨.slice none 0 0, Blk.new _ _ _, World.ownsRow_nil _ _ _ _, rfl⟩, fun _ h => by cases h⟩, (Below.refl _ _).alloc (Nat.le_refl _) _⟩
  have q1 : (m < 1) = False := eq_false (by omega)
  have q2 : (200 < m) = False := eq_false (by omega)
  clear h hN
  go_enter Try.func9, Try.ntmps9
  go_wp2
  go_ret2
  exact ⟨rfl, P.out⟩
section
variable {N x : Nat} {F : List Nat} {w : World} {m : Int} {l : List PV}
set_option maxRecDepth 100000 in
set_option maxHeartbeats 1000000 in
theorem chas_any (i : Int) (h : Ps 52 F N w x m l) : Calls Try.prog 27 #[.pointer (some ⟨x, 0, none⟩), .int .i64 i] w fun e w' => e = .returned (.bool (hasB i l)) ∧ w = w' := by
  obtain ⟨q, rfl, -, -, ⟨v, hb, hr, -⟩, -⟩ := h
  obtain ⟨A, c, rfl, -, -⟩ := hr.ow.shape
  have c1 : w.cell? ⟨x, 1, none⟩ = some (.slice A q.length c) := hb.cell 1
  obtain ⟨t, ht⟩ : ∃ t, hasB i (q.map PA.val) = t := ⟨_, rfl⟩
  rw [ht]
  unfold hasB at ht
  rw [List.length_map] at ht
  clear hb hr
  by_cases h0 : 0 ≤ i
  · by_cases h1 : i < (q.length : Int)
    · obtain rfl : true = t := by rw [← ht]; simp [h0, h1]
      clear ht
      go_enter Try.func27, Try.ntmps27
      go_wp2
      go_ret
      exact ⟨rfl, rfl⟩
    · obtain rfl : false = t := by rw [← ht]; simp [h1]
      have q1 : (i < (q.length : Int)) = False := eq_false h1
      clear ht h1
      go_enter Try.func27, Try.ntmps27
      go_wp2
      go_ret
      exact ⟨rfl, rfl⟩
  · obtain rfl : false = t := by rw [← ht]; simp [h0]
    have q1 : (0 ≤ i) = False := eq_false h0
    clear ht h0
    go_enter Try.func27, Try.ntmps27
    go_wp2
    go_ret
    exact ⟨rfl, rfl⟩
set_option maxRecDepth 100000 in
set_option maxHeartbeats 1000000 in
theorem clen_any (h : Ps 52 F N w x m l) : Calls Try.prog 22 #[.pointer (some ⟨x, 0, none⟩)] w fun e w' => e = .returned (.int .i64 l.length) ∧ w = w' := by
  obtain ⟨q, rfl, -, -, ⟨v, hb, hr, -⟩, -⟩ := h
  obtain ⟨A, c, rfl, -, -⟩ := hr.ow.shape
  rw [List.length_map]
  have c1 : w.cell? ⟨x, 1, none⟩ = some (.slice A q.length c) := hb.cell 1
  clear hb hr
  go_enter Try.func22, Try.ntmps22
  go_wp2
  go_ret
  exact ⟨rfl, rfl⟩
end
end Go.Proofs.Ytjnpcfpalckkdaa.Post
