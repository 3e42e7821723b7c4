/-
  Pieces of a row of bytes: s[l:h], s[l:], s[:h].
-/
import Derived.Test.YtfjkbggbaoiiiaaMem
import Derived.Laws.Slices
namespace Go.Proofs.Ytfjkbggbaoiiiaa.Sha
open Go.RowKit

theorem Rd.piece {w : World} {A : Option Addr} {n c : Nat} {xs : List Int} (r : Rd w A n xs) (hc : n ≤ c) (l h : Nat) (h1 : l ≤ h) (h2 : h ≤ n) :
    Rd w (if c = l then A else A.map (·.add (l * 1))) (h - l) ((xs.take h).drop l) ∧ ∀ F, Off A n F → Off (if c = l then A else A.map (·.add (l * 1))) (h - l) F := by
  obtain ⟨r1, r2, r3⟩ := r
  have e1 : ((xs.take h).drop l).length = h - l := by simp [List.length_drop, List.length_take, r1]; omega
  have e2 : Bytes ((xs.take h).drop l) := (Bytes.take r2 h).drop l
  by_cases h0 : h - l = 0
  · rw [h0] at e1 ⊢
    exact ⟨⟨e1, e2, .inl rfl⟩, fun F _ => .inl rfl⟩
  · have hcl : ¬ c = l := by omega
    rw [if_neg hcl, Nat.mul_one]
    obtain ⟨b, o, rfl, hcell⟩ := r3.resolve_left (by omega)
    have ea : (⟨b, o, none⟩ : Addr).add l = ⟨b, o + l, none⟩ := by cases l <;> simp [Addr.add]
    simp only [Option.map_some, ea]
    refine ⟨⟨e1, e2, .inr ⟨b, o + l, rfl, fun i hi => ?_⟩⟩, fun F hF => .inr ?_⟩
    · have := hcell (l + i) (by omega)
      rw [Nat.add_assoc, this, at_drop, at_take (by omega)]
    · rcases hF with hF | ⟨g, o', hA, hg⟩
      · omega
      · injection hA with hA
        injection hA with hA _
        subst hA
        exact ⟨b, o + l, rfl, hg⟩

theorem elem_u8 : Try.prog.elem 27 = 5 := by kernel_rfl
theorem und_u8 : Try.prog.underlying 27 = some (.slice (Try.prog.elem 27)) := by rw [elem_u8]; exact Try.underlying27
theorem size_u8 (w : World) : (sizeOf (Try.prog.elem 27)).run Try.prog w = .ok 1 w := by
  obtain ⟨iu, hi, _, hz1, _⟩ := info_parts info_u8
  rw [elem_u8]
  simp [sizeOf, typeInfo, hi, hz1]

theorem slice_lh {w : World} {A : Option Addr} {n c : Nat} {xs : List Int} (r : Rd w A n xs) (hc : n ≤ c) (l h : Nat) (h1 : l ≤ h) (h2 : h ≤ n) (li hi : Int) (e1 : li = l) (e2 : hi = h) :
    ∃ A', (∀ w', (Instr.slice 27 (.slice A n c) (some (.int .i64 li)) (some (.int .i64 hi)) none).run Try.prog w' = .ok (.slice A' (h - l) (c - l)) w') ∧ Rd w A' (h - l) ((xs.take h).drop l) ∧ ∀ F, Off A n F → Off A' (h - l) F := by
  refine ⟨_, fun w' => ?_, r.piece hc l h h1 h2⟩
  subst e1 e2
  rw [run_slice_lh w' 27 A n c und_u8 .i64 .i64 l h (by omega) (by omega) (by omega), size_u8]
  rfl
theorem slice_l {w : World} {A : Option Addr} {n c : Nat} {xs : List Int} (r : Rd w A n xs) (hc : n ≤ c) (l : Nat) (h1 : l ≤ n) (li : Int) (e1 : li = l) :
    ∃ A', (∀ w', (Instr.slice 27 (.slice A n c) (some (.int .i64 li)) none none).run Try.prog w' = .ok (.slice A' (n - l) (c - l)) w') ∧ Rd w A' (n - l) (xs.drop l) ∧ ∀ F, Off A n F → Off A' (n - l) F := by
  have hp := r.piece hc l n h1 (Nat.le_refl _)
  rw [show xs.take n = xs from List.take_of_length_le (by rw [r.1]; exact Nat.le_refl _)] at hp
  refine ⟨_, fun w' => ?_, hp⟩
  subst e1
  rw [run_slice_l w' 27 A n c und_u8 .i64 l (by omega) (by omega), size_u8]
  rfl
theorem slice_h {w : World} {A : Option Addr} {n c : Nat} {xs : List Int} (r : Rd w A n xs) (hc : n ≤ c) (h : Nat) (h2 : h ≤ n) (hi : Int) (e2 : hi = h) :
    ∃ A', (∀ w', (Instr.slice 27 (.slice A n c) none (some (.int .i64 hi)) none).run Try.prog w' = .ok (.slice A' h c) w') ∧ Rd w A' h (xs.take h) ∧ ∀ F, Off A n F → Off A' h F := by
  have hp := r.piece hc 0 h (Nat.zero_le _) h2
  rw [List.drop_zero, Nat.sub_zero] at hp
  refine ⟨_, fun w' => ?_, hp⟩
  subst e2
  rw [run_slice_h w' 27 A n c und_u8 .i64 h (by omega) (by omega), size_u8]
  rfl
end Go.Proofs.Ytfjkbggbaoiiiaa.Sha
