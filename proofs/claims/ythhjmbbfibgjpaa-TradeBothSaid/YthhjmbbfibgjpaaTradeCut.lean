/-
  The rest of a row of trades: s[l:].
-/
import Derived.Test.YthhjmbbfibgjpaaTradeMem
import Derived.Laws.Slices
namespace Go.Proofs.Ythhjmbbfibgjpaa.Trade
open Go.RowKit Go.Proofs.Ythhjmbbfibgjpaa.Sha

theorem rc_rest {α : Type} {C : α → List Value} {s : Nat} {w : World} {A : Option Addr} {n c : Nat} {xs : List α} (r : Rc C s w A n xs) (hc : n ≤ c) (l : Nat) (hl : l ≤ n) :
    Rc C s w (if c = l then A else A.map (·.add (l * s))) (n - l) (xs.drop l) := by
  obtain ⟨r1, r2⟩ := r
  refine ⟨by rw [List.length_drop, r1], ?_⟩
  by_cases h0 : n - l = 0
  · exact .inl h0
  · have hcl : ¬ c = l := by omega
    rw [if_neg hcl]
    obtain ⟨b, o, rfl, hcell⟩ := r2.resolve_left (by omega)
    have ea : (⟨b, o, none⟩ : Addr).add (l * s) = ⟨b, o + l * s, none⟩ := by cases l * s <;> simp [Addr.add]
    simp only [Option.map_some, ea]
    refine .inr ⟨b, o + l * s, rfl, fun k x hx j v hv => ?_⟩
    have := hcell (l + k) x (by rw [← hx, List.getElem?_drop]) j v hv
    rw [Nat.add_mul] at this
    rw [← this]
    congr 2
    omega
theorem elem_tv : Try.prog.elem 39 = 33 := by kernel_rfl
theorem und_tv : Try.prog.underlying 39 = some (.slice (Try.prog.elem 39)) := by rw [elem_tv]; exact Try.underlying39
theorem size_tv (w : World) : (sizeOf (Try.prog.elem 39)).run Try.prog w = .ok 7 w := by
  obtain ⟨iu, hi, _, hz1, _⟩ := info_parts info_tv
  rw [elem_tv]
  simp [sizeOf, typeInfo, hi, hz1]
theorem slice_tv {w : World} {A : Option Addr} {n c : Nat} {xs : List TV} (r : Rc tvC 7 w A n xs) (hc : n ≤ c) (l : Nat) (h1 : l ≤ n) (li : Int) (e1 : li = l) :
    ∃ A', (∀ w', (Instr.slice 39 (.slice A n c) (some (.int .i64 li)) none none).run Try.prog w' = .ok (.slice A' (n - l) (c - l)) w') ∧ Rc tvC 7 w A' (n - l) (xs.drop l) := by
  refine ⟨_, fun w' => ?_, rc_rest r hc l h1⟩
  subst e1
  rw [run_slice_l w' 39 A n c und_tv .i64 l (by omega) (by omega), size_tv]
  rfl
end Go.Proofs.Ythhjmbbfibgjpaa.Trade
