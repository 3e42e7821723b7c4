/-
  As XTakes, in a region of XLast's (wp_region_U). No program in sight; for any seat.
-/
import Derived.Test.YthhjmbbfibgjpaaTakes
import Derived.Test.YthhjmbbfibgjpaaLast
namespace Go.Proofs.Ythhjmbbfibgjpaa.Sha
open Go

section
variable {P : Program} {ops : Array Oper} {Q : Exit → Act → World → Prop} {md : Region.Mode} {S : World → Prop} {st : Nat}
theorem tkU (i : Nat) {oi : Oper} {v : Value} {fuel : Nat} {listed : Array Bool} {a : Act} {w : World} (hS : S w) (h : wpAnyU P md ops Q S st fuel (listed.setIfInBounds i true) (a.put oi.dst v) w)
    (hi : ops[i]? = some oi := by (simp only [List.getElem?_toArray]; exact rfl)) (hc : (Region.noSelect ops && (Region.free md ops listed i && ((Region.ready md ops listed).contains i && waitsFor md ops st i))) = true := by kernel_rfl)
    (hQ : ∀ c a w, Q (.panic c) (a.put oi.dst v) w → Q (.panic c) a w := by exact fun _ _ _ h => h)
    (hw : Region.wanted oi (yielded ops a.tmps) = true := by rfl)
    (hy : ∀ w, S w → (execOp a.eval oi).run P w = .ok (.value v) w := by (intro w hSw; (try dsimp only at hSw); go_simp; try exact rfl)) : wpAnyU P md ops Q S st (fuel + 1) listed a w := by
  rw [Bool.and_eq_true, Bool.and_eq_true, Bool.and_eq_true] at hc
  exact wpAnyU_take hi hc.1 hc.2.1 hc.2.2.1 hc.2.2.2 hQ (.inl ⟨hw, hy⟩) hS h
theorem tknU (i : Nat) {oi : Oper} {fuel : Nat} {listed : Array Bool} {a : Act} {w : World} (hS : S w) (h : wpAnyU P md ops Q S st fuel (listed.setIfInBounds i true) (a.put oi.dst undef) w)
    (hi : ops[i]? = some oi := by (simp only [List.getElem?_toArray]; exact rfl)) (hc : (Region.noSelect ops && (Region.free md ops listed i && ((Region.ready md ops listed).contains i && waitsFor md ops st i))) = true := by kernel_rfl)
    (hQ : ∀ c a w, Q (.panic c) (a.put oi.dst undef) w → Q (.panic c) a w := by exact fun _ _ _ h => h)
    (hw : Region.wanted oi (yielded ops a.tmps) = false := by rfl) : wpAnyU P md ops Q S st (fuel + 1) listed a w := by
  rw [Bool.and_eq_true, Bool.and_eq_true, Bool.and_eq_true] at hc
  exact wpAnyU_take hi hc.1 hc.2.1 hc.2.2.1 hc.2.2.2 hQ (.inr ⟨hw, rfl⟩) hS h
theorem ldU (i : Nat) {o : Oper} {fuel : Nat} {listed : Array Bool} {a : Act} {w : World}
    (h : ∀ K' : Act → World → Prop, Shut (∀ a w, (i ≠ st → S w) → ((i ≠ st → S w) → wpAnyU P md ops Q S st fuel (listed.setIfInBounds i true) a w) → K' a w) → if Region.wanted o (yielded ops a.tmps) = true then Oper.wp P o a w K' Q else K' (a.put o.dst undef) w)
    (hi : ops[i]? = some o := by (simp only [List.getElem?_toArray]; exact rfl)) (hr : Region.ready md ops listed = [i] := by kernel_rfl) : wpAnyU P md ops Q S st (fuel + 1) listed a w :=
  wpAnyU_ready (rs := [i]) hr (by simp) (AllReadyU.cons hi h AllReadyU.nil)
theorem ldU2 (i j : Nat) {o o2 : Oper} {fuel : Nat} {listed : Array Bool} {a : Act} {w : World}
    (h : ∀ K' : Act → World → Prop, Shut (∀ a w, (i ≠ st → S w) → ((i ≠ st → S w) → wpAnyU P md ops Q S st fuel (listed.setIfInBounds i true) a w) → K' a w) → if Region.wanted o (yielded ops a.tmps) = true then Oper.wp P o a w K' Q else K' (a.put o.dst undef) w)
    (h2 : ∀ K' : Act → World → Prop, Shut (∀ a w, (j ≠ st → S w) → ((j ≠ st → S w) → wpAnyU P md ops Q S st fuel (listed.setIfInBounds j true) a w) → K' a w) → if Region.wanted o2 (yielded ops a.tmps) = true then Oper.wp P o2 a w K' Q else K' (a.put o2.dst undef) w)
    (hi : ops[i]? = some o := by (simp only [List.getElem?_toArray]; exact rfl)) (hj : ops[j]? = some o2 := by (simp only [List.getElem?_toArray]; exact rfl)) (hr : Region.ready md ops listed = [i, j] := by kernel_rfl) : wpAnyU P md ops Q S st (fuel + 1) listed a w :=
  wpAnyU_ready (rs := [i, j]) hr (by simp) (AllReadyU.cons hi h (AllReadyU.cons hj h2 AllReadyU.nil))
end
end Go.Proofs.Ythhjmbbfibgjpaa.Sha
