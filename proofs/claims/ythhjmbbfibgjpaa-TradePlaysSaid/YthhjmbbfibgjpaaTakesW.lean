/-
  As XTakes, in a region of XLasts' (wp_region_W). No program in sight; for any seat.
-/
import Derived.Test.YthhjmbbfibgjpaaTakes
import Derived.Test.YthhjmbbfibgjpaaLasts
namespace Go.Proofs.Ythhjmbbfibgjpaa.Sha
open Go

section
variable {P : Program} {ops : Array Oper} {Q : Exit → Act → World → Prop} {md : Region.Mode} {S : World → Prop} {st : List Nat}
theorem tkW (i : Nat) {oi : Oper} {v : Value} {fuel : Nat} {listed : Array Bool} {a : Act} {w : World} (hS : S w) (h : wpAnyW P md ops Q S st fuel (listed.setIfInBounds i true) (a.put oi.dst v) w)
    (hi : ops[i]? = some oi := by (simp only [List.getElem?_toArray]; exact rfl)) (hc : (Region.noSelect ops && (Region.free md ops listed i && ((Region.ready md ops listed).contains i && ((st.all fun q => waitsFor md ops q i) && !st.contains i && earlyB st listed)))) = true := by kernel_rfl)
    (hQ : ∀ c a w, Q (.panic c) (a.put oi.dst v) w → Q (.panic c) a w := by exact fun _ _ _ h => h)
    (hw : Region.wanted oi (yielded ops a.tmps) = true := by rfl)
    (hy : ∀ w, S w → (execOp a.eval oi).run P w = .ok (.value v) w := by (intro w hSw; (try dsimp only at hSw); go_simp; try exact rfl)) : wpAnyW P md ops Q S st (fuel + 1) listed a w := by
  rw [Bool.and_eq_true, Bool.and_eq_true, Bool.and_eq_true] at hc
  exact wpAnyW_take hi hc.1 hc.2.1 hc.2.2.1 hc.2.2.2 hQ (.inl ⟨hw, hy⟩) hS h
theorem tknW (i : Nat) {oi : Oper} {fuel : Nat} {listed : Array Bool} {a : Act} {w : World} (hS : S w) (h : wpAnyW P md ops Q S st fuel (listed.setIfInBounds i true) (a.put oi.dst undef) w)
    (hi : ops[i]? = some oi := by (simp only [List.getElem?_toArray]; exact rfl)) (hc : (Region.noSelect ops && (Region.free md ops listed i && ((Region.ready md ops listed).contains i && ((st.all fun q => waitsFor md ops q i) && !st.contains i && earlyB st listed)))) = true := by kernel_rfl)
    (hQ : ∀ c a w, Q (.panic c) (a.put oi.dst undef) w → Q (.panic c) a w := by exact fun _ _ _ h => h)
    (hw : Region.wanted oi (yielded ops a.tmps) = false := by rfl) : wpAnyW P md ops Q S st (fuel + 1) listed a w := by
  rw [Bool.and_eq_true, Bool.and_eq_true, Bool.and_eq_true] at hc
  exact wpAnyW_take hi hc.1 hc.2.1 hc.2.2.1 hc.2.2.2 hQ (.inr ⟨hw, rfl⟩) hS h
/-- number i reads no memory -/
theorem frW (i : Nat) {oi : Oper} {v : Value} {fuel : Nat} {listed : Array Bool} {a : Act} {w : World} (hS : early st listed → S w) (h : wpAnyW P md ops Q S st fuel (listed.setIfInBounds i true) (a.put oi.dst v) w)
    (hi : ops[i]? = some oi := by (simp only [List.getElem?_toArray]; exact rfl)) (hc : (Region.noSelect ops && (Region.free md ops listed i && ((Region.ready md ops listed).contains i && !st.contains i))) = true := by kernel_rfl)
    (hQ : ∀ c a w, Q (.panic c) (a.put oi.dst v) w → Q (.panic c) a w := by exact fun _ _ _ h => h)
    (hw : Region.wanted oi (yielded ops a.tmps) = true := by rfl)
    (hy : ∀ w, True → (execOp a.eval oi).run P w = .ok (.value v) w := by (intro w _; go_simp; try exact rfl)) : wpAnyW P md ops Q S st (fuel + 1) listed a w := by
  rw [Bool.and_eq_true, Bool.and_eq_true, Bool.and_eq_true] at hc
  exact wpAnyW_free hi hc.1 hc.2.1 hc.2.2.1 hc.2.2.2 hQ (.inl ⟨hw, hy⟩) hS h
/-- what may come up at number i -/
def UpW (P : Program) (md : Region.Mode) (ops : Array Oper) (Q : Exit → Act → World → Prop) (S : World → Prop) (st : List Nat) (fuel : Nat) (listed : Array Bool) (a : Act) (w : World) (i : Nat) (o : Oper) : Prop :=
  ∀ K' : Act → World → Prop, Shut (∀ a w, (early st (listed.setIfInBounds i true) → S w) → ((early st (listed.setIfInBounds i true) → S w) → wpAnyW P md ops Q S st fuel (listed.setIfInBounds i true) a w) → K' a w) → if Region.wanted o (yielded ops a.tmps) = true then Oper.wp P o a w K' Q else K' (a.put o.dst undef) w
theorem ldW (i : Nat) {o : Oper} {fuel : Nat} {listed : Array Bool} {a : Act} {w : World} (h : UpW P md ops Q S st fuel listed a w i o)
    (hi : ops[i]? = some o := by (simp only [List.getElem?_toArray]; exact rfl)) (hr : Region.ready md ops listed = [i] := by kernel_rfl) : wpAnyW P md ops Q S st (fuel + 1) listed a w :=
  wpAnyW_ready (rs := [i]) hr (by simp) (AllReadyW.cons hi h AllReadyW.nil)
theorem ldW2 (i j : Nat) {o o2 : Oper} {fuel : Nat} {listed : Array Bool} {a : Act} {w : World} (h : UpW P md ops Q S st fuel listed a w i o) (h2 : UpW P md ops Q S st fuel listed a w j o2)
    (hi : ops[i]? = some o := by (simp only [List.getElem?_toArray]; exact rfl)) (hj : ops[j]? = some o2 := by (simp only [List.getElem?_toArray]; exact rfl)) (hr : Region.ready md ops listed = [i, j] := by kernel_rfl) : wpAnyW P md ops Q S st (fuel + 1) listed a w :=
  wpAnyW_ready (rs := [i, j]) hr (by simp) (AllReadyW.cons hi h (AllReadyW.cons hj h2 AllReadyW.nil))
theorem ldW3 (i j k : Nat) {o o2 o3 : Oper} {fuel : Nat} {listed : Array Bool} {a : Act} {w : World} (h : UpW P md ops Q S st fuel listed a w i o) (h2 : UpW P md ops Q S st fuel listed a w j o2) (h3 : UpW P md ops Q S st fuel listed a w k o3)
    (hi : ops[i]? = some o := by (simp only [List.getElem?_toArray]; exact rfl)) (hj : ops[j]? = some o2 := by (simp only [List.getElem?_toArray]; exact rfl)) (hk : ops[k]? = some o3 := by (simp only [List.getElem?_toArray]; exact rfl)) (hr : Region.ready md ops listed = [i, j, k] := by kernel_rfl) : wpAnyW P md ops Q S st (fuel + 1) listed a w :=
  wpAnyW_ready (rs := [i, j, k]) hr (by simp) (AllReadyW.cons hi h (AllReadyW.cons hj h2 (AllReadyW.cons hk h3 AllReadyW.nil)))
end
end Go.Proofs.Ythhjmbbfibgjpaa.Sha
