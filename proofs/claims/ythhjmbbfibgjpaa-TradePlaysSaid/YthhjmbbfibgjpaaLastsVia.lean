/-
  As XLasts: an operation that reads is taken first, where the late ones wait for it by way of others that have not come. No program in sight; for any seat.
-/
import Derived.Test.YthhjmbbfibgjpaaTakes
import Derived.Test.YthhjmbbfibgjpaaLasts
namespace Go.Proofs.Ythhjmbbfibgjpaa.Sha
open Go

section
variable {P : Program} {ops : Array Oper} {Q : Exit → Act → World → Prop} {md : Region.Mode} {S : World → Prop} {st : List Nat}
/-- each of these waits for number i, or for one of J -/
def waitsVia (md : Region.Mode) (ops : Array Oper) (st J : List Nat) (i : Nat) : Bool := (st ++ J).all fun q => waitsFor md ops q i || J.any fun j => waitsFor md ops q j
theorem wpAnyW_firstVia {i : Nat} {oi : Oper} {v : Value} {J : List Nat} (hi : ops[i]? = some oi) (hsel : ∀ (j : Nat) (o : Oper) cs b, ops[j]? = some o → o.op ≠ .select cs b)
    (hQ : ∀ c a w, Q (.panic c) (a.put oi.dst v) w → Q (.panic c) a w) (hst : waitsVia md ops st J i = true) (his : i ∉ st) :
    ∀ (fuel : Nat) (listed : Array Bool) (a : Act) (w : World),
      (∀ j oj, ops[j]? = some oj → j ≠ i → listed.getD j true = false → (∀ e ∈ oj.after, Region.binds md e = true → e.on ≠ i) → oi.apart ops oj = true) →
      i ∈ Region.ready md ops listed → YieldsIf P ops S oi v a → early st listed → early J listed → S w →
      wpAnyW P md ops Q S st fuel (listed.setIfInBounds i true) (a.put oi.dst v) w → wpAnyW P md ops Q S st (fuel + 1) listed a w := by
  intro fuel
  induction fuel with
  | zero =>
    intro listed a w _ hr hy he hJ hS H
    refine ⟨fun h => (by rw [h] at hr; cases hr), fun j hj => ?_⟩
    by_cases hji : j = i
    · subst hji; exact hy.wpOp hi hS ⟨fun _ => hS, H⟩
    · have := ready_mono hj hji
      rw [H.1] at this
      cases this
  | succ fuel ih =>
    intro listed a w hfree hr hy he hJ hS H
    refine ⟨fun h => (by rw [h] at hr; cases hr), fun j hj => ?_⟩
    by_cases hji : j = i
    · subst hji; exact hy.wpOp hi hS ⟨fun _ => hS, H⟩
    · have h1 := H.2 j (ready_mono hj hji)
      obtain ⟨hjun, oj, hoj, hall⟩ := mem_ready.1 hj
      have hno : ∀ z, listed.getD z true = false → ∀ e ∈ oj.after, Region.binds md e = true → e.on ≠ z := fun z h0 e he hb heq => by
        have h1 := hall e he hb
        rw [heq] at h1
        rcases Nat.lt_or_ge z listed.size with h' | h'
        · simp [h'] at h0 h1; rw [h0] at h1; cases h1
        · simp [Array.getElem?_eq_none h'] at h1
      have hnot := hno i (mem_ready.1 hr).1
      have hjst : j ∉ st ++ J := by
        intro hm
        have hst := List.all_eq_true.1 hst j hm
        rw [Bool.or_eq_true] at hst
        rcases hst with hst | hst
        · unfold waitsFor at hst
          rw [hoj] at hst
          simp only [Array.any_eq_true'] at hst
          obtain ⟨e, he, hb⟩ := hst
          rw [Bool.and_eq_true, beq_iff_eq] at hb
          exact hnot e he hb.1 hb.2
        · obtain ⟨z, hz, hst⟩ := List.any_eq_true.1 hst
          unfold waitsFor at hst
          rw [hoj] at hst
          simp only [Array.any_eq_true'] at hst
          obtain ⟨e, he, hb⟩ := hst
          rw [Bool.and_eq_true, beq_iff_eq] at hb
          exact hno z (hJ z hz) e he hb.1 hb.2
      have hj1 : j ∉ st := fun h => hjst (List.mem_append_left _ h)
      have hj2 : j ∉ J := fun h => hjst (List.mem_append_right _ h)
      have h2 := Go.wpOp_putIf hoj (hfree j oj hoj hji hjun hnot) (fun cs b => hsel i oi cs b hi) (fun cs b => hsel j oj cs b hoj) hQ hy h1
      have hfree' : ∀ k ok, ops[k]? = some ok → k ≠ i → (listed.setIfInBounds j true).getD k true = false →
          (∀ e ∈ ok.after, Region.binds md e = true → e.on ≠ i) → oi.apart ops ok = true := fun k ok hk hki hun hno => by
        refine hfree k ok hk hki ?_ hno
        by_cases hjk : j = k
        · subst hjk; exact hjun
        · rw [getD_set_ne true hjk] at hun; exact hun
      have he2 := early_set he hj1
      have hJ2 := early_set hJ hj2
      refine wpOp_mono (fun a' w' h3 => ?_) h2
      have hS' : S w' := h3.2.1 (early_set (early_set he his) hj1)
      refine ⟨fun _ => hS', ih (listed.setIfInBounds j true) a' w' hfree' (ready_mono hr (Ne.symm hji)) h3.1 he2 hJ2 hS' ?_⟩
      rw [Array.setIfInBounds_comm _ _ hji]
      exact h3.2.2
/-- number i is taken first; the late ones wait for it by way of J -/
theorem tkV (i : Nat) (J : List Nat) {oi : Oper} {v : Value} {fuel : Nat} {listed : Array Bool} {a : Act} {w : World} (hS : S w) (h : wpAnyW P md ops Q S st fuel (listed.setIfInBounds i true) (a.put oi.dst v) w)
    (hi : ops[i]? = some oi := by (simp only [List.getElem?_toArray]; exact rfl)) (hc : (Region.noSelect ops && (Region.free md ops listed i && ((Region.ready md ops listed).contains i && (waitsVia md ops st J i && !st.contains i && (earlyB st listed && earlyB J listed))))) = true := by kernel_rfl)
    (hQ : ∀ c a w, Q (.panic c) (a.put oi.dst v) w → Q (.panic c) a w := by exact fun _ _ _ h => h)
    (hw : Region.wanted oi (yielded ops a.tmps) = true := by rfl)
    (hy : ∀ w, S w → (execOp a.eval oi).run P w = .ok (.value v) w := by (intro w hSw; (try dsimp only at hSw); go_simp; try exact rfl)) : wpAnyW P md ops Q S st (fuel + 1) listed a w := by
  rw [Bool.and_eq_true, Bool.and_eq_true, Bool.and_eq_true, Bool.and_eq_true, Bool.and_eq_true, Bool.and_eq_true] at hc
  exact wpAnyW_firstVia hi (Region.noSelect_spec hc.1) hQ hc.2.2.2.1.1 (by simpa using hc.2.2.2.1.2) fuel listed a w (Region.free_spec hi hc.2.1) (by simpa using hc.2.2.1) (.inl ⟨hw, hy⟩) (earlyB_spec hc.2.2.2.2.1) (earlyB_spec hc.2.2.2.2.2) hS h
end
end Go.Proofs.Ythhjmbbfibgjpaa.Sha
