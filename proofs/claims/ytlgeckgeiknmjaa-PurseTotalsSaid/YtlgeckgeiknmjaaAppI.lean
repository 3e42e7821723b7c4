/-
  Appends of whole numbers that are read: the walk's law.
-/
import Derived.Test.YtlgeckgeiknmjaaInts
import Derived.Maps.AppendAt
namespace Go.Proofs.Ytlgeckgeiknmjaa.Sha
open Go.RowKit

/-- whole numbers that are read in memory go behind what the call made; where the row lies then -/
theorem wpList_append_ri {P : Program} {w : World} {ops : Array Oper} {rest : List Oper} {o : Oper} {a : Act} {Q : Exit → Act → World → Prop} (hgd : o.guard = none) (s x : Operand) (t : TypeId)
    (ho : o.op = .call { callee := .builtin .append, args := #[s, x], argTypes := #[t, t] })
    (base : Nat) (e : TypeId) (ht : P.underlying t = some (.slice e)) (hi : (P.info? e).map (fun i => (i.zero, i.size, i.bytes)) = some (some (.int .i64 0), 1, 8))
    (v : Value) (n : Nat) (xs : List Value) (hs : a.eval s = v) (hown : w.ownsRow base e 1 v n xs)
    (A : Option Addr) (m c : Nat) (news : List Int) (hx : a.eval x = .slice A m c) (hr : Ri w A m news)
    (hsmall : n + m ≤ 4294967296) (hbase : base ≤ w.heap.size)
    (h : ∀ v' w', Kept (w'.ownsRow base e 1 v' (n + m) (xs ++ ints .i64 news)) → w.grownBy w' v.ownBlock → (v'.ownBlock = v.ownBlock ∨ v'.ownBlock = some w.heap.size) → wpList P ops Q rest (a.put o.dst v') w') : wpList P ops Q (o :: rest) a w := by
  obtain ⟨iu, hi, hz0, hz1, hz2⟩ := info_parts hi
  obtain ⟨h1, h3⟩ := hr
  cases A with
  | none =>
    have h0 : m = 0 := by
      rcases h3 with h3 | ⟨_, _, h4, _⟩
      · exact h3
      · cases h4
    subst h0
    obtain rfl : news = [] := List.eq_nil_of_length_eq_zero h1
    refine wpList_plain hgd fun K hK => ?_
    have hrun := run_append_nil_any (P := P) w base t o.type e iu 1 ht hi v n xs hown c
    unfold Oper.wp
    simp [execOp, ho, resolve, invoke, builtin, hs, hx, hrun, Result.andThen]
    exact hK _ _ (h v w ⟨by simpa [ints] using hown⟩ (World.grownBy.refl _ _) (.inl rfl))
  | some ad =>
    have hc : ∀ j u, (ints .i64 news)[j]? = some u → w.cell? (ad.add j) = some u := by
      intro j u hj
      have hjl : j < news.length := by have := (List.getElem?_eq_some_iff.1 hj).1; rwa [ints_len] at this
      rcases h3 with h3 | ⟨b, o', h4, hc⟩
      · omega
      · injection h4 with h4
        subst h4
        rw [Sha.ints_at _ _ _ hjl] at hj
        rw [← hj, show (⟨b, o', none⟩ : Addr).add j = ⟨b, o' + j, none⟩ by cases j <;> simp [Addr.add]]
        exact hc j (by omega)
    exact wpList_append_own_at w hgd s x t ho base e iu (.int .i64 0) 1 8 ht hi hz0 hz1 hz2 rfl (by omega) v n xs hs hown ad m c (ints .i64 news) hx (by rw [ints_len, h1]; omega) hc (ints_one _ _) (by unfold maxLen; omega) (by omega) hbase (fun v' w' a1 a2 _ a3 => h v' w' ⟨a1⟩ a2 a3)
def NewRowI (n : Nat) (xs : List Int) (w : World) (e : Ending) (w' : World) : Prop := ∃ v, e = .returned v ∧ w'.ownsRow w.heap.size 3 1 v n (ints .i64 xs) ∧ Below w.heap.size w w'
end Go.Proofs.Ytlgeckgeiknmjaa.Sha
