/-
  Rows of whole numbers: pieces of them, appends of them at a step of a region.
-/
import Derived.Test.YthhjmbbfibgjpaaInts
import Derived.Laws.Slices
import Derived.Maps.AppendAt
namespace Go.Proofs.Ythhjmbbfibgjpaa.Sha
open Go.RowKit

/-- at a step of a region: a row of ints that is read goes behind what the call made -/
theorem step_append_ri {P : Program} {w : World} {ops : Array Oper} {o : Oper} {a : Act} {K : Act → World → Prop} {Q : Exit → Act → World → Prop} {E : Prop} (hgd : o.guard = none) (s x : Operand) (t : TypeId)
    (ho : o.op = .call { callee := .builtin .append, args := #[s, x], argTypes := #[t, t] })
    (base : Nat) (e : TypeId) (ht : P.underlying t = some (.slice e)) (hi : (P.info? e).map (fun i => (i.zero, i.size, i.bytes)) = some (some (.int .i64 0), 1, 8))
    (v : Value) (n : Nat) (xs : List Value) (hs : a.eval s = v) (hown : w.ownsRow base e 1 v n xs)
    (A : Option Addr) (m c : Nat) (news : List Int) (hx : a.eval x = .slice A m c) (hr : Ri w A m news)
    (hsmall : n + m ≤ 4294967296) (hbase : base ≤ w.heap.size)
    (h : ∀ v' w', Kept (w'.ownsRow base e 1 v' (n + m) (xs ++ ints .i64 news)) → w.grownBy w' v.ownBlock → Below base w w' → (v'.ownBlock = v.ownBlock ∨ v'.ownBlock = some w.heap.size) → K (a.put o.dst v') w') :
    if Region.wanted o (yielded ops a.tmps) = true then Oper.wp P o a w K Q else E := by
  have hw : Region.wanted o (yielded ops a.tmps) = true := by simp [Region.wanted, hgd]
  rw [if_pos hw]
  obtain ⟨iu, hi, hz0, hz1, hz2⟩ := info_parts hi
  obtain ⟨h1, h3⟩ := hr
  cases A with
  | none =>
    have h0 : m = 0 := by
      rcases h3 with h3 | ⟨_, _, h4, _⟩
      · exact h3
      · cases h4
    subst h0
    obtain rfl : news = [] := List.eq_nil_of_length_eq_zero h1
    have hrun := run_append_nil_any (P := P) w base t o.type e iu 1 ht hi v n xs hown c
    unfold Oper.wp
    simp [execOp, ho, resolve, invoke, builtin, hs, hx, hrun, Result.andThen]
    exact h v w ⟨by simpa [ints] using hown⟩ (World.grownBy.refl _ _) (Below.refl _ _) (.inl rfl)
  | some ad =>
    have hc : ∀ j u, (ints .i64 news)[j]? = some u → w.cell? (ad.add j) = some u := by
      intro j u hj
      have hjl : j < news.length := by have := (List.getElem?_eq_some_iff.1 hj).1; rwa [ints_len] at this
      rcases h3 with h3 | ⟨b, o', h4, hc⟩
      · omega
      · injection h4 with h4
        subst h4
        rw [Sha.ints_at _ _ _ hjl] at hj
        rw [← hj, show (⟨b, o', none⟩ : Addr).add j = ⟨b, o' + j, none⟩ by cases j <;> simp [Addr.add]]
        exact hc j (by omega)
    obtain ⟨v', w', hr, h2, h3, -, h5⟩ := run_append_own_at (P := P) w base t o.type e iu (.int .i64 0) 1 8 ht hi hz0 hz1 hz2 rfl (by omega) v n xs hown ad m c (ints .i64 news) (by rw [ints_len, h1]; omega) hc (ints_one _ _) (by unfold maxLen; omega) (by omega) hbase
    unfold Oper.wp execOp
    simp only [ho, resolve, invoke, builtin, Sem.run_bind, Sem.run_pure, Result.andThen_ok, List.map_toArray, List.map_cons, List.map_nil, hs, hx, hr]
    exact h v' w' ⟨h2⟩ h3 (own_below hown h3 hbase) h5
theorem Ri.piece {w : World} {A : Option Addr} {n c : Nat} {xs : List Int} (r : Ri w A n xs) (hc : n ≤ c) (l h : Nat) (h1 : l ≤ h) (h2 : h ≤ n) :
    Ri w (if c = l then A else A.map (·.add (l * 1))) (h - l) ((xs.take h).drop l) := by
  obtain ⟨r1, r3⟩ := r
  have e1 : ((xs.take h).drop l).length = h - l := by simp [List.length_drop, List.length_take, r1]; omega
  by_cases h0 : h - l = 0
  · rw [h0] at e1 ⊢
    exact ⟨e1, .inl rfl⟩
  · have hcl : ¬ c = l := by omega
    rw [if_neg hcl, Nat.mul_one]
    obtain ⟨b, o, rfl, hcell⟩ := r3.resolve_left (by omega)
    have ea : (⟨b, o, none⟩ : Addr).add l = ⟨b, o + l, none⟩ := by cases l <;> simp [Addr.add]
    simp only [Option.map_some, ea]
    refine ⟨e1, .inr ⟨b, o + l, rfl, fun i hi => ?_⟩⟩
    have := hcell (l + i) (by omega)
    rw [Nat.add_assoc, this, at_drop, at_take (by omega)]
theorem elem_int : Try.prog.elem 38 = 3 := by kernel_rfl
theorem und_int : Try.prog.underlying 38 = some (.slice (Try.prog.elem 38)) := by rw [elem_int]; exact Try.underlying38
theorem size_int (w : World) : (sizeOf (Try.prog.elem 38)).run Try.prog w = .ok 1 w := by
  obtain ⟨iu, hi, _, hz1, _⟩ := info_parts info_int
  rw [elem_int]
  simp [sizeOf, typeInfo, hi, hz1]
theorem islice_l {w : World} {A : Option Addr} {n c : Nat} {xs : List Int} (r : Ri w A n xs) (hc : n ≤ c) (l : Nat) (h1 : l ≤ n) (li : Int) (e1 : li = l) :
    ∃ A', (∀ w', (Instr.slice 38 (.slice A n c) (some (.int .i64 li)) none none).run Try.prog w' = .ok (.slice A' (n - l) (c - l)) w') ∧ Ri w A' (n - l) (xs.drop l) := by
  have hp := r.piece hc l n h1 (Nat.le_refl _)
  rw [show xs.take n = xs from List.take_of_length_le (by rw [r.1]; exact Nat.le_refl _)] at hp
  refine ⟨_, fun w' => ?_, hp⟩
  subst e1
  rw [run_slice_l w' 38 A n c und_int .i64 l (by omega) (by omega), size_int]
  rfl
theorem islice_h {w : World} {A : Option Addr} {n c : Nat} {xs : List Int} (r : Ri w A n xs) (hc : n ≤ c) (h : Nat) (h2 : h ≤ n) (hi : Int) (e2 : hi = h) :
    ∃ A', (∀ w', (Instr.slice 38 (.slice A n c) none (some (.int .i64 hi)) none).run Try.prog w' = .ok (.slice A' h c) w') ∧ Ri w A' h (xs.take h) := by
  have hp := r.piece hc 0 h (Nat.zero_le _) h2
  rw [List.drop_zero, Nat.sub_zero] at hp
  refine ⟨_, fun w' => ?_, hp⟩
  subst e2
  rw [run_slice_h w' 38 A n c und_int .i64 h (by omega) (by omega), size_int]
  rfl
theorem own_ri {w : World} {b : Nat} {A : Option Addr} {n c : Nat} {xs : List Int} (h : w.ownsRow b 3 1 (.slice A n c) n (ints .i64 xs)) : n ≤ c ∧ c ≤ 9223372036854775807 ∧ Ri w A n xs := by
  have hl : xs.length = n := by have := h.1; rw [ints_len] at this; omega
  have h0 := h
  rcases h.2 with ⟨hv, h1⟩ | ⟨g, cap, cur, hv, -, -, h1, h2, -⟩
  · injection hv with hA hn hc
    subst hA hc
    exact ⟨by omega, by omega, hl, .inl (by omega)⟩
  · injection hv with hA hn hc
    subst hA hc
    unfold maxLen at h2
    refine ⟨h1, by omega, hl, .inr ⟨g, 0, rfl, fun i hi => ?_⟩⟩
    rw [Nat.zero_add, World.ownsRow.cellAt h0 i (by omega)]
    exact Sha.ints_at _ _ _ (by omega)
theorem own_base {w : World} {b size : Nat} {e : TypeId} {v : Value} {n : Nat} {xs : List Value} (h : w.ownsRow b e size v n xs) : w.ownsRow 0 e size v n xs := by
  refine ⟨h.1, h.2.imp id ?_⟩
  rintro ⟨g, cap, cur, hv, _, r⟩
  exact ⟨g, cap, cur, hv, Nat.zero_le _, r⟩
end Go.Proofs.Ythhjmbbfibgjpaa.Sha
