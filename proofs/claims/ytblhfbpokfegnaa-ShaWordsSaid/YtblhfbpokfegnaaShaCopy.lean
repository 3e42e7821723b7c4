/-
  Bytes appended to what a call made itself; the document's own copy of a text.
-/
import Derived.Test.YtblhfbpokfegnaaShaCmp
namespace Go.Proofs.Ytblhfbpokfegnaa.Sha
open Go.RowKit

theorem run_append_nil_any {P : Program} (w : World) (base : Nat) (t ty e : TypeId) (i : TypeInfo) (size : Nat) (ht : P.underlying t = some (.slice e)) (hi : P.info? e = some i)
    (v : Value) (n : Nat) (xs : List Value) (hown : w.ownsRow base e size v n xs) (c : Nat) : (Builtin.append_ #[t, t] ty #[v, .slice none 0 c]).run P w = .ok v w := by
  rcases hown.2 with ⟨rfl, rfl⟩ | ⟨g, cap, cur, rfl, _, _, hnc, _⟩
  · simp [Builtin.append_, run_underlying ht, sizeOf, typeInfo, hi, Builtin.lenOf, Builtin.firstCells]
  · simp [Builtin.append_, run_underlying ht, sizeOf, typeInfo, hi, Builtin.lenOf, Builtin.firstCells, hnc, storeCells]
/-- bytes that are read in memory go behind what the call made -/
theorem wpList_append_rd {P : Program} {w : World} {ops : Array Oper} {rest : List Oper} {o : Oper} {a : Act} {Q : Exit → Act → World → Prop} (hgd : o.guard = none) (s x : Operand) (t : TypeId)
    (ho : o.op = .call { callee := .builtin .append, args := #[s, x], argTypes := #[t, t] })
    (base : Nat) (e : TypeId) (ht : P.underlying t = some (.slice e)) (hi : (P.info? e).map (fun i => (i.zero, i.size, i.bytes)) = some (some (.int .u8 0), 1, 1))
    (v : Value) (n : Nat) (xs : List Value) (hs : a.eval s = v) (hown : w.ownsRow base e 1 v n xs)
    (A : Option Addr) (m c : Nat) (news : List Int) (hx : a.eval x = .slice A m c) (hr : Rd w A m news)
    (hsmall : n + m ≤ 4294967296) (hbase : base ≤ w.heap.size)
    (h : ∀ v' w', Kept (w'.ownsRow base e 1 v' (n + m) (xs ++ ints .u8 news)) → w.grownBy w' v.ownBlock → wpList P ops Q rest (a.put o.dst v') w') : wpList P ops Q (o :: rest) a w := by
  obtain ⟨iu, hi, hz0, hz1, hz2⟩ := info_parts hi
  obtain ⟨h1, h2, h3⟩ := hr
  have app : ∀ ad, a.eval x = .slice (some ad) m c → (∀ j u, (ints .u8 news)[j]? = some u → w.cell? (ad.add j) = some u) → wpList P ops Q (o :: rest) a w := by
    intro ad hx hc
    exact wpList_append_own w hgd s x t ho base e iu (.int .u8 0) 1 1 ht hi hz0 hz1 hz2 rfl (by omega) v n xs hs hown ad m c (ints .u8 news) hx (by rw [ints_len, h1]; omega) hc (ints_one _ _) (by unfold maxLen; omega) (by omega) hbase (fun v' w' a1 a2 _ => h v' w' ⟨a1⟩ a2)
  cases A with
  | none =>
    have h0 : m = 0 := by
      rcases h3 with h3 | ⟨_, _, h4, _⟩
      · exact h3
      · cases h4
    subst h0
    obtain rfl : news = [] := List.eq_nil_of_length_eq_zero h1
    refine wpList_plain hgd fun K hK => ?_
    have hrun := run_append_nil_any (P := P) w base t o.type e iu 1 ht hi v n xs hown c
    unfold Oper.wp
    simp [execOp, ho, resolve, invoke, builtin, hs, hx, hrun, Result.andThen]
    exact hK _ _ (h v w ⟨by simpa [ints] using hown⟩ (World.grownBy.refl _ _))
  | some ad =>
    refine app ad hx fun j u hj => ?_
    have hjl : j < news.length := by have := (List.getElem?_eq_some_iff.1 hj).1; rwa [ints_len] at this
    rcases h3 with h3 | ⟨b, o', h4, hc⟩
    · omega
    · injection h4 with h4
      subst h4
      rw [ints_at _ _ _ hjl] at hj
      rw [← hj, show (⟨b, o', none⟩ : Addr).add j = ⟨b, o' + j, none⟩ by cases j <;> simp [Addr.add]]
      exact hc j (by omega)

def CopyPost (n : Nat) (xs : List Int) (w : World) (e : Ending) (w' : World) : Prop := ∃ v, e = .returned v ∧ w'.ownsRow w.heap.size 5 1 v n (ints .u8 xs) ∧ Below w.heap.size w w'

set_option maxRecDepth 100000 in
set_option maxHeartbeats 400000 in
theorem copy_any (A : Option Addr) (n cap : Nat) (xs : List Int) (w : World) (hr : Rd w A n xs) (hn : n < 2147483648) :
    Calls Try.prog 31 #[.slice A n cap] w (CopyPost n xs w) := by
  obtain ⟨N, hN⟩ : ∃ N, w.heap.size = N := ⟨_, rfl⟩
  have HR := Kept.mk (hr.keep (l := []) ((Bar.refl [] w).alloc (.cells #[] 5)) (by simp))
  have hown := World.ownsRow_made (base := N) (e := 5) (size := 1) w #[] 0 (by omega) (by unfold maxLen; omega) rfl
  rw [hN] at hown
  have bel : Below N w (w.alloc (.cells #[] 5)) := (Below.refl _ _).alloc (by omega) _
  have Own := Kept.mk hown
  have Bel := Kept.mk bel
  clear hown bel hr
  go_enter Try.func31, Try.ntmps31
  go_wp2_with ((with_reducible refine sel 5 ?_); refine wpList_append_rd rfl (.tmp 3) (.tmp 4) 29 rfl N 5 Try.underlying29 info_u8 (.slice (some ⟨N, 0, none⟩) 0 0) 0 [] rfl Own.out A n cap xs rfl HR.out (by omega) (by simp [hN]) ?_; intro v' w' ho hg)
  go_ret
  refine ⟨v', rfl, ?_, ?_⟩
  · have := ho.out
    simpa [hN] using this
  · rw [hN]; exact Bel.out.grown hg (by simp; omega) (by intro k hk; injection hk with hk; simp at hk; omega)
end Go.Proofs.Ytblhfbpokfegnaa.Sha
