/-
  Appends of a row that is read, of things of z cells each.
-/
import Derived.Test.YtjnpcfpalckkdaaRowsC
import Derived.Maps.AppendAt
import Derived.RegionTactic
namespace Go.Proofs.Ytjnpcfpalckkdaa.Sha
open Go.RowKit

section
variable {α : Type} {C : α → List Value} {z : Nat}
theorem rc_news {w : World} {ad : Addr} {n : Nat} {l : List α} (hC : ∀ x, (C x).length = z) (hz : 0 < z) (h : Rc C z w (some ad) n l) : ∀ j u, (l.flatMap C)[j]? = some u → w.cell? (ad.add j) = some u := by
  intro j u hj
  have hlt := (List.getElem?_eq_some_iff.1 hj).1
  rw [flatC_len C z hC] at hlt
  have hk : j / z < l.length := (Nat.div_lt_iff_lt_mul hz).2 hlt
  have hm : j % z < z := Nat.mod_lt _ hz
  have e : j / z * z + j % z = j := by rw [Nat.mul_comm]; exact Nat.div_add_mod j z
  rcases h.2 with h0 | ⟨b, o, hA, hc⟩
  · have := h.1; rw [this, h0, Nat.zero_mul] at hlt; omega
  · injection hA with hA
    subst hA
    have hx : l[j / z]? = some (l[j / z]'hk) := List.getElem?_eq_getElem _
    have h1 := flatC_at C z hC l (j / z) (j % z) _ hx hm
    rw [e, hj] at h1
    have h2 := hc (j / z) _ hx (j % z) u h1.symm
    rw [Nat.add_assoc, e] at h2
    rw [show (⟨b, o, none⟩ : Addr).add j = ⟨b, o + j, none⟩ by cases j <;> simp [Addr.add]]
    exact h2
theorem wp_append_rc {P : Program} {w : World} {o : Oper} {a : Act} {K : Act → World → Prop} {Q : Exit → Act → World → Prop} (s x : Operand) (t : TypeId)
    (ho : o.op = .call { callee := .builtin .append, args := #[s, x], argTypes := #[t, t] })
    (base : Nat) (e : TypeId) (i : TypeInfo) (zv : Value) (bytes : Nat) (ht : P.underlying t = some (.slice e)) (hi : P.info? e = some i) (hz : i.zero = some zv)
    (hsize : i.size = z) (hby : i.bytes = bytes) (hzs : zv.cells.size = z) (hsz : 0 < z)
    (v : Value) (n : Nat) (xs : List Value) (hs : a.eval s = v) (hown : w.ownsRow base e z v n xs)
    (A : Option Addr) (m c : Nat) (l : List α) (hx : a.eval x = .slice A m c) (hr : Rc C z w A m l) (hC : ∀ x, (C x).length = z) (h1 : ∀ x, ∀ u ∈ C x, u.oneCell' = true)
    (h63 : n + m ≤ maxLen) (hbytes : (n + m) * bytes ≤ 140737488355328) (hbase : base ≤ w.heap.size)
    (h : ∀ v' w', w'.ownsRow base e z v' (n + m) (xs ++ l.flatMap C) → w.grownBy w' v.ownBlock → (v'.ownBlock = v.ownBlock ∨ v'.ownBlock = some w.heap.size) → K (a.put o.dst v') w') : o.wp P a w K Q := by
  cases A with
  | none =>
    have h0 : m = 0 := by
      rcases hr.2 with h3 | ⟨_, _, h4, _⟩
      · exact h3
      · cases h4
    subst h0
    obtain rfl : l = [] := List.eq_nil_of_length_eq_zero hr.1
    have hrun := run_append_nil_any (P := P) w base t o.type e i z ht hi v n xs hown c
    unfold Oper.wp execOp
    simp only [ho, resolve, invoke, builtin, Sem.run_bind, Sem.run_pure, Result.andThen_ok, List.map_toArray, List.map_cons, List.map_nil, hs, hx, hrun]
    exact h v w (by simpa using hown) (World.grownBy.refl _ _) (.inl rfl)
  | some ad =>
    obtain ⟨v', w', hrun, h2, h3, _, h5⟩ := run_append_own_at (P := P) w base t o.type e i zv z bytes ht hi hz hsize hby hzs hsz v n xs hown ad m c (l.flatMap C) (by rw [flatC_len C z hC, hr.1]) (rc_news hC hsz hr) (fun u hu => by obtain ⟨y, -, hy⟩ := List.mem_flatMap.1 hu; exact h1 y u hy) h63 hbytes hbase
    unfold Oper.wp execOp
    simp only [ho, resolve, invoke, builtin, Sem.run_bind, Sem.run_pure, Result.andThen_ok, List.map_toArray, List.map_cons, List.map_nil, hs, hx, hrun]
    exact h v' w' h2 h3 h5
/-- at a step of a region that draws its order -/
theorem step_append_rc {P : Program} {w : World} {ops : Array Oper} {o : Oper} {a : Act} {K : Act → World → Prop} {Q : Exit → Act → World → Prop} {E : Prop} (hgd : o.guard = none) (s x : Operand) (t : TypeId)
    (ho : o.op = .call { callee := .builtin .append, args := #[s, x], argTypes := #[t, t] })
    (base : Nat) (e : TypeId) (i : TypeInfo) (zv : Value) (bytes : Nat) (ht : P.underlying t = some (.slice e)) (hi : P.info? e = some i) (hz : i.zero = some zv)
    (hsize : i.size = z) (hby : i.bytes = bytes) (hzs : zv.cells.size = z) (hsz : 0 < z)
    (v : Value) (n : Nat) (xs : List Value) (hs : a.eval s = v) (hown : w.ownsRow base e z v n xs)
    (A : Option Addr) (m c : Nat) (l : List α) (hx : a.eval x = .slice A m c) (hr : Rc C z w A m l) (hC : ∀ x, (C x).length = z) (h1 : ∀ x, ∀ u ∈ C x, u.oneCell' = true)
    (h63 : n + m ≤ maxLen) (hbytes : (n + m) * bytes ≤ 140737488355328) (hbase : base ≤ w.heap.size)
    (h : ∀ v' w', w'.ownsRow base e z v' (n + m) (xs ++ l.flatMap C) → w.grownBy w' v.ownBlock → (v'.ownBlock = v.ownBlock ∨ v'.ownBlock = some w.heap.size) → K (a.put o.dst v') w') :
    if Region.wanted o (yielded ops a.tmps) = true then Oper.wp P o a w K Q else E := by
  have hw : Region.wanted o (yielded ops a.tmps) = true := by simp [Region.wanted, hgd]
  rw [if_pos hw]
  exact wp_append_rc s x t ho base e i zv bytes ht hi hz hsize hby hzs hsz v n xs hs hown A m c l hx hr hC h1 h63 hbytes hbase h
/-- at the list of a plain region's operations -/
theorem wpList_append_rc {P : Program} {w : World} {ops : Array Oper} {rest : List Oper} {o : Oper} {a : Act} {Q : Exit → Act → World → Prop} (hgd : o.guard = none) (s x : Operand) (t : TypeId)
    (ho : o.op = .call { callee := .builtin .append, args := #[s, x], argTypes := #[t, t] })
    (base : Nat) (e : TypeId) (i : TypeInfo) (zv : Value) (bytes : Nat) (ht : P.underlying t = some (.slice e)) (hi : P.info? e = some i) (hz : i.zero = some zv)
    (hsize : i.size = z) (hby : i.bytes = bytes) (hzs : zv.cells.size = z) (hsz : 0 < z)
    (v : Value) (n : Nat) (xs : List Value) (hs : a.eval s = v) (hown : w.ownsRow base e z v n xs)
    (A : Option Addr) (m c : Nat) (l : List α) (hx : a.eval x = .slice A m c) (hr : Rc C z w A m l) (hC : ∀ x, (C x).length = z) (h1 : ∀ x, ∀ u ∈ C x, u.oneCell' = true)
    (h63 : n + m ≤ maxLen) (hbytes : (n + m) * bytes ≤ 140737488355328) (hbase : base ≤ w.heap.size)
    (h : ∀ v' w', w'.ownsRow base e z v' (n + m) (xs ++ l.flatMap C) → w.grownBy w' v.ownBlock → (v'.ownBlock = v.ownBlock ∨ v'.ownBlock = some w.heap.size) → wpList P ops Q rest (a.put o.dst v') w') : wpList P ops Q (o :: rest) a w :=
  wpList_plain hgd fun _ hK => wp_append_rc s x t ho base e i zv bytes ht hi hz hsize hby hzs hsz v n xs hs hown A m c l hx hr hC h1 h63 hbytes hbase fun v' w' h2 h3 h4 => hK _ _ (h v' w' h2 h3 h4)
end
end Go.Proofs.Ytjnpcfpalckkdaa.Sha
