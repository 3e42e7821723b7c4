/-
  Parts laid together: ReqArg.
-/
import Derived.Test.YtchcgoabogcabaaGreatPart10
import Derived.Test.YtchcgoabogcabaaGreatPart20
import Derived.Lib.SmallJoins

namespace Go.Proofs.YtchcgoabogcabaaGreat.Req
open Go.RowKit Go.Proofs.YtchcgoabogcabaaGreat.Sha Go.Proofs.YtchcgoabogcabaaGreat.Wire Go.ChangeShapes Go.WideShapes Go.Deep

theorem str_back (b : ByteArray) : ∃ xs : List Int, b = strOfNums xs ∧ Bytes xs ∧ xs.length = b.size := by
  refine ⟨b.data.toList.map fun u => (u.toNat : Int), ?_, ?_, (List.length_map _).trans Array.length_toList⟩
  · apply ByteArray.ext
    apply Array.toList_inj.1
    rw [strOfNums_data, List.map_map]
    conv => lhs; rw [← List.map_id b.data.toList]
    apply List.map_congr_left
    intro u _
    simp
  · intro x hx
    obtain ⟨u, -, rfl⟩ := List.mem_map.1 hx
    have := u.toNat_lt
    omega
theorem slice_shape {H : Type} {enc : TypeId × Value → H} {P : Program} {w : World} {base n : Nat} {held : Bool} {t e : TypeId} {v : Value} {y : DataW H × List MemPlace} (ht : P.underlying t = some (.slice e)) (h : DataW.trod enc P w base (fun _ => true) held n t [v] = some y) : ∃ A l c, v = .slice A l c := by
  rcases open_slice ht h with ⟨hcs, _⟩ | ⟨a, l, c, m, n, D, Pl, hcs, _⟩
  · simp at hcs; exact ⟨none, 0, 0, hcs⟩
  · simp at hcs; exact ⟨some a, l, c, hcs⟩
/-- rows of things that can each be read are a row of them -/
theorem rc_of {α : Type} {C : α → List Value} {s : Nat} {w : World} {A : Option Addr} {n : Nat} {ok : α → Prop} (h : n = 0 ∨ ∃ b o, A = some ⟨b, o, none⟩ ∧ ∃ X : Nat → α, ∀ r, r < n → (∀ j v, (C (X r))[j]? = some v → w.cell? ⟨b, o + r * s + j, none⟩ = some v) ∧ ok (X r)) : ∃ l, Rc C s w A n l ∧ ∀ x ∈ l, ok x := by
  rcases h with rfl | ⟨b, o, rfl, X, hX⟩
  · exact ⟨[], Rc.nil, by simp⟩
  · refine ⟨(List.range n).map X, ⟨by simp, .inr ⟨b, o, rfl, fun k x hx j v hv => ?_⟩⟩, fun x hx => ?_⟩
    · have hk : k < n := by
        have := (List.getElem?_eq_some_iff.1 hx).1
        simpa using this
      have hx' : X k = x := by
        simp [List.getElem?_map, List.getElem?_range hk] at hx
        exact hx
      subst hx'
      exact (hX k hk).1 j v hv
    · obtain ⟨r, hr, rfl⟩ := List.mem_map.1 hx
      exact (hX r (List.mem_range.1 hr)).2
set_option maxRecDepth 100000 in
theorem reqs_of {H : Type} {enc : TypeId × Value → H} {w : World} {base : Nat} {held : Bool} {A : Option Addr} {len cap : Nat} {d : DataW H} {p : List MemPlace} (h : DataW.Trod enc Tryz.prog w base (fun _ => true) held 51 (.slice A len cap) d p) :
    len ≤ cap ∧ cap ≤ 9223372036854775807 ∧ ∃ l, Rr w A len l ∧ ∀ x ∈ l, RV.ok x := by
  obtain ⟨h1, h2, h3⟩ := fields_of Tryz.underlying51 Tryz.underlying65 (by kernel_rfl) (by kernel_rfl) (by decide) h
  refine ⟨h1, by unfold maxLen at h2; omega, rc_of ?_⟩
  rcases h3 with h0 | ⟨b, o, hA, hf⟩
  · exact .inl h0
  · have each : ∀ r, r < len → ∃ x : RV, (∀ j v, (rvC x)[j]? = some v → w.cell? ⟨b, o + r * 8 + j, none⟩ = some v) ∧ RV.ok x := by
      intro r hr
      obtain ⟨v0, n0, y0, c0, t0⟩ := hf r hr 0 _ rfl
      obtain ⟨v1, n1, y1, c1, t1⟩ := hf r hr 1 _ rfl
      obtain ⟨v2, n2, y2, c2, t2⟩ := hf r hr 2 _ rfl
      obtain ⟨v3, n3, y3, c3, t3⟩ := hf r hr 3 _ rfl
      obtain ⟨v4, n4, y4, c4, t4⟩ := hf r hr 4 _ rfl
      obtain ⟨v5, n5, y5, c5, t5⟩ := hf r hr 5 _ rfl
      obtain ⟨v6, n6, y6, c6, t6⟩ := hf r hr 6 _ rfl
      obtain ⟨v7, n7, y7, c7, t7⟩ := hf r hr 7 _ rfl
      obtain ⟨z0, rfl, _⟩ := int_field Tryz.underlying3 t0
      obtain ⟨z1, rfl, _⟩ := int_field Tryz.underlying3 t1
      obtain ⟨z2, rfl, _⟩ := int_field Tryz.underlying3 t2
      obtain ⟨z3, rfl, _⟩ := int_field Tryz.underlying3 t3
      obtain ⟨z4, rfl, _⟩ := int_field Tryz.underlying3 t4
      obtain ⟨z5, rfl, _⟩ := int_field Tryz.underlying3 t5
      obtain ⟨s6, h6, _⟩ := DataW.trod_string Tryz.underlying9 t6
      obtain rfl : v6 = .string s6 := by simpa using h6
      obtain ⟨x6, rfl, b6, -⟩ := str_back s6
      obtain ⟨s7, h7, _⟩ := DataW.trod_string Tryz.underlying9 t7
      obtain rfl : v7 = .string s7 := by simpa using h7
      obtain ⟨x7, rfl, b7, -⟩ := str_back s7
      refine ⟨⟨z0, z1, z2, z3, z4, z5, x6, x7⟩, fun j v hv => ?_, ⟨b6, b7⟩⟩
      have hj : j < 8 := by
        have := (List.getElem?_eq_some_iff.1 hv).1
        simpa [rvC] using this
      have e : ∀ j, o + r * 8 + j = o + (r * 8 + j) := fun j => Nat.add_assoc _ _ _
      rw [e]
      match j, hj with
        | 0, _ => obtain rfl := Option.some.inj hv; exact c0
        | 1, _ => obtain rfl := Option.some.inj hv; exact c1
        | 2, _ => obtain rfl := Option.some.inj hv; exact c2
        | 3, _ => obtain rfl := Option.some.inj hv; exact c3
        | 4, _ => obtain rfl := Option.some.inj hv; exact c4
        | 5, _ => obtain rfl := Option.some.inj hv; exact c5
        | 6, _ => obtain rfl := Option.some.inj hv; exact c6
        | 7, _ => obtain rfl := Option.some.inj hv; exact c7
    haveI : Inhabited RV := ⟨⟨0, 0, 0, 0, 0, 0, [], []⟩⟩
    obtain ⟨X, hX⟩ := Go.Deep.choose_lt each
    exact .inr ⟨b, o, hA, X, hX⟩
set_option maxRecDepth 100000 in
theorem events_of {H : Type} {enc : TypeId × Value → H} {w : World} {base : Nat} {held : Bool} {A : Option Addr} {len cap : Nat} {d : DataW H} {p : List MemPlace} (h : DataW.Trod enc Tryz.prog w base (fun _ => true) held 40 (.slice A len cap) d p) :
    len ≤ cap ∧ cap ≤ 9223372036854775807 ∧ ∃ l, Rv w A len l ∧ ∀ x ∈ l, VV.ok x := by
  obtain ⟨h1, h2, h3⟩ := fields_of Tryz.underlying40 Tryz.underlying71 (by kernel_rfl) (by kernel_rfl) (by decide) h
  refine ⟨h1, by unfold maxLen at h2; omega, rc_of ?_⟩
  rcases h3 with h0 | ⟨b, o, hA, hf⟩
  · exact .inl h0
  · have each : ∀ r, r < len → ∃ x : VV, (∀ j v, (vvC x)[j]? = some v → w.cell? ⟨b, o + r * 9 + j, none⟩ = some v) ∧ VV.ok x := by
      intro r hr
      obtain ⟨v0, n0, y0, c0, t0⟩ := hf r hr 0 _ rfl
      obtain ⟨v1, n1, y1, c1, t1⟩ := hf r hr 1 _ rfl
      obtain ⟨v2, n2, y2, c2, t2⟩ := hf r hr 2 _ rfl
      obtain ⟨v3, n3, y3, c3, t3⟩ := hf r hr 3 _ rfl
      obtain ⟨v4, n4, y4, c4, t4⟩ := hf r hr 4 _ rfl
      obtain ⟨v5, n5, y5, c5, t5⟩ := hf r hr 5 _ rfl
      obtain ⟨v6, n6, y6, c6, t6⟩ := hf r hr 6 _ rfl
      obtain ⟨v7, n7, y7, c7, t7⟩ := hf r hr 7 _ rfl
      obtain ⟨v8, n8, y8, c8, t8⟩ := hf r hr 8 _ rfl
      obtain ⟨z0, rfl, _⟩ := int_field Tryz.underlying3 t0
      obtain ⟨z1, rfl, _⟩ := int_field Tryz.underlying3 t1
      obtain ⟨z2, rfl, _⟩ := int_field Tryz.underlying3 t2
      obtain ⟨z3, rfl, _⟩ := int_field Tryz.underlying3 t3
      obtain ⟨z4, rfl, _⟩ := int_field Tryz.underlying3 t4
      obtain ⟨z5, rfl, _⟩ := int_field Tryz.underlying3 t5
      obtain ⟨z6, rfl, _⟩ := int_field Tryz.underlying3 t6
      obtain ⟨s7, h7, _⟩ := DataW.trod_string Tryz.underlying9 t7
      obtain rfl : v7 = .string s7 := by simpa using h7
      obtain ⟨x7, rfl, b7, -⟩ := str_back s7
      obtain ⟨s8, h8, _⟩ := DataW.trod_string Tryz.underlying9 t8
      obtain rfl : v8 = .string s8 := by simpa using h8
      obtain ⟨x8, rfl, b8, -⟩ := str_back s8
      refine ⟨⟨z0, z1, z2, z3, z4, z5, z6, x7, x8⟩, fun j v hv => ?_, ⟨b7, b8⟩⟩
      have hj : j < 9 := by
        have := (List.getElem?_eq_some_iff.1 hv).1
        simpa [vvC] using this
      have e : ∀ j, o + r * 9 + j = o + (r * 9 + j) := fun j => Nat.add_assoc _ _ _
      rw [e]
      match j, hj with
        | 0, _ => obtain rfl := Option.some.inj hv; exact c0
        | 1, _ => obtain rfl := Option.some.inj hv; exact c1
        | 2, _ => obtain rfl := Option.some.inj hv; exact c2
        | 3, _ => obtain rfl := Option.some.inj hv; exact c3
        | 4, _ => obtain rfl := Option.some.inj hv; exact c4
        | 5, _ => obtain rfl := Option.some.inj hv; exact c5
        | 6, _ => obtain rfl := Option.some.inj hv; exact c6
        | 7, _ => obtain rfl := Option.some.inj hv; exact c7
        | 8, _ => obtain rfl := Option.some.inj hv; exact c8
    haveI : Inhabited VV := ⟨⟨0, 0, 0, 0, 0, 0, 0, [], []⟩⟩
    obtain ⟨X, hX⟩ := Go.Deep.choose_lt each
    exact .inr ⟨b, o, hA, X, hX⟩
set_option maxRecDepth 100000 in
theorem replies_of {H : Type} {enc : TypeId × Value → H} {w : World} {base : Nat} {held : Bool} {A : Option Addr} {len cap : Nat} {d : DataW H} {p : List MemPlace} (h : DataW.Trod enc Tryz.prog w base (fun _ => true) held 57 (.slice A len cap) d p) :
    len ≤ cap ∧ cap ≤ 9223372036854775807 ∧ ∃ l, Rp w A len l ∧ ∀ x ∈ l, (fun _ => True) x := by
  obtain ⟨h1, h2, h3⟩ := fields_of Tryz.underlying57 Tryz.underlying63 (by kernel_rfl) (by kernel_rfl) (by decide) h
  refine ⟨h1, by unfold maxLen at h2; omega, rc_of ?_⟩
  rcases h3 with h0 | ⟨b, o, hA, hf⟩
  · exact .inl h0
  · have each : ∀ r, r < len → ∃ x : PV, (∀ j v, (pvC x)[j]? = some v → w.cell? ⟨b, o + r * 2 + j, none⟩ = some v) ∧ (fun _ => True) x := by
      intro r hr
      obtain ⟨v0, n0, y0, c0, t0⟩ := hf r hr 0 _ rfl
      obtain ⟨v1, n1, y1, c1, t1⟩ := hf r hr 1 _ rfl
      obtain ⟨z0, rfl, _⟩ := int_field Tryz.underlying32 t0
      obtain ⟨z1, rfl, _⟩ := int_field Tryz.underlying3 t1
      refine ⟨⟨z0, z1⟩, fun j v hv => ?_, trivial⟩
      have hj : j < 2 := by
        have := (List.getElem?_eq_some_iff.1 hv).1
        simpa [pvC] using this
      have e : ∀ j, o + r * 2 + j = o + (r * 2 + j) := fun j => Nat.add_assoc _ _ _
      rw [e]
      match j, hj with
        | 0, _ => obtain rfl := Option.some.inj hv; exact c0
        | 1, _ => obtain rfl := Option.some.inj hv; exact c1
    haveI : Inhabited PV := ⟨⟨0, 0⟩⟩
    obtain ⟨X, hX⟩ := Go.Deep.choose_lt each
    exact .inr ⟨b, o, hA, X, hX⟩
set_option maxRecDepth 100000 in
theorem batch_arg {H : Type} {enc : TypeId × Value → H} {W : World} {r : Reach} {b0 base : Nat} {held : Bool} {v : Value} {d : DataW H} {p : List MemPlace}
    (hv : Value.okWide Tryz.prog W r b0 53 v) (h : DataW.Trod enc Tryz.prog W base (fun _ => true) held 53 v d p) : ∃ (s : Int) (A : Option Addr) (n c : Nat) (l : List RV), v = .agg #[.int .i64 s, .slice A n c] ∧ n ≤ c ∧ c ≤ 9223372036854775807 ∧ Rr W A n l ∧ ∀ r ∈ l, r.ok := by
  obtain ⟨v0, v1, y0, y1, n, rfl, -, -, h0, h1⟩ := Go.Joins.open_agg2 Tryz.underlying53 (by kernel_rfl) (by kernel_rfl) hv h
  obtain ⟨z0, rfl, -⟩ := int_field Tryz.underlying3 h0
  obtain ⟨A, l, c, rfl⟩ := slice_shape Tryz.underlying51 h1
  obtain ⟨h2, h3, L, h4, h5⟩ := reqs_of (d := y1.1) (p := y1.2) ⟨_, h1⟩
  exact ⟨z0, A, l, c, L, rfl, h2, h3, h4, h5⟩
set_option maxRecDepth 100000 in
theorem answer_arg {H : Type} {enc : TypeId × Value → H} {W : World} {r : Reach} {b0 base : Nat} {held : Bool} {v : Value} {d : DataW H} {p : List MemPlace}
    (hv : Value.okWide Tryz.prog W r b0 59 v) (h : DataW.Trod enc Tryz.prog W base (fun _ => true) held 59 v d p) : ∃ (t s : Int) (A : Option Addr) (n c : Nat) (l : List PV) (D : Option Addr) (m e : Nat) (u : List VV), v = .agg #[.int .i64 t, .int .i64 s, .slice A n c, .slice D m e] ∧ (n ≤ c ∧ c ≤ 9223372036854775807 ∧ m ≤ e ∧ e ≤ 9223372036854775807) ∧ Rp W A n l ∧ Rv W D m u ∧ ∀ r ∈ u, r.ok := by
  obtain ⟨v0, v1, v2, v3, y0, y1, y2, y3, n, rfl, -, -, h0, h1, h2, h3⟩ := Go.Joins.open_agg4 Tryz.underlying59 (by kernel_rfl) (by kernel_rfl) hv h
  obtain ⟨z0, rfl, -⟩ := int_field Tryz.underlying3 h0
  obtain ⟨z1, rfl, -⟩ := int_field Tryz.underlying3 h1
  obtain ⟨A, l, c, rfl⟩ := slice_shape Tryz.underlying57 h2
  obtain ⟨D, m, e, rfl⟩ := slice_shape Tryz.underlying40 h3
  obtain ⟨g2, g3, L, g4, -⟩ := replies_of (d := y2.1) (p := y2.2) ⟨_, h2⟩
  obtain ⟨k2, k3, M, k4, k5⟩ := events_of (d := y3.1) (p := y3.2) ⟨_, h3⟩
  exact ⟨z0, z1, A, l, c, L, D, m, e, M, rfl, ⟨g2, g3, k2, k3⟩, g4, k4, k5⟩
theorem array8 {cs : Array Value} (h : cs.size = 8) : ∃ c0 c1 c2 c3 c4 c5 c6 c7, cs = #[c0, c1, c2, c3, c4, c5, c6, c7] := by
  rcases cs with ⟨l⟩
  simp only [List.size_toArray] at h
  match l, h with
  | [a0, a1, a2, a3, a4, a5, a6, a7], _ => exact ⟨a0, a1, a2, a3, a4, a5, a6, a7, rfl⟩
set_option maxRecDepth 100000 in
theorem req_arg {H : Type} {enc : TypeId × Value → H} {W : World} {r : Reach} {b0 base : Nat} {held : Bool} {v : Value} {d : DataW H} {p : List MemPlace}
    (hv : Value.okWide Tryz.prog W r b0 65 v) (h : DataW.Trod enc Tryz.prog W base (fun _ => true) held 65 v d p) : ∃ r : RV, v = rqv r ∧ r.ok := by
  obtain ⟨cs, rfl, hsz⟩ := okWide_struct Tryz.underlying65 hv
  obtain ⟨c0, c1, c2, c3, c4, c5, c6, c7, rfl⟩ := array8 (hsz.trans (by kernel_rfl))
  obtain ⟨fuel, hf⟩ := h
  obtain ⟨xs, n, _, _, hl, hlen, hg⟩ := DataW.trod_struct Tryz.underlying65 hf
  have ei : Tryz.prog.cellsOf 3 = 1 := by kernel_rfl
  have es : Tryz.prog.cellsOf 9 = 1 := by kernel_rfl
  match xs, hlen with
  | [y0, y1, y2, y3, y4, y5, y6, y7], _ =>
    have t0 : DataW.trod enc Tryz.prog W base (fun _ => true) held n 3 [c0] = some y0 := by have := hg 0 _ rfl; simpa [ei, Value.cells] using this
    have t1 : DataW.trod enc Tryz.prog W base (fun _ => true) held n 3 [c1] = some y1 := by have := hg 1 _ rfl; simpa [ei, Value.cells] using this
    have t2 : DataW.trod enc Tryz.prog W base (fun _ => true) held n 3 [c2] = some y2 := by have := hg 2 _ rfl; simpa [ei, Value.cells] using this
    have t3 : DataW.trod enc Tryz.prog W base (fun _ => true) held n 3 [c3] = some y3 := by have := hg 3 _ rfl; simpa [ei, Value.cells] using this
    have t4 : DataW.trod enc Tryz.prog W base (fun _ => true) held n 3 [c4] = some y4 := by have := hg 4 _ rfl; simpa [ei, Value.cells] using this
    have t5 : DataW.trod enc Tryz.prog W base (fun _ => true) held n 3 [c5] = some y5 := by have := hg 5 _ rfl; simpa [ei, Value.cells] using this
    have t6 : DataW.trod enc Tryz.prog W base (fun _ => true) held n 9 [c6] = some y6 := by have := hg 6 _ rfl; simpa [es, Value.cells] using this
    have t7 : DataW.trod enc Tryz.prog W base (fun _ => true) held n 9 [c7] = some y7 := by have := hg 7 _ rfl; simpa [es, Value.cells] using this
    obtain ⟨z0, rfl, _⟩ := int_field Tryz.underlying3 t0
    obtain ⟨z1, rfl, _⟩ := int_field Tryz.underlying3 t1
    obtain ⟨z2, rfl, _⟩ := int_field Tryz.underlying3 t2
    obtain ⟨z3, rfl, _⟩ := int_field Tryz.underlying3 t3
    obtain ⟨z4, rfl, _⟩ := int_field Tryz.underlying3 t4
    obtain ⟨z5, rfl, _⟩ := int_field Tryz.underlying3 t5
    obtain ⟨s6, h6, _⟩ := DataW.trod_string Tryz.underlying9 t6
    obtain ⟨s7, h7, _⟩ := DataW.trod_string Tryz.underlying9 t7
    obtain rfl : c6 = .string s6 := by simpa using h6
    obtain rfl : c7 = .string s7 := by simpa using h7
    obtain ⟨x6, rfl, b6, -⟩ := str_back s6
    obtain ⟨x7, rfl, b7, -⟩ := str_back s7
    exact ⟨⟨z0, z1, z2, z3, z4, z5, x6, x7⟩, rfl, b6, b7⟩
end Go.Proofs.YtchcgoabogcabaaGreat.Req
