/-
  Parts laid together: EscrowOps.
-/
import Derived.Test.YtcebjpfmpagfjaaPart17
import Derived.Test.YtcebjpfmpagfjaaPart19

namespace Go.Proofs.Ytcebjpfmpagfjaa.Escrow
open Go.RowKit Go.Proofs.Ytcebjpfmpagfjaa.Sha Go.Proofs.Ytcebjpfmpagfjaa.Purse Go.Proofs.Ytcebjpfmpagfjaa.Num

theorem str_back (b : ByteArray) : ∃ xs : List Int, b = strOfNums xs ∧ Bytes xs ∧ xs.length = b.size := by
  refine ⟨b.data.toList.map fun u => (u.toNat : Int), ?_, ?_, (List.length_map _).trans Array.length_toList⟩
  · apply ByteArray.ext
    apply Array.toList_inj.1
    rw [strOfNums_data, List.map_map]
    conv => lhs; rw [← List.map_id b.data.toList]
    apply List.map_congr_left
    intro u _
    simp
  · intro x hx
    obtain ⟨u, -, rfl⟩ := List.mem_map.1 hx
    have := u.toNat_lt
    omega
/-- operation r of a row that came in -/
def OpAt (w : World) (g o r : Nat) (x : OE) : Prop :=
  (∀ j v, (opC x)[j]? = some v → w.cell? ⟨g, o + r * 11 + j, none⟩ = some v) ∧ x.ok
def Ops (w : World) (A : Option Addr) (n : Nat) (X : Nat → OE) : Prop := n = 0 ∨ ∃ b o, A = some ⟨b, o, none⟩ ∧ ∀ r, r < n → OpAt w b o r (X r)
theorem ops_of {H : Type} {enc : TypeId × Value → H} {w : World} {base : Nat} {held : Bool} {A : Option Addr} {len cap : Nat} {d : DataW H} {p : List MemPlace} (h : DataW.Trod enc Try.prog w base (fun _ => true) held 23 (.slice A len cap) d p) :
    len ≤ cap ∧ cap ≤ 9223372036854775807 ∧ ∃ X, Ops w A len X := by
  obtain ⟨h1, h2, h3⟩ := fields_of Try.underlying23 Try.underlying32 (by kernel_rfl) (by kernel_rfl) (by decide) h
  refine ⟨h1, by unfold maxLen at h2; omega, ?_⟩
  rcases h3 with h0 | ⟨b, o, hA, hf⟩
  · exact ⟨fun _ => ⟨0, 0, 0, 0, 0, 0, 0, 0, [], false, 0⟩, .inl h0⟩
  · have each : ∀ r, r < len → ∃ x, OpAt w b o r x := by
      intro r hr
      obtain ⟨v0, n0, y0, c0, t0⟩ := hf r hr 0 _ rfl
      obtain ⟨v1, n1, y1, c1, t1⟩ := hf r hr 1 _ rfl
      obtain ⟨v2, n2, y2, c2, t2⟩ := hf r hr 2 _ rfl
      obtain ⟨v3, n3, y3, c3, t3⟩ := hf r hr 3 _ rfl
      obtain ⟨v4, n4, y4, c4, t4⟩ := hf r hr 4 _ rfl
      obtain ⟨v5, n5, y5, c5, t5⟩ := hf r hr 5 _ rfl
      obtain ⟨v6, n6, y6, c6, t6⟩ := hf r hr 6 _ rfl
      obtain ⟨v7, n7, y7, c7, t7⟩ := hf r hr 7 _ rfl
      obtain ⟨v8, n8, y8, c8, t8⟩ := hf r hr 8 _ rfl
      obtain ⟨v9, n9, y9, c9, t9⟩ := hf r hr 9 _ rfl
      obtain ⟨va, na, ya, ca, ta⟩ := hf r hr 10 _ rfl
      obtain ⟨z0, rfl, _⟩ := int_field Try.underlying3 t0
      obtain ⟨z1, rfl, _⟩ := int_field Try.underlying3 t1
      obtain ⟨z2, rfl, _⟩ := int_field Try.underlying3 t2
      obtain ⟨z3, rfl, _⟩ := int_field Try.underlying3 t3
      obtain ⟨z4, rfl, _⟩ := int_field Try.underlying3 t4
      obtain ⟨z5, rfl, _⟩ := int_field Try.underlying3 t5
      obtain ⟨z6, rfl, _⟩ := int_field Try.underlying3 t6
      obtain ⟨z7, rfl, _⟩ := int_field Try.underlying3 t7
      obtain ⟨s8, h8, _⟩ := DataW.trod_string Try.underlying9 t8
      obtain ⟨b9, h9, _⟩ := DataW.trod_bool Try.underlying4 t9
      obtain ⟨za, rfl, wa⟩ := int_field Try.underlying5 ta
      obtain rfl : v8 = .string s8 := by simpa using h8
      obtain rfl : v9 = .bool b9 := by simpa using h9
      obtain ⟨xs, rfl, hb, -⟩ := str_back s8
      refine ⟨⟨z0, z1, z2, z3, z4, z5, z6, z7, xs, b9, za⟩, fun j v hv => ?_, ⟨?_, hb⟩⟩
      · have hj : j < 11 := by
          have := (Array.getElem?_eq_some_iff.1 hv).1
          simpa [opC] using this
        match j, hj with
        | 0, _ => obtain rfl := Option.some.inj hv; exact c0
        | 1, _ => obtain rfl := Option.some.inj hv; exact c1
        | 2, _ => obtain rfl := Option.some.inj hv; exact c2
        | 3, _ => obtain rfl := Option.some.inj hv; exact c3
        | 4, _ => obtain rfl := Option.some.inj hv; exact c4
        | 5, _ => obtain rfl := Option.some.inj hv; exact c5
        | 6, _ => obtain rfl := Option.some.inj hv; exact c6
        | 7, _ => obtain rfl := Option.some.inj hv; exact c7
        | 8, _ => obtain rfl := Option.some.inj hv; exact c8
        | 9, _ => obtain rfl := Option.some.inj hv; exact c9
        | 10, _ => obtain rfl := Option.some.inj hv; exact ca
      · have := (Lit.wf_int_iff _ _).1 wa
        simp only [show IntKind.u8.min = 0 from rfl, show IntKind.u8.max = 255 from rfl] at this
        exact this
    haveI : Inhabited OE := ⟨⟨0, 0, 0, 0, 0, 0, 0, 0, [], false, 0⟩⟩
    obtain ⟨X, hX⟩ := Go.Deep.choose_lt each
    exact ⟨X, .inr ⟨b, o, hA, hX⟩⟩
/-- one of the operations, whatever came behind -/
theorem OpAt.later {w wr : World} {b o r : Nat} {x : OE} (h : OpAt w b o r x) (B : Kept (Below w.heap.size w wr)) : OpAt wr b o r x :=
  ⟨fun j v hv => by
    have hh := h.1 j v hv
    rw [B.out.cell (World.block_lt_of_cell? _ _ hh)]; exact hh, h.2⟩
theorem Ops.at_ {w : World} {A : Option Addr} {n : Nat} {X : Nat → OE} (h : Kept (Ops w A n X)) (r : Nat) (hr : r < n) : ∃ b o, A = some ⟨b, o, none⟩ ∧ OpAt w b o r (X r) := by
  obtain ⟨b, o, hA, hc⟩ := h.out.resolve_left (by omega)
  exact ⟨b, o, hA, hc r hr⟩
def FewPost (n : Nat) (w : World) (e : Ending) (w' : World) : Prop := ∃ t : Bool, e = .returned (.bool t) ∧ (t = true → n ≤ 200) ∧ w = w'
set_option maxRecDepth 100000 in
set_option maxHeartbeats 1000000 in
theorem few_any (A : Option Addr) (n cap : Nat) (X : Nat → OE) (w : World) (hr : Ops w A n X) :
    Calls Try.prog 8 #[.slice A n cap] w (FewPost n w) := by
  have HR := Kept.mk hr
  clear hr
  go_enter Try.func8, Try.ntmps8
  go_wp2
  go_loop [3, 4] (fun s i => ∃ k z : Nat, k ≤ min n 200 ∧ z ≤ 20001 * k ∧ s = .int .i64 z ∧ i = .int .i64 k) (fun _ i => min n 200 - (intOf i).toNat)
  case atStart => exact ⟨0, 0, by omega, by omega, rfl, rfl⟩
  case round =>
    obtain ⟨k, z, hk, hz, rfl, rfl⟩ := hrel
    by_cases hkn : k < n
    · have hkn' : (k : Int) < n := by omega
      by_cases hk2 : k < 200
      · have hk2' : (k : Int) < 200 := by omega
        obtain ⟨b, o, rfl, hc⟩ := HR.out.resolve_left (by omega)
        have h8 : w.cell? ⟨b, o + k * 11 + 8, none⟩ = some (.string (strOfNums (X k).hash)) := (hc k hkn).1 8 _ rfl
        clear hc
        obtain ⟨l, hl0⟩ : ∃ l, (strOfNums (X k).hash).size = l := ⟨_, rfl⟩
        generalize strOfNums (X k).hash = S at *
        by_cases hl : l ≤ 20001
        · have hmin : min (l : Int) 20001 = l := by omega
          go_wp2
          go_round
          case rel => exact ⟨k + 1, z + l, by omega, by omega, by go_num, by go_num⟩
          case measure => simp [intOf]; omega
        · have hmin : min (l : Int) 20001 = 20001 := by omega
          go_wp2
          go_round
          case rel => exact ⟨k + 1, z + 20001, by omega, by omega, by go_num, by go_num⟩
          case measure => simp [intOf]; omega
      · obtain rfl : k = 200 := by omega
        have hk2' : ¬ ((200 : Nat) : Int) < 200 := by omega
        by_cases hn3 : n ≤ 200
        · omega
        · have hn2 : ¬ (n : Int) ≤ 200 := by omega
          go_wp2
          go_ret
          exact ⟨_, rfl, by simp, rfl⟩
    · have hkn' : ¬ (k : Int) < n := by omega
      obtain rfl : k = n := by omega
      have hk3 : (k : Int) ≤ 200 := by omega
      go_wp2
      go_ret
      exact ⟨_, rfl, fun _ => by omega, rfl⟩
end Go.Proofs.Ytcebjpfmpagfjaa.Escrow
