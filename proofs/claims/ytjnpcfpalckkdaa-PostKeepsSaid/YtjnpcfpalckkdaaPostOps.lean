/-
  Chapter 17's laws: a row of operations that came in; the laws' Few.
-/
import Derived.Test.YtjnpcfpalckkdaaMemB
import Derived.Test.YtjnpcfpalckkdaaCellsOf
import Derived.Deep.Slices
namespace Go.Proofs.Ytjnpcfpalckkdaa.Post
open Go.RowKit Go.Proofs.Ytjnpcfpalckkdaa.Sha Go.ChangeShapes Go.WideShapes Go.Deep

/-- an operation -/
structure OpV where
  kind : Int
  n : Int
  b : List Int
/-- its cells -/
def opC (x : OpV) (u : Value) : Array Value := #[.int .i64 x.kind, .int .i64 x.n, u]
/-- operation r of a row that came in -/
def OpAt (w : World) (b o r : Nat) (x : OpV) : Prop := ∃ A l c, (∀ (j : Nat) v, (opC x (.slice A l c))[j]? = some v → w.cell? ⟨b, o + r * 3 + j, none⟩ = some v) ∧ Rd w A l x.b
def Ops (w : World) (A : Option Addr) (n : Nat) (X : Nat → OpV) : Prop := n = 0 ∨ ∃ b o, A = some ⟨b, o, none⟩ ∧ ∀ r, r < n → OpAt w b o r (X r)
section
variable {H : Type} {enc : TypeId × Value → H} {w : World} {base : Nat} {held : Bool}
theorem list3 {l : List Value} (h : l.length = 3) : ∃ a b c, l = [a, b, c] := by
  match l, h with
  | [a, b, c], _ => exact ⟨a, b, c, rfl⟩
set_option maxRecDepth 100000 in
theorem ops_of {A : Option Addr} {len cap : Nat} {d : DataW H} {p : List MemPlace} (h : DataW.Trod enc Try.prog w base (fun _ => true) held 22 (.slice A len cap) d p) :
    len ≤ cap ∧ cap ≤ 9223372036854775807 ∧ ∃ X, Ops w A len X := by
  obtain ⟨h1, h2, h3⟩ := cells_of (C := 3) Try.underlying22 (by kernel_rfl) (by omega) h
  refine ⟨h1, by unfold maxLen at h2; omega, ?_⟩
  rcases h3 with h0 | ⟨b, o, hA, hf⟩
  · exact ⟨fun _ => ⟨0, 0, []⟩, .inl h0⟩
  · have each : ∀ r, r < len → ∃ x : OpV, OpAt w b o r x := by
      intro r hr
      obtain ⟨cs, m, y, hl, hc, ht⟩ := hf r hr
      obtain ⟨c0, c1, c2, rfl⟩ := list3 hl
      obtain ⟨ys, n, -, -, -, hyl, hfl⟩ := DataW.trod_struct Try.underlying34 ht
      have f0 : DataW.trod enc Try.prog w base (fun _ => true) held n 3 (List.take (Try.prog.cellsOf 3) (List.drop 0 [c0, c1, c2])) = ys[0]? := hfl 0 _ rfl
      have f1 : DataW.trod enc Try.prog w base (fun _ => true) held n 3 (List.take (Try.prog.cellsOf 3) (List.drop 1 [c0, c1, c2])) = ys[1]? := hfl 1 _ rfl
      have f2 : DataW.trod enc Try.prog w base (fun _ => true) held n 32 (List.take (Try.prog.cellsOf 32) (List.drop 2 [c0, c1, c2])) = ys[2]? := hfl 2 _ rfl
      have hy3 : ys.length = 3 := hyl
      obtain ⟨y0, e0⟩ : ∃ y, ys[0]? = some y := ⟨_, List.getElem?_eq_getElem (by omega)⟩
      obtain ⟨y1, e1⟩ : ∃ y, ys[1]? = some y := ⟨_, List.getElem?_eq_getElem (by omega)⟩
      obtain ⟨y2, e2⟩ : ∃ y, ys[2]? = some y := ⟨_, List.getElem?_eq_getElem (by omega)⟩
      rw [e0] at f0; rw [e1] at f1; rw [e2] at f2
      have k1 : Try.prog.cellsOf 3 = 1 := by kernel_rfl
      have k3 : Try.prog.cellsOf 32 = 1 := by kernel_rfl
      rw [k1] at f0 f1
      rw [k3] at f2
      simp only [List.drop_zero, List.drop_succ_cons, List.take_succ_cons, List.take_zero] at f0 f1 f2
      obtain ⟨z0, rfl, _⟩ := int_field Try.underlying3 f0
      obtain ⟨z1, rfl, _⟩ := int_field Try.underlying3 f1
      obtain ⟨A1, l1, d1, xs, rfl, -, -, r1⟩ := bytes_field Try.underlying32 Try.underlying5 (by kernel_rfl) f2
      refine ⟨⟨z0, z1, xs⟩, A1, l1, d1, fun j v hv => ?_, r1⟩
      have hj : j < 3 := by
        have := (Array.getElem?_eq_some_iff.1 hv).1
        simpa [opC] using this
      rw [Nat.add_assoc, hc j hj, ← hv]
      simp only [opC, List.getElem?_toArray]
    haveI : Inhabited OpV := ⟨⟨0, 0, []⟩⟩
    obtain ⟨X, hX⟩ := Go.Deep.choose_lt each
    exact ⟨X, .inr ⟨b, o, hA, hX⟩⟩
end
theorem OpAt.below {w w' : World} {b o r : Nat} {x : OpV} (h : OpAt w b o r x) (k : Below w.heap.size w w') : OpAt w' b o r x := by
  obtain ⟨A, l, c, h1, h2⟩ := h
  exact ⟨A, l, c, fun j v hv => by have hh := h1 j v hv; rw [k.cell (World.block_lt_of_cell? _ _ hh)]; exact hh, h2.below k⟩
theorem Ops.below {w w' : World} {A : Option Addr} {n : Nat} {X : Nat → OpV} (h : Ops w A n X) (k : Below w.heap.size w w') : Ops w' A n X :=
  h.imp id (fun ⟨b, o, e, hc⟩ => ⟨b, o, e, fun r hr => (hc r hr).below k⟩)
def FewP (n : Nat) (w : World) (e : Ending) (w' : World) : Prop := ∃ t : Bool, e = .returned (.bool t) ∧ (t = true → n ≤ 300) ∧ Below w.heap.size w w'
set_option maxRecDepth 100000 in
set_option maxHeartbeats 1000000 in
theorem few_any (A : Option Addr) (n cap : Nat) (X : Nat → OpV) (w : World) (hr : Ops w A n X) :
    Calls Try.prog 8 #[.slice A n cap] w (FewP n w) := by
  have HR := Kept.mk hr
  clear hr
  obtain ⟨N, hN⟩ : ∃ N, w.heap.size = N := ⟨_, rfl⟩
  go_enter Try.func8, Try.ntmps8
  go_wp2
  go_loopw [3, 4] (fun s i wr => ∃ k z : Nat, k ≤ min n 300 ∧ z ≤ 200001 * k ∧ s = .int .i64 z ∧ i = .int .i64 k ∧ Kept (Below N w wr)) (fun _ i _ => min n 300 - (Go.RowKit.intOf i).toNat)
  case atStart => exact ⟨0, 0, by omega, by omega, rfl, rfl, ⟨Below.refl _ _⟩⟩
  case round =>
    obtain ⟨k, z, hk, hz, rfl, rfl, B⟩ := hrel
    by_cases hkn : k < n
    · have hkn' : (k : Int) < n := by omega
      by_cases hk2 : k < 300
      · have hk2' : (k : Int) < 300 := by omega
        obtain ⟨b, o, rfl, hc⟩ := HR.out.resolve_left (by omega)
        obtain ⟨A1, l1, c1, h1, h2⟩ := (hc k hkn).below (w' := wr) (hN.symm ▸ B.out)
        have e1 : wr.cell? ⟨b, o + k * 3 + 2, none⟩ = some (.slice A1 l1 c1) := h1 2 _ rfl
        clear hc h1 h2
        by_cases q1 : l1 ≤ 200001
        · have m1 : min (l1 : Int) 200001 = l1 := by omega
          go_wp2
          go_round
          case rel => exact ⟨k + 1, z + l1, by omega, by omega, by go_num, by go_num, B⟩
          case measure => simp [Go.RowKit.intOf]; omega
        · have m1 : min (l1 : Int) 200001 = 200001 := by omega
          go_wp2
          go_round
          case rel => exact ⟨k + 1, z + 200001, by omega, by omega, by go_num, by go_num, B⟩
          case measure => simp [Go.RowKit.intOf]; omega
      · obtain rfl : k = 300 := by omega
        have hk2' : ¬ ((300 : Nat) : Int) < 300 := by omega
        by_cases hn3 : n ≤ 300
        · omega
        · have hn2 : ¬ (n : Int) ≤ 300 := by omega
          go_wp2
          go_ret
          exact ⟨_, rfl, by simp, hN.symm ▸ B.out⟩
    · have hkn' : ¬ (k : Int) < n := by omega
      obtain rfl : k = n := by omega
      have hk3 : (k : Int) ≤ 300 := by omega
      by_cases hzT : z ≤ 200000
      · have hzT' : (z : Int) ≤ 200000 := by omega
        go_wp2
        go_ret
        exact ⟨true, by simp, fun _ => by omega, hN.symm ▸ B.out⟩
      · have hzT' : ¬ (z : Int) ≤ 200000 := by omega
        have hzd : decide ((z : Int) ≤ 200000) = false := by simpa using hzT'
        go_wp2
        go_ret
        exact ⟨false, by simp, by simp, hN.symm ▸ B.out⟩
end Go.Proofs.Ytjnpcfpalckkdaa.Post
