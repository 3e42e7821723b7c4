/-
  Chapter 16's law LinePlays: a row of operations that came in; the law's Few.
-/
import Derived.Test.YtfioaofmmplgcaaSealSpec
import Derived.Test.YtfioaofmmplgcaaCellsOf
import Derived.Deep.Slices
namespace Go.Proofs.Ytfioaofmmplgcaa.Line
open Go.RowKit Go.Proofs.Ytfioaofmmplgcaa.Sha Go.Proofs.Ytfioaofmmplgcaa.Seal Go.ChangeShapes Go.WideShapes Go.Deep

/-- an operation -/
structure OpV where
  kind : Int
  b : List Int
  n : NV
/-- its cells -/
def opC (x : OpV) (u v : Value) : Array Value := #[.int .i64 x.kind, u, .int .i64 x.n.party, .int .i64 x.n.which, .int .i64 x.n.way, .int .i64 x.n.seq, v]
/-- operation r of a row that came in -/
def OpAt (w : World) (b o r : Nat) (x : OpV) : Prop := ∃ A l c A2 l2 c2, (∀ (j : Nat) v, (opC x (.slice A l c) (.slice A2 l2 c2))[j]? = some v → w.cell? ⟨b, o + r * 7 + j, none⟩ = some v) ∧ Rd w A l x.b ∧ Rd w A2 l2 x.n.body
def Ops (w : World) (A : Option Addr) (n : Nat) (X : Nat → OpV) : Prop := n = 0 ∨ ∃ b o, A = some ⟨b, o, none⟩ ∧ ∀ r, r < n → OpAt w b o r (X r)
section
variable {H : Type} {enc : TypeId × Value → H} {w : World} {base : Nat} {held : Bool}
theorem list7 {l : List Value} (h : l.length = 7) : ∃ a b c d e f g, l = [a, b, c, d, e, f, g] := by
  match l, h with
  | [a, b, c, d, e, f, g], _ => exact ⟨a, b, c, d, e, f, g, rfl⟩
set_option maxRecDepth 100000 in
theorem ops_of {A : Option Addr} {len cap : Nat} {d : DataW H} {p : List MemPlace} (h : DataW.Trod enc Try.prog w base (fun _ => true) held 22 (.slice A len cap) d p) :
    len ≤ cap ∧ cap ≤ 9223372036854775807 ∧ ∃ X, Ops w A len X := by
  obtain ⟨h1, h2, h3⟩ := cells_of (C := 7) Try.underlying22 (by kernel_rfl) (by omega) h
  refine ⟨h1, by unfold maxLen at h2; omega, ?_⟩
  rcases h3 with h0 | ⟨b, o, hA, hf⟩
  · exact ⟨fun _ => ⟨0, [], ⟨0, 0, 0, 0, []⟩⟩, .inl h0⟩
  · have each : ∀ r, r < len → ∃ x : OpV, OpAt w b o r x := by
      intro r hr
      obtain ⟨cs, m, y, hl, hc, ht⟩ := hf r hr
      obtain ⟨c0, c1, c2, c3, c4, c5, c6, rfl⟩ := list7 hl
      obtain ⟨ys, n, -, -, -, hyl, hfl⟩ := DataW.trod_struct Try.underlying33 ht
      have f0 : DataW.trod enc Try.prog w base (fun _ => true) held n 3 (List.take (Try.prog.cellsOf 3) (List.drop 0 [c0, c1, c2, c3, c4, c5, c6])) = ys[0]? := hfl 0 _ rfl
      have f1 : DataW.trod enc Try.prog w base (fun _ => true) held n 29 (List.take (Try.prog.cellsOf 29) (List.drop 1 [c0, c1, c2, c3, c4, c5, c6])) = ys[1]? := hfl 1 _ rfl
      have f2 : DataW.trod enc Try.prog w base (fun _ => true) held n 31 (List.take (Try.prog.cellsOf 31) (List.drop 2 [c0, c1, c2, c3, c4, c5, c6])) = ys[2]? := hfl 2 _ rfl
      have hy3 : ys.length = 3 := hyl
      obtain ⟨y0, e0⟩ : ∃ y, ys[0]? = some y := ⟨_, List.getElem?_eq_getElem (by omega)⟩
      obtain ⟨y1, e1⟩ : ∃ y, ys[1]? = some y := ⟨_, List.getElem?_eq_getElem (by omega)⟩
      obtain ⟨y2, e2⟩ : ∃ y, ys[2]? = some y := ⟨_, List.getElem?_eq_getElem (by omega)⟩
      rw [e0] at f0; rw [e1] at f1; rw [e2] at f2
      have k1 : Try.prog.cellsOf 3 = 1 := by kernel_rfl
      have k2 : Try.prog.cellsOf 31 = 5 := by kernel_rfl
      have k3 : Try.prog.cellsOf 29 = 1 := by kernel_rfl
      rw [k1] at f0
      rw [k3] at f1
      rw [k2] at f2
      simp only [List.drop_zero, List.drop_succ_cons, List.take_succ_cons, List.take_zero] at f0 f1 f2
      obtain ⟨z0, rfl, _⟩ := int_field Try.underlying3 f0
      obtain ⟨A1, l1, d1, xs, rfl, -, -, r1⟩ := bytes_field Try.underlying29 Try.underlying5 (by kernel_rfl) f1
      obtain ⟨us, n2, -, -, -, hul, gfl⟩ := DataW.trod_struct Try.underlying31 f2
      have g0 : DataW.trod enc Try.prog w base (fun _ => true) held n2 3 (List.take (Try.prog.cellsOf 3) (List.drop 0 [c2, c3, c4, c5, c6])) = us[0]? := gfl 0 _ rfl
      have g1 : DataW.trod enc Try.prog w base (fun _ => true) held n2 3 (List.take (Try.prog.cellsOf 3) (List.drop 1 [c2, c3, c4, c5, c6])) = us[1]? := gfl 1 _ rfl
      have g2 : DataW.trod enc Try.prog w base (fun _ => true) held n2 3 (List.take (Try.prog.cellsOf 3) (List.drop 2 [c2, c3, c4, c5, c6])) = us[2]? := gfl 2 _ rfl
      have g3 : DataW.trod enc Try.prog w base (fun _ => true) held n2 3 (List.take (Try.prog.cellsOf 3) (List.drop 3 [c2, c3, c4, c5, c6])) = us[3]? := gfl 3 _ rfl
      have g4 : DataW.trod enc Try.prog w base (fun _ => true) held n2 29 (List.take (Try.prog.cellsOf 29) (List.drop 4 [c2, c3, c4, c5, c6])) = us[4]? := gfl 4 _ rfl
      have hu5 : us.length = 5 := hul
      obtain ⟨w0, i0⟩ : ∃ y, us[0]? = some y := ⟨_, List.getElem?_eq_getElem (by omega)⟩
      obtain ⟨w1, i1⟩ : ∃ y, us[1]? = some y := ⟨_, List.getElem?_eq_getElem (by omega)⟩
      obtain ⟨w2, i2⟩ : ∃ y, us[2]? = some y := ⟨_, List.getElem?_eq_getElem (by omega)⟩
      obtain ⟨w3, i3⟩ : ∃ y, us[3]? = some y := ⟨_, List.getElem?_eq_getElem (by omega)⟩
      obtain ⟨w4, i4⟩ : ∃ y, us[4]? = some y := ⟨_, List.getElem?_eq_getElem (by omega)⟩
      rw [i0, k1] at g0; rw [i1, k1] at g1; rw [i2, k1] at g2; rw [i3, k1] at g3; rw [i4, k3] at g4
      simp only [List.drop_zero, List.drop_succ_cons, List.take_succ_cons, List.take_zero] at g0 g1 g2 g3 g4
      obtain ⟨z2, rfl, _⟩ := int_field Try.underlying3 g0
      obtain ⟨z3, rfl, _⟩ := int_field Try.underlying3 g1
      obtain ⟨z4, rfl, _⟩ := int_field Try.underlying3 g2
      obtain ⟨z5, rfl, _⟩ := int_field Try.underlying3 g3
      obtain ⟨A6, l6, d6, ys6, rfl, -, -, r6⟩ := bytes_field Try.underlying29 Try.underlying5 (by kernel_rfl) g4
      refine ⟨⟨z0, xs, ⟨z2, z3, z4, z5, ys6⟩⟩, A1, l1, d1, A6, l6, d6, fun j v hv => ?_, r1, r6⟩
      have hj : j < 7 := by
        have := (Array.getElem?_eq_some_iff.1 hv).1
        simpa [opC] using this
      rw [Nat.add_assoc, hc j hj, ← hv]
      simp only [opC, List.getElem?_toArray]
    haveI : Inhabited OpV := ⟨⟨0, [], ⟨0, 0, 0, 0, []⟩⟩⟩
    obtain ⟨X, hX⟩ := Go.Deep.choose_lt each
    exact ⟨X, .inr ⟨b, o, hA, hX⟩⟩
end
theorem OpAt.below {w w' : World} {b o r : Nat} {x : OpV} (h : OpAt w b o r x) (k : Below w.heap.size w w') : OpAt w' b o r x := by
  obtain ⟨A, l, c, A2, l2, c2, h1, h2, h3⟩ := h
  exact ⟨A, l, c, A2, l2, c2, fun j v hv => by have hh := h1 j v hv; rw [k.cell (World.block_lt_of_cell? _ _ hh)]; exact hh, h2.below k, h3.below k⟩
def LFewPost (n : Nat) (X : Nat → OpV) (w : World) (e : Ending) (w' : World) : Prop := ∃ t : Bool, e = .returned (.bool t) ∧ (t = true → n ≤ 200 ∧ ∀ k, k < n → (X k).b.length ≤ 20000 ∧ (X k).n.body.length ≤ 20000) ∧ Below w.heap.size w w'
set_option maxRecDepth 100000 in
set_option maxHeartbeats 1000000 in
theorem lfew_any (A : Option Addr) (n cap : Nat) (X : Nat → OpV) (w : World) (hr : Ops w A n X) :
    Calls Try.prog 8 #[.slice A n cap] w (LFewPost n X w) := by
  have HR := Kept.mk hr
  clear hr
  obtain ⟨N, hN⟩ : ∃ N, w.heap.size = N := ⟨_, rfl⟩
  go_enter Try.func8, Try.ntmps8
  go_wp2
  go_loopw [3, 4] (fun s i wr => ∃ k z : Nat, k ≤ min n 200 ∧ z ≤ 40002 * k ∧ s = .int .i64 z ∧ i = .int .i64 k ∧ Kept (z ≤ 20000 → ∀ j, j < k → (X j).b.length ≤ 20000 ∧ (X j).n.body.length ≤ 20000) ∧ Kept (Below N w wr)) (fun _ i _ => min n 200 - (Go.RowKit.intOf i).toNat)
  case atStart => exact ⟨0, 0, by omega, by omega, rfl, rfl, ⟨fun _ j hj => by omega⟩, ⟨Below.refl _ _⟩⟩
  case round =>
    obtain ⟨k, z, hk, hz, rfl, rfl, HX, B⟩ := hrel
    by_cases hkn : k < n
    · have hkn' : (k : Int) < n := by omega
      by_cases hk2 : k < 200
      · have hk2' : (k : Int) < 200 := by omega
        obtain ⟨b, o, rfl, hc⟩ := HR.out.resolve_left (by omega)
        obtain ⟨A1, l1, c1, A2, l2, c2, h1, h2, h3⟩ := (hc k hkn).below (w' := wr) (hN.symm ▸ B.out)
        have e1 : wr.cell? ⟨b, o + k * 7 + 1, none⟩ = some (.slice A1 l1 c1) := h1 1 _ rfl
        have e6 : wr.cell? ⟨b, o + k * 7 + 2 + 4, none⟩ = some (.slice A2 l2 c2) := h1 6 _ rfl
        have hl1 := h2.1; have hl2 := h3.1
        clear hc h1 h2 h3
        go_upto_region 5 with (fail)
        by_cases q1 : l1 ≤ 20001
        · have m1 : min (l1 : Int) 20001 = l1 := by omega
          by_cases q2 : l2 ≤ 20001
          · have m2 : min (l2 : Int) 20001 = l2 := by omega
            go_quiet (fail)
            go_wp2
            go_round
            case rel => exact ⟨k + 1, z + l1 + l2, by omega, by omega, by go_num, by go_num, ⟨fun h j hj => by
              by_cases e : j = k
              · subst e; constructor <;> omega
              · exact HX.out (by omega) j (by omega)⟩, ⟨below_drewN B.out _⟩⟩
            case measure => simp [Go.RowKit.intOf]; omega
          · have m2 : min (l2 : Int) 20001 = 20001 := by omega
            go_quiet (fail)
            go_wp2
            go_round
            case rel => exact ⟨k + 1, z + l1 + 20001, by omega, by omega, by go_num, by go_num, ⟨fun h j hj => by
              by_cases e : j = k
              · subst e; constructor <;> omega
              · exact HX.out (by omega) j (by omega)⟩, ⟨below_drewN B.out _⟩⟩
            case measure => simp [Go.RowKit.intOf]; omega
        · have m1 : min (l1 : Int) 20001 = 20001 := by omega
          by_cases q2 : l2 ≤ 20001
          · have m2 : min (l2 : Int) 20001 = l2 := by omega
            go_quiet (fail)
            go_wp2
            go_round
            case rel => exact ⟨k + 1, z + 20001 + l2, by omega, by omega, by go_num, by go_num, ⟨fun h j hj => by
              by_cases e : j = k
              · subst e; constructor <;> omega
              · exact HX.out (by omega) j (by omega)⟩, ⟨below_drewN B.out _⟩⟩
            case measure => simp [Go.RowKit.intOf]; omega
          · have m2 : min (l2 : Int) 20001 = 20001 := by omega
            go_quiet (fail)
            go_wp2
            go_round
            case rel => exact ⟨k + 1, z + 20001 + 20001, by omega, by omega, by go_num, by go_num, ⟨fun h j hj => by
              by_cases e : j = k
              · subst e; constructor <;> omega
              · exact HX.out (by omega) j (by omega)⟩, ⟨below_drewN B.out _⟩⟩
            case measure => simp [Go.RowKit.intOf]; omega
      · obtain rfl : k = 200 := by omega
        have hk2' : ¬ ((200 : Nat) : Int) < 200 := by omega
        by_cases hn3 : n ≤ 200
        · omega
        · have hn2 : ¬ (n : Int) ≤ 200 := by omega
          go_wp2
          go_ret
          exact ⟨_, rfl, by simp, hN.symm ▸ B.out⟩
    · have hkn' : ¬ (k : Int) < n := by omega
      obtain rfl : k = n := by omega
      have hk3 : (k : Int) ≤ 200 := by omega
      by_cases hzT : z ≤ 20000
      · have hzT' : (z : Int) ≤ 20000 := by omega
        have HF := Kept.mk (HX.out hzT)
        go_wp2
        go_ret
        exact ⟨true, by simp, fun _ => ⟨by omega, HF.out⟩, hN.symm ▸ B.out⟩
      · have hzT' : ¬ (z : Int) ≤ 20000 := by omega
        have hzd : decide ((z : Int) ≤ 20000) = false := by simpa using hzT'
        go_wp2
        go_ret
        exact ⟨false, by simp, by simp, hN.symm ▸ B.out⟩
end Go.Proofs.Ytfioaofmmplgcaa.Line
