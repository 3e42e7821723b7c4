/-
  Parts laid together: JOps.
-/
import Derived.Test.YtkbehjdglgpgjaaGreatPart3
import Derived.Test.YtkbehjdglgpgjaaGreatPart4
import Derived.Test.YtkbehjdglgpgjaaGreatPart31
import Derived.Test.YtkbehjdglgpgjaaGreatPart7

namespace Go.Proofs.YtkbehjdglgpgjaaGreat.Journal
open Go.RowKit Go.Proofs.YtkbehjdglgpgjaaGreat.Sha

structure OpJ where
 kind : Int
 i : Int
 n : Int
 b : List Int
 keep : List Bool
def OpAt (w : World) (g o r : Nat) (x : OpJ) : Prop :=
 w.cell? ⟨g, o + r * 5, none⟩ = some (.int .i64 x.kind) ∧ w.cell? ⟨g, o + r * 5 + 1, none⟩ = some (.int .i64 x.i) ∧ w.cell? ⟨g, o + r * 5 + 2, none⟩ = some (.int .i64 x.n) ∧ x.n ≤ 9223372036854775807 ∧
  (∃ A l c, w.cell? ⟨g, o + r * 5 + 3, none⟩ = some (.slice A l c) ∧ l ≤ c ∧ c ≤ 9223372036854775807 ∧ Rd w A l x.b) ∧
  ∃ A l c, w.cell? ⟨g, o + r * 5 + 4, none⟩ = some (.slice A l c) ∧ l ≤ c ∧ c ≤ 9223372036854775807 ∧ Rb w A l x.keep
def Ops (w : World) (A : Option Addr) (n : Nat) (X : Nat → OpJ) : Prop := n = 0 ∨ ∃ b o, A = some ⟨b, o, none⟩ ∧ ∀ r, r < n → OpAt w b o r (X r)
theorem ops_of {H : Type} {enc : TypeId × Value → H} {w : World} {base : Nat} {held : Bool} {A : Option Addr} {len cap : Nat} {d : DataW H} {p : List MemPlace} (h : DataW.Trod enc Tryz.prog w base (fun _ => true) held 22 (.slice A len cap) d p) :
  len ≤ cap ∧ cap ≤ 9223372036854775807 ∧ ∃ X, Ops w A len X := by
 obtain ⟨h1, h2, h3⟩ := fields_of Tryz.underlying22 Tryz.underlying41 (by kernel_rfl) (by kernel_rfl) (by decide) h
 refine ⟨h1, by unfold maxLen at h2; omega, ?_⟩
 rcases h3 with h0 | ⟨b, o, hA, hf⟩
 ·exact ⟨fun _ => ⟨0, 0, 0, [], []⟩, .inl h0⟩
 ·have each : ∀ r, r < len → ∃ x, OpAt w b o r x := by
   intro r hr
   obtain ⟨v0, n0, y0, c0, t0⟩ := hf r hr 0 _ rfl
   obtain ⟨v1, n1, y1, c1, t1⟩ := hf r hr 1 _ rfl
   obtain ⟨v2, n2, y2, c2, t2⟩ := hf r hr 2 _ rfl
   obtain ⟨v3, n3, y3, c3, t3⟩ := hf r hr 3 _ rfl
   obtain ⟨v4, n4, y4, c4, t4⟩ := hf r hr 4 _ rfl
   obtain ⟨z0, rfl, _⟩ := int_field Tryz.underlying3 t0
   obtain ⟨z1, rfl, _⟩ := int_field Tryz.underlying3 t1
   obtain ⟨z2, rfl, w2⟩ := int_field Tryz.underlying3 t2
   obtain ⟨a3, l3, k3, xs, rfl, e1, e2, e3⟩ := bytes_field Tryz.underlying38 Tryz.underlying5 (by kernel_rfl) t3
   obtain ⟨a, l, c, bs, rfl, g1, g2, g3⟩ := bools_field Tryz.underlying39 Tryz.underlying4 (by kernel_rfl) t4
   refine ⟨⟨z0, z1, z2, xs, bs⟩, c0, c1, c2, ?_, ⟨a3, l3, k3, c3, e1, e2, e3⟩, a, l, c, c4, g1, g2, g3⟩
   have := (Lit.wf_int_iff _ _).1 w2
   simp only [show IntKind.i64.max = 9223372036854775807 from rfl] at this
   exact this.2
  haveI : Inhabited OpJ := ⟨⟨0, 0, 0, [], []⟩⟩
  obtain ⟨X, hX⟩ := Go.Deep.choose_lt each
  exact ⟨X, .inr ⟨b, o, hA, hX⟩⟩
theorem OpAt.later {w wr : World} {b o r : Nat} {x : OpJ} (h : OpAt w b o r x) (B : Kept (Below w.heap.size w wr)) : OpAt wr b o r x := by
 obtain ⟨h0, h1, h2, h3, ⟨A, l, c, h5, h6, h7, h8⟩, A', l', c', k5, k6, k7, k8⟩ := h
 have f : ∀ {i : Nat} {v : Value}, w.cell? ⟨b, i, none⟩ = some v → wr.cell? ⟨b, i, none⟩ = some v := fun {i v} hh => by rw [B.out.cell (World.block_lt_of_cell? _ _ hh)]; exact hh
 exact ⟨f h0, f h1, f h2, h3, ⟨A, l, c, f h5, h6, h7, h8.below B.out⟩, A', l', c', f k5, k6, k7, k8.below B.out⟩
theorem Ops.at_ {w : World} {A : Option Addr} {n : Nat} {X : Nat → OpJ} (h : Kept (Ops w A n X)) (r : Nat) (hr : r < n) : ∃ b o, A = some ⟨b, o, none⟩ ∧ OpAt w b o r (X r) := by
 obtain ⟨b, o, hA, hc⟩ := h.out.resolve_left (by omega)
 exact ⟨b, o, hA, hc r hr⟩
def lenO : Value → Int | .int _ q => q | _ => 0
def FewPost (n : Nat) (X : Nat → OpJ) (w : World) (e : Ending) (w' : World) : Prop := ∃ t : Bool, e = .returned (.bool t) ∧ (t = true → n ≤ 100 ∧ ∀ r, r < n → (X r).b.length ≤ 20000) ∧ Below w.heap.size w w'
def cutSum (X : Nat → OpJ) (L : Nat → Nat) : Nat → Nat
 | 0 => 0
 | k + 1 => cutSum X L k + min (X k).b.length 20001 + min (L k) 20001
theorem cutSum_le (X : Nat → OpJ) (L : Nat → Nat) : ∀ {k r : Nat}, r < k → min (X r).b.length 20001 ≤ cutSum X L k
  | k + 1, r, h => by
    show _ ≤ cutSum X L k + min (X k).b.length 20001 + min (L k) 20001
    by_cases he : r = k
    · subst he; omega
    · have := cutSum_le X L (show r < k by omega); omega
set_option maxRecDepth 100000 in
set_option maxHeartbeats 2000000 in
theorem few_any (A : Option Addr) (n cap : Nat) (X : Nat → OpJ) (w : World) (hr : Ops w A n X) :
  Calls Tryz.prog 5 #[.slice A n cap] w (FewPost n X w) := by
 have HR := Kept.mk hr
 have HL : Kept (∀ r, r < n → (X r).keep.length = (X r).keep.length) := ⟨fun _ _ => rfl⟩
 clear hr HL
 go_enter Tryz.func5, Tryz.ntmps5
 go_wp2
 go_loopw [3, 4] (fun s i wr => ∃ k z : Nat, k ≤ min n 100 ∧ z = cutSum X (fun r => (X r).keep.length) k ∧ z ≤ 40002 * k ∧ s = .int .i64 z ∧ i = .int .i64 k ∧ Kept (Below w.heap.size w wr)) (fun _ i _ => min n 100 - (lenO i).toNat)
 case atStart => exact ⟨0, 0, by omega, rfl, by omega, rfl, rfl, ⟨Below.refl _ _⟩⟩
 case round =>
  obtain ⟨k, z, hk, hzc, hz, rfl, rfl, HB⟩ := hrel
  have HZ := Kept.mk hzc
  clear hzc
  by_cases hkn : k < n
  ·have hkn' : (k : Int) < n := by omega
   by_cases hk2 : k < 100
   ·have hk2' : (k : Int) < 100 := by omega
    obtain ⟨b, o, rfl, hc⟩ := Ops.at_ HR k hkn
    obtain ⟨-, -, -, -, ⟨a, l, c, h3, h4, h5, h6⟩, a', l', c', k3, k4, k5, k6⟩ := hc.later HB
    by_cases hl : l ≤ 20001
    ·by_cases hl' : l' ≤ 20001
     ·skip
      have HS : Kept (z + l + l' = cutSum X (fun r => (X r).keep.length) (k + 1)) := ⟨by
       show _ = cutSum X (fun r => (X r).keep.length) k + min (X k).b.length 20001 + min (X k).keep.length 20001
       rw [← HZ.out, h6.1, k6.1]; omega⟩
      have W1 : IntKind.i64.wrap ((z : Int) + (l : Int)) = ((z + l : Nat) : Int) := by simp only [IntKind.wrap_i64]; omega
      have W2 : IntKind.i64.wrap (((z + l : Nat) : Int) + (l' : Int)) = ((z + l + l' : Nat) : Int) := by simp only [IntKind.wrap_i64]; omega
      have W3 : IntKind.i64.wrap ((z : Int) + (l : Int) + (l' : Int)) = ((z + l + l' : Nat) : Int) := by simp only [IntKind.wrap_i64]; omega
      clear hc h6 k6
      go_upto_region 5 with (fail)
      go_quiet (fail)
      have HB2 : Kept (Below w.heap.size w (wr.drewN nq)) := ⟨below_drewN HB.out _⟩
      generalize wr.drewN nq = w2 at *
      clear HB W1 W2 W3
      go_wp2
      go_roundw
      case rel => exact ⟨k + 1, z + l + l', by omega, HS.out, by omega, by go_num, by go_num, HB2⟩
      case measure => simp only [lenO]; omega
     ·skip
      have HS : Kept (z + l + 20001 = cutSum X (fun r => (X r).keep.length) (k + 1)) := ⟨by
       show _ = cutSum X (fun r => (X r).keep.length) k + min (X k).b.length 20001 + min (X k).keep.length 20001
       rw [← HZ.out, h6.1, k6.1]; omega⟩
      have W1 : IntKind.i64.wrap ((z : Int) + (l : Int)) = ((z + l : Nat) : Int) := by simp only [IntKind.wrap_i64]; omega
      have W2 : IntKind.i64.wrap (((z + l : Nat) : Int) + 20001) = ((z + l + 20001 : Nat) : Int) := by simp only [IntKind.wrap_i64]; omega
      have W3 : IntKind.i64.wrap ((z : Int) + (l : Int) + 20001) = ((z + l + 20001 : Nat) : Int) := by simp only [IntKind.wrap_i64]; omega
      clear hc h6 k6
      go_upto_region 5 with (fail)
      go_quiet (fail)
      have HB2 : Kept (Below w.heap.size w (wr.drewN nq)) := ⟨below_drewN HB.out _⟩
      generalize wr.drewN nq = w2 at *
      clear HB W1 W2 W3
      go_wp2
      go_roundw
      case rel => exact ⟨k + 1, z + l + 20001, by omega, HS.out, by omega, by go_num, by go_num, HB2⟩
      case measure => simp only [lenO]; omega
    ·by_cases hl' : l' ≤ 20001
     ·skip
      have HS : Kept (z + 20001 + l' = cutSum X (fun r => (X r).keep.length) (k + 1)) := ⟨by
       show _ = cutSum X (fun r => (X r).keep.length) k + min (X k).b.length 20001 + min (X k).keep.length 20001
       rw [← HZ.out, h6.1, k6.1]; omega⟩
      have W1 : IntKind.i64.wrap ((z : Int) + 20001) = ((z + 20001 : Nat) : Int) := by simp only [IntKind.wrap_i64]; omega
      have W2 : IntKind.i64.wrap (((z + 20001 : Nat) : Int) + (l' : Int)) = ((z + 20001 + l' : Nat) : Int) := by simp only [IntKind.wrap_i64]; omega
      have W3 : IntKind.i64.wrap ((z : Int) + 20001 + (l' : Int)) = ((z + 20001 + l' : Nat) : Int) := by simp only [IntKind.wrap_i64]; omega
      clear hc h6 k6
      go_upto_region 5 with (fail)
      go_quiet (fail)
      have HB2 : Kept (Below w.heap.size w (wr.drewN nq)) := ⟨below_drewN HB.out _⟩
      generalize wr.drewN nq = w2 at *
      clear HB W1 W2 W3
      go_wp2
      go_roundw
      case rel => exact ⟨k + 1, z + 20001 + l', by omega, HS.out, by omega, by go_num, by go_num, HB2⟩
      case measure => simp only [lenO]; omega
     ·skip
      have HS : Kept (z + 20001 + 20001 = cutSum X (fun r => (X r).keep.length) (k + 1)) := ⟨by
       show _ = cutSum X (fun r => (X r).keep.length) k + min (X k).b.length 20001 + min (X k).keep.length 20001
       rw [← HZ.out, h6.1, k6.1]; omega⟩
      have W1 : IntKind.i64.wrap ((z : Int) + 20001) = ((z + 20001 : Nat) : Int) := by simp only [IntKind.wrap_i64]; omega
      have W2 : IntKind.i64.wrap (((z + 20001 : Nat) : Int) + 20001) = ((z + 20001 + 20001 : Nat) : Int) := by simp only [IntKind.wrap_i64]; omega
      have W3 : IntKind.i64.wrap ((z : Int) + 20001 + 20001) = ((z + 20001 + 20001 : Nat) : Int) := by simp only [IntKind.wrap_i64]; omega
      clear hc h6 k6
      go_upto_region 5 with (fail)
      go_quiet (fail)
      have HB2 : Kept (Below w.heap.size w (wr.drewN nq)) := ⟨below_drewN HB.out _⟩
      generalize wr.drewN nq = w2 at *
      clear HB W1 W2 W3
      go_wp2
      go_roundw
      case rel => exact ⟨k + 1, z + 20001 + 20001, by omega, HS.out, by omega, by go_num, by go_num, HB2⟩
      case measure => simp only [lenO]; omega
   ·obtain rfl : k = 100 := by omega
    have hk2' : ¬ ((100 : Nat) : Int) < 100 := by omega
    by_cases hn3 : n ≤ 100
    ·omega
    ·have hn2 : ¬ (n : Int) ≤ 100 := by omega
     go_wp2
     go_ret
     exact ⟨_, rfl, by simp, HB.out⟩
  ·have hkn' : ¬ (k : Int) < n := by omega
   obtain rfl : k = n := by omega
   have hk3 : (k : Int) ≤ 100 := by omega
   have PF : Kept (z ≤ 20000 → ∀ r, r < k → (X r).b.length ≤ 20000) := ⟨fun h r hr => by
    have := cutSum_le X (fun r => (X r).keep.length) hr
    rw [← HZ.out] at this
    omega⟩
   clear HZ
   go_wp2
   go_ret
   exact ⟨_, rfl, fun h => ⟨by omega, PF.out (Int.ofNat_le.1 (of_decide_eq_true h))⟩, HB.out⟩
end Go.Proofs.YtkbehjdglgpgjaaGreat.Journal
