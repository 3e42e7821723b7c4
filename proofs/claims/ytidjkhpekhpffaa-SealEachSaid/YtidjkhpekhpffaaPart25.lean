/-
  Parts laid together: SealArg.
-/
import Derived.Test.YtidjkhpekhpffaaPart3
import Derived.Test.YtidjkhpekhpffaaPart24
import Derived.Test.YtidjkhpekhpffaaPart4
import Derived.Lib.SmallJoins

namespace Go.Proofs.Ytidjkhpekhpffaa.Seal
open Go.RowKit Go.Proofs.Ytidjkhpekhpffaa.Sha Go.ChangeShapes Go.WideShapes Go.Deep

theorem array5 {α : Type} {a : Array α} (h : a.size = 5) : ∃ a0 a1 a2 a3 a4, a = #[a0, a1, a2, a3, a4] := by
  obtain ⟨l⟩ := a
  match l, h with
  | [a0, a1, a2, a3, a4], _ => exact ⟨a0, a1, a2, a3, a4, rfl⟩
set_option maxRecDepth 100000 in
theorem note_arg {H : Type} {enc : TypeId × Value → H} {W : World} {r : Reach} {b0 base : Nat} {held : Bool} {v : Value} {d : DataW H} {p : List MemPlace}
    (hv : Value.okWide Try.prog W r b0 24 v) (h : DataW.Trod enc Try.prog W base (fun _ => true) held 24 v d p) : ∃ (n : NV) (A : Option Addr) (l c : Nat), v = .agg #[.int .i64 n.party, .int .i64 n.which, .int .i64 n.way, .int .i64 n.seq, .slice A l c] ∧ l ≤ c ∧ c ≤ 9223372036854775807 ∧ Rd W A l n.body := by
  obtain ⟨cs, rfl, hsz⟩ := okWide_struct Try.underlying24 hv
  obtain ⟨c0, c1, c2, c3, c4, rfl⟩ := array5 (hsz.trans (by kernel_rfl))
  obtain ⟨fuel, hf⟩ := h
  obtain ⟨xs, n, _, _, hl, hlen, hg⟩ := DataW.trod_struct Try.underlying24 hf
  have ei : Try.prog.cellsOf 3 = 1 := by kernel_rfl
  have eb : Try.prog.cellsOf 22 = 1 := by kernel_rfl
  match xs, hlen with
  | [y0, y1, y2, y3, y4], _ =>
    have t0 : DataW.trod enc Try.prog W base (fun _ => true) held n 3 [c0] = some y0 := by have := hg 0 _ rfl; simpa [ei, Value.cells] using this
    have t1 : DataW.trod enc Try.prog W base (fun _ => true) held n 3 [c1] = some y1 := by have := hg 1 _ rfl; simpa [ei, Value.cells] using this
    have t2 : DataW.trod enc Try.prog W base (fun _ => true) held n 3 [c2] = some y2 := by have := hg 2 _ rfl; simpa [ei, Value.cells] using this
    have t3 : DataW.trod enc Try.prog W base (fun _ => true) held n 3 [c3] = some y3 := by have := hg 3 _ rfl; simpa [ei, Value.cells] using this
    have t4 : DataW.trod enc Try.prog W base (fun _ => true) held n 22 [c4] = some y4 := by have := hg 4 _ rfl; simpa [eb, Value.cells] using this
    obtain ⟨z0, rfl, _⟩ := int_field Try.underlying3 t0
    obtain ⟨z1, rfl, _⟩ := int_field Try.underlying3 t1
    obtain ⟨z2, rfl, _⟩ := int_field Try.underlying3 t2
    obtain ⟨z3, rfl, _⟩ := int_field Try.underlying3 t3
    obtain ⟨A, l, c, xs, rfl, hl, hc, hr⟩ := bytes_field Try.underlying22 Try.underlying5 (by kernel_rfl) t4
    exact ⟨⟨z0, z1, z2, z3, xs⟩, A, l, c, rfl, hl, hc, hr⟩
theorem u8_ends {a : Int} (h : (Lit.int .u8 a).wf = true) : 0 ≤ a ∧ a ≤ 255 := by
  have := (Lit.wf_int_iff _ _).1 h
  simp only [show IntKind.u8.min = 0 from rfl, show IntKind.u8.max = 255 from rfl] at this
  exact this
end Go.Proofs.Ytidjkhpekhpffaa.Seal
