/-
  Chapter 6's laws: what an operation writes; are they few?
-/
import Derived.Test.YtgjmnefninmoiaaDiskSpec
import Derived.Test.YtgjmnefninmoiaaMemB
import Derived.Test.YtgjmnefninmoiaaStructs
import Derived.Test.YtgjmnefninmoiaaBools
namespace Go.Proofs.Ytgjmnefninmoiaa.Disk
open Go.RowKit Go.Proofs.Ytgjmnefninmoiaa.Sha

/-- how many bytes an operation writes; which -/
def textLen (n : Int) : Nat := min n.toNat 100
def textTo (b : Int) (L k : Nat) : List Int := (List.range L).map fun j => if j < k then (b + j) % 256 else 0
def textOf (n b : Int) : List Int := textTo b (textLen n) (textLen n)
theorem textTo_len (b : Int) (L k : Nat) : (textTo b L k).length = L := by simp [textTo]
theorem textTo_bytes (b : Int) (L k : Nat) : Bytes (textTo b L k) := by
  intro x hx
  obtain ⟨j, -, rfl⟩ := List.mem_map.1 hx
  split <;> omega
theorem textTo_0 (b : Int) (L : Nat) : textTo b L 0 = List.replicate L 0 := by
  apply List.ext_getElem
  · simp [textTo]
  · intro i h1 h2
    simp only [textTo, List.getElem_map, List.getElem_replicate, Nat.not_lt_zero, if_false]
theorem textTo_step (b : Int) (L k : Nat) : (textTo b L k).set k ((b + k) % 256) = textTo b L (k + 1) := by
  apply at_ext
  · simp [textTo]
  · intro i hi
    rw [List.length_set, textTo_len] at hi
    rw [at_set _ _ _ _ (by rw [textTo_len]; exact hi)]
    unfold textTo
    rw [at_range _ _ _ hi, at_range _ _ _ hi]
    by_cases hk : k = i
    · subst hk; rw [if_pos rfl, if_pos (by omega)]
    · rw [if_neg hk]
      by_cases h2 : i < k
      · rw [if_pos h2, if_pos (by omega)]
      · rw [if_neg h2, if_neg (by omega)]
theorem textOf_len (n b : Int) : (textOf n b).length = textLen n := textTo_len _ _ _
theorem textOf_bytes (n b : Int) : Bytes (textOf n b) := textTo_bytes _ _ _
def TextPost (w : World) (n b : Int) (e : Ending) (w' : World) : Prop := ∃ g, e = .returned (.slice (some ⟨g, 0, none⟩) (textLen n) (textLen n)) ∧ Blk w' g 5 (arr .u8 (textOf n b)) ∧ w.heap.size ≤ g ∧ Below w.heap.size w w'
set_option maxRecDepth 100000 in
set_option maxHeartbeats 1000000 in
theorem text_any (w : World) (kd ii n b : Int) (A : Option Addr) (l c : Nat) : Calls Try.prog 13 #[.agg #[.int .i64 kd, .int .i64 ii, .int .i64 n, .int .u8 b, .slice A l c]] w (TextPost w n b) := by
  obtain ⟨L, hL⟩ : ∃ L, textLen n = L := ⟨_, rfl⟩
  have hL100 : L ≤ 100 := by rw [← hL]; unfold textLen; omega
  obtain ⟨w2, hmk, k2, b2⟩ := make_blk (w.alloc (.cells #[.int .i64 kd, .int .i64 ii, .int .i64 n, .int .u8 b, .slice A l c] 34)) L (by omega)
  have hs : (w.alloc (.cells #[.int .i64 kd, .int .i64 ii, .int .i64 n, .int .u8 b, .slice A l c] 34)).heap.size = w.heap.size + 1 := by simp
  have HO := Kept.mk ((Blk.new w 34 #[.int .i64 kd, .int .i64 ii, .int .i64 n, .int .u8 b, .slice A l c]).below b2 (by simp))
  have BB := Kept.mk (((Below.refl w.heap.size w).alloc (Nat.le_refl _) (.cells #[.int .i64 kd, .int .i64 ii, .int .i64 n, .int .u8 b, .slice A l c] 34)).trans (b2.mono (by simp)))
  rw [hs, ← textTo_0 b L] at k2
  rw [hs] at hmk
  have K0 := Kept.mk k2
  have HL := Kept.mk hL
  clear k2 b2 hs
  by_cases h1 : n < 0
  · have e : (L : Int) = 0 := by rw [← hL]; unfold textLen; omega
    rw [e] at hmk
    clear hL e
    go_enter Try.func13, Try.ntmps13
    go_wp2
    clear hmk
    go_loopw [4] (fun j wr => ∃ k : Nat, k ≤ L ∧ j = .int .i64 k ∧ Kept (Blk wr w.heap.size 34 #[.int .i64 kd, .int .i64 ii, .int .i64 n, .int .u8 b, .slice A l c]) ∧ Kept (Blk wr (w.heap.size + 1) 5 (arr .u8 (textTo b L k))) ∧ Kept (Below w.heap.size w wr)) (fun j _ => L - (intOf j).toNat)
    case atStart => exact ⟨0, by omega, rfl, HO, K0, BB⟩
    case round =>
      clear HO K0 BB
      obtain ⟨k, hk, rfl, HO, K0, BB⟩ := hrel
      by_cases hkL : k < L
      · have hkL' : (k : Int) < L := by omega
        have c3 : wr.cell? ⟨w.heap.size, 3, none⟩ = some (.int .u8 b) := HO.out.cell 3
        have x0 := K0.out.at_ k (by rw [textTo_len]; exact hkL)
        have z0 := K0.out.frozen k
        have hw1 : IntKind.u8.wrap (k : Int) = (k : Int) % 256 := by rw [IntKind.wrap_u8]
        have hw2 : IntKind.u8.wrap (b + (k : Int) % 256) = (b + k) % 256 := by rw [IntKind.wrap_u8]; omega
        have HS := Kept.mk (textTo_step b L k)
        generalize at_ (textTo b L k) k = y at *
        go_wp2
        go_roundw
        case rel =>
          refine ⟨k + 1, by omega, by go_num, ⟨HO.out.far (by simp) _⟩, ⟨?_⟩, ⟨BB.out.setCell (by simp) _⟩⟩
          have := K0.out.set_ k (.int .u8 ((b + k) % 256))
          rw [arr_set, HS.out] at this
          exact this
        case measure => simp [intOf]; omega
      · have hkL' : ¬ (k : Int) < L := by omega
        obtain rfl : k = L := by omega
        have P1 : Kept (TextPost w n b (.returned (.slice (some ⟨w.heap.size + 1, 0, none⟩) k k)) wr) := ⟨w.heap.size + 1, by rw [HL.out], by unfold textOf; rw [HL.out]; exact K0.out, by omega, BB.out⟩
        go_wp2
        go_ret
        exact P1.out
  · by_cases h2 : n ≤ 100
    · have hn : (L : Int) = n := by rw [← hL]; unfold textLen; omega
      rw [hn] at hmk
      have hn0 : ¬ n < 0 := h1
      clear hL hn
      go_enter Try.func13, Try.ntmps13
      go_wp2
      clear hmk
      go_loopw [4] (fun j wr => ∃ k : Nat, k ≤ L ∧ j = .int .i64 k ∧ Kept (Blk wr w.heap.size 34 #[.int .i64 kd, .int .i64 ii, .int .i64 n, .int .u8 b, .slice A l c]) ∧ Kept (Blk wr (w.heap.size + 1) 5 (arr .u8 (textTo b L k))) ∧ Kept (Below w.heap.size w wr)) (fun j _ => L - (intOf j).toNat)
      case atStart => exact ⟨0, by omega, rfl, HO, K0, BB⟩
      case round =>
        clear HO K0 BB
        obtain ⟨k, hk, rfl, HO, K0, BB⟩ := hrel
        by_cases hkL : k < L
        · have hkL' : (k : Int) < L := by omega
          have c3 : wr.cell? ⟨w.heap.size, 3, none⟩ = some (.int .u8 b) := HO.out.cell 3
          have x0 := K0.out.at_ k (by rw [textTo_len]; exact hkL)
          have z0 := K0.out.frozen k
          have hw1 : IntKind.u8.wrap (k : Int) = (k : Int) % 256 := by rw [IntKind.wrap_u8]
          have hw2 : IntKind.u8.wrap (b + (k : Int) % 256) = (b + k) % 256 := by rw [IntKind.wrap_u8]; omega
          have HS := Kept.mk (textTo_step b L k)
          generalize at_ (textTo b L k) k = y at *
          go_wp2
          go_roundw
          case rel =>
            refine ⟨k + 1, by omega, by go_num, ⟨HO.out.far (by simp) _⟩, ⟨?_⟩, ⟨BB.out.setCell (by simp) _⟩⟩
            have := K0.out.set_ k (.int .u8 ((b + k) % 256))
            rw [arr_set, HS.out] at this
            exact this
          case measure => simp [intOf]; omega
        · have hkL' : ¬ (k : Int) < L := by omega
          obtain rfl : k = L := by omega
          have P1 : Kept (TextPost w n b (.returned (.slice (some ⟨w.heap.size + 1, 0, none⟩) k k)) wr) := ⟨w.heap.size + 1, by rw [HL.out], by unfold textOf; rw [HL.out]; exact K0.out, by omega, BB.out⟩
          go_wp2
          go_ret
          exact P1.out
    · have e : (L : Int) = 100 := by rw [← hL]; unfold textLen; omega
      rw [e] at hmk
      have hn0 : 100 < n := by omega
      clear hL e
      go_enter Try.func13, Try.ntmps13
      go_wp2
      clear hmk
      go_loopw [4] (fun j wr => ∃ k : Nat, k ≤ L ∧ j = .int .i64 k ∧ Kept (Blk wr w.heap.size 34 #[.int .i64 kd, .int .i64 ii, .int .i64 n, .int .u8 b, .slice A l c]) ∧ Kept (Blk wr (w.heap.size + 1) 5 (arr .u8 (textTo b L k))) ∧ Kept (Below w.heap.size w wr)) (fun j _ => L - (intOf j).toNat)
      case atStart => exact ⟨0, by omega, rfl, HO, K0, BB⟩
      case round =>
        clear HO K0 BB
        obtain ⟨k, hk, rfl, HO, K0, BB⟩ := hrel
        by_cases hkL : k < L
        · have hkL' : (k : Int) < L := by omega
          have c3 : wr.cell? ⟨w.heap.size, 3, none⟩ = some (.int .u8 b) := HO.out.cell 3
          have x0 := K0.out.at_ k (by rw [textTo_len]; exact hkL)
          have z0 := K0.out.frozen k
          have hw1 : IntKind.u8.wrap (k : Int) = (k : Int) % 256 := by rw [IntKind.wrap_u8]
          have hw2 : IntKind.u8.wrap (b + (k : Int) % 256) = (b + k) % 256 := by rw [IntKind.wrap_u8]; omega
          have HS := Kept.mk (textTo_step b L k)
          generalize at_ (textTo b L k) k = y at *
          go_wp2
          go_roundw
          case rel =>
            refine ⟨k + 1, by omega, by go_num, ⟨HO.out.far (by simp) _⟩, ⟨?_⟩, ⟨BB.out.setCell (by simp) _⟩⟩
            have := K0.out.set_ k (.int .u8 ((b + k) % 256))
            rw [arr_set, HS.out] at this
            exact this
          case measure => simp [intOf]; omega
        · have hkL' : ¬ (k : Int) < L := by omega
          obtain rfl : k = L := by omega
          have P1 : Kept (TextPost w n b (.returned (.slice (some ⟨w.heap.size + 1, 0, none⟩) k k)) wr) := ⟨w.heap.size + 1, by rw [HL.out], by unfold textOf; rw [HL.out]; exact K0.out, by omega, BB.out⟩
          go_wp2
          go_ret
          exact P1.out
/-- an operation -/
structure OpV where
  kind : Int
  i : Int
  n : Int
  b : Int
  keep : List Bool
/-- operation r of a row that came in -/
def OpAt (w : World) (g o r : Nat) (x : OpV) : Prop :=
  w.cell? ⟨g, o + r * 5, none⟩ = some (.int .i64 x.kind) ∧ w.cell? ⟨g, o + r * 5 + 1, none⟩ = some (.int .i64 x.i) ∧ w.cell? ⟨g, o + r * 5 + 2, none⟩ = some (.int .i64 x.n) ∧ w.cell? ⟨g, o + r * 5 + 3, none⟩ = some (.int .u8 x.b) ∧ x.n ≤ 9223372036854775807 ∧
    ∃ A l c, w.cell? ⟨g, o + r * 5 + 4, none⟩ = some (.slice A l c) ∧ l ≤ c ∧ c ≤ 9223372036854775807 ∧ Rb w A l x.keep
def Ops (w : World) (A : Option Addr) (n : Nat) (X : Nat → OpV) : Prop := n = 0 ∨ ∃ b o, A = some ⟨b, o, none⟩ ∧ ∀ r, r < n → OpAt w b o r (X r)
theorem ops_of {H : Type} {enc : TypeId × Value → H} {w : World} {base : Nat} {held : Bool} {A : Option Addr} {len cap : Nat} {d : DataW H} {p : List MemPlace} (h : DataW.Trod enc Try.prog w base (fun _ => true) held 22 (.slice A len cap) d p) :
    len ≤ cap ∧ cap ≤ 9223372036854775807 ∧ ∃ X, Ops w A len X := by
  obtain ⟨h1, h2, h3⟩ := fields_of Try.underlying22 Try.underlying34 (by kernel_rfl) (by kernel_rfl) (by decide) h
  refine ⟨h1, by unfold maxLen at h2; omega, ?_⟩
  rcases h3 with h0 | ⟨b, o, hA, hf⟩
  · exact ⟨fun _ => ⟨0, 0, 0, 0, []⟩, .inl h0⟩
  · have each : ∀ r, r < len → ∃ x, OpAt w b o r x := by
      intro r hr
      obtain ⟨v0, n0, y0, c0, t0⟩ := hf r hr 0 _ rfl
      obtain ⟨v1, n1, y1, c1, t1⟩ := hf r hr 1 _ rfl
      obtain ⟨v2, n2, y2, c2, t2⟩ := hf r hr 2 _ rfl
      obtain ⟨v3, n3, y3, c3, t3⟩ := hf r hr 3 _ rfl
      obtain ⟨v4, n4, y4, c4, t4⟩ := hf r hr 4 _ rfl
      obtain ⟨z0, rfl, _⟩ := int_field Try.underlying3 t0
      obtain ⟨z1, rfl, _⟩ := int_field Try.underlying3 t1
      obtain ⟨z2, rfl, w2⟩ := int_field Try.underlying3 t2
      obtain ⟨z3, rfl, _⟩ := int_field Try.underlying5 t3
      obtain ⟨a, l, c, bs, rfl, g1, g2, g3⟩ := bools_field Try.underlying32 Try.underlying4 (by kernel_rfl) t4
      refine ⟨⟨z0, z1, z2, z3, bs⟩, c0, c1, c2, c3, ?_, a, l, c, c4, g1, g2, g3⟩
      have := (Lit.wf_int_iff _ _).1 w2
      simp only [show IntKind.i64.max = 9223372036854775807 from rfl] at this
      exact this.2
    haveI : Inhabited OpV := ⟨⟨0, 0, 0, 0, []⟩⟩
    obtain ⟨X, hX⟩ := Go.Deep.choose_lt each
    exact ⟨X, .inr ⟨b, o, hA, hX⟩⟩
/-- one of the operations, whatever came behind -/
theorem OpAt.later {w wr : World} {b o r : Nat} {x : OpV} (h : OpAt w b o r x) (B : Kept (Below w.heap.size w wr)) : OpAt wr b o r x := by
  obtain ⟨h0, h1, h2, h3, h4, A, l, c, h5, h6, h7, h8⟩ := h
  have f : ∀ {i : Nat} {v : Value}, w.cell? ⟨b, i, none⟩ = some v → wr.cell? ⟨b, i, none⟩ = some v := fun {i v} hh => by rw [B.out.cell (World.block_lt_of_cell? _ _ hh)]; exact hh
  exact ⟨f h0, f h1, f h2, f h3, h4, A, l, c, f h5, h6, h7, h8.below B.out⟩
theorem Ops.at_ {w : World} {A : Option Addr} {n : Nat} {X : Nat → OpV} (h : Kept (Ops w A n X)) (r : Nat) (hr : r < n) : ∃ b o, A = some ⟨b, o, none⟩ ∧ OpAt w b o r (X r) := by
  obtain ⟨b, o, hA, hc⟩ := h.out.resolve_left (by omega)
  exact ⟨b, o, hA, hc r hr⟩
def FewPost (n : Nat) (w : World) (e : Ending) (w' : World) : Prop := ∃ t : Bool, e = .returned (.bool t) ∧ (t = true → n ≤ 300) ∧ w = w'
set_option maxRecDepth 100000 in
set_option maxHeartbeats 1000000 in
theorem few_any (A : Option Addr) (n cap : Nat) (X : Nat → OpV) (w : World) (hr : Ops w A n X) :
    Calls Try.prog 9 #[.slice A n cap] w (FewPost n w) := by
  have HR := Kept.mk hr
  clear hr
  go_enter Try.func9, Try.ntmps9
  go_wp2
  go_loop [3, 4] (fun s i => ∃ k z : Nat, k ≤ min n 300 ∧ z ≤ 20001 * k ∧ s = .int .i64 z ∧ i = .int .i64 k) (fun _ i => min n 300 - (intOf i).toNat)
  case atStart => exact ⟨0, 0, by omega, by omega, rfl, rfl⟩
  case round =>
    obtain ⟨k, z, hk, hz, rfl, rfl⟩ := hrel
    by_cases hkn : k < n
    · have hkn' : (k : Int) < n := by omega
      by_cases hk2 : k < 300
      · have hk2' : (k : Int) < 300 := by omega
        obtain ⟨b, o, rfl, hc⟩ := HR.out.resolve_left (by omega)
        obtain ⟨-, -, -, -, -, a, l, c, h3, h4, h5, h6⟩ := hc k hkn
        clear hc h6
        by_cases hl : l ≤ 20001
        · go_wp2
          go_round
          case rel => exact ⟨k + 1, z + l, by omega, by omega, by go_num, by go_num⟩
          case measure => simp [intOf]; omega
        · go_wp2
          go_round
          case rel => exact ⟨k + 1, z + 20001, by omega, by omega, by go_num, by go_num⟩
          case measure => simp [intOf]; omega
      · obtain rfl : k = 300 := by omega
        have hk2' : ¬ ((300 : Nat) : Int) < 300 := by omega
        by_cases hn3 : n ≤ 300
        · omega
        · have hn2 : ¬ (n : Int) ≤ 300 := by omega
          go_wp2
          go_ret
          exact ⟨_, rfl, by simp, rfl⟩
    · have hkn' : ¬ (k : Int) < n := by omega
      obtain rfl : k = n := by omega
      have hk3 : (k : Int) ≤ 300 := by omega
      go_wp2
      go_ret
      exact ⟨_, rfl, fun _ => by omega, rfl⟩
end Go.Proofs.Ytgjmnefninmoiaa.Disk
