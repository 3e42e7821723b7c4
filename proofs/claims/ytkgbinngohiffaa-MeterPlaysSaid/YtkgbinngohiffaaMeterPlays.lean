/-
  The law MeterPlays, walked.
-/
import Derived.Test.YtkgbinngohiffaaMeterUse
import Derived.Test.YtkgbinngohiffaaStructs
namespace Go.Proofs.Ytkgbinngohiffaa.Meter
open Go.RowKit Go.Proofs.Ytkgbinngohiffaa.Sha

/-- an operation -/
structure OpV where
  kind : Int
  k : Int
  n : Int
/-- operation r of a row that came in -/
def OpAt (w : World) (b o r : Nat) (x : OpV) : Prop :=
  w.cell? ⟨b, o + r * 3, none⟩ = some (.int .i64 x.kind) ∧ w.cell? ⟨b, o + r * 3 + 1, none⟩ = some (.int .i64 x.k) ∧ w.cell? ⟨b, o + r * 3 + 2, none⟩ = some (.int .i64 x.n)
def Ops (w : World) (A : Option Addr) (n : Nat) (X : Nat → OpV) : Prop := n = 0 ∨ ∃ b o, A = some ⟨b, o, none⟩ ∧ ∀ r, r < n → OpAt w b o r (X r)
theorem ops_of {H : Type} {enc : TypeId × Value → H} {w : World} {base : Nat} {held : Bool} {A : Option Addr} {len cap : Nat} {d : DataW H} {p : List MemPlace} (h : DataW.Trod enc Try.prog w base (fun _ => true) held 22 (.slice A len cap) d p) :
    len ≤ cap ∧ cap ≤ 9223372036854775807 ∧ ∃ X, Ops w A len X := by
  obtain ⟨h1, h2, h3⟩ := fields_of Try.underlying22 Try.underlying28 (by kernel_rfl) (by kernel_rfl) (by decide) h
  refine ⟨h1, by unfold maxLen at h2; omega, ?_⟩
  rcases h3 with h0 | ⟨b, o, hA, hf⟩
  · exact ⟨fun _ => ⟨0, 0, 0⟩, .inl h0⟩
  · have each : ∀ r, r < len → ∃ x, OpAt w b o r x := by
      intro r hr
      obtain ⟨v0, n0, y0, c0, t0⟩ := hf r hr 0 _ rfl
      obtain ⟨v1, n1, y1, c1, t1⟩ := hf r hr 1 _ rfl
      obtain ⟨v2, n2, y2, c2, t2⟩ := hf r hr 2 _ rfl
      obtain ⟨z0, rfl, _⟩ := int_field Try.underlying3 t0
      obtain ⟨z1, rfl, _⟩ := int_field Try.underlying3 t1
      obtain ⟨z2, rfl, _⟩ := int_field Try.underlying3 t2
      exact ⟨⟨z0, z1, z2⟩, c0, c1, c2⟩
    haveI : Inhabited OpV := ⟨⟨0, 0, 0⟩⟩
    obtain ⟨X, hX⟩ := Go.Deep.choose_lt each
    exact ⟨X, .inr ⟨b, o, hA, hX⟩⟩
/-- one of the operations, whatever came behind -/
theorem Ops.at_ {w : World} {A : Option Addr} {n : Nat} {X : Nat → OpV} (h : Kept (Ops w A n X)) (r : Nat) (hr : r < n) : ∃ b o, A = some ⟨b, o, none⟩ ∧ ∀ wr, Kept (Below w.heap.size w wr) → OpAt wr b o r (X r) := by
  obtain ⟨b, o, hA, hc⟩ := h.out.resolve_left (by omega)
  refine ⟨b, o, hA, fun wr B => ?_⟩
  obtain ⟨h0, h1, h2⟩ := hc r hr
  have f : ∀ {i : Nat} {v : Value}, w.cell? ⟨b, i, none⟩ = some v → wr.cell? ⟨b, i, none⟩ = some v := fun {i v} hh => by rw [B.out.cell (World.block_lt_of_cell? _ _ hh)]; exact hh
  exact ⟨f h0, f h1, f h2⟩
/-- a store into a row that is neither a Meter nor its row -/
theorem Me.store {w : World} {m V i : Nat} {cs : List Int} {t : TypeId} {ds : Array Value} {u : Value} (h : Kept (Me w m cs)) (b : Blk w V t ds) (h1 : t ≠ 46) (h2 : t ≠ 49) : Kept (Me (w.setCell ⟨V, i, none⟩ u) m cs) := by
  obtain ⟨h0, r, a1, a2⟩ := h.out
  exact ⟨h0, r, a1.far (blk_ne a1 b (Ne.symm h1)) u, a2.far (blk_ne a2 b (Ne.symm h2)) u⟩

theorem getC_in (cs : List Int) (i : Nat) (h : i < 8) : getC cs i = at_ cs i := by unfold getC; rw [if_pos (inK_yes (by omega) (by omega)), Int.toNat_natCast]
theorem setC_in (cs : List Int) (i : Nat) (x : Int) (h : i < 8) : setC cs i x = cs.set i x := by unfold setC; rw [if_pos (inK_yes (by omega) (by omega)), Int.toNat_natCast]
theorem getC_out (cs : List Int) (q : Int) (h : inK q = false) : getC cs q = 0 := by unfold getC; rw [h]; rfl
theorem setC_out (cs : List Int) (q x : Int) (h : inK q = false) : setC cs q x = cs := by unfold setC; rw [h]; rfl
theorem if_in (i : Nat) (x y : Int) (h : i < 8) : (if inK (i : Int) = true then x else y) = x := if_pos (inK_yes (by omega) (by omega))
theorem if_out (q x y : Int) (h : inK q = false) : (if inK q = true then x else y) = y := by rw [h]; rfl

set_option maxRecDepth 100000 in
set_option maxHeartbeats 2000000 in
theorem plays_walk (A : Option Addr) (n cap : Nat) (X : Nat → OpV) (w : World) (hr : Ops w A n X) : Calls Try.prog 3 #[.slice A n cap] w (Holds w) := by
  have R := Kept.mk hr
  clear hr
  go_enter Try.func3, Try.ntmps3
  go_wp2_with fail
  refine (first_any w).mono ?_
  rintro e w1 ⟨rfl, b1⟩
  have B := Kept.mk b1
  clear b1
  go_wp2_with fail
  refine (new_any w1).mono ?_
  rintro e w2 ⟨m, rfl, m2, hm, b2⟩
  have M := Kept.mk m2
  have HM : w.heap.size ≤ m := Nat.le_trans B.out.size hm
  replace B := step_below B b2
  clear m2 b2 hm
  by_cases hn : n ≤ 500
  · have hn' : (n : Int) ≤ 500 := by omega
    obtain ⟨w3, hmk, v3, b3⟩ := make8 w2
    obtain ⟨V, hV⟩ : ∃ V, w2.heap.size = V := ⟨_, rfl⟩
    have HV : w.heap.size ≤ V := by rw [← hV]; exact B.out.size
    have hmV : m ≠ V := by have := M.out.lt; omega
    rw [hV] at hmk v3
    have WN := Kept.mk v3
    replace M := Me.keep M b3
    replace B := step_below B b3
    clear v3 b3 hV
    go_wp2
    clear hmk
    go_loopw [5] (fun j wr => ∃ (k : Nat) (cs : List Int), k ≤ n ∧ j = .int .i64 k ∧ Kept (Me wr m cs) ∧ Kept (Blk wr V 3 (arr .i64 cs)) ∧ Kept (Below w.heap.size w wr)) (fun j _ => n - (intOf j).toNat)
    case atStart => exact ⟨0, _, by omega, rfl, M, WN, B⟩
    case round =>
      clear M WN B
      obtain ⟨k, cs, hk, rfl, M, WN, B⟩ := hrel
      by_cases hkn : k < n
      · have hkn' : (k : Int) < n := by omega
        obtain ⟨b, o, rfl, CX⟩ := Ops.at_ R k hkn
        obtain ⟨x0, x1, x2⟩ := CX wr B
        generalize (X k).kind = kd at *
        generalize (X k).k = q at *
        generalize (X k).n = z at *
        go_upto_region 11 with (fail)
        have HO4 : Blk (wr.alloc (.cells #[.int .i64 kd, .int .i64 q, .int .i64 z] 28)) wr.heap.size 28 #[.int .i64 kd, .int .i64 q, .int .i64 z] := Blk.new _ _ _
        obtain ⟨O, hO⟩ : ∃ O, wr.heap.size = O := ⟨_, rfl⟩
        rw [hO] at HO4 ⊢
        have hOm : O ∉ [m] := by have := M.out.lt; simp; omega
        have hOV : O ≠ V := by have := WN.out.lt; omega
        have hVm : V ∉ [m] := by simpa using hmV.symm
        have L8 := M.out.1
        replace M := Me.keep M ((Below.refl wr.heap.size wr).alloc (Nat.le_refl _) (.cells #[.int .i64 kd, .int .i64 q, .int .i64 z] 28))
        replace WN := Kept.mk (WN.out.alloc (.cells #[.int .i64 kd, .int .i64 q, .int .i64 z] 28))
        replace B := Kept.mk (B.out.alloc B.out.size (.cells #[.int .i64 kd, .int .i64 q, .int .i64 z] 28))
        have OB := Kept.mk HO4
        clear HO4 hO x0 x1 x2 CX
        generalize wr.alloc (.cells #[.int .i64 kd, .int .i64 q, .int .i64 z] 28) = w4 at *
        by_cases hlo : q < 0
        · have hq := inK_low hlo
          have hq' : ¬ 0 ≤ q := by omega
          by_cases h0 : kd = 0
          · subst h0
            have o0 : w4.cell? ⟨O, 0, none⟩ = some (.int .i64 0) := OB.out.cell 0
            have o1 : w4.cell? ⟨O, 1, none⟩ = some (.int .i64 q) := OB.out.cell 1
            have o2 : w4.cell? ⟨O, 2, none⟩ = some (.int .i64 z) := OB.out.cell 2
            go_wp2_with fail
            refine (add_any m q z cs w4 M.out).mono ?_
            rintro e w5 ⟨rfl, mx, bx⟩
            rw [hq]
            rw [setC_out _ _ _ hq] at mx
            replace M := Kept.mk mx
            replace WN := Kept.mk (WN.out.bar bx hVm)
            replace OB := Kept.mk (OB.out.bar bx hOm)
            replace B := step_bar B bx HM
            clear mx bx o0 o1 o2
            have o0 : w5.cell? ⟨O, 0, none⟩ = some (.int .i64 0) := OB.out.cell 0
            have o1 : w5.cell? ⟨O, 1, none⟩ = some (.int .i64 q) := OB.out.cell 1
            have o2 : w5.cell? ⟨O, 2, none⟩ = some (.int .i64 z) := OB.out.cell 2
            go_upto_region 33 with (fail)
            have HG := get_any m q _ w5 M.out
            rw [getC_out _ _ hq] at HG
            go_wp2_with fail
            refine HG.mono ?_
            rintro e wg ⟨rfl, rfl⟩
            clear HG
            go_wp2_with fail
            refine (all_any m _ w5 M.out).mono ?_
            rintro e wy ⟨D, rfl, hd, -, bd⟩
            replace M := Me.keep M bd
            replace WN := Kept.mk (WN.out.below bd WN.out.lt)
            replace B := step_below B bd
            clear bd
            go_wp2_with fail
            refine (ints_any _ _ 8 8 8 8 _ _ wy (Ri.blk hd M.out.1) (Ri.blk WN.out M.out.1) (by omega)).mono ?_
            rintro e wz ⟨rfl, bz⟩
            rw [sameB_self]
            replace M := Me.keep M bz
            replace WN := Kept.mk (WN.out.below bz WN.out.lt)
            replace B := step_below B bz
            clear bz hd
            go_wp2
            go_roundw
            case rel => exact ⟨k + 1, _, by omega, by go_num, M, WN, B⟩
            case measure => simp [intOf]; omega
          · have hz0 : (kd == 0) = false := by simpa using h0
            by_cases h1 : kd = 1
            · subst h1
              have o0 : w4.cell? ⟨O, 0, none⟩ = some (.int .i64 1) := OB.out.cell 0
              have o1 : w4.cell? ⟨O, 1, none⟩ = some (.int .i64 q) := OB.out.cell 1
              have o2 : w4.cell? ⟨O, 2, none⟩ = some (.int .i64 z) := OB.out.cell 2
              go_wp2_with fail
              refine (swap_any m q z cs w4 M.out).mono ?_
              rintro e w5 ⟨rfl, mx, bx⟩
              rw [getC_out _ _ hq]
              rw [setC_out _ _ _ hq] at mx
              replace M := Kept.mk mx
              replace WN := Kept.mk (WN.out.bar bx hVm)
              replace OB := Kept.mk (OB.out.bar bx hOm)
              replace B := step_bar B bx HM
              clear mx bx o0 o1 o2
              have o0 : w5.cell? ⟨O, 0, none⟩ = some (.int .i64 1) := OB.out.cell 0
              have o1 : w5.cell? ⟨O, 1, none⟩ = some (.int .i64 q) := OB.out.cell 1
              have o2 : w5.cell? ⟨O, 2, none⟩ = some (.int .i64 z) := OB.out.cell 2
              go_upto_region 33 with (fail)
              have HG := get_any m q _ w5 M.out
              rw [getC_out _ _ hq] at HG
              go_wp2_with fail
              refine HG.mono ?_
              rintro e wg ⟨rfl, rfl⟩
              clear HG
              go_wp2_with fail
              refine (all_any m _ w5 M.out).mono ?_
              rintro e wy ⟨D, rfl, hd, -, bd⟩
              replace M := Me.keep M bd
              replace WN := Kept.mk (WN.out.below bd WN.out.lt)
              replace B := step_below B bd
              clear bd
              go_wp2_with fail
              refine (ints_any _ _ 8 8 8 8 _ _ wy (Ri.blk hd M.out.1) (Ri.blk WN.out M.out.1) (by omega)).mono ?_
              rintro e wz ⟨rfl, bz⟩
              rw [sameB_self]
              replace M := Me.keep M bz
              replace WN := Kept.mk (WN.out.below bz WN.out.lt)
              replace B := step_below B bz
              clear bz hd
              go_wp2
              go_roundw
              case rel => exact ⟨k + 1, _, by omega, by go_num, M, WN, B⟩
              case measure => simp [intOf]; omega
            · have hz1 : (kd == 1) = false := by simpa using h1
              by_cases h2 : kd = 2
              · subst h2
                have o0 : w4.cell? ⟨O, 0, none⟩ = some (.int .i64 2) := OB.out.cell 0
                have o1 : w4.cell? ⟨O, 1, none⟩ = some (.int .i64 q) := OB.out.cell 1
                have o2 : w4.cell? ⟨O, 2, none⟩ = some (.int .i64 z) := OB.out.cell 2
                go_wp2_with fail
                refine (most_any m q z cs w4 M.out).mono ?_
                rintro e w5 ⟨rfl, mx, bx⟩
                rw [if_out _ _ _ hq]
                rw [setC_out _ _ _ hq] at mx
                replace M := Kept.mk mx
                replace WN := Kept.mk (WN.out.bar bx hVm)
                replace OB := Kept.mk (OB.out.bar bx hOm)
                replace B := step_bar B bx HM
                clear mx bx o0 o1 o2
                have o0 : w5.cell? ⟨O, 0, none⟩ = some (.int .i64 2) := OB.out.cell 0
                have o1 : w5.cell? ⟨O, 1, none⟩ = some (.int .i64 q) := OB.out.cell 1
                have o2 : w5.cell? ⟨O, 2, none⟩ = some (.int .i64 z) := OB.out.cell 2
                go_upto_region 33 with (fail)
                have HG := get_any m q _ w5 M.out
                rw [getC_out _ _ hq] at HG
                go_wp2_with fail
                refine HG.mono ?_
                rintro e wg ⟨rfl, rfl⟩
                clear HG
                go_wp2_with fail
                refine (all_any m _ w5 M.out).mono ?_
                rintro e wy ⟨D, rfl, hd, -, bd⟩
                replace M := Me.keep M bd
                replace WN := Kept.mk (WN.out.below bd WN.out.lt)
                replace B := step_below B bd
                clear bd
                go_wp2_with fail
                refine (ints_any _ _ 8 8 8 8 _ _ wy (Ri.blk hd M.out.1) (Ri.blk WN.out M.out.1) (by omega)).mono ?_
                rintro e wz ⟨rfl, bz⟩
                rw [sameB_self]
                replace M := Me.keep M bz
                replace WN := Kept.mk (WN.out.below bz WN.out.lt)
                replace B := step_below B bz
                clear bz hd
                go_wp2
                go_roundw
                case rel => exact ⟨k + 1, _, by omega, by go_num, M, WN, B⟩
                case measure => simp [intOf]; omega
              · have hz2 : (kd == 2) = false := by simpa using h2
                have o0 : w4.cell? ⟨O, 0, none⟩ = some (.int .i64 kd) := OB.out.cell 0
                have o1 : w4.cell? ⟨O, 1, none⟩ = some (.int .i64 q) := OB.out.cell 1
                have o2 : w4.cell? ⟨O, 2, none⟩ = some (.int .i64 z) := OB.out.cell 2
                go_upto_region 33 with (fail)
                have HG := get_any m q _ w4 M.out
                rw [getC_out _ _ hq] at HG
                go_wp2_with fail
                refine HG.mono ?_
                rintro e wg ⟨rfl, rfl⟩
                clear HG
                go_wp2_with fail
                refine (all_any m _ w4 M.out).mono ?_
                rintro e wy ⟨D, rfl, hd, -, bd⟩
                replace M := Me.keep M bd
                replace WN := Kept.mk (WN.out.below bd WN.out.lt)
                replace B := step_below B bd
                clear bd
                go_wp2_with fail
                refine (ints_any _ _ 8 8 8 8 _ _ wy (Ri.blk hd M.out.1) (Ri.blk WN.out M.out.1) (by omega)).mono ?_
                rintro e wz ⟨rfl, bz⟩
                rw [sameB_self]
                replace M := Me.keep M bz
                replace WN := Kept.mk (WN.out.below bz WN.out.lt)
                replace B := step_below B bz
                clear bz hd
                go_wp2
                go_roundw
                case rel => exact ⟨k + 1, _, by omega, by go_num, M, WN, B⟩
                case measure => simp [intOf]; omega
        · by_cases hhi : 8 ≤ q
          · have hq := inK_high hhi
            have hq' : 0 ≤ q := by omega
            have hq2 : ¬ q < 8 := by omega
            by_cases h0 : kd = 0
            · subst h0
              have o0 : w4.cell? ⟨O, 0, none⟩ = some (.int .i64 0) := OB.out.cell 0
              have o1 : w4.cell? ⟨O, 1, none⟩ = some (.int .i64 q) := OB.out.cell 1
              have o2 : w4.cell? ⟨O, 2, none⟩ = some (.int .i64 z) := OB.out.cell 2
              go_wp2_with fail
              refine (add_any m q z cs w4 M.out).mono ?_
              rintro e w5 ⟨rfl, mx, bx⟩
              rw [hq]
              rw [setC_out _ _ _ hq] at mx
              replace M := Kept.mk mx
              replace WN := Kept.mk (WN.out.bar bx hVm)
              replace OB := Kept.mk (OB.out.bar bx hOm)
              replace B := step_bar B bx HM
              clear mx bx o0 o1 o2
              have o0 : w5.cell? ⟨O, 0, none⟩ = some (.int .i64 0) := OB.out.cell 0
              have o1 : w5.cell? ⟨O, 1, none⟩ = some (.int .i64 q) := OB.out.cell 1
              have o2 : w5.cell? ⟨O, 2, none⟩ = some (.int .i64 z) := OB.out.cell 2
              go_upto_region 33 with (fail)
              have HG := get_any m q _ w5 M.out
              rw [getC_out _ _ hq] at HG
              go_wp2_with fail
              refine HG.mono ?_
              rintro e wg ⟨rfl, rfl⟩
              clear HG
              go_wp2_with fail
              refine (all_any m _ w5 M.out).mono ?_
              rintro e wy ⟨D, rfl, hd, -, bd⟩
              replace M := Me.keep M bd
              replace WN := Kept.mk (WN.out.below bd WN.out.lt)
              replace B := step_below B bd
              clear bd
              go_wp2_with fail
              refine (ints_any _ _ 8 8 8 8 _ _ wy (Ri.blk hd M.out.1) (Ri.blk WN.out M.out.1) (by omega)).mono ?_
              rintro e wz ⟨rfl, bz⟩
              rw [sameB_self]
              replace M := Me.keep M bz
              replace WN := Kept.mk (WN.out.below bz WN.out.lt)
              replace B := step_below B bz
              clear bz hd
              go_wp2
              go_roundw
              case rel => exact ⟨k + 1, _, by omega, by go_num, M, WN, B⟩
              case measure => simp [intOf]; omega
            · have hz0 : (kd == 0) = false := by simpa using h0
              by_cases h1 : kd = 1
              · subst h1
                have o0 : w4.cell? ⟨O, 0, none⟩ = some (.int .i64 1) := OB.out.cell 0
                have o1 : w4.cell? ⟨O, 1, none⟩ = some (.int .i64 q) := OB.out.cell 1
                have o2 : w4.cell? ⟨O, 2, none⟩ = some (.int .i64 z) := OB.out.cell 2
                go_wp2_with fail
                refine (swap_any m q z cs w4 M.out).mono ?_
                rintro e w5 ⟨rfl, mx, bx⟩
                rw [getC_out _ _ hq]
                rw [setC_out _ _ _ hq] at mx
                replace M := Kept.mk mx
                replace WN := Kept.mk (WN.out.bar bx hVm)
                replace OB := Kept.mk (OB.out.bar bx hOm)
                replace B := step_bar B bx HM
                clear mx bx o0 o1 o2
                have o0 : w5.cell? ⟨O, 0, none⟩ = some (.int .i64 1) := OB.out.cell 0
                have o1 : w5.cell? ⟨O, 1, none⟩ = some (.int .i64 q) := OB.out.cell 1
                have o2 : w5.cell? ⟨O, 2, none⟩ = some (.int .i64 z) := OB.out.cell 2
                go_upto_region 33 with (fail)
                have HG := get_any m q _ w5 M.out
                rw [getC_out _ _ hq] at HG
                go_wp2_with fail
                refine HG.mono ?_
                rintro e wg ⟨rfl, rfl⟩
                clear HG
                go_wp2_with fail
                refine (all_any m _ w5 M.out).mono ?_
                rintro e wy ⟨D, rfl, hd, -, bd⟩
                replace M := Me.keep M bd
                replace WN := Kept.mk (WN.out.below bd WN.out.lt)
                replace B := step_below B bd
                clear bd
                go_wp2_with fail
                refine (ints_any _ _ 8 8 8 8 _ _ wy (Ri.blk hd M.out.1) (Ri.blk WN.out M.out.1) (by omega)).mono ?_
                rintro e wz ⟨rfl, bz⟩
                rw [sameB_self]
                replace M := Me.keep M bz
                replace WN := Kept.mk (WN.out.below bz WN.out.lt)
                replace B := step_below B bz
                clear bz hd
                go_wp2
                go_roundw
                case rel => exact ⟨k + 1, _, by omega, by go_num, M, WN, B⟩
                case measure => simp [intOf]; omega
              · have hz1 : (kd == 1) = false := by simpa using h1
                by_cases h2 : kd = 2
                · subst h2
                  have o0 : w4.cell? ⟨O, 0, none⟩ = some (.int .i64 2) := OB.out.cell 0
                  have o1 : w4.cell? ⟨O, 1, none⟩ = some (.int .i64 q) := OB.out.cell 1
                  have o2 : w4.cell? ⟨O, 2, none⟩ = some (.int .i64 z) := OB.out.cell 2
                  go_wp2_with fail
                  refine (most_any m q z cs w4 M.out).mono ?_
                  rintro e w5 ⟨rfl, mx, bx⟩
                  rw [if_out _ _ _ hq]
                  rw [setC_out _ _ _ hq] at mx
                  replace M := Kept.mk mx
                  replace WN := Kept.mk (WN.out.bar bx hVm)
                  replace OB := Kept.mk (OB.out.bar bx hOm)
                  replace B := step_bar B bx HM
                  clear mx bx o0 o1 o2
                  have o0 : w5.cell? ⟨O, 0, none⟩ = some (.int .i64 2) := OB.out.cell 0
                  have o1 : w5.cell? ⟨O, 1, none⟩ = some (.int .i64 q) := OB.out.cell 1
                  have o2 : w5.cell? ⟨O, 2, none⟩ = some (.int .i64 z) := OB.out.cell 2
                  go_upto_region 33 with (fail)
                  have HG := get_any m q _ w5 M.out
                  rw [getC_out _ _ hq] at HG
                  go_wp2_with fail
                  refine HG.mono ?_
                  rintro e wg ⟨rfl, rfl⟩
                  clear HG
                  go_wp2_with fail
                  refine (all_any m _ w5 M.out).mono ?_
                  rintro e wy ⟨D, rfl, hd, -, bd⟩
                  replace M := Me.keep M bd
                  replace WN := Kept.mk (WN.out.below bd WN.out.lt)
                  replace B := step_below B bd
                  clear bd
                  go_wp2_with fail
                  refine (ints_any _ _ 8 8 8 8 _ _ wy (Ri.blk hd M.out.1) (Ri.blk WN.out M.out.1) (by omega)).mono ?_
                  rintro e wz ⟨rfl, bz⟩
                  rw [sameB_self]
                  replace M := Me.keep M bz
                  replace WN := Kept.mk (WN.out.below bz WN.out.lt)
                  replace B := step_below B bz
                  clear bz hd
                  go_wp2
                  go_roundw
                  case rel => exact ⟨k + 1, _, by omega, by go_num, M, WN, B⟩
                  case measure => simp [intOf]; omega
                · have hz2 : (kd == 2) = false := by simpa using h2
                  have o0 : w4.cell? ⟨O, 0, none⟩ = some (.int .i64 kd) := OB.out.cell 0
                  have o1 : w4.cell? ⟨O, 1, none⟩ = some (.int .i64 q) := OB.out.cell 1
                  have o2 : w4.cell? ⟨O, 2, none⟩ = some (.int .i64 z) := OB.out.cell 2
                  go_upto_region 33 with (fail)
                  have HG := get_any m q _ w4 M.out
                  rw [getC_out _ _ hq] at HG
                  go_wp2_with fail
                  refine HG.mono ?_
                  rintro e wg ⟨rfl, rfl⟩
                  clear HG
                  go_wp2_with fail
                  refine (all_any m _ w4 M.out).mono ?_
                  rintro e wy ⟨D, rfl, hd, -, bd⟩
                  replace M := Me.keep M bd
                  replace WN := Kept.mk (WN.out.below bd WN.out.lt)
                  replace B := step_below B bd
                  clear bd
                  go_wp2_with fail
                  refine (ints_any _ _ 8 8 8 8 _ _ wy (Ri.blk hd M.out.1) (Ri.blk WN.out M.out.1) (by omega)).mono ?_
                  rintro e wz ⟨rfl, bz⟩
                  rw [sameB_self]
                  replace M := Me.keep M bz
                  replace WN := Kept.mk (WN.out.below bz WN.out.lt)
                  replace B := step_below B bz
                  clear bz hd
                  go_wp2
                  go_roundw
                  case rel => exact ⟨k + 1, _, by omega, by go_num, M, WN, B⟩
                  case measure => simp [intOf]; omega
          · obtain ⟨i, rfl⟩ : ∃ i : Nat, q = i := ⟨q.toNat, by omega⟩
            have hq0 : (0 : Int) ≤ i := by omega
            have hi8 : (i : Int) < 8 := by omega
            have hi : i < 8 := by omega
            by_cases h0 : kd = 0
            · subst h0
              have o0 : w4.cell? ⟨O, 0, none⟩ = some (.int .i64 0) := OB.out.cell 0
              have o1 : w4.cell? ⟨O, 1, none⟩ = some (.int .i64 i) := OB.out.cell 1
              have o2 : w4.cell? ⟨O, 2, none⟩ = some (.int .i64 z) := OB.out.cell 2
              have v0 := WN.out.at_ i (by rw [L8]; exact hi)
              go_wp2_with fail
              refine (add_any m i z cs w4 M.out).mono ?_
              rintro e w5 ⟨rfl, mx, bx⟩
              rw [inK_yes hq0 hi8]
              rw [setC_in _ _ _ hi, getC_in _ _ hi, show r64 (Sha.at_ cs i + z) = wrap64 (Sha.at_ cs i + z) from rfl] at mx
              replace M := Kept.mk mx
              replace WN := Kept.mk (WN.out.bar bx hVm)
              replace OB := Kept.mk (OB.out.bar bx hOm)
              replace B := step_bar B bx HM
              clear mx bx o0 o1 o2
              have o0 : w5.cell? ⟨O, 0, none⟩ = some (.int .i64 0) := OB.out.cell 0
              have o1 : w5.cell? ⟨O, 1, none⟩ = some (.int .i64 i) := OB.out.cell 1
              have o2 : w5.cell? ⟨O, 2, none⟩ = some (.int .i64 z) := OB.out.cell 2
              replace v0 := WN.out.at_ i (by rw [L8]; exact hi)
              have vz := WN.out.frozen i
              go_upto_region 33 with (fail)
              clear vz
              replace M := Me.store (i := i) (u := .int .i64 (wrap64 (Sha.at_ cs i + z))) M WN.out (by decide) (by decide)
              replace OB := Kept.mk (OB.out.far hOV (p := ⟨V, i, none⟩) (.int .i64 (wrap64 (Sha.at_ cs i + z))))
              replace B := Kept.mk (B.out.setCell (p := ⟨V, i, none⟩) HV (.int .i64 (wrap64 (Sha.at_ cs i + z))))
              have wx := WN.out.set_ i (.int .i64 (wrap64 (Sha.at_ cs i + z)))
              rw [arr_set] at wx
              replace WN := Kept.mk wx
              clear wx o0 o1 o2 v0
              generalize w5.setCell ⟨V, i, none⟩ (.int .i64 (wrap64 (Sha.at_ cs i + z))) = ws at *
              have o0 : ws.cell? ⟨O, 0, none⟩ = some (.int .i64 0) := OB.out.cell 0
              have o1 : ws.cell? ⟨O, 1, none⟩ = some (.int .i64 i) := OB.out.cell 1
              have o2 : ws.cell? ⟨O, 2, none⟩ = some (.int .i64 z) := OB.out.cell 2
              have v0 := WN.out.at_ i (by rw [M.out.1]; exact hi)
              have HG := get_any m i _ ws M.out
              rw [getC_in _ _ hi] at HG
              generalize at_ (cs.set i (wrap64 (Sha.at_ cs i + z))) i = y at *
              go_wp2_with fail
              refine HG.mono ?_
              rintro e wg ⟨rfl, rfl⟩
              clear HG
              go_wp2_with fail
              refine (all_any m _ ws M.out).mono ?_
              rintro e wy ⟨D, rfl, hd, -, bd⟩
              replace M := Me.keep M bd
              replace WN := Kept.mk (WN.out.below bd WN.out.lt)
              replace B := step_below B bd
              clear bd
              go_wp2_with fail
              refine (ints_any _ _ 8 8 8 8 _ _ wy (Ri.blk hd M.out.1) (Ri.blk WN.out M.out.1) (by omega)).mono ?_
              rintro e wz ⟨rfl, bz⟩
              rw [sameB_self]
              replace M := Me.keep M bz
              replace WN := Kept.mk (WN.out.below bz WN.out.lt)
              replace B := step_below B bz
              clear bz hd
              go_wp2
              go_roundw
              case rel => exact ⟨k + 1, _, by omega, by go_num, M, WN, B⟩
              case measure => simp [intOf]; omega
            · have hz0 : (kd == 0) = false := by simpa using h0
              by_cases h1 : kd = 1
              · subst h1
                have o0 : w4.cell? ⟨O, 0, none⟩ = some (.int .i64 1) := OB.out.cell 0
                have o1 : w4.cell? ⟨O, 1, none⟩ = some (.int .i64 i) := OB.out.cell 1
                have o2 : w4.cell? ⟨O, 2, none⟩ = some (.int .i64 z) := OB.out.cell 2
                have v0 := WN.out.at_ i (by rw [L8]; exact hi)
                go_wp2_with fail
                refine (swap_any m i z cs w4 M.out).mono ?_
                rintro e w5 ⟨rfl, mx, bx⟩
                rw [getC_in _ _ hi]
                rw [setC_in _ _ _ hi] at mx
                replace M := Kept.mk mx
                replace WN := Kept.mk (WN.out.bar bx hVm)
                replace OB := Kept.mk (OB.out.bar bx hOm)
                replace B := step_bar B bx HM
                clear mx bx o0 o1 o2
                have o0 : w5.cell? ⟨O, 0, none⟩ = some (.int .i64 1) := OB.out.cell 0
                have o1 : w5.cell? ⟨O, 1, none⟩ = some (.int .i64 i) := OB.out.cell 1
                have o2 : w5.cell? ⟨O, 2, none⟩ = some (.int .i64 z) := OB.out.cell 2
                replace v0 := WN.out.at_ i (by rw [L8]; exact hi)
                have vz := WN.out.frozen i
                go_upto_region 33 with (fail)
                clear vz
                replace M := Me.store (i := i) (u := .int .i64 z) M WN.out (by decide) (by decide)
                replace OB := Kept.mk (OB.out.far hOV (p := ⟨V, i, none⟩) (.int .i64 z))
                replace B := Kept.mk (B.out.setCell (p := ⟨V, i, none⟩) HV (.int .i64 z))
                have wx := WN.out.set_ i (.int .i64 z)
                rw [arr_set] at wx
                replace WN := Kept.mk wx
                clear wx o0 o1 o2 v0
                generalize w5.setCell ⟨V, i, none⟩ (.int .i64 z) = ws at *
                have o0 : ws.cell? ⟨O, 0, none⟩ = some (.int .i64 1) := OB.out.cell 0
                have o1 : ws.cell? ⟨O, 1, none⟩ = some (.int .i64 i) := OB.out.cell 1
                have o2 : ws.cell? ⟨O, 2, none⟩ = some (.int .i64 z) := OB.out.cell 2
                have v0 := WN.out.at_ i (by rw [M.out.1]; exact hi)
                have HG := get_any m i _ ws M.out
                rw [getC_in _ _ hi] at HG
                generalize at_ (cs.set i z) i = y at *
                go_wp2_with fail
                refine HG.mono ?_
                rintro e wg ⟨rfl, rfl⟩
                clear HG
                go_wp2_with fail
                refine (all_any m _ ws M.out).mono ?_
                rintro e wy ⟨D, rfl, hd, -, bd⟩
                replace M := Me.keep M bd
                replace WN := Kept.mk (WN.out.below bd WN.out.lt)
                replace B := step_below B bd
                clear bd
                go_wp2_with fail
                refine (ints_any _ _ 8 8 8 8 _ _ wy (Ri.blk hd M.out.1) (Ri.blk WN.out M.out.1) (by omega)).mono ?_
                rintro e wz ⟨rfl, bz⟩
                rw [sameB_self]
                replace M := Me.keep M bz
                replace WN := Kept.mk (WN.out.below bz WN.out.lt)
                replace B := step_below B bz
                clear bz hd
                go_wp2
                go_roundw
                case rel => exact ⟨k + 1, _, by omega, by go_num, M, WN, B⟩
                case measure => simp [intOf]; omega
              · have hz1 : (kd == 1) = false := by simpa using h1
                by_cases h2 : kd = 2
                · subst h2
                  have o0 : w4.cell? ⟨O, 0, none⟩ = some (.int .i64 2) := OB.out.cell 0
                  have o1 : w4.cell? ⟨O, 1, none⟩ = some (.int .i64 i) := OB.out.cell 1
                  have o2 : w4.cell? ⟨O, 2, none⟩ = some (.int .i64 z) := OB.out.cell 2
                  have v0 := WN.out.at_ i (by rw [L8]; exact hi)
                  by_cases hg : Sha.at_ cs i < z
                  · have vz := WN.out.frozen i
                    have GR := Kept.mk (show gr (Sha.at_ cs i) z = z from if_pos hg)
                    go_upto_region 31 with (fail)
                    clear vz
                    replace M := Me.store (i := i) (u := .int .i64 z) M WN.out (by decide) (by decide)
                    replace OB := Kept.mk (OB.out.far hOV (p := ⟨V, i, none⟩) (.int .i64 z))
                    replace B := Kept.mk (B.out.setCell (p := ⟨V, i, none⟩) HV (.int .i64 z))
                    have wx := WN.out.set_ i (.int .i64 z)
                    rw [arr_set] at wx
                    replace WN := Kept.mk wx
                    clear wx o0 o1 o2 v0
                    generalize w4.setCell ⟨V, i, none⟩ (.int .i64 z) = ws at *
                    have o0 : ws.cell? ⟨O, 0, none⟩ = some (.int .i64 2) := OB.out.cell 0
                    have o1 : ws.cell? ⟨O, 1, none⟩ = some (.int .i64 i) := OB.out.cell 1
                    have o2 : ws.cell? ⟨O, 2, none⟩ = some (.int .i64 z) := OB.out.cell 2
                    go_wp2_with fail
                    refine (most_any m i z cs ws M.out).mono ?_
                    rintro e w5 ⟨rfl, mx, bx⟩
                    rw [if_in _ _ _ hi, getC_in _ _ hi, GR.out]
                    rw [setC_in _ _ _ hi, getC_in _ _ hi, GR.out] at mx
                    replace M := Kept.mk mx
                    replace WN := Kept.mk (WN.out.bar bx hVm)
                    replace OB := Kept.mk (OB.out.bar bx hOm)
                    replace B := step_bar B bx HM
                    clear mx bx o0 o1 o2
                    have o0 : w5.cell? ⟨O, 0, none⟩ = some (.int .i64 2) := OB.out.cell 0
                    have o1 : w5.cell? ⟨O, 1, none⟩ = some (.int .i64 i) := OB.out.cell 1
                    have o2 : w5.cell? ⟨O, 2, none⟩ = some (.int .i64 z) := OB.out.cell 2
                    go_upto_region 33 with (fail)
                    have v0 := WN.out.at_ i (by rw [M.out.1]; exact hi)
                    have HG := get_any m i _ w5 M.out
                    rw [getC_in _ _ hi] at HG
                    generalize at_ (cs.set i z) i = y at *
                    go_wp2_with fail
                    refine HG.mono ?_
                    rintro e wg ⟨rfl, rfl⟩
                    clear HG
                    go_wp2_with fail
                    refine (all_any m _ w5 M.out).mono ?_
                    rintro e wy ⟨D, rfl, hd, -, bd⟩
                    replace M := Me.keep M bd
                    replace WN := Kept.mk (WN.out.below bd WN.out.lt)
                    replace B := step_below B bd
                    clear bd
                    go_wp2_with fail
                    refine (ints_any _ _ 8 8 8 8 _ _ wy (Ri.blk hd M.out.1) (Ri.blk WN.out M.out.1) (by omega)).mono ?_
                    rintro e wz ⟨rfl, bz⟩
                    rw [sameB_self]
                    replace M := Me.keep M bz
                    replace WN := Kept.mk (WN.out.below bz WN.out.lt)
                    replace B := step_below B bz
                    clear bz hd
                    go_wp2
                    go_roundw
                    case rel => exact ⟨k + 1, _, by omega, by go_num, M, WN, B⟩
                    case measure => simp [intOf]; omega
                  · have vz := WN.out.frozen i
                    have GR := Kept.mk (show gr (Sha.at_ cs i) z = (Sha.at_ cs i) from if_neg hg)
                    go_upto_region 31 with (fail)
                    clear vz
                    replace M := Me.store (i := i) (u := .int .i64 (Sha.at_ cs i)) M WN.out (by decide) (by decide)
                    replace OB := Kept.mk (OB.out.far hOV (p := ⟨V, i, none⟩) (.int .i64 (Sha.at_ cs i)))
                    replace B := Kept.mk (B.out.setCell (p := ⟨V, i, none⟩) HV (.int .i64 (Sha.at_ cs i)))
                    have wx := WN.out.set_ i (.int .i64 (Sha.at_ cs i))
                    rw [arr_set] at wx
                    replace WN := Kept.mk wx
                    clear wx o0 o1 o2 v0
                    generalize w4.setCell ⟨V, i, none⟩ (.int .i64 (Sha.at_ cs i)) = ws at *
                    have o0 : ws.cell? ⟨O, 0, none⟩ = some (.int .i64 2) := OB.out.cell 0
                    have o1 : ws.cell? ⟨O, 1, none⟩ = some (.int .i64 i) := OB.out.cell 1
                    have o2 : ws.cell? ⟨O, 2, none⟩ = some (.int .i64 z) := OB.out.cell 2
                    go_wp2_with fail
                    refine (most_any m i z cs ws M.out).mono ?_
                    rintro e w5 ⟨rfl, mx, bx⟩
                    rw [if_in _ _ _ hi, getC_in _ _ hi, GR.out]
                    rw [setC_in _ _ _ hi, getC_in _ _ hi, GR.out] at mx
                    replace M := Kept.mk mx
                    replace WN := Kept.mk (WN.out.bar bx hVm)
                    replace OB := Kept.mk (OB.out.bar bx hOm)
                    replace B := step_bar B bx HM
                    clear mx bx o0 o1 o2
                    have o0 : w5.cell? ⟨O, 0, none⟩ = some (.int .i64 2) := OB.out.cell 0
                    have o1 : w5.cell? ⟨O, 1, none⟩ = some (.int .i64 i) := OB.out.cell 1
                    have o2 : w5.cell? ⟨O, 2, none⟩ = some (.int .i64 z) := OB.out.cell 2
                    go_upto_region 33 with (fail)
                    have v0 := WN.out.at_ i (by rw [M.out.1]; exact hi)
                    have HG := get_any m i _ w5 M.out
                    rw [getC_in _ _ hi] at HG
                    generalize at_ (cs.set i (Sha.at_ cs i)) i = y at *
                    go_wp2_with fail
                    refine HG.mono ?_
                    rintro e wg ⟨rfl, rfl⟩
                    clear HG
                    go_wp2_with fail
                    refine (all_any m _ w5 M.out).mono ?_
                    rintro e wy ⟨D, rfl, hd, -, bd⟩
                    replace M := Me.keep M bd
                    replace WN := Kept.mk (WN.out.below bd WN.out.lt)
                    replace B := step_below B bd
                    clear bd
                    go_wp2_with fail
                    refine (ints_any _ _ 8 8 8 8 _ _ wy (Ri.blk hd M.out.1) (Ri.blk WN.out M.out.1) (by omega)).mono ?_
                    rintro e wz ⟨rfl, bz⟩
                    rw [sameB_self]
                    replace M := Me.keep M bz
                    replace WN := Kept.mk (WN.out.below bz WN.out.lt)
                    replace B := step_below B bz
                    clear bz hd
                    go_wp2
                    go_roundw
                    case rel => exact ⟨k + 1, _, by omega, by go_num, M, WN, B⟩
                    case measure => simp [intOf]; omega
                · have hz2 : (kd == 2) = false := by simpa using h2
                  have o0 : w4.cell? ⟨O, 0, none⟩ = some (.int .i64 kd) := OB.out.cell 0
                  have o1 : w4.cell? ⟨O, 1, none⟩ = some (.int .i64 i) := OB.out.cell 1
                  have o2 : w4.cell? ⟨O, 2, none⟩ = some (.int .i64 z) := OB.out.cell 2
                  have v0 := WN.out.at_ i (by rw [L8]; exact hi)
                  go_upto_region 33 with (fail)
                  have v0 := WN.out.at_ i (by rw [M.out.1]; exact hi)
                  have HG := get_any m i _ w4 M.out
                  rw [getC_in _ _ hi] at HG
                  generalize at_ cs i = y at *
                  go_wp2_with fail
                  refine HG.mono ?_
                  rintro e wg ⟨rfl, rfl⟩
                  clear HG
                  go_wp2_with fail
                  refine (all_any m _ w4 M.out).mono ?_
                  rintro e wy ⟨D, rfl, hd, -, bd⟩
                  replace M := Me.keep M bd
                  replace WN := Kept.mk (WN.out.below bd WN.out.lt)
                  replace B := step_below B bd
                  clear bd
                  go_wp2_with fail
                  refine (ints_any _ _ 8 8 8 8 _ _ wy (Ri.blk hd M.out.1) (Ri.blk WN.out M.out.1) (by omega)).mono ?_
                  rintro e wz ⟨rfl, bz⟩
                  rw [sameB_self]
                  replace M := Me.keep M bz
                  replace WN := Kept.mk (WN.out.below bz WN.out.lt)
                  replace B := step_below B bz
                  clear bz hd
                  go_wp2
                  go_roundw
                  case rel => exact ⟨k + 1, _, by omega, by go_num, M, WN, B⟩
                  case measure => simp [intOf]; omega
      · have hkn' : ¬ (k : Int) < n := by omega
        obtain rfl : k = n := by omega
        go_wp2_with fail
        refine (first_any wr).mono ?_
        rintro e w9 ⟨rfl, b9⟩
        replace B := step_below B b9
        go_wp2
        go_ret
        exact ⟨rfl, B.out⟩
  · have hn' : ¬ (n : Int) ≤ 500 := by omega
    go_wp2_with fail
    refine (first_any w2).mono ?_
    rintro e w3 ⟨rfl, b3⟩
    replace B := step_below B b3
    go_wp2
    go_ret
    exact ⟨rfl, B.out⟩
end Go.Proofs.Ytkgbinngohiffaa.Meter
