/-
  The law ShaTells, walked.
-/
import Derived.Test.YtmnkllmlimpjjaaShaRWord
import Derived.DataShut
namespace Go.Proofs.Ytmnkllmlimpjjaa.Sha
open Go.RowKit

theorem Rd.below {w w' : World} {A : Option Addr} {n : Nat} {xs : List Int} (r : Rd w A n xs) (b : Below w.heap.size w w') : Rd w' A n xs :=
  r.keep (l := []) (barOf b []) (by simp)
theorem Tab.lt {w : World} {t : Nat} (h : Tab w t) : t < w.heap.size := by
  rcases h with h | h <;> exact Blk.lt h
theorem Tab.below {w w' : World} {t B : Nat} (h : Tab w t) (b : Below B w w') (hB : t < B) : Tab w' t := by
  rcases h with h | h
  · exact .inl (Blk.below h b hB)
  · exact .inr (Blk.below h b hB)

/-- a row of the law's argument holds bytes -/
theorem rd_of_row {W : World} {a : Option Addr} {len cap : Nat} {zs : List Int} (h : (a = none ∧ len = 0 ∧ cap = 0 ∧ zs = []) ∨ ∃ x, a = some x ∧ len ≤ cap ∧ cap ≤ maxLen ∧ zs.length = cap ∧ (∀ i, i < zs.length → W.cell? (x.add i) = some (.int .u8 (zs.getD i 0))) ∧ ∀ n ∈ zs, (Lit.int .u8 n).wf = true) :
    Rd W a len (zs.take len) := by
  rcases h with ⟨rfl, rfl, rfl, rfl⟩ | ⟨x, rfl, hl, hm, hz, hcell, hw⟩
  · exact Rd.nil_
  · refine ⟨by simp; omega, fun y hy => ?_, ?_⟩
    · have := (Lit.wf_int_iff _ _).1 (hw y (List.mem_of_mem_take hy))
      simp only [show IntKind.u8.min = 0 from rfl, show IntKind.u8.max = 255 from rfl] at this
      omega
    · by_cases h0 : len = 0
      · exact .inl h0
      · refine .inr ?_
        obtain ⟨b, off, spot⟩ := x
        have hspot : spot = none := by
          have hc := hcell 0 (by omega)
          simpa [Addr.add] using World.cell?_spot hc
        subst hspot
        refine ⟨b, off, rfl, fun i hi => ?_⟩
        have := hcell i (by omega)
        have e : (⟨b, off, none⟩ : Addr).add i = ⟨b, off + i, none⟩ := by cases i <;> simp [Addr.add]
        rw [e] at this
        rw [this]
        unfold at_
        simp [List.getD_eq_getElem?_getD, hi]

theorem row_cap8 {W : World} {a : Option Addr} {len cap : Nat} {zs : List Int} (h : (a = none ∧ len = 0 ∧ cap = 0 ∧ zs = []) ∨ ∃ x, a = some x ∧ len ≤ cap ∧ cap ≤ maxLen ∧ zs.length = cap ∧ (∀ i, i < zs.length → W.cell? (x.add i) = some (.int .u8 (zs.getD i 0))) ∧ ∀ n ∈ zs, (Lit.int .u8 n).wf = true) :
    len ≤ cap ∧ cap ≤ 9223372036854775807 := by
  rcases h with ⟨-, rfl, rfl, -⟩ | ⟨x, -, hl, hm, -⟩
  · omega
  · unfold maxLen at hm; omega

set_option maxRecDepth 100000 in
set_option maxHeartbeats 1000000 in
theorem tells_walk (A : Option Addr) (n cap : Nat) (xs : List Int) (i : Int) (w : World) (hr : Rd w A n xs) (hcap : n ≤ cap) (hmax : cap ≤ 9223372036854775807) :
    Calls Try.prog 3 #[.slice A n cap, .int .i64 i] w fun e w' => e = .returned (.bool true) ∧ Below w.heap.size w w' := by
  have HR := Kept.mk hr
  clear hr
  by_cases hlen : 3000 < n
  · go_enter Try.func3, Try.ntmps3
    go_wp2_with fail
    refine (first_any _).mono ?_
    rintro e w1 ⟨rfl, b1⟩
    go_wp2_with fail
    refine (newtable_any w1).mono ?_
    rintro e w2 ⟨rfl, rfl⟩
    have b2 := b1.alloc b1.size (.cells (tbl (.int .u32 0) (.int .i32 0) (.int .u32 0) 0 0) 58)
    generalize w1.alloc (.cells (tbl (.int .u32 0) (.int .i32 0) (.int .u32 0) 0 0) 58) = w2 at *
    clear b1
    generalize w1.heap.size = N
    go_wp2_with fail
    refine (first_any _).mono ?_
    rintro e w3 ⟨rfl, b3⟩
    have B3 := Kept.mk (b2.trans (b3.mono b2.size))
    clear b2 b3
    go_wp2
    go_ret
    exact ⟨rfl, B3.out⟩
  · obtain ⟨x, hx⟩ : ∃ x, wordI i = x := ⟨_, rfl⟩
    obtain ⟨y, hy⟩ : ∃ y, startI i = y := ⟨_, rfl⟩
    have c1 := Kept.mk fun N w hT => word_any N i w hT
    have c2 := Kept.mk fun w => rword_any i w
    have c3 := Kept.mk fun N w hT => start_any N i w hT
    have c4 := Kept.mk fun w => rstart_any i w
    rw [hx] at c1 c2
    rw [hy] at c3 c4
    clear hx hy
    go_enter Try.func3, Try.ntmps3
    go_wp2_with fail
    refine (first_any _).mono ?_
    rintro e w1 ⟨rfl, b1⟩
    go_wp2_with fail
    refine (newtable_any w1).mono ?_
    rintro e w2 ⟨rfl, rfl⟩
    obtain ⟨N, hN⟩ : ∃ N, w1.heap.size = N := ⟨_, rfl⟩
    have t2 : Tab (w1.alloc (.cells (tbl (.int .u32 0) (.int .i32 0) (.int .u32 0) 0 0) 58)) N := .inl (Blk.new_at _ _ _ N hN.symm)
    have b2 := b1.alloc b1.size (.cells (tbl (.int .u32 0) (.int .i32 0) (.int .u32 0) 0 0) 58)
    have hlt : w.heap.size ≤ N := hN ▸ b1.size
    have hlt2 : N < (w1.alloc (.cells (tbl (.int .u32 0) (.int .i32 0) (.int .u32 0) 0 0) 58)).heap.size := by simp [hN]
    rw [hN]
    generalize w1.alloc (.cells (tbl (.int .u32 0) (.int .i32 0) (.int .u32 0) 0 0) 58) = w2 at *
    clear b1 hN
    have T2 := Kept.mk t2; have B2 := Kept.mk b2
    clear t2 b2
    go_wp2_with fail
    refine (first_any _).mono ?_
    rintro e w3 ⟨rfl, b3⟩
    have T3 := Kept.mk (T2.out.below b3 hlt2)
    have B3 := Kept.mk (B2.out.trans (b3.mono B2.out.size))
    clear b3 T2 B2 hlt2
    go_wp2_with fail
    refine (c1.out N w3 T3.out).mono ?_
    rintro e w4 ⟨rfl, t4, b4⟩
    have T4 := Kept.mk t4
    have B4 := Kept.mk (B3.out.trans (b4.below B3.out.size (by simpa using hlt)))
    clear t4 b4 T3 B3
    go_wp2_with fail
    refine (c2.out w4).mono ?_
    rintro e w5 ⟨rfl, b5⟩
    have T5 := Kept.mk (T4.out.below b5 T4.out.lt)
    have B5 := Kept.mk (B4.out.trans (b5.mono B4.out.size))
    clear b5 T4 B4
    go_wp2_with fail
    refine (c3.out N w5 T5.out).mono ?_
    rintro e w6 ⟨rfl, t6, b6⟩
    have T6 := Kept.mk t6
    have B6 := Kept.mk (B5.out.trans (b6.below B5.out.size (by simpa using hlt)))
    clear t6 b6 T5 B5
    go_wp2_with fail
    refine (c4.out w6).mono ?_
    rintro e w7 ⟨rfl, b7⟩
    have T7 := Kept.mk (T6.out.below b7 T6.out.lt)
    have B7 := Kept.mk (B6.out.trans (b7.mono B6.out.size))
    clear b7 T6 B6
    go_wp2_with fail
    refine (one_any N A n cap xs w7 T7.out (HR.out.below B7.out) hcap hmax (by omega)).mono ?_
    rintro e w8 ⟨M1, rfl, hM1, k8, m8, b8⟩
    have K8 := Kept.mk k8
    have B8 := Kept.mk (B7.out.trans (b8.below B7.out.size (by simpa using hlt)))
    clear k8 m8 b8 T7 B7
    go_wp2_with fail
    refine (rhash_any A n cap xs w8 (HR.out.below B8.out) (by omega)).mono ?_
    rintro e w9 ⟨M2, cap2, rfl, -, -, -, r9, b9⟩
    have R9 := Kept.mk r9
    have K9 := Kept.mk (K8.out.below b9 K8.out.lt)
    have B9 := Kept.mk (B8.out.trans (b9.mono B8.out.size))
    clear r9 b9 K8 B8
    go_wp2_with fail
    refine (bytes_same _ _ _ _ _ _ (sha xs) w9 (Rd.blk K9.out (sha_bytes _) (sha_len _)) R9.out).mono ?_
    rintro e w10 ⟨rfl, rfl⟩
    go_wp2
    go_ret
    exact ⟨rfl, B9.out⟩

end Go.Proofs.Ytmnkllmlimpjjaa.Sha
