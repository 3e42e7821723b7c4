/-
  Parts laid together: FrameLay Concat FrameCPut Write8 FrameLift WireNewDec WireFst WireDNum FrameRHead BytesEq FrameCGet FrameCode.
-/
import Derived.Test.YtimdbljagpbecaaPart3
import Derived.Test.YtimdbljagpbecaaPart4
import Derived.Lib.QuietBelow
import Derived.StillTailTactics
import Derived.Test.YtimdbljagpbecaaPart1
import Derived.Lib.AppendZeros
import Derived.Test.YtimdbljagpbecaaPart2
import Derived.Deep.RegionHeld3
import Derived.Deep.AppendLies
import Derived.Laws.BitsAllLaws
import Derived.Laws.BytesArg
import Derived.Lib.Bytes

/-
  Package frame: lay.
-/





namespace Go.Proofs.Ytimdbljagpbecaa.Frame
open Go.RowKit Go.Proofs.Ytimdbljagpbecaa.Sha Go.Proofs.Ytimdbljagpbecaa.Wire

/-- a sector of a text -/
def row1 (b : List Int) (i : Nat) : List Int := mk i :: ((padF b).drop (63 * i)).take 63
/-- m sectors laid, of S -/
def layM (b : List Int) (S m : Nat) : List Int := cat (row1 b) m ++ List.replicate (64 * (S - m)) 0
theorem row1_len (b : List Int) (i : Nat) (h : i < secs b.length) : (row1 b i).length = 64 := by
  unfold row1; rw [List.length_cons, List.length_take, List.length_drop, padF_len]; omega
theorem layM_len (b : List Int) {S m : Nat} (hS : secs b.length = S) (h : m ≤ S) : (layM b S m).length = 64 * S := by
  unfold layM; rw [List.length_append, List.length_replicate, cat_len (c := 64) m (fun j hj => row1_len b j (by omega))]; omega
theorem layM_all (b : List Int) {S : Nat} (hS : secs b.length = S) : layM b S S = laid b := by
  unfold layM; rw [Nat.sub_self, Nat.mul_zero, List.replicate_zero, List.append_nil, laid_is, hS]; rfl
theorem layM_zero (b : List Int) (S : Nat) : layM b S 0 = List.replicate (64 * S) 0 := by unfold layM; simp [cat]
theorem layM_step (b : List Int) {S m : Nat} (hS : secs b.length = S) (h : m < S) : splice ((layM b S m).set (64 * m) (mk m)) (64 * m + 1) ((b.drop (63 * m)).take 63) = layM b S (m + 1) := by
  have hC : (cat (row1 b) m).length = 64 * m := cat_len (c := 64) m (fun j hj => row1_len b j (by omega))
  have h63 : 63 * m < b.length := by unfold secs at hS; omega
  have hxs : ((b.drop (63 * m)).take 63).length = min 63 (b.length - 63 * m) := by rw [List.length_take, List.length_drop]
  obtain ⟨xs, hx⟩ : ∃ xs, (b.drop (63 * m)).take 63 = xs := ⟨_, rfl⟩
  have hrow : row1 b m = mk m :: (xs ++ List.replicate (63 - xs.length) 0) := by
    unfold row1 padF
    congr 1
    rw [hS, List.drop_append_of_le_length (by omega), List.take_append, hx, List.take_replicate, List.length_drop]
    rw [hx] at hxs
    congr 2
    unfold secs at hS
    omega
  rw [hx] at hxs ⊢
  unfold layM
  rw [show 64 * (S - m) = (64 * (S - (m + 1)) + 63) + 1 by omega, List.replicate_succ, List.set_append_right _ _ (by omega), hC, Nat.sub_self, List.set_cons_zero]
  unfold splice
  rw [cat, hrow]
  generalize cat (row1 b) m = C at *
  have e1 : (C ++ mk m :: List.replicate (64 * (S - (m + 1)) + 63) 0).take (64 * m + 1) = C ++ [mk m] := by
    rw [List.take_append, List.take_of_length_le (by omega), hC, show 64 * m + 1 - 64 * m = 1 by omega]; rfl
  have e2 : (C ++ mk m :: List.replicate (64 * (S - (m + 1)) + 63) 0).drop (64 * m + 1 + xs.length) = List.replicate (63 - xs.length) 0 ++ List.replicate (64 * (S - (m + 1))) 0 := by
    rw [List.drop_append, List.drop_of_length_le (by omega), List.nil_append, hC, show 64 * m + 1 + xs.length - 64 * m = xs.length + 1 by omega, List.drop_succ_cons, List.drop_replicate, List.replicate_append_replicate]
    congr 1
    omega
  rw [e1, e2]
  simp

def LayPost (b : List Int) (w : World) (e : Ending) (w' : World) : Prop := ∃ M n, e = .returned (.slice (some ⟨M, 0, none⟩) n n) ∧ n = 64 * secs b.length ∧ w.heap.size ≤ M ∧ Rd w' (some ⟨M, 0, none⟩) n (laid b) ∧ Below w.heap.size w w'

set_option maxRecDepth 100000 in
set_option maxHeartbeats 1000000 in
theorem lay_any (A : Option Addr) (n c S : Nat) (b : List Int) (w : World) (hr : Rd w A n b) (hc : n ≤ c) (hn : n ≤ 100000) (hS : secs b.length = S) :
    Calls Try.prog 22 #[.slice A n c, .int .i64 S] w (LayPost b w) := by
  obtain ⟨N, hN⟩ : ∃ N, w.heap.size = N := ⟨_, rfl⟩
  have hlen := hr.1
  have hS9 : S ≤ 2000 := by unfold secs at hS; omega
  have HR := Kept.mk hr
  have HS := Kept.mk hS
  obtain ⟨w1, hmk, k1, b1⟩ := make_big w (64 * S) (by omega)
  rw [hN] at k1 b1 hmk
  have hW : wrap64 ((S : Int) * 64) = (S : Int) * 64 := by unfold wrap64; omega
  rw [show ((64 * S : Nat) : Int) = (S : Int) * 64 by omega] at hmk
  rw [← layM_zero b S] at k1
  have K1 := Kept.mk k1; have B1 := Kept.mk b1
  have hl1 : N < w1.heap.size := k1.lt
  clear hr hS k1 b1
  go_enter Try.func22, Try.ntmps22
  go_wp2
  go_loopw [6, 7, 12] (fun _i _s j wr => ∃ m : Nat, m ≤ S ∧ j = .int .i64 m ∧ Kept (Blk wr N 5 (arr .u8 (layM b S m))) ∧ Kept (Below N w wr)) (fun _ _ j _ => S - (intOf j).toNat)
  case atStart => exact ⟨0, by omega, rfl, K1, B1⟩
  case round =>
    clear K1 B1 hmk hl1
    obtain ⟨m, hm, rfl, K, B⟩ := hrel
    by_cases hmS : m < S
    · have hmS' : (m : Int) < S := by omega
      have c1 := Kept.mk (sector_any N 0 (64 * S) (64 * S) m wr (by omega) (Nat.le_refl _) (by omega))
      have c2 := Kept.mk (mark_any m wr)
      have hll := layM_len b HS.out (show m ≤ S by omega)
      have x0 := K.out.at_ (64 * m) (by omega)
      have z0 := K.out.frozen (64 * m)
      go_wp2_with fail
      refine c1.out.mono ?_
      rintro e w' ⟨rfl, rfl⟩
      rw [Nat.zero_add]
      clear c1
      go_wp2_with fail
      refine c2.out.mono ?_
      rintro e w' ⟨rfl, rfl⟩
      clear c2
      have hb2 : Bar [N] wr (wr.setCell ⟨N, 64 * m, none⟩ (.int .u8 (mk m))) := (Bar.refl _ _).setCell (by simp) _
      have k2 := K.out.set_ (64 * m) (.int .u8 (mk m))
      rw [arr_set] at k2
      have B2 := Kept.mk (B.out.trans (hb2.below (by rw [← hN]; exact B.out.size) (by simp)))
      have R2 : Kept (Rd (wr.setCell ⟨N, 64 * m, none⟩ (.int .u8 (mk m))) A n b) := ⟨HR.out.below (by rw [hN]; exact B2.out)⟩
      have K2 := Kept.mk k2
      clear hb2 k2
      go_upto_region 7 with (fail)
      clear x0 z0 K B
      generalize wr.setCell ⟨N, 64 * m, none⟩ (.int .u8 (mk m)) = w2 at *
      have h63 : 63 * m ≤ n := by have := HS.out; unfold secs at this; omega
      obtain ⟨A3, hs3, r3, -⟩ := slice_l R2.out hc (63 * m) h63 ((m : Int) * 63) (by omega)
      have hs4 := slice_l_at N (64 * m) 64 (64 * S - 64 * m) 1 (by omega) (by omega) 1 rfl
      have W3 : IntKind.i64.wrap ((m : Int) * 63) = (m : Int) * 63 := by simp only [IntKind.wrap_i64]; omega
      have R3 := Kept.mk (r3.upto (m := min 63 (n - 63 * m)) (by omega))
      clear r3
      refine wp_region_still_tail 6 (by kernel_rfl) (by kernel_rfl) ?_
      simp only [List.take_succ_cons, List.take_zero, List.drop_succ_cons, List.drop_zero]
      repeat still_step
      refine wpStill_nil ?_
      change wpList _ _ _ _ _ w2.drew
      have hxl : ((b.drop (63 * m)).take (min 63 (n - 63 * m))) = (b.drop (63 * m)).take 63 := by
        rcases Nat.le_total 63 (n - 63 * m) with h | h
        · rw [Nat.min_eq_left h]
        · rw [Nat.min_eq_right h, List.take_of_length_le (by rw [List.length_drop]; omega), List.take_of_length_le (by rw [List.length_drop]; omega)]
      rw [hxl] at R3
      have hxl2 : ((b.drop (63 * m)).take 63).length = min 63 (n - 63 * m) := by rw [List.length_take, List.length_drop, hlen]
      have HX := Kept.mk hxl2
      have hst := layM_step b HS.out hmS
      have HSt := Kept.mk hst
      have hll2 : ((layM b S m).set (64 * m) (mk m)).length = 64 * S := by rw [List.length_set]; exact hll
      clear hxl hxl2 hst hs3 hs4 W3 hll
      generalize (b.drop (63 * m)).take 63 = xs at *
      generalize (layM b S m).set (64 * m) (mk m) = row at *
      refine wpList_copy_bar rfl (.tmp 23) (.tmp 27) 22 22 rfl 5 Try.underlying22 (by kernel_rfl) _ _ _ _ _ _ rfl rfl N (64 * m + 1) (ints .u8 row) 5 K2.out (ints .u8 xs) (by rw [ints_len, HX.out]; exact Nat.min_comm _ _) (fun h0 => ⟨rfl, rd_srcs R3.out.drew h0⟩) (by rw [ints_len, ints_len, HX.out, hll2]; omega) (ints_one _ _) ?_
      intro w3 HG HB
      have K3 : Kept (Blk w3 N 5 (arr .u8 (layM b S (m + 1)))) := ⟨by
        have := HG.out
        rw [splice_ints, HSt.out] at this
        exact this⟩
      have B3 := Kept.mk (B2.out.drew.trans (HB.below (by rw [← hN]; exact B2.out.size) (by simp)))
      clear HG HB K2 B2 R2 R3 HX HSt hll2
      go_wp2
      go_roundw
      case rel => exact ⟨m + 1, by omega, by go_num, K3, B3⟩
      case measure => simp [intOf]; omega
    · obtain rfl : m = S := by omega
      have hmS' : ¬ (m : Int) < m := by omega
      have hl := layM_all b HS.out
      rw [hl] at K
      have hbl := laid_len b
      have R := Kept.mk (Rd.blk K.out (laid_bytes b HR.out.2.1) (by rw [hbl, HS.out]))
      clear hl hbl
      go_wp2
      go_ret
      exact ⟨N, 64 * m, rfl, by rw [HS.out], by omega, R.out, by rw [hN]; exact B.out⟩
end Go.Proofs.Ytimdbljagpbecaa.Frame

/-
  slices.Grow, slices.Concat of rows of bytes.
-/



namespace Go.Proofs.Ytimdbljagpbecaa.Sha
open Go.RowKit

def GrowPost (w : World) (e : Ending) (w' : World) : Prop := ∃ v, e = .returned v ∧ w'.ownsRow w.heap.size 5 1 v 0 [] ∧ Below w.heap.size w w'

set_option maxRecDepth 100000 in
set_option maxHeartbeats 1000000 in
theorem grow_any (n : Nat) (w : World) (hn : n ≤ 1073741824) :
    Calls Try.prog 32 #[.slice none 0 0, .int .i64 n] w (GrowPost w) := by
  by_cases h0 : n = 0
  · subst h0
    go_enter Try.func32, Try.ntmps32
    go_wp2
    go_ret
    exact ⟨_, rfl, World.ownsRow_nil _ _ _ _, Below.refl _ _⟩
  · have hp : 0 < (n : Int) := by omega
    obtain ⟨iu, hi, hz0, hz1, hz2⟩ := info_parts info_u8
    have hg := Kept.mk fun (w : World) ty => Lib.run_append_nil_zeros (P := Try.prog) w 22 3 ty 5 iu (.int .u8 0) .i64 .i64 Try.underlying22 Try.underlying3 hi hz0 n (by omega) (by omega) (by omega) (by rw [hz2]; omega)
    go_enter Try.func32, Try.ntmps32
    have hc1 := grownCap_ge w n 0 5
    have hc2 := grownCap_le_maxLen w n 0 5 (by unfold maxLen; omega)
    obtain ⟨c, hc⟩ : ∃ c, grownCap w n 0 5 = c := ⟨_, rfl⟩
    rw [hc] at hc1 hc2
    have hr := Kept.mk (hg.out w 22)
    rw [hc] at hr
    have hsz : (Builtin.zeroCells (Value.int IntKind.u8 0).cells n ++ Builtin.zeroCells (Value.int IntKind.u8 0).cells (c - n)).size = c := by
      rw [Array.size_append, size_zeroCells, size_zeroCells]; simp [Value.cells]; omega
    have ho := World.ownsRow_made (base := w.heap.size) (e := 5) (size := 1) w.drew (Builtin.zeroCells (Value.int IntKind.u8 0).cells n ++ Builtin.zeroCells (Value.int IntKind.u8 0).cells (c - n)) c (Nat.le_refl _) hc2 (by rw [hsz, Nat.mul_one])
    have hb : Below w.heap.size w (w.drew.alloc (.cells (Builtin.zeroCells (Value.int IntKind.u8 0).cells n ++ Builtin.zeroCells (Value.int IntKind.u8 0).cells (c - n)) 5)) := (Below.refl _ _).drew.alloc (Nat.le_refl _) _
    have HO := Kept.mk ho
    have HB := Kept.mk hb
    clear hg hc ho hb hsz hi hz0 hz1 hz2
    generalize w.drew.alloc (.cells (Builtin.zeroCells (Value.int IntKind.u8 0).cells n ++ Builtin.zeroCells (Value.int IntKind.u8 0).cells (c - n)) 5) = w2 at *
    go_wp2_with ((with_reducible refine sel 22 ?_); refine Lib.wpList_append_run _ rfl (.tmp 20) (.tmp 21) 22 3 rfl _ _ rfl rfl _ _ hr.out ?_)
    go_ret
    exact ⟨_, rfl, HO.out, HB.out⟩
theorem cat_mono (X : Nat → List Int) {k n : Nat} (h : k ≤ n) : (cat X k).length ≤ (cat X n).length := by
  induction n with
  | zero => obtain rfl : k = 0 := by omega
            exact Nat.le_refl _
  | succ n ih =>
    by_cases hk : k = n + 1
    · subst hk; exact Nat.le_refl _
    · rw [cat, List.length_append]; have := ih (by omega); omega
def ConcatPost (xs : List Int) (w : World) (e : Ending) (w' : World) : Prop := ∃ v, e = .returned v ∧ w'.ownsRow w.heap.size 5 1 v xs.length (ints .u8 xs) ∧ Below w.heap.size w w'

set_option maxRecDepth 100000 in
set_option maxHeartbeats 1000000 in
theorem concat_any (A : Option Addr) (n cap : Nat) (X : Nat → List Int) (w : World) (hr : Rws w A n X) (hn : n ≤ 1073741824) (hL : (cat X n).length ≤ 1073741824) :
    Calls Try.prog 20 #[.slice A n cap] w (ConcatPost (cat X n) w) := by
  have HR := Kept.mk hr
  have HM := Kept.mk fun k (hk : k ≤ n) => cat_mono X hk
  have HL := Kept.mk hL
  have PE : Kept (∀ v w', w'.ownsRow w.heap.size 5 1 v (cat X n).length (ints .u8 (cat X n)) → Below w.heap.size w w' → ConcatPost (cat X n) w (.returned v) w') := ⟨fun v w' h1 h2 => ⟨v, rfl, h1, h2⟩⟩
  clear hr hL
  go_enter Try.func20, Try.ntmps20
  go_wp2
  go_loopw [3, 5, 11] (fun s _s i wr => ∃ k : Nat, k ≤ n ∧ i = .int .i64 k ∧ s = .int .i64 ((cat X k).length : Nat) ∧ w = wr) (fun _ _ i _ => n - (intOf i).toNat)
  case atStart => exact ⟨0, by omega, rfl, rfl, rfl⟩
  case round =>
    obtain ⟨k, hk, rfl, rfl, rfl⟩ := hrel
    by_cases hkn : k < n
    · have hkn' : (k : Int) < n := by omega
      obtain ⟨bb, oo, rfl, hc⟩ := HR.out.resolve_left (by omega)
      obtain ⟨a, l, c, h1, h2, h3, h4⟩ := hc k hkn
      have hlen := HM.out (k + 1) (by omega)
      have hl4 := h4.1
      have hL := HL.out
      have hcat : (cat X (k + 1)).length = (cat X k).length + l := by rw [cat, List.length_append, hl4]
      have HC := Kept.mk hcat
      obtain ⟨z, hz⟩ : ∃ z, (cat X k).length = z := ⟨_, rfl⟩
      rw [hcat, hz] at hlen
      rw [hz] at HC ⊢
      have hz9 : z + l ≤ 1073741824 := by omega
      have hW : wrap64 ((z : Int) + l) = z + l := by unfold wrap64; omega
      have hneg : ¬ ((z : Int) + l < 0) := by omega
      clear hc h4 hl4 hcat hlen hL hz
      go_wp2
      go_roundw
      case rel => exact ⟨k + 1, by omega, by go_num, by rw [HC.out]; go_num, trivial⟩
      case measure => simp [intOf]; omega
    · obtain rfl : k = n := by omega
      have hkn' : ¬ (k : Int) < k := by omega
      obtain ⟨N, hN⟩ : ∃ N, w.heap.size = N := ⟨_, rfl⟩
      go_wp2_with fail
      refine (grow_any (cat X k).length w HL.out).mono ?_
      rintro e w1 ⟨v, rfl, o1, b1⟩
      rw [hN] at PE o1 b1
      have O1 := Kept.mk o1; have B1 := Kept.mk b1
      clear o1 b1
      go_wp2
      go_loopw [6, 8, 27] (fun v _s i wr => ∃ (j : Nat) (u : Value), j ≤ k ∧ u = v ∧ i = .int .i64 j ∧ Kept (wr.ownsRow N 5 1 u (cat X j).length (ints .u8 (cat X j))) ∧ Kept (Below N w wr)) (fun _ _ i _ => k - (intOf i).toNat)
      case atStart => exact ⟨0, v, by omega, rfl, rfl, O1, B1⟩
      case round =>
        clear O1 B1
        obtain ⟨j, u, hj, rfl, rfl, O, B⟩ := hrel
        by_cases hjk : j < k
        · have hjk' : (j : Int) < k := by omega
          obtain ⟨bb, oo, rfl, hc⟩ := HR.out.resolve_left (by omega)
          obtain ⟨a, l, c, h1, h2, h3, h4⟩ := hc j hjk
          have x0 : wr.cell? ⟨bb, oo + j, none⟩ = some (.slice a l c) := (B.out.cell (p := ⟨bb, oo + j, none⟩) (by rw [← hN]; exact World.block_lt_of_cell? _ _ h1)).trans h1
          have R4 := Kept.mk (h4.below (hN.symm ▸ B.out))
          have hlen := HM.out (j + 1) (by omega)
          have hl4 := h4.1
          have hL := HL.out
          have hcat : cat X (j + 1) = cat X j ++ X j := rfl
          have hcl : (cat X (j + 1)).length = (cat X j).length + l := by rw [hcat, List.length_append, hl4]
          have HC := Kept.mk (And.intro hcat hcl)
          rw [hcl] at hlen
          obtain ⟨z, hz⟩ : ∃ z, (cat X j).length = z := ⟨_, rfl⟩
          rw [hz] at hlen HC O
          have hz9 : z + l ≤ 1073741824 := by omega
          clear hc h1 h4 hl4 hcat hcl hL hlen
          go_wp2_with ((with_reducible refine sel 33 ?_); refine wpList_append_rd rfl (.tmp 31) (.tmp 32) 22 rfl N 5 Try.underlying22 info_u8 u z _ rfl O.out a l c (X j) rfl R4.out (by omega) (by rw [← hN]; exact B.out.size) ?_; intro v7 w7 o7 g7; have B7 := Kept.mk (B.out.trans (own_below O.out g7 (by rw [← hN]; exact B.out.size))); rw [← ints_append, ← HC.out.1, ← HC.out.2] at o7; clear g7)
          go_roundw
          case rel => exact ⟨j + 1, _, by omega, rfl, by go_num, o7, B7⟩
          case measure => simp [intOf]; omega
        · obtain rfl : j = k := by omega
          have hkn' : ¬ (j : Int) < j := by omega
          have PF := Kept.mk (PE.out _ _ O.out B.out)
          clear PE
          go_wp2
          go_ret
          exact PF.out
end Go.Proofs.Ytimdbljagpbecaa.Sha

/-
  Package frame: Put.
-/





namespace Go.Proofs.Ytimdbljagpbecaa.Frame
open Go.RowKit Go.Proofs.Ytimdbljagpbecaa.Sha Go.Proofs.Ytimdbljagpbecaa.Wire

/-- what Put lays behind one another -/
def text3 (f : FV) (i : Nat) : List Int := if i = 0 then headF f else if i = 1 then (sha (headF f ++ f.body)).take 8 else f.body
theorem text3_is (f : FV) : cat (text3 f) 3 = textF f := by unfold textF; simp [cat, text3]
theorem rws3 {w : World} {g : Nat} {T : TypeId} {f : FV} {A0 A1 A2 : Option Addr} {n0 n1 n2 c0 c1 c2 : Nat} (h : Blk w g T #[.slice A0 n0 c0, .slice A1 n1 c1, .slice A2 n2 c2])
    (h0 : n0 ≤ c0) (h1 : n1 ≤ c1) (h2 : n2 ≤ c2) (k0 : c0 ≤ 9223372036854775807) (k1 : c1 ≤ 9223372036854775807) (k2 : c2 ≤ 9223372036854775807)
    (r0 : Rd w A0 n0 (headF f)) (r1 : Rd w A1 n1 ((sha (headF f ++ f.body)).take 8)) (r2 : Rd w A2 n2 f.body) : Rws w (some ⟨g, 0, none⟩) 3 (text3 f) := by
  refine .inr ⟨g, 0, rfl, fun r hr => ?_⟩
  rw [Nat.zero_add, h.cell]
  match r, hr with
  | 0, _ => exact ⟨A0, n0, c0, rfl, h0, k0, r0⟩
  | 1, _ => exact ⟨A1, n1, c1, rfl, h1, k1, r1⟩
  | 2, _ => exact ⟨A2, n2, c2, rfl, h2, k2, r2⟩

set_option maxRecDepth 100000 in
set_option maxHeartbeats 1000000 in
theorem cput_any (w : World) (t : Nat) (f : FV) (A : Option Addr) (n c : Nat) (ht : Tab w t) (hr : Rd w A n f.body) (hc : n ≤ c) (hcm : c ≤ maxLen) :
    Calls Try.prog 9 #[.pointer (some ⟨t, 0, none⟩), frv f A n c] w (PutPost t f w) := by
  obtain ⟨N, hN⟩ : ∃ N, w.heap.size = N := ⟨_, rfl⟩
  have htN : t < N := by rw [← hN]; exact ht.lt
  have hlen := hr.1
  have HBY := Kept.mk hr.2.1
  have hc63 : c ≤ 9223372036854775807 := by unfold maxLen at hcm; omega
  have F1 := Blk.new_at w 24 #[.int .i64 f.kind, .int .i64 f.gen, .int .i64 f.seq, .slice A n c] N hN.symm
  have b1 : Below N w (w.alloc (.cells #[.int .i64 f.kind, .int .i64 f.gen, .int .i64 f.seq, .slice A n c] 24)) := (Below.refl _ _).alloc (by omega) _
  have hs1 : (w.alloc (.cells #[.int .i64 f.kind, .int .i64 f.gen, .int .i64 f.seq, .slice A n c] 24)).heap.size = N + 1 := by simp [hN]
  have HR1 : Kept (Rd (w.alloc (.cells #[.int .i64 f.kind, .int .i64 f.gen, .int .i64 f.seq, .slice A n c] 24)) A n f.body) := ⟨hr.below (by rw [hN]; exact b1)⟩
  have HT1 : Kept (Tab (w.alloc (.cells #[.int .i64 f.kind, .int .i64 f.gen, .int .i64 f.seq, .slice A n c] 24)) t) := ⟨ht.below b1 (by omega)⟩
  have HF1 := Kept.mk F1; have B1 := Kept.mk b1
  have f13 := F1.cell 3
  have f10 := F1.cell 0; have f11 := F1.cell 1; have f12 := F1.cell 2
  unfold frv
  by_cases hbig : 60000 < n
  · have he : errF f = 3 := by unfold errF; rw [if_pos (by omega)]
    have hbig' : 60000 < (n : Int) := by omega
    have PF : Kept (∀ w', Tab w' t → Below N w w' → PutPost t f w (.returned (.tuple #[.slice none 0 0, .int .i64 3])) w') := ⟨fun w' h1 h2 => ⟨none, 0, 0, by simp only [putF, he], Nat.le_refl _, by unfold maxLen; omega, by simp only [putF, he]; exact Rd.nil_, fun F _ => .inl rfl, h1, barOf (hN.symm ▸ h2) _⟩⟩
    have PG := Kept.mk (PF.out _ HT1.out B1.out)
    clear F1 b1 hs1 ht hr hcm PF
    go_enter Try.func9, Try.ntmps9
    go_wp2
    go_ret2
    exact PG.out
  · have hbig' : ¬ 60000 < (n : Int) := by omega
    have he2 := errF_two f (by omega)
    have c1 := Kept.mk (chead_any f A n c (w.alloc (.cells #[.int .i64 f.kind, .int .i64 f.gen, .int .i64 f.seq, .slice A n c] 24)) hlen (by omega))
    rw [hst_is f (by omega)] at c1
    clear F1 b1 ht hr hcm
    go_enter Try.func9, Try.ntmps9
    go_wp2_with fail
    refine c1.out.mono ?_
    clear c1
    generalize w.alloc (.cells #[.int .i64 f.kind, .int .i64 f.gen, .int .i64 f.seq, .slice A n c] 24) = w1 at *
    rintro x w2 ⟨v, rfl, o2, b2⟩
    rw [hs1] at o2 b2
    have F2 := HF1.out.below b2 (by omega)
    have HT2 := Kept.mk (HT1.out.below b2 (by omega))
    have HR2 := Kept.mk (HR1.out.below (by rw [hs1]; exact b2))
    have B2 := Kept.mk (B1.out.trans (b2.mono (by omega)))
    clear f10 f11 f12 f13 HF1 HR1 HT1 B1
    have f23 : w2.cell? ⟨N, 3, none⟩ = some (.slice A n c) := F2.cell 3
    rcases he2 with he | he
    · rw [if_pos he] at o2 ⊢
      obtain ⟨Av, cv, rfl, k1, k2, k3⟩ := own_rd o2 (headF_bytes f)
      have HH2 := Kept.mk k3
      rw [headF_len] at k1 HH2 ⊢
      have hN2 : N + 1 ≤ w2.heap.size := by rw [← hs1]; exact b2.size
      have HF2 := Kept.mk F2
      clear o2 b2 F2 k3
      go_upto_region 6 with (fail)
      refine wp_region_noPanic ?_
      refine wp_region_held_drew (S := fun w' : World => w'.cell? ⟨N, 3, none⟩ = some (.slice A n c)) (by kernel_rfl) f23 (fun _ => ?_)
      have F3 : Kept (Blk w2.drew N 24 #[.int .i64 f.kind, .int .i64 f.gen, .int .i64 f.seq, .slice A n c]) := ⟨HF2.out.drew⟩
      have HT3 : Kept (Tab w2.drew t) := ⟨HT2.out.below (Below.refl _ _).drew (by have := HT2.out.lt; omega)⟩
      have HR3 : Kept (Rd w2.drew A n f.body) := ⟨HR2.out.drew⟩
      have HH3 : Kept (Rd w2.drew Av 16 (headF f)) := ⟨HH2.out.drew⟩
      have B3 : Kept (Below N w w2.drew) := ⟨B2.out.drew⟩
      have hN3 : N + 1 ≤ w2.drew.heap.size := hN2
      clear HF2 HT2 HR2 HH2 B2 f23 hN2
      generalize w2.drew = w3 at *
      refine wpAnyH_take (i := 0) (oi := ?o75) (v := ?v75) ?hi75 (by kernel_rfl) (by kernel_rfl) (by kernel_rfl) ?hq75 (Or.inl ⟨?hw75, ?hy75⟩) (by assumption) ?r75
      case hi75 => (simp only [List.getElem?_toArray, List.getElem?_cons_zero]; exact rfl)
      case hq75 => exact fun _ _ _ h => h
      case hw75 => rfl
      case hy75 => (intro w hSw; (try dsimp only at hSw); go_simp; try exact rfl)
      simp only [Act.put, List.setIfInBounds_toArray, List.set_cons_zero, List.set_cons_succ]
      refine wpAnyH_take (i := 1) (oi := ?o76) (v := ?v76) ?hi76 (by kernel_rfl) (by kernel_rfl) (by kernel_rfl) ?hq76 (Or.inl ⟨?hw76, ?hy76⟩) (by assumption) ?r76
      case hi76 => (simp only [List.getElem?_toArray, List.getElem?_cons_succ, List.getElem?_cons_zero]; exact rfl)
      case hq76 => exact fun _ _ _ h => h
      case hw76 => rfl
      case hy76 => (intro w hSw; (try dsimp only at hSw); go_simp; try exact rfl)
      simp only [Act.put, List.setIfInBounds_toArray, List.set_cons_zero, List.set_cons_succ]
      refine wpAnyH_take (i := 2) (oi := ?o77) (v := ?v77) ?hi77 (by kernel_rfl) (by kernel_rfl) (by kernel_rfl) ?hq77 (Or.inl ⟨?hw77, ?hy77⟩) (by assumption) ?r77
      case hi77 => (simp only [List.getElem?_toArray, List.getElem?_cons_succ, List.getElem?_cons_zero]; exact rfl)
      case hq77 => exact fun _ _ _ h => h
      case hw77 => rfl
      case hy77 => (intro w hSw; (try dsimp only at hSw); go_simp; try exact rfl)
      simp only [Act.put, List.setIfInBounds_toArray, List.set_cons_zero, List.set_cons_succ]
      refine wpAnyH_take (i := 3) (oi := ?o78) (v := ?v78) ?hi78 (by kernel_rfl) (by kernel_rfl) (by kernel_rfl) ?hq78 (Or.inl ⟨?hw78, ?hy78⟩) (by assumption) ?r78
      case hi78 => (simp only [List.getElem?_toArray, List.getElem?_cons_succ, List.getElem?_cons_zero]; exact rfl)
      case hq78 => exact fun _ _ _ h => h
      case hw78 => rfl
      case hy78 => (intro w hSw; (try dsimp only at hSw); go_simp; try exact rfl)
      simp only [Act.put, List.setIfInBounds_toArray, List.set_cons_zero, List.set_cons_succ]
      refine wpAnyH_take (i := 4) (oi := ?o79) (v := ?v79) ?hi79 (by kernel_rfl) (by kernel_rfl) (by kernel_rfl) ?hq79 (Or.inl ⟨?hw79, ?hy79⟩) (by assumption) ?r79
      case hi79 => (simp only [List.getElem?_toArray, List.getElem?_cons_succ, List.getElem?_cons_zero]; exact rfl)
      case hq79 => exact fun _ _ _ h => h
      case hw79 => rfl
      case hy79 => (intro w hSw; (try dsimp only at hSw); go_simp; try exact rfl)
      simp only [Act.put, List.setIfInBounds_toArray, List.set_cons_zero, List.set_cons_succ]
      refine wpAnyH_take (i := 6) (oi := ?o80) (v := ?v80) ?hi80 (by kernel_rfl) (by kernel_rfl) (by kernel_rfl) ?hq80 (Or.inl ⟨?hw80, ?hy80⟩) (by assumption) ?r80
      case hi80 => (simp only [List.getElem?_toArray, List.getElem?_cons_succ, List.getElem?_cons_zero]; exact rfl)
      case hq80 => exact fun _ _ _ h => h
      case hw80 => rfl
      case hy80 => (intro w hSw; (try dsimp only at hSw); go_simp; try exact rfl)
      simp only [Act.put, List.setIfInBounds_toArray, List.set_cons_zero, List.set_cons_succ]
      refine wpAnyH_take (i := 7) (oi := ?o81) (v := ?v81) ?hi81 (by kernel_rfl) (by kernel_rfl) (by kernel_rfl) ?hq81 (Or.inl ⟨?hw81, ?hy81⟩) (by assumption) ?r81
      case hi81 => (simp only [List.getElem?_toArray, List.getElem?_cons_succ, List.getElem?_cons_zero]; exact rfl)
      case hq81 => exact fun _ _ _ h => h
      case hw81 => rfl
      case hy81 => (intro w hSw; (try dsimp only at hSw); go_simp; try exact rfl)
      simp only [Act.put, List.setIfInBounds_toArray, List.set_cons_zero, List.set_cons_succ]
      refine wpAnyH_ready (rs := [5]) (by kernel_rfl) (by simp) ?_
      refine AllReadyH.cons (o := ?o83) ?hi83 (fun K hK => ?_) AllReadyH.nil
      case hi83 => (simp only [List.getElem?_toArray, List.getElem?_cons_succ, List.getElem?_cons_zero]; exact rfl)
      go_simp
      go_at_call 21
      refine (csum_any t Av A 16 cv n c (headF f) f.body w3 HT3.out HH3.out HR3.out k1 k2 hc hc63 (by omega) (by omega)).mono ?_
      rintro x w4 ⟨M, rfl, hM, r4, t4, b4⟩
      have HR4 := Kept.mk (HR3.out.tab HT3.out b4)
      have HH4 := Kept.mk (HH3.out.tab HT3.out b4)
      have F4 := Kept.mk (F3.out.bar b4 (by rw [List.mem_singleton]; omega))
      have B4 : Kept (Bar [t] w w4) := ⟨(barOf (hN.symm ▸ B3.out) [t]).trans b4 (by simp)⟩
      have hN4 : N + 1 ≤ w4.heap.size := by have := b4.size; omega
      have R4 := Kept.mk r4; have T4 := Kept.mk t4
      refine hK.out _ _ (F4.out.cell 3) (fun _ => ?_)
      clear hK K HR3 HH3 F3 B3 HT3 r4 t4 b4
      try simp only [Act.put, List.setIfInBounds_toArray, List.set_cons_zero, List.set_cons_succ]
      refine wpAnyH_ready (rs := [8]) (by kernel_rfl) (by simp) ?_
      refine AllReadyH.cons (o := ?o84) ?hi84 (fun K hK => ?_) AllReadyH.nil
      case hi84 => (simp only [List.getElem?_toArray, List.getElem?_cons_succ, List.getElem?_cons_zero]; exact rfl)
      go_simp
      have q5 : Bar [] w4 (w4.alloc (.cells #[.slice Av 16 cv, .slice (some ⟨M, 0, none⟩) 8 32, .slice A n c] 22)) := (Bar.refl _ _).alloc _
      have W5 := Kept.mk (rws3 (f := f) (Blk.new w4 22 #[.slice Av 16 cv, .slice (some ⟨M, 0, none⟩) 8 32, .slice A n c]) k1 (by omega) hc k2 (by omega) hc63 (HH4.out.keep q5 (by simp)) (R4.out.keep q5 (by simp)) (HR4.out.keep q5 (by simp)))
      have F5 := Kept.mk (F4.out.bar q5 (by simp))
      have T5 := Kept.mk (T4.out.bar q5 (by simp))
      have B5 := Kept.mk (B4.out.trans q5 (by simp))
      have hN5 : N + 1 ≤ (w4.alloc (.cells #[.slice Av 16 cv, .slice (some ⟨M, 0, none⟩) 8 32, .slice A n c] 22)).heap.size := by have := q5.size; omega
      refine hK.out _ _ (F5.out.cell 3) (fun _ => ?_)
      clear hK K HH4 HR4 R4 F4 T4 B4 q5
      try simp only [Act.put, List.setIfInBounds_toArray, List.set_cons_zero, List.set_cons_succ]
      generalize w4.alloc (.cells #[.slice Av 16 cv, .slice (some ⟨M, 0, none⟩) 8 32, .slice A n c] 22) = w5 at *
      generalize w4.heap.size = gB at *
      refine wpAnyH_ready (rs := [9]) (by kernel_rfl) (by simp) ?_
      refine AllReadyH.cons (o := ?o85) ?hi85 (fun K hK => ?_) AllReadyH.nil
      case hi85 => (simp only [List.getElem?_toArray, List.getElem?_cons_succ, List.getElem?_cons_zero]; exact rfl)
      go_simp
      go_at_call 20
      have hL : (textF f).length = 24 + n := by rw [textF_len, hlen]
      refine (concat_any (some ⟨gB, 0, none⟩) 3 3 (text3 f) w5 W5.out (by omega) (by rw [text3_is, hL]; omega)).mono ?_
      rw [text3_is]
      rintro x w6 ⟨v6, rfl, o6, b6⟩
      obtain ⟨A6, c6, rfl, h61, h62, r6⟩ := own_rd o6 (textF_bytes f HBY.out)
      rw [hL] at r6 h61 ⊢
      have R6 := Kept.mk r6
      have F6 := Kept.mk (F5.out.below b6 (by omega))
      have T6 := Kept.mk (T5.out.below b6 (by omega))
      have B6 := Kept.mk (B5.out.trans (barOf b6 []) (by simp))
      have hN6 : N + 1 ≤ w6.heap.size := by have := b6.size; omega
      refine hK.out _ _ (F6.out.cell 3) (fun _ => ?_)
      clear hK K W5 F5 T5 B5 o6 b6 r6
      try simp only [Act.put, List.setIfInBounds_toArray, List.set_cons_zero, List.set_cons_succ]
      refine wpAnyH_take (i := 10) (oi := ?o82) (v := ?v82) ?hi82 (by kernel_rfl) (by kernel_rfl) (by kernel_rfl) ?hq82 (Or.inl ⟨?hw82, ?hy82⟩) (by assumption) ?r82
      case hi82 => (simp only [List.getElem?_toArray, List.getElem?_cons_succ, List.getElem?_cons_zero]; exact rfl)
      case hq82 => exact fun _ _ _ h => h
      case hw82 => rfl
      case hy82 => (intro w hSw; (try dsimp only at hSw); go_simp; try exact rfl)
      simp only [Act.put, List.setIfInBounds_toArray, List.set_cons_zero, List.set_cons_succ]
      refine wpAnyH_done (by kernel_rfl) ?_ _
      refine NoPanic.normal ?_
      have f63 : w6.cell? ⟨N, 3, none⟩ = some (.slice A n c) := F6.out.cell 3
      have hsec : sectorsF (n : Int) = ((secs (textF f).length : Nat) : Int) := by
        unfold sectorsF secs
        rw [if_neg (by omega), hL]
        omega
      have cs := Kept.mk (csectors_any n w6)
      rw [hsec] at cs
      have cl := Kept.mk (lay_any A6 (24 + n) c6 _ (textF f) w6 R6.out h61 (by omega) rfl)
      have HSZ := Kept.mk (laid_len (textF f))
      have hS9 : secs (textF f).length ≤ 2000 := by unfold secs; omega
      generalize secs (textF f).length = S at *
      clear F6 R6 hsec
      go_wp2_with fail
      refine cs.out.mono ?_
      rintro x w7 ⟨rfl, rfl⟩
      clear cs
      go_wp2_with fail
      refine cl.out.mono ?_
      clear cl
      rintro x w7 ⟨M7, n7, rfl, hn7, hM7, r7, b7⟩
      have T7 := Kept.mk (T6.out.below b7 (by omega))
      have B7 := Kept.mk (B6.out.trans (barOf b7 []) (by simp))
      have PG : Kept (PutPost t f w (.returned (.tuple #[.slice (some ⟨M7, 0, none⟩) n7 n7, .int .i64 0])) w7) := ⟨by
        refine ⟨some ⟨M7, 0, none⟩, n7, n7, by simp only [putF, he], Nat.le_refl _, ?_, by simp only [putF]; rw [if_pos he]; exact r7, fun F hF => .inr ⟨M7, 0, rfl, fun hk => by have := hF _ hk; omega⟩, T7.out, B7.out⟩
        have := r7.1
        rw [HSZ.out] at this
        unfold maxLen; omega⟩
      clear r7 b7 T6 B6 T7 B7 hn7 HSZ
      go_wp2
      go_ret2
      exact PG.out
    · have he0 : errF f ≠ 0 := by omega
      rw [if_neg he0] at o2 ⊢
      obtain ⟨Av, cv, rfl⟩ := own_shape o2
      have PG : Kept (PutPost t f w (.returned (.tuple #[.slice none 0 0, .int .i64 1])) w2) := ⟨none, 0, 0, by simp only [putF, he], Nat.le_refl _, by unfold maxLen; omega, by simp only [putF]; rw [if_neg he0]; exact Rd.nil_, fun F _ => .inl rfl, HT2.out, barOf (hN.symm ▸ B2.out) _⟩
      clear o2 b2 F2 HT2 HR2 B2 f23
      go_wp2
      go_ret2
      exact PG.out
end Go.Proofs.Ytimdbljagpbecaa.Frame

/-
  A row of bytes of the call's own, written cell by cell. For any seat.
-/

namespace Go.Proofs.Ytimdbljagpbecaa.Sha
open Go.RowKit

/-- the first n cells of block g hold the bytes xs, and may be written -/
def Wr (w : World) (g : Nat) (T : TypeId) (n : Nat) (xs : List Int) : Prop := xs.length = n ∧ Bytes xs ∧ ∃ cs, Blk w g T cs ∧ ∀ i, i < n → cs[i]? = some (.int .u8 (at_ xs i))
theorem Wr.rd {w : World} {g n : Nat} {T : TypeId} {xs : List Int} (h : Wr w g T n xs) : Rd w (some ⟨g, 0, none⟩) n xs := by
  obtain ⟨h1, h2, cs, h3, h4⟩ := h
  exact ⟨h1, h2, .inr ⟨g, 0, rfl, fun i hi => by rw [Nat.zero_add, h3.cell]; exact h4 i hi⟩⟩
theorem Wr.lt {w : World} {g n : Nat} {T : TypeId} {xs : List Int} (h : Wr w g T n xs) : g < w.heap.size := by
  obtain ⟨-, -, cs, h3, -⟩ := h
  exact h3.lt
theorem Wr.bar {w w' : World} {g n : Nat} {T : TypeId} {xs : List Int} {l : List Nat} (h : Wr w g T n xs) (b : Bar l w w') (hg : g ∉ l) : Wr w' g T n xs := by
  obtain ⟨h1, h2, cs, h3, h4⟩ := h
  exact ⟨h1, h2, cs, h3.bar b hg, h4⟩
theorem Wr.cell {w : World} {g n : Nat} {T : TypeId} {xs : List Int} (h : Wr w g T n xs) (i : Nat) (hi : i < n) : w.cell? ⟨g, i, none⟩ = some (.int .u8 (at_ xs i)) := by
  obtain ⟨-, -, cs, h3, h4⟩ := h
  rw [h3.cell]; exact h4 i hi
theorem Wr.frozen {w : World} {g n : Nat} {T : TypeId} {xs : List Int} (h : Wr w g T n xs) (i : Nat) : w.frozen? ⟨g, i, none⟩ = false := by
  obtain ⟨-, -, cs, h3, -⟩ := h
  exact h3.frozen i
theorem Wr.set {w : World} {g n : Nat} {T : TypeId} {xs : List Int} (h : Wr w g T n xs) (i : Nat) (x : Int) (hx : 0 ≤ x ∧ x ≤ 255) : Wr (w.setCell ⟨g, i, none⟩ (.int .u8 x)) g T n (xs.set i x) := by
  obtain ⟨h1, h2, cs, h3, h4⟩ := h
  refine ⟨by simpa using h1, fun y hy => ?_, _, h3.set_ i _, fun j hj => ?_⟩
  · rcases List.mem_or_eq_of_mem_set hy with h | h
    · exact h2 y h
    · rw [h]; exact hx
  · have hc := h4 j hj
    have hjs : j < cs.size := (Array.getElem?_eq_some_iff.1 hc).1
    rw [Array.getElem?_setIfInBounds, at_set _ _ _ _ (by omega)]
    by_cases hij : i = j
    · subst hij; simp [hjs]
    · rw [if_neg hij, if_neg hij]; exact hc
theorem wr_of_own {w : World} {base : Nat} {T : TypeId} {v : Value} {n : Nat} {xs : List Int} (h : w.ownsRow base T 1 v n (ints .u8 xs)) (hb : Bytes xs) (hn : 1 ≤ n) : ∃ g c, v = .slice (some ⟨g, 0, none⟩) n c ∧ base ≤ g ∧ n ≤ c ∧ c ≤ 9223372036854775807 ∧ Wr w g T n xs := by
  have hl : xs.length = n := by have := h.1; rw [ints_len] at this; omega
  rcases h.2 with ⟨-, h0⟩ | ⟨g, cap, cur, rfl, hg, hh, h1, h2, -, h4⟩
  · omega
  · unfold maxLen at h2
    refine ⟨g, cap, rfl, hg, h1, by omega, hl, hb, cur, hh, fun i hi => ?_⟩
    have e : cur.toList.take n = ints .u8 xs := by simpa using h4
    have e2 : (cur.toList.take n)[i]? = (ints .u8 xs)[i]? := by rw [e]
    rw [List.getElem?_take_of_lt hi, Array.getElem?_toList, Sha.ints_at _ _ _ (by omega)] at e2
    exact e2
theorem rd_cell {w : World} {b o n : Nat} {xs : List Int} (r : Rd w (some ⟨b, o, none⟩) n xs) (i : Nat) (hi : i < n) : w.cell? ⟨b, o + i, none⟩ = some (.int .u8 (at_ xs i)) := by
  rcases r.2.2 with h | ⟨b', o', h, hc⟩
  · omega
  · injection h with h
    injection h with h1 h2
    subst h1 h2
    exact hc i hi
theorem rd_bar {w w' : World} {b o n : Nat} {xs : List Int} {g : Nat} (r : Rd w (some ⟨b, o, none⟩) n xs) (h : Bar [g] w w') (hg : b ≠ g) : Rd w' (some ⟨b, o, none⟩) n xs :=
  r.keep h (by intro x hx; rw [List.mem_singleton] at hx; subst hx; exact .inr fun o ho => by injection ho with ho; injection ho with ho; exact hg ho)
theorem wr_byte {w : World} {g n : Nat} {T : TypeId} {xs : List Int} (h : Wr w g T n xs) (i : Nat) : 0 ≤ at_ xs i ∧ at_ xs i ≤ 255 := h.2.1.at_ i
end Go.Proofs.Ytimdbljagpbecaa.Sha

/-
  Package frame: lift.
-/





namespace Go.Proofs.Ytimdbljagpbecaa.Frame
open Go.RowKit Go.Proofs.Ytimdbljagpbecaa.Sha Go.Proofs.Ytimdbljagpbecaa.Wire

theorem rd_mid {w : World} {g o n : Nat} {xs : List Int} (r : Rd w (some ⟨g, o, none⟩) n xs) (l k : Nat) (h : l + k ≤ n) : Rd w (some ⟨g, o + l, none⟩) k ((xs.drop l).take k) := by
  refine ⟨by have := r.1; rw [List.length_take, List.length_drop]; omega, (r.2.1.drop _).take _, .inr ⟨g, o + l, rfl, fun i hi => ?_⟩⟩
  rw [at_take hi, at_drop, Nat.add_assoc]
  exact rd_cell r (l + i) (by omega)
/-- do so many sectors stand there, with their marks? -/
def liftOk (b : List Int) (S : Nat) : Bool := decide (64 * S ≤ b.length ∧ ∀ i, i < S → at_ b (64 * i) = mk i)
def LiftPost (b : List Int) (S : Nat) (w : World) (e : Ending) (w' : World) : Prop :=
  (liftOk b S = true ∧ ∃ A n c, n = 63 * S ∧ e = .returned (.tuple #[.slice A n c, .bool true]) ∧ n ≤ c ∧ c ≤ 9223372036854775807 ∧ Rd w' A n (allF b S) ∧ (∀ F : List Nat, (∀ k ∈ F, k < w.heap.size) → Off A n F) ∧ Below w.heap.size w w') ∨
  (liftOk b S = false ∧ e = .returned (.tuple #[.slice none 0 0, .bool false]) ∧ Below w.heap.size w w')
theorem make_cap (w : World) (n : Nat) (hn : n ≤ 16777216) : ∃ w', (Instr.makeSlice 22 (.int .i64 0) (.int .i64 (n : Int))).run Try.prog w = .ok (.slice (some ⟨w.heap.size, 0, none⟩) 0 n) w' ∧ w'.ownsRow w.heap.size 5 1 (.slice (some ⟨w.heap.size, 0, none⟩) 0 n) 0 [] ∧ Below w.heap.size w w' := by
  obtain ⟨iu, hi, hz0, hz1, hz2⟩ := info_parts info_u8
  obtain ⟨w', hm, own, gr⟩ := run_make_own (P := Try.prog) w w.heap.size 22 5 iu _ 1 Try.underlying22 hi hz0 hz1 .i64 .i64 n (by rw [hz2]; omega) (by unfold maxLen; omega) (Nat.le_refl _)
  exact ⟨w', hm, own, ⟨gr.os, gr.tape, gr.output, gr.size, fun k hk => gr.block k hk (by simp)⟩⟩

set_option maxRecDepth 100000 in
set_option maxHeartbeats 1000000 in
theorem lift_any (A : Option Addr) (n c S : Nat) (b : List Int) (w : World) (hr : Rd w A n b) (hc : n ≤ c) (hn : n ≤ 100000) (hS1 : 1 ≤ S) (hS9 : S ≤ 2000) :
    Calls Try.prog 24 #[.slice A n c, .int .i64 S] w (LiftPost b S w) := by
  obtain ⟨N, hN⟩ : ∃ N, w.heap.size = N := ⟨_, rfl⟩
  have hlen := hr.1
  have W1 : wrap64 ((S : Int) * 64) = (S : Int) * 64 := by unfold wrap64; omega
  by_cases hns : n < 64 * S
  · have hns' : (n : Int) < (S : Int) * 64 := by omega
    have PF : Kept (LiftPost b S w (.returned (.tuple #[.slice none 0 0, .bool false])) w) := ⟨.inr ⟨by unfold liftOk; rw [decide_eq_false_iff_not]; rintro ⟨h, -⟩; omega, rfl, Below.refl _ _⟩⟩
    clear hr hlen
    go_enter Try.func24, Try.ntmps24
    go_wp2
    go_ret2
    exact PF.out
  · have hns' : ¬ (n : Int) < (S : Int) * 64 := by omega
    have W2 : wrap64 ((S : Int) * 63) = (S : Int) * 63 := by unfold wrap64; omega
    obtain ⟨w1, hmk, o1, b1⟩ := make_cap w (63 * S) (by omega)
    rw [show ((63 * S : Nat) : Int) = (S : Int) * 63 by omega] at hmk
    rw [hN] at hmk o1 b1
    obtain ⟨g, o, rfl, hcell⟩ := hr.2.2.resolve_left (by omega)
    have HR := Kept.mk hr
    have O1 := Kept.mk o1; have B1 := Kept.mk b1
    have PF : Kept (∀ w', ¬ (∀ i, i < S → at_ b (64 * i) = mk i) → Below N w w' → LiftPost b S w (.returned (.tuple #[.slice none 0 0, .bool false])) w') :=
      ⟨fun w' h1 h2 => .inr ⟨by unfold liftOk; rw [decide_eq_false_iff_not]; rintro ⟨-, h⟩; exact h1 h, rfl, hN.symm ▸ h2⟩⟩
    have PT : Kept (∀ v w', (∀ i, i < S → at_ b (64 * i) = mk i) → w'.ownsRow N 5 1 v (63 * S) (ints .u8 (allF b S)) → Below N w w' → LiftPost b S w (.returned (.tuple #[v, .bool true])) w') := ⟨fun v w' h1 h2 h3 => by
      obtain ⟨Av, cv, rfl, k1, k2, k3⟩ := own_rd h2 (allF_bytes HR.out.2.1 S)
      refine .inl ⟨by unfold liftOk; rw [decide_eq_true_iff]; exact ⟨by omega, h1⟩, Av, 63 * S, cv, rfl, rfl, k1, k2, k3, fun F hF => ?_, by rw [hN]; exact h3⟩
      exact own_off h2 (fun k hk hk2 => by have := (h2.lt k (by simpa using hk)).1; have := hF k hk2; omega)⟩
    clear hr hcell o1 b1
    go_enter Try.func24, Try.ntmps24
    go_wp2
    go_loopw [6, 7, 8, 18] (fun v _i _s j wr => ∃ m : Nat, m ≤ S ∧ j = .int .i64 m ∧ Kept (∀ i, i < m → at_ b (64 * i) = mk i) ∧ Kept (wr.ownsRow N 5 1 v (63 * m) (ints .u8 (allF b m))) ∧ Kept (Below N w wr)) (fun _ _ _ j _ => S - (intOf j).toNat)
    case atStart => exact ⟨0, by omega, rfl, ⟨fun i hi => by omega⟩, O1, B1⟩
    case round =>
      clear O1 B1 hmk
      obtain ⟨m, hm, rfl, M, O, B⟩ := hrel
      by_cases hmS : m < S
      · have hmS' : (m : Int) < S := by omega
        have c1 := Kept.mk (sector_any g o n c m wr (by omega) hc (by omega))
        have c2 := Kept.mk fun w => mark_any m w
        have r1 : Rd wr (some ⟨g, o, none⟩) n b := HR.out.below (by rw [hN]; exact B.out)
        have x0 := rd_cell r1 (64 * m) (by omega)
        have r3 := rd_mid r1 (64 * m + 1) 63 (by omega)
        rw [← Nat.add_assoc] at r3
        have hs4 := slice_l_at g (o + 64 * m) 64 (c - 64 * m) 1 (by omega) (by omega) 1 rfl
        have R3 := Kept.mk r3
        clear r1 r3
        by_cases hmk : at_ b (64 * m) = mk m
        · have M2 : Kept (∀ i, i < m + 1 → at_ b (64 * i) = mk i) := ⟨fun i hi => by
            by_cases h : i = m
            · subst h; exact hmk
            · exact M.out i (by omega)⟩
          rw [hmk] at x0
          clear hmk M
          go_wp2_with fail
          refine c1.out.mono ?_
          rintro e w' ⟨rfl, rfl⟩
          clear c1
          go_wp2
          go_quiet ((first | (go_at_call 37; exact Calls.quiet_of_same (still_of (c2.out _)))))
          have O2 : Kept ((wr.drewN nq).ownsRow N 5 1 u6 (63 * m) (ints .u8 (allF b m))) := ⟨O.out⟩
          have B2 : Kept (Below N w (wr.drewN nq)) := ⟨below_drewN B.out _⟩
          have R4 : Kept (Rd (wr.drewN nq) (some ⟨g, o + 64 * m + 1, none⟩) 63 ((b.drop (64 * m + 1)).take 63)) := ⟨R3.out⟩
          clear O B R3 x0
          generalize wr.drewN nq = w2 at *
          go_wp2_with ((with_reducible refine sel 33 ?_); refine wpList_append_rda rfl (.tmp 30) (.tmp 32) 22 rfl N 5 Try.underlying22 info_u8 _ (63 * m) _ rfl O2.out (some ⟨g, o + 64 * m + 1, none⟩) 63 _ _ rfl R4.out (by omega) (by rw [← hN]; exact B2.out.size) ?_; intro v7 w7 o7 g7 a7; have B7 := Kept.mk (B2.out.trans (own_below O2.out g7 (by rw [← hN]; exact B2.out.size))); clear g7 a7)
          go_roundw
          case rel =>
            refine ⟨m + 1, by omega, by go_num, M2, ⟨?_⟩, B7⟩
            have := o7.out
            rw [← ints_append] at this
            exact this
          case measure => simp [intOf]; omega
        · have PF2 : Kept (∀ w', Below N w w' → LiftPost b S w (.returned (.tuple #[.slice none 0 0, .bool false])) w') := ⟨fun w' h => PF.out w' (fun k => hmk (k m hmS)) h⟩
          have hmk2 : (at_ b (64 * m) == mk m) = false := by simpa using hmk
          generalize at_ b (64 * m) = y at *
          generalize mk m = z at *
          clear PF
          go_wp2_with fail
          refine c1.out.mono ?_
          rintro e w' ⟨rfl, rfl⟩
          clear c1
          go_wp2
          go_quiet ((first | (go_at_call 37; exact Calls.quiet_of_same (still_of (c2.out _)))))
          have PG := Kept.mk (PF2.out _ (below_drewN B.out nq))
          clear PF2 B O R3
          generalize wr.drewN nq = w2 at *
          go_wp2
          go_ret2
          exact PG.out
      · obtain rfl : m = S := by omega
        have hmS' : ¬ (m : Int) < m := by omega
        have PG := Kept.mk (PT.out _ _ M.out O.out B.out)
        obtain ⟨A6, c6, rfl⟩ := own_shape O.out
        clear PT PF O
        go_wp2
        go_ret2
        exact PG.out
end Go.Proofs.Ytimdbljagpbecaa.Frame

/-
  NewDec.
-/




namespace Go.Proofs.Ytimdbljagpbecaa.Wire
open Go.RowKit Go.Proofs.Ytimdbljagpbecaa.Sha

set_option maxRecDepth 100000 in
set_option maxHeartbeats 1000000 in
theorem newdec_any (A : Option Addr) (n c : Nat) (xs : List Int) (w : World) (hr : Rd w A n xs) (hn : n < 2147483648) :
    Calls Try.prog 42 #[.slice A n c] w fun x w' => ∃ d G, x = .returned (.pointer (some ⟨d, 0, none⟩)) ∧ De 100 w' d G (0, xs) ∧ w.heap.size ≤ d ∧ (∀ k ∈ G, w.heap.size ≤ k ∧ k < w'.heap.size) ∧ d ∉ G ∧ Below w.heap.size w w' := by
  have LX := hr.1
  have BX := Kept.mk hr.2.1
  have hcl := Kept.mk (clone_any A n c xs w hr hn)
  clear hr
  go_enter Try.func42, Try.ntmps42
  go_wp2_with fail
  refine hcl.out.mono ?_
  rintro x w1 ⟨v, rfl, own, b1⟩
  obtain ⟨A1, c1, rfl, h1, h2, r1⟩ := own_rd own BX.out
  subst LX
  have hD : De 100 (w1.alloc (.cells #[.slice A1 xs.length c1, .int .i64 0] 100)) w1.heap.size (Value.slice A1 xs.length c1).ownBlock.toList (0, xs) :=
    ⟨fun k hk => by have := (own.lt k (by simpa using hk)).2; simp; omega, A1, c1, Blk.new _ _ _, r1.below ((Below.refl _ w1).alloc (Nat.le_refl _) _), h1, h2, fun F hF => own_off own hF⟩
  have HD := Kept.mk hD
  have B1 := Kept.mk b1; have HL := Kept.mk own.lt
  clear hcl own r1 b1 hD
  go_wp2
  go_ret
  refine ⟨_, _, rfl, HD.out, B1.out.size, fun k hk => ?_, fun hk => ?_, B1.out.alloc B1.out.size _⟩
  · have := HL.out k (by simpa using hk)
    simp; omega
  · have := HL.out w1.heap.size (by simpa using hk)
    omega
end Go.Proofs.Ytimdbljagpbecaa.Wire

/-
  first: a number in front of bytes.
-/





namespace Go.Proofs.Ytimdbljagpbecaa.Wire
open Go.RowKit Go.Proofs.Ytimdbljagpbecaa.Sha

set_option maxRecDepth 100000 in
set_option maxHeartbeats 1000000 in
theorem first_any (A : Option Addr) (n c s : Nat) (xs : List Int) (w : World) (hr : Rd w A n xs) (hc : n ≤ c) (hs : 1 ≤ s) (h8 : s ≤ 8) :
    Calls Try.prog 57 #[.slice A n c, .int .i64 s] w fun x w' => x = .returned (.tuple #[.int .i64 (frst xs s).1, .bool (frst xs s).2]) ∧ w = w' := by
  by_cases hsn : s ≤ n
  · obtain ⟨A', hsl, r', -⟩ := slice_h hr hc s hsn s rfl
    have HR := Kept.mk r'
    have LX := hr.1
    have BX := Kept.mk hr.2.1
    clear hr r'
    have hsn' : ¬ (n : Int) < s := by omega
    go_enter Try.func57, Try.ntmps57
    go_wp2
    go_loop [6, 8, 17] (fun u x i => ∃ k : Nat, k ≤ s ∧ u = .int .u64 (val (xs.take k) : Nat) ∧ i = .int .i64 k) (fun _ _ i => s - (intOf i).toNat)
    case atStart => exact ⟨0, by omega, rfl, rfl⟩
    case round =>
      obtain ⟨k, hk, rfl, rfl⟩ := hrel
      by_cases hks : k < s
      · have hks' : (k : Int) < s := by omega
        obtain ⟨b, o, rfl, hcell⟩ := HR.out.2.2.resolve_left (by omega)
        have x0 := hcell k hks
        rw [at_take hks] at x0
        have hx := BX.out.at_ k
        have hst := val_step xs k (by omega)
        have hlt := val_take_lt xs BX.out k (by omega)
        have hlt7 : 256 ^ k ≤ 256 ^ 7 := Nat.pow_le_pow_right (by omega) (by omega)
        generalize at_ xs k = x at *
        generalize val (xs.take k) = v at *
        have ho := or_step v x hx (by omega)
        rw [← hst] at ho
        have hw : IntKind.u64.wrap ((v : Int) * 256) = (v : Int) * 256 := by rw [IntKind.wrap_u64]; omega
        have hw2 : IntKind.u64.wrap x = x := by rw [IntKind.wrap_u64]; omega
        clear hcell hst
        go_wp2
        go_round
        case rel => exact ⟨k + 1, by omega, rfl, by go_num⟩
        case measure => simp [intOf]; omega
      · have hks' : ¬ (k : Int) < s := by omega
        obtain rfl : k = s := by omega
        have hlt := val_take_lt xs BX.out k (by omega)
        have hlt8 : 256 ^ k ≤ 256 ^ 8 := Nat.pow_le_pow_right (by omega) (by omega)
        obtain ⟨v, hv0⟩ : ∃ v, val (xs.take k) = v := ⟨_, rfl⟩
        rw [hv0] at hlt ⊢
        have HV := Kept.mk hv0
        clear hv0
        by_cases hv : v ≤ 4611686018427387904
        · have hv' : ¬ (4611686018427387904 : Int) < v := by omega
          have hw : IntKind.i64.wrap (v : Int) = v := by rw [IntKind.wrap_i64]; omega
          have HE := Kept.mk (show frst xs k = ((v : Int), true) by unfold frst; rw [HV.out, LX, if_pos ⟨hsn, hv⟩])
          go_wp2
          go_ret2
          exact ⟨by rw [HE.out]; rfl, rfl⟩
        · have hv' : (4611686018427387904 : Int) < v := by omega
          have HE := Kept.mk (show frst xs k = (0, false) by unfold frst; rw [HV.out, LX, if_neg (fun hh => hv hh.2)])
          go_wp2
          go_ret2
          exact ⟨by rw [HE.out]; rfl, rfl⟩
  · have hsn' : (n : Int) < s := by omega
    have HE := Kept.mk (show frst xs s = (0, false) by unfold frst; rw [hr.1, if_neg (fun hh => hsn hh.1)])
    clear hr
    go_enter Try.func57, Try.ntmps57
    go_wp2
    go_ret2
    exact ⟨by rw [HE.out]; rfl, rfl⟩
end Go.Proofs.Ytimdbljagpbecaa.Wire

/-
  (*Dec).Num.
-/


namespace Go.Proofs.Ytimdbljagpbecaa.Wire
open Go.RowKit Go.Proofs.Ytimdbljagpbecaa.Sha

set_option maxRecDepth 100000 in
set_option maxHeartbeats 1000000 in
theorem dnum_any (w : World) (d : Nat) (G : List Nat) (s : Int) (st : St) (h : De 100 w d G st) (hd : d ∉ G) :
    Calls Try.prog 43 #[.pointer (some ⟨d, 0, none⟩), .int .i64 s] w fun x w' => x = .returned (.int .i64 (decNum st s).1) ∧ De 100 w' d G (decNum st s).2 ∧ Bar [d] w w' := by
  obtain ⟨err, xs⟩ := st
  have HD := Kept.mk h
  obtain ⟨hG, A, c, hb, hr, hc, hm, ho⟩ := h
  simp only at hb hr hc hm ho
  have c0 : w.cell? ⟨d, 0, none⟩ = some (.slice A xs.length c) := hb.cell 0
  have c1 : w.cell? ⟨d, 1, none⟩ = some (.int .i64 err) := hb.cell 1
  have z0 := hb.frozen 0
  have z1 := hb.frozen 1
  have HB := Kept.mk hb; have HR := Kept.mk hr; have HO := Kept.mk ho
  clear hb hr ho
  by_cases he : err = 0
  · subst he
    by_cases hs : 1 ≤ s ∧ s ≤ 8
    · have ci := Kept.mk fun w => issize_any s w
      rw [decide_eq_true hs] at ci
      obtain ⟨k, rfl⟩ : ∃ k : Nat, s = k := ⟨s.toNat, by omega⟩
      have cf := Kept.mk fun w' (r : Rd w' A xs.length xs) => first_any A xs.length c k xs w' r hc (by omega) (by omega)
      have hf := decNum_frst xs k (by omega) (by omega)
      cases hk : (frst xs k).2 with
      | true =>
        have hkl := frst_true hk
        rw [if_pos hk] at hf
        rw [hk] at cf
        generalize (frst xs k).1 = v at *
        have HF := Kept.mk hf
        obtain ⟨A', hsl, r', o'⟩ := slice_l HR.out hc k hkl k rfl
        have R' := Kept.mk r'; have O' := Kept.mk o'
        have hmk : c - k ≤ 9223372036854775807 := by omega
        have hck : xs.length - k ≤ c - k := by omega
        clear hf hk r' o' HD
        go_enter Try.func43, Try.ntmps43
        go_wp2_with (first
          | (go_at_call 44; refine (ci.out _).mono ?_; rintro x w' ⟨rfl, rfl⟩)
          | (go_at_call 57; refine (cf.out _ HR.out).mono ?_; rintro x w' ⟨rfl, rfl⟩))
        go_ret
        have hbar : Bar [d] w (w.setCell ⟨d, 0, none⟩ (.slice A' (xs.length - k) (c - k))) := (Bar.refl _ _).setCell (by simp) _
        rw [HF.out]
        exact ⟨rfl, De.set (n := xs.length - k) hG hd (by simp) (HB.out.set_ 0 _) hbar R'.out hck hmk (fun F hF => O'.out F (HO.out F hF)), hbar⟩
      | false =>
        rw [if_neg (by rw [hk]; simp)] at hf
        rw [hk] at cf
        generalize (frst xs k).1 = v at *
        have HF := Kept.mk hf
        clear hf hk HD
        go_enter Try.func43, Try.ntmps43
        go_wp2_with (first
          | (go_at_call 44; refine (ci.out _).mono ?_; rintro x w' ⟨rfl, rfl⟩)
          | (go_at_call 57; refine (cf.out _ HR.out).mono ?_; rintro x w' ⟨rfl, rfl⟩))
        go_ret
        have hbar : Bar [d] w (w.setCell ⟨d, 1, none⟩ (.int .i64 2)) := (Bar.refl _ _).setCell (by simp) _
        rw [HF.out]
        exact ⟨rfl, De.set (n := xs.length) hG hd rfl (HB.out.set_ 1 _) hbar HR.out hc hm HO.out, hbar⟩
    · have ci := Kept.mk fun w => issize_any s w
      rw [decide_eq_false hs] at ci
      have HF := Kept.mk (decNum_size xs s hs)
      clear HD
      go_enter Try.func43, Try.ntmps43
      go_wp2_with (go_at_call 44; refine (ci.out _).mono ?_; rintro x w' ⟨rfl, rfl⟩)
      go_ret
      have hbar : Bar [d] w (w.setCell ⟨d, 1, none⟩ (.int .i64 1)) := (Bar.refl _ _).setCell (by simp) _
      rw [HF.out]
      exact ⟨rfl, De.set (n := xs.length) hG hd rfl (HB.out.set_ 1 _) hbar HR.out hc hm HO.out, hbar⟩
  · have HF := Kept.mk (decNum_err (err, xs) s he)
    have he2 : (err != 0) = true := by simpa using he
    go_enter Try.func43, Try.ntmps43
    go_wp2
    go_ret
    rw [HF.out]
    exact ⟨rfl, HD.out, Bar.refl _ _⟩
end Go.Proofs.Ytimdbljagpbecaa.Wire

/-
  Package frame: readHead.
-/




namespace Go.Proofs.Ytimdbljagpbecaa.Frame
open Go.RowKit Go.Proofs.Ytimdbljagpbecaa.Sha Go.Proofs.Ytimdbljagpbecaa.Wire

instance (H : List Int) : Decidable (headOk H) := by unfold headOk; infer_instance
def RHeadPost (H : List Int) (w : World) (e : Ending) (w' : World) : Prop :=
  e = .returned (.tuple #[.agg #[.int .i64 (hK H), .int .i64 (hG H), .int .i64 (hS H), .slice none 0 0], .int .i64 (hN H), .bool (decide (headOk H))]) ∧ Below w.heap.size w w'
theorem dec16 {H : List Int} (hb : Bytes H) (h : H.length = 16) (o s : Nat) (hs : s = 1 ∨ s = 2 ∨ s = 4) (ho : o + s ≤ 16) : decNum (0, H.drop o) (s : Int) = (((val ((H.drop o).take s) : Nat) : Int), (0, H.drop (o + s))) := by
  have hv := val4 ((H.drop o).take s) ((hb.drop _).take _) (by simp; omega)
  rw [decNum_yes _ s (by omega) (by omega) ⟨by rw [List.length_drop]; omega, by omega⟩, List.drop_drop]

/-- the blocks of readHead: what is told, a Dec -/
def Rx (w0 : World) (N d : Nat) (G : List Nat) (st : St) (w : World) : Prop :=
  De 100 w d G st ∧ Blk w N 24 #[.int .i64 0, .int .i64 0, .int .i64 0, .slice none 0 0] ∧ Below N w0 w
theorem rx_num {w0 : World} {N d : Nat} {G : List Nat} {st : St} {w : World} (hNw : w0.heap.size = N) (hd : N < d) (hG : d ∉ G) (h : Rx w0 N d G st w) (s : Int) :
    Calls Try.prog 43 #[.pointer (some ⟨d, 0, none⟩), .int .i64 s] w fun x w' => x = .returned (.int .i64 (decNum st s).1) ∧ Rx w0 N d G (decNum st s).2 w' ∧ Bar [d] w w' := by
  obtain ⟨h1, h2, h3⟩ := h
  refine (dnum_any w d G s st h1 hG).mono ?_
  rintro x w' ⟨rfl, k1, k2⟩
  have hs := h3.size
  exact ⟨rfl, ⟨k1, h2.bar k2 (by rw [List.mem_singleton]; omega), h3.trans (k2.below (by omega) (fun k hk => by rw [List.mem_singleton] at hk; omega))⟩, k2⟩

set_option maxRecDepth 100000 in
set_option maxHeartbeats 1000000 in
theorem rhead_any (A : Option Addr) (c : Nat) (H : List Int) (w : World) (hr : Rd w A 16 H) :
    Calls Try.prog 25 #[.slice A 16 c] w (RHeadPost H w) := by
  obtain ⟨N, hNw⟩ : ∃ N, w.heap.size = N := ⟨_, rfl⟩
  have hb := Kept.mk hr.2.1
  have hl := Kept.mk hr.1
  have B0 := Kept.mk (Blk.new_at w 24 #[.int .i64 0, .int .i64 0, .int .i64 0, .slice none 0 0] N hNw.symm)
  have b0 : Kept (Below N w (w.alloc (.cells #[.int .i64 0, .int .i64 0, .int .i64 0, .slice none 0 0] 24))) := ⟨(Below.refl _ _).alloc (by omega) _⟩
  have hs0 : (w.alloc (.cells #[.int .i64 0, .int .i64 0, .int .i64 0, .slice none 0 0] 24)).heap.size = N + 1 := by simp [hNw]
  have R0 : Kept (Rd (w.alloc (.cells #[.int .i64 0, .int .i64 0, .int .i64 0, .slice none 0 0] 24)) A 16 H) := ⟨hr.below (by rw [hNw]; exact b0.out)⟩
  clear hr
  go_enter Try.func25, Try.ntmps25
  go_wp2_with fail
  generalize w.alloc (.cells #[.int .i64 0, .int .i64 0, .int .i64 0, .slice none 0 0] 24) = w1 at *
  refine (newdec_any A 16 c H w1 R0.out (by omega)).mono ?_
  rintro x w2 ⟨d, G, rfl, D2, hd, -, hGn, b2⟩
  have hdN : N < d := by omega
  have T2 : Rx w N d G (0, H) w2 := ⟨D2, B0.out.below b2 (by omega), b0.out.trans (b2.mono (by omega))⟩
  clear D2 hd b2 B0 b0 R0 hs0
  go_wp2_with fail
  refine (rx_num hNw hdN hGn T2 2).mono ?_
  rintro x w3 ⟨rfl, T3, -⟩
  have e3 : decNum (0, H) 2 = (((val (H.take 2) : Nat) : Int), (0, H.drop 2)) := dec16 hb.out hl.out 0 2 (by omega) (by omega)
  rw [e3] at T3 ⊢
  clear T2 e3
  go_wp2_with fail
  refine (rx_num hNw hdN hGn T3 1).mono ?_
  rintro x w4 ⟨rfl, T4, -⟩
  have e4 : decNum (0, H.drop 2) 1 = (((hK H : Nat) : Int), (0, H.drop 3)) := dec16 hb.out hl.out 2 1 (by omega) (by omega)
  rw [e4] at T4 ⊢
  clear T3 e4
  go_wp2_with fail
  refine (rx_num hNw hdN hGn T4 1).mono ?_
  rintro x w5 ⟨rfl, T5, -⟩
  have e5 : decNum (0, H.drop 3) 1 = (((hZ H : Nat) : Int), (0, H.drop 4)) := dec16 hb.out hl.out 3 1 (by omega) (by omega)
  rw [e5] at T5 ⊢
  clear T4 e5
  go_wp2_with fail
  refine (rx_num hNw hdN hGn T5 4).mono ?_
  rintro x w6 ⟨rfl, T6, -⟩
  have e6 : decNum (0, H.drop 4) 4 = (((hG H : Nat) : Int), (0, H.drop 8)) := dec16 hb.out hl.out 4 4 (by omega) (by omega)
  rw [e6] at T6 ⊢
  clear T5 e6
  go_wp2_with fail
  refine (rx_num hNw hdN hGn T6 4).mono ?_
  rintro x w7 ⟨rfl, T7, -⟩
  have e7 : decNum (0, H.drop 8) 4 = (((hS H : Nat) : Int), (0, H.drop 12)) := dec16 hb.out hl.out 8 4 (by omega) (by omega)
  rw [e7] at T7 ⊢
  clear T6 e7
  have hd7 := T7.1.lt
  obtain ⟨T, hT⟩ : ∃ T, w7.heap.size = T := ⟨_, rfl⟩
  rw [hT] at hd7
  go_wp2_with fail
  have T8 : Rx w N d G (0, H.drop 12) (w7.alloc (.cells #[.int .i64 (hK H), .int .i64 (hG H), .int .i64 (hS H), .slice none 0 0] 24)) :=
    ⟨T7.1.below ((Below.refl _ _).alloc (Nat.le_refl _) _), T7.2.1.alloc _, T7.2.2.alloc (by have := T7.2.1.lt; omega) _⟩
  have F8 := Blk.new_at w7 24 #[.int .i64 (hK H), .int .i64 (hG H), .int .i64 (hS H), .slice none 0 0] T hT.symm
  generalize w7.alloc (.cells #[.int .i64 (hK H), .int .i64 (hG H), .int .i64 (hS H), .slice none 0 0] 24) = w8 at *
  clear T7 hT
  refine (rx_num hNw hdN hGn T8 4).mono ?_
  rintro x w9 ⟨rfl, T9, br9⟩
  have e9 : decNum (0, H.drop 12) 4 = (((hN H : Nat) : Int), (0, H.drop 16)) := dec16 hb.out hl.out 12 4 (by omega) (by omega)
  rw [e9] at T9 ⊢
  have F9 := F8.bar br9 (by rw [List.mem_singleton]; omega)
  have HO : Kept (RHeadPost H w (.returned (.tuple #[.agg #[.int .i64 (hK H), .int .i64 (hG H), .int .i64 (hS H), .slice none 0 0], .int .i64 (hN H), .bool (decide (val (H.take 2) = 25446 ∧ hZ H = 0 ∧ hN H ≤ 60000))])) (((((w9.setCell ⟨N, 0, none⟩ (.int .i64 (hK H))).setCell ⟨N, 1, none⟩ (.int .i64 (hG H))).setCell ⟨N, 2, none⟩ (.int .i64 (hS H))).setCell ⟨N, 3, none⟩ (.slice none 0 0)))) :=
    ⟨rfl, by rw [hNw]; exact T9.2.2.trans ((put4 T9.2.1 _ _ _ _).2.below (by have := T9.2.2.size; omega) (fun k hk => by rw [List.mem_singleton] at hk; omega))⟩
  have P4 := Kept.mk (put4 T9.2.1 (.int .i64 (hK H)) (.int .i64 (hG H)) (.int .i64 (hS H)) (.slice none 0 0)).1
  have f0 := F9.cell 0; have f1 := F9.cell 1; have f2 := F9.cell 2; have f3 := F9.cell 3
  have g0 := T9.2.1.cell 0; have g1 := T9.2.1.cell 1; have g2 := T9.2.1.cell 2; have g3 := T9.2.1.cell 3
  have z0 := T9.2.1.frozen 0; have z1 := T9.2.1.frozen 1; have z2 := T9.2.1.frozen 2; have z3 := T9.2.1.frozen 3
  clear T8 T9 F8 F9 br9 e9
  generalize val (H.take 2) = x1 at *
  generalize hZ H = x2 at *
  generalize hN H = x3 at *
  generalize hK H = x4 at *
  generalize hG H = x5 at *
  generalize hS H = x6 at *
  by_cases h1 : x1 = 25446
  · subst h1
    by_cases h2 : x2 = 0
    · subst h2
      by_cases h3 : x3 ≤ 60000
      · have h3' : (x3 : Int) ≤ 60000 := by omega
        rw [show decide (25446 = 25446 ∧ 0 = 0 ∧ x3 ≤ 60000) = true by simpa using h3] at HO
        go_wp2
        (try simp only [Exit.inBlock, Exit.then])
        refine bodyPost_ret (results_cell_two rfl _ _ N 24 #[.int .i64 x4, .int .i64 x5, .int .i64 x6, .slice none 0 0] (0, 0) _ rfl P4.out Try.underlying24 rfl frame_size) rfl ?_
        exact HO.out
      · have h3' : ¬ (x3 : Int) ≤ 60000 := by omega
        have h3d : decide ((x3 : Int) ≤ 60000) = false := by simpa using h3'
        rw [show decide (25446 = 25446 ∧ 0 = 0 ∧ x3 ≤ 60000) = false by simpa using h3] at HO
        go_wp2
        (try simp only [Exit.inBlock, Exit.then])
        refine bodyPost_ret (results_cell_two rfl _ _ N 24 #[.int .i64 x4, .int .i64 x5, .int .i64 x6, .slice none 0 0] (0, 0) _ rfl P4.out Try.underlying24 rfl frame_size) rfl ?_
        exact HO.out
    · have h2' : ¬ (x2 : Int) = 0 := by omega
      have h2d : ((x2 : Int) == 0) = false := by simpa using h2'
      rw [show decide (25446 = 25446 ∧ x2 = 0 ∧ x3 ≤ 60000) = false by simp [h2]] at HO
      go_wp2
      (try simp only [Exit.inBlock, Exit.then])
      refine bodyPost_ret (results_cell_two rfl _ _ N 24 #[.int .i64 x4, .int .i64 x5, .int .i64 x6, .slice none 0 0] (0, 0) _ rfl P4.out Try.underlying24 rfl frame_size) rfl ?_
      exact HO.out
  · have h1' : ¬ (x1 : Int) = 25446 := by omega
    have h1d : ((x1 : Int) == 25446) = false := by simpa using h1'
    rw [show decide (x1 = 25446 ∧ x2 = 0 ∧ x3 ≤ 60000) = false by simp [h1]] at HO
    go_wp2
    (try simp only [Exit.inBlock, Exit.then])
    refine bodyPost_ret (results_cell_two rfl _ _ N 24 #[.int .i64 x4, .int .i64 x5, .int .i64 x6, .slice none 0 0] (0, 0) _ rfl P4.out Try.underlying24 rfl frame_size) rfl ?_
    exact HO.out
end Go.Proofs.Ytimdbljagpbecaa.Frame

/-
  bytes.Equal.
-/



namespace Go.Proofs.Ytimdbljagpbecaa.Sha
open Go.RowKit

theorem conv_str_of {w : World} {A : Option Addr} {n : Nat} {xs : List Int} (r : Rd w A n xs) (c : Nat) (w' : World) (h : w = w') : (convert 22 9 (.slice A n c)).run Try.prog w' = .ok (.string (strOfNums xs)) w' := by
  subst h
  obtain ⟨h1, h2, h3⟩ := r
  rcases h3 with h3 | ⟨b, o, rfl, hc⟩
  · subst h3
    obtain rfl : xs = [] := List.eq_nil_of_length_eq_zero h1
    cases A with
    | none => exact run_convert_bytes_nil w _ _ Try.underlying22 Try.underlying5 0 c _ Try.underlying9
    | some a =>
      obtain ⟨b, o, s⟩ := a
      have hl : (loadCells ⟨b, o, s⟩ 0).run Try.prog w = .ok (([] : List Int).map (Value.int .u8)).toArray w := run_loadCells_list (P := Try.prog) w ⟨b, o, s⟩ [] (fun j v hj => by simp at hj)
      rw [run_convert_bytes_string w _ _ _ _ 0 c Try.underlying22 Try.underlying5 Try.underlying9, run_bytesToString w _ 0 c [] hl]
      rfl
  · exact run_convert_bytes_arg w _ _ Try.underlying22 Try.underlying5 b o n c xs h1 hc _ Try.underlying9
theorem strs_same {xs ys : List Int} (hx : Bytes xs) (hy : Bytes ys) : ((strOfNums xs).toList == (strOfNums ys).toList) = sameB xs ys := by
  rw [Lib.strOfNums_toList, Lib.strOfNums_toList]
  have hi : Lib.bytesOf xs = Lib.bytesOf ys ↔ xs = ys := by
    constructor
    · intro h1
      unfold Lib.bytesOf at h1
      induction xs generalizing ys with
      | nil =>
        cases ys with
        | nil => rfl
        | cons y ys => simp at h1
      | cons x xs ih =>
        cases ys with
        | nil => simp at h1
        | cons y ys =>
          rw [List.map_cons, List.map_cons, List.cons.injEq] at h1
          have hx0 := hx x (by simp)
          have hy0 := hy y (by simp)
          have h2 := congrArg UInt8.toNat h1.1
          simp only [UInt8.toNat_ofNat'] at h2
          have e : x = y := by omega
          rw [e, ih (fun z hz => hx z (by simp [hz])) (fun z hz => hy z (by simp [hz])) h1.2]
    · intro h; rw [h]
  unfold sameB
  rw [Bool.eq_iff_iff, beq_iff_eq, decide_eq_true_iff]
  exact hi

set_option maxRecDepth 100000 in
set_option maxHeartbeats 1000000 in
theorem bequal_any (A B : Option Addr) (n m c d : Nat) (xs ys : List Int) (w : World) (ha : Rd w A n xs) (hb : Rd w B m ys) :
    Calls Try.prog 26 #[.slice A n c, .slice B m d] w fun e w' => e = .returned (.bool (sameB xs ys)) ∧ w = w' := by
  have q1 := conv_str_of ha c w rfl
  have q2 := conv_str_of hb d w rfl
  have hi := Kept.mk (strs_same ha.2.1 hb.2.1)
  clear ha hb
  go_enter Try.func26, Try.ntmps26
  go_wp2
  go_ret
  exact ⟨by rw [← hi.out]; rfl, rfl⟩
end Go.Proofs.Ytimdbljagpbecaa.Sha

/-
  Package frame: Get.
-/





namespace Go.Proofs.Ytimdbljagpbecaa.Frame
open Go.RowKit Go.Proofs.Ytimdbljagpbecaa.Sha Go.Proofs.Ytimdbljagpbecaa.Wire

theorem lift_one {b : List Int} : liftOk b 1 = true ↔ 64 ≤ b.length ∧ at_ b 0 = 1 := by
  unfold liftOk
  rw [decide_eq_true_iff]
  constructor
  · rintro ⟨h1, h2⟩
    exact ⟨by omega, h2 0 (by omega)⟩
  · rintro ⟨h1, h2⟩
    refine ⟨by omega, fun i hi => ?_⟩
    obtain rfl : i = 0 := by omega
    exact h2
/-- what of Get lies in memory ahead of an answer: what is told in block N, the bytes, the table -/
def Gy (w0 : World) (t N : Nat) (A : Option Addr) (n : Nat) (b : List Int) (w : World) : Prop :=
  Blk w N 24 #[.int .i64 0, .int .i64 0, .int .i64 0, .slice none 0 0] ∧ Rd w A n b ∧ Tab w t ∧ Bar [t] w0 w ∧ w0.heap.size = N ∧ t < N ∧ ∀ F : List Nat, (∀ k ∈ F, N ≤ k) → Off A n F
theorem Gy.below {w0 : World} {t N : Nat} {A : Option Addr} {n : Nat} {b : List Int} {w w' : World} (h : Gy w0 t N A n b w) (k : Below w.heap.size w w') : Gy w0 t N A n b w' := by
  obtain ⟨h1, h2, h3, h4, h5, h6, h7⟩ := h
  exact ⟨h1.below k h1.lt, h2.below k, h3.below k h3.lt, h4.trans (barOf k []) (by simp), h5, h6, h7⟩
theorem Gy.tab {w0 : World} {t N : Nat} {A : Option Addr} {n : Nat} {b : List Int} {w w' : World} (h : Gy w0 t N A n b w) (k : Bar [t] w w') (kt : Tab w' t) : Gy w0 t N A n b w' := by
  obtain ⟨h1, h2, h3, h4, h5, h6, h7⟩ := h
  exact ⟨h1.bar k (by rw [List.mem_singleton]; omega), h2.tab h3 k, kt, h4.trans k (by simp), h5, h6, h7⟩
theorem Gy.set {w0 : World} {t N T : Nat} {A : Option Addr} {n : Nat} {b : List Int} {w : World} (h : Gy w0 t N A n b w) (hT : N < T) (i : Nat) (v : Value) : Gy w0 t N A n b (w.setCell ⟨T, i, none⟩ v) := by
  obtain ⟨h1, h2, h3, h4, h5, h6, h7⟩ := h
  have hb : Bar [T] w (w.setCell ⟨T, i, none⟩ v) := (Bar.refl _ _).setCell (by simp) _
  exact ⟨h1.bar hb (by rw [List.mem_singleton]; omega), h2.far hb (h7 _ (by intro k hk; rw [List.mem_singleton] at hk; omega)), h3.bar hb (by rw [List.mem_singleton]; omega), h4.trans hb (by intro x hx; rw [List.mem_singleton] at hx; omega), h5, h6, h7⟩
theorem Gy.size {w0 : World} {t N : Nat} {A : Option Addr} {n : Nat} {b : List Int} {w : World} (h : Gy w0 t N A n b w) : N < w.heap.size := h.1.lt
theorem gy_put {w0 : World} {t N : Nat} {A : Option Addr} {n : Nat} {b : List Int} {w : World} (h : Gy w0 t N A n b w) (v0 v1 v2 v3 : Value) :
    Tab ((((w.setCell ⟨N, 0, none⟩ v0).setCell ⟨N, 1, none⟩ v1).setCell ⟨N, 2, none⟩ v2).setCell ⟨N, 3, none⟩ v3) t ∧ Bar [t] w0 ((((w.setCell ⟨N, 0, none⟩ v0).setCell ⟨N, 1, none⟩ v1).setCell ⟨N, 2, none⟩ v2).setCell ⟨N, 3, none⟩ v3) := by
  obtain ⟨h1, h2, h3, h4, h5, h6, -⟩ := h
  have hb := (put4 h1 v0 v1 v2 v3).2
  exact ⟨h3.bar hb (by rw [List.mem_singleton]; omega), h4.trans hb (by intro x hx; rw [List.mem_singleton] at hx; omega)⟩
def noneV : Value := .tuple #[.agg #[.int .i64 0, .int .i64 0, .int .i64 0, .slice none 0 0], .int .i64 0, .int .i64 2]
theorem gy_no {w0 : World} {t N : Nat} {A : Option Addr} {n : Nat} {b : List Int} {w : World} (h : Gy w0 t N A n b w) (hk : ¬ codeOk b) :
    GetPost t (getF b) w0 (.returned (.tuple #[.agg #[.int .i64 0, .int .i64 0, .int .i64 0, .slice none 0 0], .int .i64 0, .int .i64 2])) ((((w.setCell ⟨N, 0, none⟩ (.int .i64 0)).setCell ⟨N, 1, none⟩ (.int .i64 0)).setCell ⟨N, 2, none⟩ (.int .i64 0)).setCell ⟨N, 3, none⟩ (.slice none 0 0)) := by
  have hp := gy_put h (.int .i64 0) (.int .i64 0) (.int .i64 0) (.slice none 0 0)
  rw [get_no h.2.1.2.1 hk]
  exact ⟨none, 0, 0, rfl, Nat.le_refl _, by unfold maxLen; omega, Rd.nil_, fun F _ => .inl rfl, hp.1, hp.2⟩

set_option maxRecDepth 100000 in
set_option maxHeartbeats 1000000 in
theorem cget_any (w : World) (t : Nat) (b : List Int) (A : Option Addr) (n c : Nat) (ht : Tab w t) (hr : Rd w A n b) (hc : n ≤ c) (hn : n ≤ 100000) :
    Calls Try.prog 15 #[.pointer (some ⟨t, 0, none⟩), .slice A n c] w (GetPost t (getF b) w) := by
  obtain ⟨N, hN⟩ : ∃ N, w.heap.size = N := ⟨_, rfl⟩
  have htN : t < N := by rw [← hN]; exact ht.lt
  have hlen := hr.1
  have hby := Kept.mk hr.2.1
  have b1 : Below N w (w.alloc (.cells #[.int .i64 0, .int .i64 0, .int .i64 0, .slice none 0 0] 24)) := (Below.refl _ _).alloc (by omega) _
  have G1 : Kept (Gy w t N A n b (w.alloc (.cells #[.int .i64 0, .int .i64 0, .int .i64 0, .slice none 0 0] 24))) :=
    ⟨Blk.new_at _ _ _ _ hN.symm, hr.below (by rw [hN]; exact b1), ht.below b1 htN, barOf (hN.symm ▸ b1) _, hN, htN, fun F hF => hr.off (by rw [hN]; exact hF)⟩
  clear b1 ht hr
  go_enter Try.func15, Try.ntmps15
  go_wp2_with fail
  generalize w.alloc (.cells #[.int .i64 0, .int .i64 0, .int .i64 0, .slice none 0 0] 24) = w1 at *
  have c1 := lift_any A n c 1 b w1 G1.out.2.1 hc hn (by omega) (by omega)
  rw [show ((1 : Nat) : Int) = 1 from rfl] at c1
  refine c1.mono ?_
  clear c1
  rintro x w2 (⟨hok, A2, n2, c2, hn2, rfl, k1, k2, r2, -, b2⟩ | ⟨hok, rfl, b2⟩)
  · obtain ⟨hl64, hat0⟩ := lift_one.1 hok
    have G2 := Kept.mk (G1.out.below b2)
    obtain rfl : n2 = 63 := hn2
    have hs16 := slice_h_at A2 63 c2 16 (by omega) 16 rfl
    have c3 := Kept.mk (rhead_any A2 c2 (head0 b) w2 (r2.upto (m := 16) (by omega)))
    clear b2 r2 G1 hok
    go_wp2_with fail
    refine c3.out.mono ?_
    clear c3
    rintro x w3 ⟨rfl, b3⟩
    have G3 := Kept.mk (G2.out.below b3)
    rw [← fK_head, ← fG_head, ← fS_head, ← fN_head]
    clear b3 G2 hs16
    by_cases hh : headOk (head0 b)
    · rw [show decide (headOk (head0 b)) = true from decide_eq_true hh]
      have hq6 : fN b ≤ 60000 := by rw [fN_head]; exact hh.2.2
      have hSq := sOf_is hq6
      have hSi : sectorsF (fN b) = (sOf b : Int) := by unfold sOf; have : 0 ≤ sectorsF (fN b) := by unfold sectorsF; split <;> omega
                                                       omega
      have CK : Kept (codeOk b ↔ liftOk b (sOf b) = true ∧ sameB (((allF b (sOf b)).take 24).drop 16) ((sha ((allF b (sOf b)).take 16 ++ fB b)).take 8) = true ∧ blankB ((allF b (sOf b)).drop (24 + fN b)) = true) := ⟨by
        unfold codeOk liftOk sameB blankB
        rw [decide_eq_true_iff, decide_eq_true_iff, decide_eq_true_iff]
        constructor
        · rintro ⟨-, -, -, h4, h5, h6, h7⟩; exact ⟨⟨h4, h5⟩, h6, h7⟩
        · rintro ⟨⟨h4, h5⟩, h6, h7⟩; exact ⟨hl64, hat0, hh, h4, h5, h6, h7⟩⟩
      have hfb : ((allF b (sOf b)).take (24 + fN b)).drop 24 = fB b := rfl
      have HFB := Kept.mk hfb
      have GY := Kept.mk fun h => get_yes hby.out (b := b) h
      have cs := Kept.mk fun w => csectors_any (fN b) w
      rw [hSi] at cs
      have hS1 : 1 ≤ sOf b := by omega
      have hS9 : sOf b ≤ 1000 := by omega
      have HQ : Kept (24 + fN b ≤ 63 * sOf b) := ⟨by omega⟩
      have cl := Kept.mk fun (w4 : World) (h : Gy w t N A n b w4) => lift_any A n c (sOf b) b w4 h.2.1 hc hn hS1 (by omega)
      obtain ⟨T, hT⟩ : ∃ T, w3.heap.size = T := ⟨_, rfl⟩
      have hNT : N < T := by rw [← hT]; exact G3.out.size
      have G4 : Kept (Gy w t N A n b (w3.alloc (.cells #[.int .i64 (fK b), .int .i64 (fG b), .int .i64 (fS b), .slice none 0 0] 24))) := ⟨G3.out.below ((Below.refl _ _).alloc (Nat.le_refl _) _)⟩
      have F4 : Kept (Blk (w3.alloc (.cells #[.int .i64 (fK b), .int .i64 (fG b), .int .i64 (fS b), .slice none 0 0] 24)) T 24 #[.int .i64 (fK b), .int .i64 (fG b), .int .i64 (fS b), .slice none 0 0]) := ⟨Blk.new_at _ _ _ _ hT.symm⟩
      have hT4 : T < (w3.alloc (.cells #[.int .i64 (fK b), .int .i64 (fG b), .int .i64 (fS b), .slice none 0 0] 24)).heap.size := F4.out.lt
      clear hSq hSi hh hfb G3
      obtain ⟨q, hq⟩ : ∃ q, fN b = q := ⟨_, rfl⟩
      rw [hq] at CK HFB cs HQ hq6 ⊢
      obtain ⟨S, hSS⟩ : ∃ S, sOf b = S := ⟨_, rfl⟩
      rw [hSS] at CK HFB cs HQ cl hS1 hS9
      go_wp2_with fail
      generalize w3.alloc (.cells #[.int .i64 (fK b), .int .i64 (fG b), .int .i64 (fS b), .slice none 0 0] 24) = w4 at *
      refine (cs.out _).mono ?_
      clear cs
      rintro x w' ⟨rfl, rfl⟩
      go_wp2_with fail
      refine (cl.out _ G4.out).mono ?_
      clear cl
      rintro x w5 (⟨hok, A5, n5, c5, hn5, rfl, k1, k2, r5, of5, b5⟩ | ⟨hok, rfl, b5⟩)
      · rw [hok] at CK
        subst hn5
        have HX : Kept ((allF b S).length = 63 * S) := ⟨r5.1⟩
        have HQ2 := HQ.out
        obtain ⟨X, hX⟩ : ∃ X, allF b S = X := ⟨_, rfl⟩
        rw [hX] at CK HFB HX r5
        obtain ⟨A6, hs6, r6, of6⟩ := slice_lh r5 k1 16 24 (by omega) (by omega) 16 24 rfl rfl
        obtain ⟨A7, hs7, r7, of7⟩ := slice_lh r5 k1 24 (24 + q) (by omega) (by omega) 24 (24 + (q : Int)) rfl (by omega)
        obtain ⟨A8, hs8, r8, of8⟩ := slice_l r5 k1 (24 + q) (by omega) (24 + (q : Int)) (by omega)
        rw [HFB.out, Nat.add_sub_cancel_left] at r7
        rw [Nat.add_sub_cancel_left] at hs7 of7
        rw [show 24 - 16 = 8 from rfl] at hs6 r6 of6
        have hs5 := slice_h_at A5 (63 * S) c5 16 (by omega) 16 rfl
        have R5 := Kept.mk (r5.upto (m := 16) (by omega))
        have R6 := Kept.mk r6; have R7 := Kept.mk r7; have R8 := Kept.mk r8
        have of5T : Off A5 (63 * S) [T] := of5 [T] (by intro k hk; rw [List.mem_singleton] at hk; omega)
        have OF5 : Kept (Off A5 16 [T]) := ⟨by
          rcases of5T with h | h
          · omega
          · exact .inr h⟩
        have OF6 := Kept.mk (of6 _ of5T); have OF7T := Kept.mk (of7 _ of5T); have OF8 := Kept.mk (of8 _ of5T)
        have OF7 : Kept (∀ F : List Nat, (∀ k ∈ F, k < T) → Off A7 q F) := ⟨fun F hF => of7 F (of5 F (fun k hk => by have := hF k hk; omega))⟩
        have G5 := Kept.mk (G4.out.below b5)
        have F5 := Kept.mk (F4.out.below b5 hT4)
        have W24 : IntKind.i64.wrap (24 + (q : Int)) = 24 + q := by simp only [IntKind.wrap_i64]; omega
        clear r5 r6 r7 r8 of5 of6 of7 of8 of5T b5 G4 F4 hX hok
        go_wp2
        go_quiet (fail)
        have G6 : Kept (Gy w t N A n b (w5.drewN nq)) := ⟨G5.out.below (below_drewN (Below.refl _ _) _)⟩
        have F6 : Kept (Blk (w5.drewN nq) T 24 #[.int .i64 (fK b), .int .i64 (fG b), .int .i64 (fS b), .slice none 0 0]) := ⟨F5.out.drewN _⟩
        have R5a : Kept (Rd (w5.drewN nq) A5 16 (X.take 16)) := ⟨R5.out.below (below_drewN (Below.refl _ _) _)⟩
        have R6a : Kept (Rd (w5.drewN nq) A6 8 ((X.take 24).drop 16)) := ⟨R6.out.below (below_drewN (Below.refl _ _) _)⟩
        have R7a : Kept (Rd (w5.drewN nq) A7 q (fB b)) := ⟨R7.out.below (below_drewN (Below.refl _ _) _)⟩
        have R8a : Kept (Rd (w5.drewN nq) A8 (63 * S - (24 + q)) (X.drop (24 + q))) := ⟨R8.out.below (below_drewN (Below.refl _ _) _)⟩
        clear G5 F5 R5 R6 R7 R8
        generalize w5.drewN nq = w6 at *
        have f3 := F6.out.cell 3
        have y3 := F6.out.frozen 3
        have hb7 : Bar [T] w6 (w6.setCell ⟨T, 3, none⟩ (.slice A7 q (c5 - 24))) := (Bar.refl _ _).setCell (by simp) _
        have G7 := Kept.mk (G6.out.set hNT 3 (.slice A7 q (c5 - 24)))
        have F7 : Kept (Blk (w6.setCell ⟨T, 3, none⟩ (.slice A7 q (c5 - 24))) T 24 #[.int .i64 (fK b), .int .i64 (fG b), .int .i64 (fS b), .slice A7 q (c5 - 24)]) := ⟨F6.out.set_ 3 _⟩
        have R5 := Kept.mk (R5a.out.far hb7 OF5.out)
        have R6 := Kept.mk (R6a.out.far hb7 OF6.out)
        have R7 := Kept.mk (R7a.out.far hb7 OF7T.out)
        have R8 := Kept.mk (R8a.out.far hb7 OF8.out)
        have f7 := F7.out.cell 3
        clear hb7 R5a R6a R7a R8a G6 F6 OF5 OF6 OF7T OF8
        have c8 := Kept.mk (csum_any t A5 A7 16 c5 q (c5 - 24) (X.take 16) (fB b) (w6.setCell ⟨T, 3, none⟩ (.slice A7 q (c5 - 24))) G7.out.2.2.1 R5.out R7.out (by omega) k2 (by omega) (by omega) (by omega) (by omega))
        go_wp2_with fail
        refine c8.out.mono ?_
        clear c8 f3 y3 f7
        generalize w6.setCell ⟨T, 3, none⟩ (.slice A7 q (c5 - 24)) = w7 at *
        rintro x w8 ⟨M, rfl, hM, r8, t8, b8⟩
        have hTt : T ∉ [t] := by rw [List.mem_singleton]; omega
        have G8 := Kept.mk (G7.out.tab b8 t8)
        have F8 := Kept.mk (F7.out.bar b8 hTt)
        have R7b := Kept.mk (R7.out.tab G7.out.2.2.1 b8)
        have R8b := Kept.mk (R8.out.tab G7.out.2.2.1 b8)
        have c9 := Kept.mk (bequal_any A6 (some ⟨M, 0, none⟩) 8 8 (c5 - 16) 32 _ _ w8 (R6.out.tab G7.out.2.2.1 b8) r8)
        have c10 := Kept.mk (blank_any A8 (63 * S - (24 + q)) (c5 - (24 + q)) (X.drop (24 + q)) w8 R8b.out (by omega))
        clear r8 t8 b8 R5 R6 R7 R8 G7 F7 hTt R8b
        cases hsm : sameB ((X.take 24).drop 16) ((sha (X.take 16 ++ fB b)).take 8) with
        | false =>
          rw [hsm] at c9
          have hno : ¬ codeOk b := fun h => by
            have := (CK.out.1 h).2.1
            rw [hsm] at this
            cases this
          have GG := G8.out
          go_wp2_with fail
          refine c9.out.mono ?_
          rintro x w' ⟨rfl, rfl⟩
          clear c9 c10 hsm F8 R7b CK HFB GY HQ OF7 G8
          have P4 := Kept.mk (put4 GG.1 (.int .i64 0) (.int .i64 0) (.int .i64 0) (.slice none 0 0)).1
          have PF := Kept.mk (gy_no GG hno)
          have g0 := GG.1.cell 0; have g1 := GG.1.cell 1; have g2 := GG.1.cell 2; have g3 := GG.1.cell 3
          have z0 := GG.1.frozen 0; have z1 := GG.1.frozen 1; have z2 := GG.1.frozen 2; have z3 := GG.1.frozen 3
          clear GG hno HX
          go_wp2
          (try simp only [Exit.inBlock, Exit.then])
          refine bodyPost_ret (results_cell_two rfl _ _ N 24 #[.int .i64 0, .int .i64 0, .int .i64 0, .slice none 0 0] (0, 0) _ rfl P4.out Try.underlying24 rfl frame_size) rfl ?_
          exact PF.out
        | true =>
          rw [hsm] at c9
          cases hbl : blankB (X.drop (24 + q)) with
          | false =>
            rw [hbl] at c10
            have hno : ¬ codeOk b := fun h => by
              have := (CK.out.1 h).2.2
              rw [hbl] at this
              cases this
            have GG := G8.out
            go_wp2_with fail
            refine c9.out.mono ?_
            rintro x w' ⟨rfl, rfl⟩
            clear c9
            go_wp2_with fail
            refine c10.out.mono ?_
            rintro x w' ⟨rfl, rfl⟩
            clear c10 hsm hbl F8 R7b CK HFB GY HQ OF7 G8
            have P4 := Kept.mk (put4 GG.1 (.int .i64 0) (.int .i64 0) (.int .i64 0) (.slice none 0 0)).1
            have PF := Kept.mk (gy_no GG hno)
            have g0 := GG.1.cell 0; have g1 := GG.1.cell 1; have g2 := GG.1.cell 2; have g3 := GG.1.cell 3
            have z0 := GG.1.frozen 0; have z1 := GG.1.frozen 1; have z2 := GG.1.frozen 2; have z3 := GG.1.frozen 3
            clear GG hno HX
            go_wp2
            (try simp only [Exit.inBlock, Exit.then])
            refine bodyPost_ret (results_cell_two rfl _ _ N 24 #[.int .i64 0, .int .i64 0, .int .i64 0, .slice none 0 0] (0, 0) _ rfl P4.out Try.underlying24 rfl frame_size) rfl ?_
            exact PF.out
          | true =>
            rw [hbl] at c10
            have hyes : codeOk b := CK.out.2 ⟨by simp, hsm, hbl⟩
            have GG := G8.out
            have P4 := Kept.mk (put4 GG.1 (.int .i64 (fK b)) (.int .i64 (fG b)) (.int .i64 (fS b)) (.slice A7 q (c5 - 24)))
            have PF : Kept (GetPost t (getF b) w (.returned (.tuple #[.agg #[.int .i64 (fK b), .int .i64 (fG b), .int .i64 (fS b), .slice A7 q (c5 - 24)], .int .i64 S, .int .i64 0])) ((((w8.setCell ⟨N, 0, none⟩ (.int .i64 (fK b))).setCell ⟨N, 1, none⟩ (.int .i64 (fG b))).setCell ⟨N, 2, none⟩ (.int .i64 (fS b))).setCell ⟨N, 3, none⟩ (.slice A7 q (c5 - 24)))) := by
              refine ⟨?_⟩
              have hp := gy_put GG (.int .i64 (fK b)) (.int .i64 (fG b)) (.int .i64 (fS b)) (.slice A7 q (c5 - 24))
              rw [GY.out hyes, hSS]
              refine ⟨A7, q, c5 - 24, rfl, by have := HQ.out; omega, by unfold maxLen; omega, R7b.out.far P4.out.2 (OF7.out [N] (by intro k hk; rw [List.mem_singleton] at hk; omega)), fun F hF => OF7.out F (fun k hk => by have := hF k hk; omega), hp.1, hp.2⟩
            have g0 := GG.1.cell 0; have g1 := GG.1.cell 1; have g2 := GG.1.cell 2; have g3 := GG.1.cell 3
            have z0 := GG.1.frozen 0; have z1 := GG.1.frozen 1; have z2 := GG.1.frozen 2; have z3 := GG.1.frozen 3
            have t0 := F8.out.cell 0; have t1 := F8.out.cell 1; have t2 := F8.out.cell 2; have t3 := F8.out.cell 3
            clear hyes GG G8 F8 R7b CK HFB GY HQ OF7 hsm hbl HX
            go_wp2_with fail
            refine c9.out.mono ?_
            rintro x w' ⟨rfl, rfl⟩
            clear c9
            go_wp2_with fail
            refine c10.out.mono ?_
            rintro x w' ⟨rfl, rfl⟩
            clear c10
            go_wp2
            (try simp only [Exit.inBlock, Exit.then])
            refine bodyPost_ret (results_cell_two rfl _ _ N 24 #[.int .i64 (fK b), .int .i64 (fG b), .int .i64 (fS b), .slice A7 q (c5 - 24)] (0, 0) _ rfl P4.out.1 Try.underlying24 rfl frame_size) rfl ?_
            exact PF.out
      · have hno : ¬ codeOk b := fun h => by
          have := (CK.out.1 h).1
          rw [hok] at this
          cases this
        have GG := G4.out.below b5
        have P4 := Kept.mk (put4 GG.1 (.int .i64 0) (.int .i64 0) (.int .i64 0) (.slice none 0 0)).1
        have PF := Kept.mk (gy_no GG hno)
        have g0 := GG.1.cell 0; have g1 := GG.1.cell 1; have g2 := GG.1.cell 2; have g3 := GG.1.cell 3
        have z0 := GG.1.frozen 0; have z1 := GG.1.frozen 1; have z2 := GG.1.frozen 2; have z3 := GG.1.frozen 3
        clear GG hno G4 F4 b5 hok CK HFB GY HQ hS1 hS9 hq6
        go_wp2
        (try simp only [Exit.inBlock, Exit.then])
        refine bodyPost_ret (results_cell_two rfl _ _ N 24 #[.int .i64 0, .int .i64 0, .int .i64 0, .slice none 0 0] (0, 0) _ rfl P4.out Try.underlying24 rfl frame_size) rfl ?_
        exact PF.out
    · rw [show decide (headOk (head0 b)) = false from decide_eq_false hh]
      have hno : ¬ codeOk b := fun h => hh h.2.2.1
      obtain ⟨T, hT⟩ : ∃ T, w3.heap.size = T := ⟨_, rfl⟩
      have GG : Gy w t N A n b (w3.alloc (.cells #[.int .i64 (fK b), .int .i64 (fG b), .int .i64 (fS b), .slice none 0 0] 24)) := G3.out.below ((Below.refl _ _).alloc (Nat.le_refl _) _)
      have P4 := Kept.mk (put4 GG.1 (.int .i64 0) (.int .i64 0) (.int .i64 0) (.slice none 0 0)).1
      have PF := Kept.mk (gy_no GG hno)
      have g0 := GG.1.cell 0; have g1 := GG.1.cell 1; have g2 := GG.1.cell 2; have g3 := GG.1.cell 3
      have z0 := GG.1.frozen 0; have z1 := GG.1.frozen 1; have z2 := GG.1.frozen 2; have z3 := GG.1.frozen 3
      clear GG hno G3 hh
      go_wp2
      (try simp only [Exit.inBlock, Exit.then])
      refine bodyPost_ret (results_cell_two rfl _ _ N 24 #[.int .i64 0, .int .i64 0, .int .i64 0, .slice none 0 0] (0, 0) _ rfl P4.out Try.underlying24 rfl frame_size) rfl ?_
      exact PF.out
  · have hno : ¬ codeOk b := fun h => by
      have := lift_one.2 ⟨h.1, h.2.1⟩
      rw [hok] at this
      cases this
    have G2 := G1.out.below b2
    have P4 := Kept.mk (put4 G2.1 (.int .i64 0) (.int .i64 0) (.int .i64 0) (.slice none 0 0)).1
    have PF := Kept.mk (gy_no G2 hno)
    have g0 := G2.1.cell 0; have g1 := G2.1.cell 1; have g2 := G2.1.cell 2; have g3 := G2.1.cell 3
    have z0 := G2.1.frozen 0; have z1 := G2.1.frozen 1; have z2 := G2.1.frozen 2; have z3 := G2.1.frozen 3
    clear G1 G2 b2 hok hno
    go_wp2
    (try simp only [Exit.inBlock, Exit.then])
    refine bodyPost_ret (results_cell_two rfl _ _ N 24 #[.int .i64 0, .int .i64 0, .int .i64 0, .slice none 0 0] (0, 0) _ rfl P4.out Try.underlying24 rfl frame_size) rfl ?_
    exact PF.out
end Go.Proofs.Ytimdbljagpbecaa.Frame

/-
  Package frame meets its contracts.
-/



namespace Go.Proofs.Ytimdbljagpbecaa.Frame
open Go.RowKit Go.Proofs.Ytimdbljagpbecaa.Sha Go.Proofs.Ytimdbljagpbecaa.Wire

theorem api : FrameApi where
  sectors := csectors_any
  put := fun ht hr hc hcm _ _ => cput_any _ _ _ _ _ _ ht hr hc hcm
  get := fun ht hr hc _ hn _ => cget_any _ _ _ _ _ _ ht hr hc hn
end Go.Proofs.Ytimdbljagpbecaa.Frame
