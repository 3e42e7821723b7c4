/-
  Package meter: change, and what stands on it.
-/
import Derived.Test.YtkgbinngohiffaaMeter
namespace Go.Proofs.Ytkgbinngohiffaa.Meter
open Go.RowKit Go.Proofs.Ytkgbinngohiffaa.Sha

def ChgPost (w : World) (m : Nat) (cs : List Int) (k : Nat) (x : Int) (e : Ending) (w' : World) : Prop :=
  e = .returned (.tuple #[.int .i64 (at_ cs k), .int .i64 x]) ∧ Me w' m (cs.set k x) ∧ Bar [m] w w'

set_option maxRecDepth 100000 in
set_option maxHeartbeats 1000000 in
theorem change_any (m k nb : Nat) (cs : List Int) (K : FuncId) (n : Int) (g : Int → Int) (w : World) (hm : Me w m cs) (hk : k < 8) (hK : Next K nb n g) (hn : w.cell? ⟨nb, 0, none⟩ = some (.int .i64 n)) :
    Calls Try.prog 17 #[.pointer (some ⟨m, 0, none⟩), .int .i64 k, .func (.func K) #[] #[.pointer (some ⟨nb, 0, none⟩)]] w (ChgPost w m cs k (g (at_ cs k))) := by
  obtain ⟨h8, r, h1, h2⟩ := hm
  have hent := hK.1
  have hk8 : (k : Int) < 8 := by omega
  have c1 := Kept.mk (load_any m r w cs h8 (h1.cell 0) h2)
  have L8 := Kept.mk h8
  have H1 := Kept.mk h1
  have H2 := Kept.mk h2
  have HN := Kept.mk hn
  obtain ⟨N, hN⟩ : ∃ N, w.heap.size = N := ⟨_, rfl⟩
  have EN := Kept.mk hN
  clear h1 h2 h8 hn hN
  go_enter Try.func17, Try.ntmps17
  go_wp2_with fail
  refine wp_loop_rounds 1 ?_
  rw [rounds_succ]
  go_wp2_with fail
  refine c1.out.mono ?_
  rintro e w' ⟨rfl, rfl⟩
  clear c1
  go_upto_region 3 with (first | ((with_reducible refine sel 16 ?_); refine wpList_load_row rfl 49 (.tmp 15) rfl r rfl 49 _ (0, 0) _ H2.out Try.underlying49 rfl (by rw [arr_size, L8.out]; kernel_rfl) ?_) | ((with_reducible refine selS 49 (.tmp 9) (.tmp 16) ?_); refine wpList_store_row rfl 49 (.tmp 9) (.tmp 16) rfl w.heap.size (arr .i64 cs) rfl rfl 49 _ (Blk.new _ _ _) (by rw [arr_size, L8.out]; kernel_rfl) (by rw [arr_size, L8.out]; rfl) (all_oneCell_toArray (ints_one _ _)) ?_; rw [EN.out]; refine wp_gen (fun w' => Kept (Blk w' N 49 (arr .i64 cs)) ∧ Kept (Below N w w')) ⟨⟨?_⟩, ⟨?_⟩⟩ (fun w1 hw1 => ?_)))
  case refine_1 => exact EN.out ▸ (Blk.new w _ _).row _
  case refine_2 => exact below_setRow ((Below.refl _ _).alloc (by have := EN.out; omega) _) (Nat.le_refl _) _
  obtain ⟨k1, b1⟩ := hw1
  have hne : m ≠ N := by have := H1.out.lt; have := EN.out; omega
  have hne2 : r ≠ N := by have := H2.out.lt; have := EN.out; omega
  replace H1 := Kept.mk (H1.out.below b1.out (by have := H1.out.lt; have := EN.out; omega))
  replace H2 := Kept.mk (H2.out.below b1.out (by have := H2.out.lt; have := EN.out; omega))
  replace HN : Kept (w1.cell? ⟨nb, 0, none⟩ = some (.int .i64 n)) := ⟨by
    rw [b1.out.cell (by have := World.block_lt_of_cell? _ _ HN.out; have := EN.out; omega)]; exact HN.out⟩
  have hc := H2.out.at_ k (by rw [L8.out]; exact hk)
  go_wp2_with fail
  refine (hK.2 w1 _ HN.out).mono ?_
  rintro e w' ⟨rfl, rfl⟩
  have HC := Kept.mk hc
  clear hc
  have x1 := k1.out.at_ k (by rw [L8.out]; exact hk)
  have x2 := k1.out.frozen k
  have EX := Kept.mk (show at_ (cs.set k (g (at_ cs k))) k = g (at_ cs k) by rw [at_set _ _ _ _ (by rw [L8.out]; exact hk), if_pos rfl])
  have LS : Kept ((cs.set k (g (at_ cs k))).length = 8) := ⟨by rw [List.length_set]; exact L8.out⟩
  have k2 := k1.out.set_ k (.int .i64 (g (at_ cs k)))
  rw [arr_set] at k2
  have b2 := b1.out.setCell (p := ⟨N, k, none⟩) (Nat.le_refl _) (.int .i64 (g (at_ cs k)))
  have H1' := H1.out.far hne (p := ⟨N, k, none⟩) (.int .i64 (g (at_ cs k)))
  have H2' := H2.out.far hne2 (p := ⟨N, k, none⟩) (.int .i64 (g (at_ cs k)))
  generalize g (at_ cs k) = x at *
  have K2 := Kept.mk k2; have B2 := Kept.mk b2; replace H1 := Kept.mk H1'; replace H2 := Kept.mk H2'
  clear k1 b1 k2 b2 H1' H2'
  go_wp2_with fail
  refine (cas_any m r N _ cs (cs.set k x) L8.out LS.out (H1.out.cell 0) (H1.out.frozen 0) H2.out K2.out).mono ?_
  rintro e w' ⟨rfl, rfl⟩
  have H3 := H1.out.set_ 0 (.pointer (some ⟨N, 0, none⟩))
  have K3 := K2.out.far (Ne.symm hne) (p := ⟨m, 0, none⟩) (.pointer (some ⟨N, 0, none⟩))
  have H4 := H2.out.far (p := ⟨m, 0, none⟩) (show r ≠ m from (blk_ne H2.out H1.out (by decide))) (.pointer (some ⟨N, 0, none⟩))
  have B3 := (barOf (by rw [EN.out]; exact B2.out) [m]).setCell (p := ⟨m, 0, none⟩) (by simp) (.pointer (some ⟨N, 0, none⟩))
  clear x1 x2
  generalize ((w1.setCell ⟨N, k, none⟩ (.int .i64 x)).setCell ⟨m, 0, none⟩ (.pointer (some ⟨N, 0, none⟩))) = w3 at *
  have y1 := H4.at_ k (by rw [L8.out]; exact hk)
  have y2 := K3.at_ k (by rw [LS.out]; exact hk)
  rw [EX.out] at y2
  replace H3 := Kept.mk H3; replace K3 := Kept.mk K3; replace B3 := Kept.mk B3
  clear H4
  go_wp2_with fail
  go_quiet (fail)
  go_wp2
  go_ret2
  exact ⟨rfl, ⟨LS.out, N, H3.out.drewN _, K3.out.drewN _⟩, B3.out.drewN _⟩

/-- counter k, 0 of none; it is x -/
def getC (cs : List Int) (k : Int) : Int := if inK k = true then at_ cs k.toNat else 0
def setC (cs : List Int) (k x : Int) : List Int := if inK k = true then cs.set k.toNat x else cs
theorem setC_len (cs : List Int) (k x : Int) : (setC cs k x).length = cs.length := by unfold setC; split <;> simp

set_option maxRecDepth 100000 in
set_option maxHeartbeats 400000 in
theorem new_any (w : World) : Calls Try.prog 8 #[] w fun e w' => ∃ m, e = .returned (.pointer (some ⟨m, 0, none⟩)) ∧ Me w' m (List.replicate 8 0) ∧ w.heap.size ≤ m ∧ Below w.heap.size w w' := by
  obtain ⟨N, hN⟩ : ∃ N, w.heap.size = N := ⟨_, rfl⟩
  have EN := Kept.mk hN
  have h1 : Blk (w.alloc (.cells #[.pointer none] 46)) N 46 #[.pointer none] := Blk.new_at _ _ _ _ hN.symm
  have h2 := h1.alloc (.cells (arr .i64 (List.replicate 8 0)) 49)
  have h3 : Blk ((w.alloc (.cells #[.pointer none] 46)).alloc (.cells (arr .i64 (List.replicate 8 0)) 49)) (N + 1) 49 (arr .i64 (List.replicate 8 0)) := Blk.new_at _ _ _ _ (by simp [hN])
  have b : Below N w ((w.alloc (.cells #[.pointer none] 46)).alloc (.cells (arr .i64 (List.replicate 8 0)) 49)) := ((Below.refl _ _).alloc (by omega) _).alloc (by simp; omega) _
  have c := Kept.mk (store_any N (N + 1) _ _ _ rfl (h2.cell 0) (h2.frozen 0) h3)
  have H2 := Kept.mk h2; have H3 := Kept.mk h3; have B := Kept.mk b
  clear h1 h2 h3 b hN
  go_enter Try.func8, Try.ntmps8
  go_wp2_with fail
  rw [EN.out]
  refine c.out.mono ?_
  rintro e w' ⟨rfl, rfl⟩
  have h4 := H2.out.set_ 0 (.pointer (some ⟨N + 1, 0, none⟩))
  have h5 := H3.out.far (p := ⟨N, 0, none⟩) (by simp) (.pointer (some ⟨N + 1, 0, none⟩))
  have b4 := B.out.setCell (p := ⟨N, 0, none⟩) (Nat.le_refl _) (.pointer (some ⟨N + 1, 0, none⟩))
  go_wp2
  go_ret
  exact ⟨N, rfl, ⟨rfl, N + 1, h4, h5⟩, Nat.le_of_eq EN.out, by rw [EN.out]; exact b4⟩

set_option maxRecDepth 100000 in
set_option maxHeartbeats 400000 in
theorem get_any (m : Nat) (k : Int) (cs : List Int) (w : World) (hm : Me w m cs) : Calls Try.prog 12 #[.pointer (some ⟨m, 0, none⟩), .int .i64 k] w fun e w' => e = .returned (.int .i64 (getC cs k)) ∧ w = w' := by
  obtain ⟨h8, r, h1, h2⟩ := hm
  have c0 := Kept.mk (counter_any k w)
  have c1 := Kept.mk (load_any m r w cs h8 (h1.cell 0) h2)
  cases hk : inK k with
  | true =>
    rw [hk] at c0
    obtain ⟨i, rfl, hi⟩ := inK_is hk
    have hx := h2.at_ i (by omega)
    rw [show getC cs i = at_ cs i by unfold getC; rw [if_pos hk]; rfl]
    have hi8 : (i : Int) < 8 := by omega
    have H := Kept.mk hx
    clear h1 h2 h8 hk hx
    go_enter Try.func12, Try.ntmps12
    go_wp2_with fail
    refine c0.out.mono ?_
    rintro e w' ⟨rfl, rfl⟩
    go_wp2_with fail
    refine c1.out.mono ?_
    rintro e w' ⟨rfl, rfl⟩
    have hx := H.out
    go_wp2
    go_ret
    exact ⟨rfl, rfl⟩
  | false =>
    rw [hk] at c0
    rw [show getC cs k = 0 by unfold getC; rw [if_neg (by rw [hk]; decide)]]
    clear h1 h2 h8 hk c1
    go_enter Try.func12, Try.ntmps12
    go_wp2_with fail
    refine c0.out.mono ?_
    rintro e w' ⟨rfl, rfl⟩
    go_wp2
    go_ret
    exact ⟨rfl, rfl⟩

set_option maxRecDepth 100000 in
set_option maxHeartbeats 400000 in
theorem all_any (m : Nat) (cs : List Int) (w : World) (hm : Me w m cs) : Calls Try.prog 14 #[.pointer (some ⟨m, 0, none⟩)] w fun e w' => ∃ A, e = .returned (.slice (some ⟨A, 0, none⟩) 8 8) ∧ Blk w' A 49 (arr .i64 cs) ∧ w.heap.size ≤ A ∧ Below w.heap.size w w' := by
  obtain ⟨h8, r, h1, h2⟩ := hm
  have c1 := Kept.mk (load_any m r w cs h8 (h1.cell 0) h2)
  have L8 := Kept.mk h8; have H2 := Kept.mk h2
  clear h1 h2 h8
  go_enter Try.func14, Try.ntmps14
  go_wp2_with fail
  refine c1.out.mono ?_
  rintro e w' ⟨rfl, rfl⟩
  go_upto_region 2 with (first | ((with_reducible refine sel 9 ?_); refine wpList_load_row rfl 49 (.tmp 8) rfl r rfl 49 _ (0, 0) _ H2.out Try.underlying49 rfl (by rw [arr_size, L8.out]; kernel_rfl) ?_) | ((with_reducible refine selS 49 (.tmp 3) (.tmp 9) ?_); refine wpList_store_row rfl 49 (.tmp 3) (.tmp 9) rfl w.heap.size (arr .i64 cs) rfl rfl 49 _ (Blk.new _ _ _) (by rw [arr_size, L8.out]; kernel_rfl) (by rw [arr_size, L8.out]; rfl) (all_oneCell_toArray (ints_one _ _)) ?_; refine wp_gen (fun w' => Kept (Blk w' w.heap.size 49 (arr .i64 cs)) ∧ Kept (Below w.heap.size w w')) ⟨⟨?_⟩, ⟨?_⟩⟩ (fun w1 hw1 => ?_)))
  case refine_1 => exact (Blk.new w _ _).row _
  case refine_2 => exact below_setRow ((Below.refl _ _).alloc (Nat.le_refl _) _) (Nat.le_refl _) _
  obtain ⟨k1, b1⟩ := hw1
  go_wp2
  go_ret
  exact ⟨_, rfl, k1.out, Nat.le_refl _, b1.out⟩
end Go.Proofs.Ytkgbinngohiffaa.Meter
