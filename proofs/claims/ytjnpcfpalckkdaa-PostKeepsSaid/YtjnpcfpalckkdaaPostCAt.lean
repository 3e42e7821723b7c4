/-
  Package post: At.
-/
import Derived.Test.YtjnpcfpalckkdaaPostDel
import Derived.Test.YtjnpcfpalckkdaaPostC1
import Derived.Test.YtjnpcfpalckkdaaClone
import Derived.Test.YtjnpcfpalckkdaaCellTmp
namespace Go.Proofs.Ytjnpcfpalckkdaa.Post
open Go.RowKit Go.Proofs.Ytjnpcfpalckkdaa.Sha

theorem pa_size : (Try.prog.info? 37).map (·.size) = some 2 := by kernel_rfl
set_option maxRecDepth 100000 in
set_option maxHeartbeats 1000000 in
theorem cat_any {N x : Nat} {F : List Nat} {w : World} {m : Int} {l : List PV} (i : Int) (h : Ps 52 F N w x m l) : Calls Try.prog 20 #[.pointer (some ⟨x, 0, none⟩), .int .i64 i] w (ParP 52 F N x m (atP i l) (hasB i l) l w) := by
  obtain ⟨w1, hw1⟩ : ∃ z, w.alloc (.cells #[.int .i64 0, .slice none 0 0] 37) = z := ⟨_, rfl⟩
  obtain ⟨R, hR⟩ : ∃ z, w.heap.size = z := ⟨_, rfl⟩
  have bb : Below w.heap.size w w1 := hw1 ▸ (Below.refl _ _).alloc (Nat.le_refl _) _
  have YR : Kept (Blk w1 R 37 #[.int .i64 0, .slice none 0 0]) := ⟨hw1 ▸ Blk.new_at w _ _ _ hR.symm⟩
  have H := Kept.mk (h.below bb)
  have CH := Kept.mk (chas_any i H.out)
  have FB : Kept (Bar F w w1) := ⟨barOf bb _⟩
  have HRF : Kept (∀ k ∈ F, k ≠ R) := ⟨fun k hk => by have := (h.lt k hk).2; omega⟩
  have HR := Kept.mk hR
  clear bb hR
  by_cases hi : hasB i l = true
  · obtain ⟨k, rfl, hk⟩ := has_true hi
    rw [hi] at CH ⊢
    have H0 := H.out
    obtain ⟨q, hq0, P⟩ := H0
    obtain ⟨B, cp, hcp1, hcp2, X, hF⟩ := P.pv
    rw [← hq0, List.length_map] at hk
    obtain ⟨g, p, rfl, hq, k0, k1, he, hv⟩ := X.at_ hk
    rw [← hq0, hv, hq0]
    have c1 : w1.cell? ⟨x, 1, none⟩ = some (.slice (some ⟨g, 0, none⟩) q.length cp) := X.blk.cell 1
    have hk' : (k : Int) < q.length := by omega
    have E := Kept.mk he
    obtain ⟨pt, pA, pn, pc, pb⟩ := p
    dsimp only [PA.val] at k0 k1
    clear hi hq hv he P X hF hq0 h
    have hR := HR.out
    go_enter Try.func20, Try.ntmps20
    go_upto_region 1 with (fail)
    clear hw1
    go_wp2_with fail
    refine CH.out.mono ?_
    rintro e w2 ⟨rfl, rfl⟩
    clear CH hR
    obtain ⟨M, hM⟩ : ∃ z, w1.heap.size = z := ⟨_, rfl⟩
    have bb : Below w1.heap.size w1 (w1.alloc (.cells #[.int .i64 pt, .slice pA pn pc] 37)) := (Below.refl _ _).alloc (Nat.le_refl _) _
    have HMF : Kept (∀ k ∈ F, k ≠ M) := ⟨fun k hk => by have := (H.out.lt k hk).2; omega⟩
    have HM : Kept (w.heap.size ≤ M) := ⟨by have := FB.out.size; omega⟩
    have hRM : R ≠ M := by have := YR.out.lt; omega
    have YM := Kept.mk (Blk.new_at w1 37 #[.int .i64 pt, .slice pA pn pc] M hM.symm)
    replace YR := Kept.mk (YR.out.below bb YR.out.lt)
    replace H := Kept.mk (H.out.below bb)
    replace FB := Kept.mk (FB.out.trans (barOf bb []) (by simp))
    replace E := Kept.mk (E.out.keep (barOf bb []) (fun _ h => by cases h))
    clear bb
    go_upto_region 4 with (fail)
    clear hM
    generalize w1.alloc (.cells #[.int .i64 pt, .slice pA pn pc] 37) = w3 at *
    have m1 : w3.cell? ⟨M, 1, none⟩ = some (.slice pA pn pc) := YM.out.cell 1
    have CC := clone_any pA pn pc pb w3 E.out.2.2.2.1 (by have := E.out.2.2.1; dsimp only at this; omega)
    unfold NewRow at CC
    replace CC := Kept.mk CC
    go_wp2_with fail
    refine CC.out.mono ?_
    rintro e w4 ⟨v6, rfl, o6, bb⟩
    obtain ⟨A6, c6, rfl⟩ := own_shape o6
    have RB := Kept.mk (Rb.own o6 E.out.2.2.2.1.2.1)
    replace YR := Kept.mk (YR.out.below bb YR.out.lt)
    replace YM := Kept.mk (YM.out.below bb YM.out.lt)
    replace H := Kept.mk (H.out.below bb)
    replace FB := Kept.mk (FB.out.trans (barOf bb []) (by simp))
    clear bb o6 CC m1 k0 k1 c1
    have m1 : w4.cell? ⟨M, 1, none⟩ = some (.slice pA pn pc) := YM.out.cell 1
    have f1 := YM.out.frozen 1
    go_upto_region 5 with (fail)
    have b5 : Bar [M] w4 (w4.setCell ⟨M, 1, none⟩ (.slice A6 pn c6)) := (Bar.refl _ _).setCell (by simp) _
    have nM : Nb w4 [M] := fun z hz => by rw [List.mem_singleton] at hz; subst hz; exact ⟨_, _, _, YM.out, by decide⟩
    replace YM := Kept.mk (show Blk _ M 37 #[.int .i64 pt, .slice A6 pn c6] from by simpa using YM.out.set_ 1 (.slice A6 pn c6))
    replace YR := Kept.mk (YR.out.bar b5 (by simpa using hRM))
    replace H := Kept.mk (H.out.keep b5 (fun z hz hm => HMF.out z hz (by simpa using hm)) nM)
    replace FB := Kept.mk (FB.out.trans b5 (fun z hz => .inr (by rw [List.mem_singleton] at hz; subst hz; exact HM.out)))
    replace RB := Kept.mk (show _ ∧ _ ∧ _ from ⟨RB.out.1, RB.out.2.1, RB.out.2.2.keep b5 nM⟩)
    clear b5 nM m1 f1
    generalize w4.setCell ⟨M, 1, none⟩ (.slice A6 pn c6) = w5 at *
    have m0 : w5.cell? ⟨M, 0, none⟩ = some (.int .i64 pt) := YM.out.cell 0
    have m1 : w5.cell? ⟨M, 1, none⟩ = some (.slice A6 pn c6) := YM.out.cell 1
    have y0 : w5.cell? ⟨R, 0, none⟩ = some (.int .i64 0) := YR.out.cell 0
    have y1 : w5.cell? ⟨R, 1, none⟩ = some (.slice none 0 0) := YR.out.cell 1
    have z0 := YR.out.frozen 0; have z1 := YR.out.frozen 1
    have PP := Kept.mk (put2 YR.out (.int .i64 pt) (.slice A6 pn c6))
    have nR : Kept (Nb w5 [R]) := ⟨fun z hz => by rw [List.mem_singleton] at hz; subst hz; exact ⟨_, _, _, YR.out, by decide⟩⟩
    go_wp2
    refine bodyPost_ret (Sha.results_cell_tmp rfl _ _ R 37 #[.int .i64 pt, .slice A6 pn c6] (0, 0) _ rfl PP.out.1 Try.underlying37 rfl pa_size) rfl ?_
    exact ⟨A6, pn, c6, F, rfl, RB.out.1, RB.out.2.1, RB.out.2.2.keep PP.out.2 nR.out, H.out.keep PP.out.2 (fun z hz hm => HRF.out z hz (by simpa using hm)) nR.out, FB.out.trans PP.out.2 (fun z hz => .inr (by rw [List.mem_singleton] at hz; subst hz; exact Nat.le_of_eq HR.out)), fun _ h => .inl h⟩
  · have hi' : hasB i l = false := by simpa using hi
    have ha : atP i l = zeroP := by unfold atP; rw [if_neg hi]
    rw [hi'] at CH ⊢
    rw [ha]
    clear hi hi' ha h
    have hR := HR.out
    have y0 : w1.cell? ⟨R, 0, none⟩ = some (.int .i64 0) := YR.out.cell 0
    have y1 : w1.cell? ⟨R, 1, none⟩ = some (.slice none 0 0) := YR.out.cell 1
    have z0 := YR.out.frozen 0; have z1 := YR.out.frozen 1
    have PP := Kept.mk (put2 YR.out (.int .i64 0) (.slice none 0 0))
    have nR : Kept (Nb w1 [R]) := ⟨fun z hz => by rw [List.mem_singleton] at hz; subst hz; exact ⟨_, _, _, YR.out, by decide⟩⟩
    go_enter Try.func20, Try.ntmps20
    go_upto_region 1 with (fail)
    clear hw1
    go_wp2_with fail
    refine CH.out.mono ?_
    rintro e w2 ⟨rfl, rfl⟩
    clear CH
    go_wp2
    refine bodyPost_ret (Sha.results_cell_tmp rfl _ _ R 37 #[.int .i64 0, .slice none 0 0] (0, 0) _ rfl PP.out.1 Try.underlying37 rfl pa_size) rfl ?_
    exact ⟨none, 0, 0, F, rfl, Nat.le_refl _, by omega, Rb.nil, H.out.keep PP.out.2 (fun z hz hm => HRF.out z hz (by simpa using hm)) nR.out, FB.out.trans PP.out.2 (fun z hz => .inr (by rw [List.mem_singleton] at hz; subst hz; exact Nat.le_of_eq HR.out)), fun _ h => .inl h⟩
end Go.Proofs.Ytjnpcfpalckkdaa.Post
