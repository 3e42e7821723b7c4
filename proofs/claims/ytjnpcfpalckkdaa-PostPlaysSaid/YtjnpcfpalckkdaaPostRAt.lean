/-
  The document's post: At.
-/
import Derived.Test.YtjnpcfpalckkdaaPostDel
import Derived.Test.YtjnpcfpalckkdaaPostR1
import Derived.Test.YtjnpcfpalckkdaaCopy
import Derived.Test.YtjnpcfpalckkdaaCellTmp
namespace Go.Proofs.Ytjnpcfpalckkdaa.Post
open Go.RowKit Go.Proofs.Ytjnpcfpalckkdaa.Sha

theorem pa_size_r : (Try.prog.info? 37).map (·.size) = some 2 := by kernel_rfl
set_option maxRecDepth 100000 in
set_option maxHeartbeats 1000000 in
theorem rat_any {N x : Nat} {F : List Nat} {w : World} {m : Int} {l : List PV} (i : Int) (h : Ps 46 F N w x m l) : Calls Try.prog 21 #[.pointer (some ⟨x, 0, none⟩), .int .i64 i] w (ParP 46 F N x m (atP i l) (hasB i l) l w) := by
  obtain ⟨w1, hw1⟩ : ∃ z, w.alloc (.cells #[.int .i64 0, .slice none 0 0] 37) = z := ⟨_, rfl⟩
  obtain ⟨R, hR⟩ : ∃ z, w.heap.size = z := ⟨_, rfl⟩
  have bb : Below w.heap.size w w1 := hw1 ▸ (Below.refl _ _).alloc (Nat.le_refl _) _
  have YR : Kept (Blk w1 R 37 #[.int .i64 0, .slice none 0 0]) := ⟨hw1 ▸ Blk.new_at w _ _ _ hR.symm⟩
  have H := Kept.mk (h.below bb)
  have CH := Kept.mk (rhas_any i H.out)
  have FB : Kept (Bar F w w1) := ⟨barOf bb _⟩
  have HRF : Kept (∀ k ∈ F, k ≠ R) := ⟨fun k hk => by have := (h.lt k hk).2; omega⟩
  have HR := Kept.mk hR
  clear bb hR
  by_cases hi : hasB i l = true
  · obtain ⟨k, rfl, hk⟩ := has_true hi
    rw [hi] at CH ⊢
    have H0 := H.out
    obtain ⟨q, hq0, P⟩ := H0
    obtain ⟨B, cp, hcp1, hcp2, X, hF⟩ := P.pv
    rw [← hq0, List.length_map] at hk
    obtain ⟨g, p, rfl, hq, k0, k1, he, hv⟩ := X.at_ hk
    rw [← hq0, hv, hq0]
    have c1 : w1.cell? ⟨x, 1, none⟩ = some (.slice (some ⟨g, 0, none⟩) q.length cp) := X.blk.cell 1
    have hk' : (k : Int) < q.length := by omega
    have E := Kept.mk he
    obtain ⟨pt, pA, pn, pc, pb⟩ := p
    dsimp only [PA.val] at k0 k1
    clear hi hq hv he P X hF hq0 h
    have hR := HR.out
    go_enter Try.func21, Try.ntmps21
    go_upto_region 1 with (fail)
    clear hw1
    go_wp2_with fail
    refine CH.out.mono ?_
    rintro e w2 ⟨rfl, rfl⟩
    clear CH hR
    have y0 : w1.cell? ⟨R, 0, none⟩ = some (.int .i64 0) := YR.out.cell 0
    have y1 : w1.cell? ⟨R, 1, none⟩ = some (.slice none 0 0) := YR.out.cell 1
    have z0 := YR.out.frozen 0; have z1 := YR.out.frozen 1
    have PP := Kept.mk (put2 YR.out (.int .i64 pt) (.slice pA pn pc))
    have nR : Kept (Nb w1 [R]) := ⟨fun z hz => by rw [List.mem_singleton] at hz; subst hz; exact ⟨_, _, _, YR.out, by decide⟩⟩
    go_wp2
    refine bodyPost_ret (Sha.results_cell_tmp rfl _ _ R 37 #[.int .i64 pt, .slice pA pn pc] (0, 0) _ rfl PP.out.1 Try.underlying37 rfl pa_size_r) rfl ?_
    exact ⟨pA, pn, pc, F, rfl, E.out.1, E.out.2.1, E.out.2.2.2.keep PP.out.2 nR.out, H.out.keep PP.out.2 (fun z hz hm => HRF.out z hz (by simpa using hm)) nR.out, FB.out.trans PP.out.2 (fun z hz => .inr (by rw [List.mem_singleton] at hz; subst hz; exact Nat.le_of_eq HR.out)), fun _ h => .inl h⟩
  · have hi' : hasB i l = false := by simpa using hi
    have ha : atP i l = zeroP := by unfold atP; rw [if_neg hi]
    rw [hi'] at CH ⊢
    rw [ha]
    clear hi hi' ha h
    have hR := HR.out
    have y0 : w1.cell? ⟨R, 0, none⟩ = some (.int .i64 0) := YR.out.cell 0
    have y1 : w1.cell? ⟨R, 1, none⟩ = some (.slice none 0 0) := YR.out.cell 1
    have z0 := YR.out.frozen 0; have z1 := YR.out.frozen 1
    have PP := Kept.mk (put2 YR.out (.int .i64 0) (.slice none 0 0))
    have nR : Kept (Nb w1 [R]) := ⟨fun z hz => by rw [List.mem_singleton] at hz; subst hz; exact ⟨_, _, _, YR.out, by decide⟩⟩
    go_enter Try.func21, Try.ntmps21
    go_upto_region 1 with (fail)
    clear hw1
    go_wp2_with fail
    refine CH.out.mono ?_
    rintro e w2 ⟨rfl, rfl⟩
    clear CH
    go_wp2
    refine bodyPost_ret (Sha.results_cell_tmp rfl _ _ R 37 #[.int .i64 0, .slice none 0 0] (0, 0) _ rfl PP.out.1 Try.underlying37 rfl pa_size_r) rfl ?_
    exact ⟨none, 0, 0, F, rfl, Nat.le_refl _, by omega, Rb.nil, H.out.keep PP.out.2 (fun z hz hm => HRF.out z hz (by simpa using hm)) nR.out, FB.out.trans PP.out.2 (fun z hz => .inr (by rw [List.mem_singleton] at hz; subst hz; exact Nat.le_of_eq HR.out)), fun _ h => .inl h⟩
end Go.Proofs.Ytjnpcfpalckkdaa.Post
