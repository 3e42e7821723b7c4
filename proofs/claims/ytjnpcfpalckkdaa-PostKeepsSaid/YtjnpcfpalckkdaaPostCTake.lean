/-
  Package post: Take.
-/
import Derived.Test.YtjnpcfpalckkdaaPostCAt
import Derived.Test.YtjnpcfpalckkdaaPostCDrop
namespace Go.Proofs.Ytjnpcfpalckkdaa.Post
open Go.RowKit Go.Proofs.Ytjnpcfpalckkdaa.Sha

set_option maxRecDepth 100000 in
set_option maxHeartbeats 1000000 in
theorem ctake_any {N x : Nat} {F : List Nat} {w : World} {m : Int} {l : List PV} (i : Int) (h : Ps 52 F N w x m l) : Calls Try.prog 13 #[.pointer (some ⟨x, 0, none⟩), .int .i64 i] w (ParP 52 F N x m (atP i l) (hasB i l) (delP i l) w) := by
  obtain ⟨w1, hw1⟩ : ∃ z, w.alloc (.cells #[.int .i64 0, .slice none 0 0] 37) = z := ⟨_, rfl⟩
  obtain ⟨R, hR⟩ : ∃ z, w.heap.size = z := ⟨_, rfl⟩
  have bb : Below w.heap.size w w1 := hw1 ▸ (Below.refl _ _).alloc (Nat.le_refl _) _
  have YR : Kept (Blk w1 R 37 #[.int .i64 0, .slice none 0 0]) := ⟨hw1 ▸ Blk.new_at w _ _ _ hR.symm⟩
  have H := Kept.mk (h.below bb)
  have CA := Kept.mk (cat_any i H.out)
  have FB : Kept (Bar F w w1) := ⟨barOf bb _⟩
  have HRF : Kept (∀ k ∈ F, k ≠ R) := ⟨fun k hk => by have := (h.lt k hk).2; omega⟩
  have HR := Kept.mk hR
  obtain ⟨p, hp⟩ : ∃ z, atP i l = z := ⟨_, rfl⟩
  obtain ⟨t, ht⟩ : ∃ z, hasB i l = z := ⟨_, rfl⟩
  obtain ⟨l2, hl⟩ : ∃ z, delP i l = z := ⟨_, rfl⟩
  rw [hp, ht] at CA
  rw [hp, ht, hl]
  have HT := Kept.mk ht; have HL := Kept.mk hl
  unfold ParP at CA
  obtain ⟨to, b⟩ := p
  clear bb hp ht hl h
  go_enter Try.func13, Try.ntmps13
  go_upto_region 1 with (fail)
  clear hw1 hR
  go_wp2_with fail
  refine CA.out.mono ?_
  rintro e w2 ⟨A, n, c, F', rfl, h1, h2, rb, hp, hf⟩
  obtain ⟨M, hM⟩ : ∃ z, w2.heap.size = z := ⟨_, rfl⟩
  have bb : Below w2.heap.size w2 (w2.alloc (.cells #[.int .i64 to, .slice A n c] 37)) := (Below.refl _ _).alloc (Nat.le_refl _) _
  have hRl := YR.out.lt
  have hs2 := hf.1.size
  have RF : Kept (R ∉ F') := ⟨fun hm => by
    rcases hf.2 R hm with e | e
    · exact HRF.out R e rfl
    · omega⟩
  have MF : Kept (M ∉ F') := ⟨fun hm => by have := (hp.lt M hm).2; omega⟩
  replace YR := Kept.mk ((YR.out.bar hf.1 (fun hm => HRF.out R hm rfl)).below bb (by omega))
  have YM := Kept.mk (Blk.new_at w2 37 #[.int .i64 to, .slice A n c] M hM.symm)
  have RB := Kept.mk (show _ ∧ _ ∧ _ from ⟨h1, h2, rb.below bb⟩)
  have FP : Kept (Fp F F' w (w2.alloc (.cells #[.int .i64 to, .slice A n c] 37))) := ⟨(FB.out.trans hf.1 (fun _ h => .inl h)).trans (barOf bb []) (by simp), fun z hz => (hf.2 z hz).imp id (fun h => by have := FB.out.size; omega)⟩
  replace H := Kept.mk (hp.below bb)
  have HM : Kept (M ≠ R ∧ w.heap.size ≤ M) := ⟨by have := FB.out.size; omega, by have := FB.out.size; omega⟩
  clear bb hf hp rb h1 h2 hRl hs2 FB CA HRF
  go_upto_region 2 with (fail)
  clear hM
  generalize w2.alloc (.cells #[.int .i64 to, .slice A n c] 37) = w3 at *
  have CD := Kept.mk (cdrop_any i H.out)
  rw [HT.out, HL.out] at CD
  unfold NumP at CD
  go_wp2_with fail
  refine CD.out.mono ?_
  rintro e w4 ⟨F2, rfl, hp, hf⟩
  have nF := H.out.nb (by decide)
  have hRl := YR.out.lt
  replace YR := Kept.mk (YR.out.bar hf.1 RF.out)
  replace YM := Kept.mk (YM.out.bar hf.1 MF.out)
  replace RB := Kept.mk (show _ ∧ _ ∧ _ from ⟨RB.out.1, RB.out.2.1, RB.out.2.2.keep hf.1 nF⟩)
  have RF2 : Kept (R ∉ F2) := ⟨fun hm => by
    rcases hf.2 R hm with e | e
    · exact RF.out e
    · omega⟩
  replace FP := Kept.mk (Fp.trans FP.out hf)
  replace H := Kept.mk hp
  clear hf hp CD nF hRl RF MF
  have m0 : w4.cell? ⟨M, 0, none⟩ = some (.int .i64 to) := YM.out.cell 0
  have m1 : w4.cell? ⟨M, 1, none⟩ = some (.slice A n c) := YM.out.cell 1
  have y0 : w4.cell? ⟨R, 0, none⟩ = some (.int .i64 0) := YR.out.cell 0
  have y1 : w4.cell? ⟨R, 1, none⟩ = some (.slice none 0 0) := YR.out.cell 1
  have z0 := YR.out.frozen 0; have z1 := YR.out.frozen 1
  have PP := Kept.mk (put2 YR.out (.int .i64 to) (.slice A n c))
  have nR : Kept (Nb w4 [R]) := ⟨fun z hz => by rw [List.mem_singleton] at hz; subst hz; exact ⟨_, _, _, YR.out, by decide⟩⟩
  go_wp2
  refine bodyPost_ret (Sha.results_cell_tmp rfl _ _ R 37 #[.int .i64 to, .slice A n c] (0, 0) _ rfl PP.out.1 Try.underlying37 rfl pa_size) rfl ?_
  exact ⟨A, n, c, F2, rfl, RB.out.1, RB.out.2.1, RB.out.2.2.keep PP.out.2 nR.out, H.out.keep PP.out.2 (fun z hz hm => RF2.out (by rw [List.mem_singleton] at hm; exact hm ▸ hz)) nR.out, FP.out.1.trans PP.out.2 (fun z hz => .inr (by rw [List.mem_singleton] at hz; subst hz; exact Nat.le_of_eq HR.out)), FP.out.2⟩
end Go.Proofs.Ytjnpcfpalckkdaa.Post
