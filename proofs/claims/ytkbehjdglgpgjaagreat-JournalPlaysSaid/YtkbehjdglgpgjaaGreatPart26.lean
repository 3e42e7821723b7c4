/-
  Parts laid together: JournalRHead JournalROpen.
-/
import Derived.Test.YtkbehjdglgpgjaaGreatPart21
import Derived.Test.YtkbehjdglgpgjaaGreatPart25
import Derived.StillTailTactics

namespace Go.Proofs.YtkbehjdglgpgjaaGreat.Journal
open Go.RowKit Go.Proofs.YtkbehjdglgpgjaaGreat.Sha Go.Proofs.YtkbehjdglgpgjaaGreat.Disk Go.Proofs.YtkbehjdglgpgjaaGreat.Frame

def picB (g : FV × Int × Int) : Bool := decide (g.2.2 = 0 ∧ g.1.kind = 1 ∧ g.1.seq = 0)
def RHeadJPost (g : FV × Int × Int) (w : World) (e : Ending) (w' : World) : Prop := ∃ A n c, e = .returned (.tuple #[.agg #[.int .i64 g.1.kind, .int .i64 g.1.gen, .int .i64 g.1.seq, .slice A n c], .int .i64 g.2.1, .bool (picB g)]) ∧ n ≤ c ∧ c ≤ maxLen ∧ Rd w' A n g.1.body ∧ Below w.heap.size w w' ∧ ∀ F : List Nat, (∀ k ∈ F, k < w.heap.size) → Off A n F
set_option maxRecDepth 100000 in
set_option maxHeartbeats 1000000 in
theorem rhead_anyJ {w : World} {F : List Nat} {x y n : Nat} {s : DS} (h : Dr w F y n s) (hd : s.down = false) (hx : w.cell? ⟨x, 0, none⟩ = some (.pointer (some ⟨y, 0, none⟩))) (half : Nat) (hh : half ≤ 1) :
    Calls Tryz.prog 32 #[.pointer (some ⟨x, 0, none⟩), .int .i64 (half : Nat)] w (RHeadJPost (getF (textJ s half 0)) w) := by
  obtain ⟨N, hN⟩ : ∃ N, w.heap.size = N := ⟨_, rfl⟩
  have b1 : Below N w (w.alloc (.cells #[.int .i64 0, .int .i64 0, .int .i64 0, .slice none 0 0] 90)) := (Below.refl _ _).alloc (by omega) _
  have F1 : Blk (w.alloc (.cells #[.int .i64 0, .int .i64 0, .int .i64 0, .slice none 0 0] 90)) N 90 #[.int .i64 0, .int .i64 0, .int .i64 0, .slice none 0 0] := Blk.new_at _ _ _ _ hN.symm
  have hs1 : (w.alloc (.cells #[.int .i64 0, .int .i64 0, .int .i64 0, .slice none 0 0] 90)).heap.size = N + 1 := by simp [hN]
  have ct := Kept.mk (rtext_any2 (h.below (hN.symm ▸ b1)) hd (by rw [← hx]; exact World.cell?_of_block (b1.block x (by rw [← hN]; exact World.block_lt_of_cell? _ _ hx))) half 0 hh (by omega))
  rw [show ((0 : Nat) : Int) = 0 from rfl] at ct
  have HB1 := Kept.mk b1; have HF1 := Kept.mk F1
  have HTB : Kept (Bytes (textJ s half 0) ∧ (textJ s half 0).length ≤ 1000000) := ⟨by
    have hwf := h.1
    have hhn := wf_hn hwf
    have hn8 := hwf.n2
    refine ⟨?_, ?_⟩
    · rw [← textM_all]
      unfold textM
      have : ∀ k, k ≤ hn s - 0 → Bytes (cat (fun i => rowOf s.now (half * hn s + 0 + i)) k) := fun k => by
        induction k with
        | zero => intro _ z hz; simp [cat] at hz
        | succ k ih =>
          intro hk
          refine (ih (by omega)).append ?_
          have : half * hn s ≤ hn s := by rcases (show half = 0 ∨ half = 1 by omega) with e | e <;> subst e <;> omega
          exact ((hwf.secs _ (by omega)).1).2
      exact this _ (Nat.le_refl _)
    · rw [← textM_all, textM_len hwf hh (by omega)]; omega⟩
  obtain ⟨b, hb⟩ : ∃ b, textJ s half 0 = b := ⟨_, rfl⟩
  rw [hb] at ct HTB ⊢
  clear h hx hb b1 F1
  go_enter Tryz.func32, Tryz.ntmps32
  go_wp2_with fail
  refine ct.out.mono ?_
  clear ct
  generalize w.alloc (.cells #[.int .i64 0, .int .i64 0, .int .i64 0, .slice none 0 0] 90) = w1 at *
  rintro e w2 ⟨A2, c2, rfl, o2, b2⟩
  rw [hs1] at o2 b2
  obtain ⟨A2', c2', ee, k1, k2, r2⟩ := own_rd o2 HTB.out.1
  injection ee with e1 e2 e3
  subst e1 e3
  have B2 := Kept.mk (HB1.out.trans (b2.mono (by omega)))
  have F2 := Kept.mk (HF1.out.below b2 (by omega))
  have hs2 : N + 1 ≤ w2.heap.size := by rw [← hs1]; exact b2.size
  have cg := Kept.mk (rget_new A2 b.length c2 b w2 r2 k1 k2)
  clear o2 b2 r2 HB1 HF1 hs1
  generalize getF b = g at *
  obtain ⟨⟨fk, fg, fs, fb⟩, gk, ge⟩ := g
  go_wp2_with fail
  refine cg.out.mono ?_
  clear cg
  rintro e w3 ⟨A3, n3, c3, rfl, hc3, hm3, r3, b3, o3⟩
  simp only at r3 ⊢
  have B3 := Kept.mk (B2.out.trans (b3.mono (by omega)))
  have F3 := Kept.mk (F2.out.below b3 (by omega))
  have hs3 : N + 1 ≤ w3.heap.size := by have := b3.size; omega
  have O3 : Kept (∀ F : List Nat, (∀ k ∈ F, k ≤ N) → Off A3 n3 F) := ⟨fun F hF => o3 F (fun k hk => by have := hF k hk; omega)⟩
  have R3 := Kept.mk r3
  clear r3 b3 o3 F2 B2
  obtain ⟨T, hT⟩ : ∃ T, w3.heap.size = T := ⟨_, rfl⟩
  rw [hT] at hs3
  have TF := Blk.new_at w3 90 #[.int .i64 fk, .int .i64 fg, .int .i64 fs, .slice A3 n3 c3] T hT.symm
  have bT : Below w3.heap.size w3 (w3.alloc (.cells #[.int .i64 fk, .int .i64 fg, .int .i64 fs, .slice A3 n3 c3] 90)) := (Below.refl _ _).alloc (Nat.le_refl _) _
  have TF4 := Kept.mk TF.drew
  have F4 := Kept.mk (F3.out.below bT (by omega)).drew
  have R4 := Kept.mk (R3.out.below bT).drew
  have B4 := Kept.mk (B3.out.trans (bT.mono (by omega))).drew
  clear TF bT F3 R3 B3
  go_upto_region 2 with (fail)
  generalize hw : (w3.alloc (.cells #[.int .i64 fk, .int .i64 fg, .int .i64 fs, .slice A3 n3 c3] 90)) = w4 at *
  obtain ⟨w5, h5⟩ : ∃ w5, w4.drew = w5 := ⟨_, rfl⟩
  rw [h5] at TF4 F4 R4 B4
  have f0 := TF4.out.cell 0; have f1 := TF4.out.cell 1; have f2 := TF4.out.cell 2; have f3 := TF4.out.cell 3
  have g0 := F4.out.cell 0; have g1 := F4.out.cell 1; have g2 := F4.out.cell 2; have g3 := F4.out.cell 3
  have z0 := F4.out.frozen 0; have z1 := F4.out.frozen 1; have z2 := F4.out.frozen 2; have z3 := F4.out.frozen 3
  have HO : Kept (RHeadJPost (⟨fk, fg, fs, fb⟩, gk, ge) w (.returned (.tuple #[.agg #[.int .i64 fk, .int .i64 fg, .int .i64 fs, .slice A3 n3 c3], .int .i64 gk, .bool (decide (ge = 0 ∧ fk = 1 ∧ fs = 0))])) (((((w5.setCell ⟨N, 0, none⟩ (.int .i64 fk)).setCell ⟨N, 1, none⟩ (.int .i64 fg)).setCell ⟨N, 2, none⟩ (.int .i64 fs)).setCell ⟨N, 3, none⟩ (.slice A3 n3 c3)))) :=
    ⟨A3, n3, c3, rfl, hc3, hm3, R4.out.far (put4 F4.out _ _ _ _).2 (O3.out _ (by intro k hk; rw [List.mem_singleton] at hk; omega)), by rw [hN]; exact B4.out.trans ((put4 F4.out _ _ _ _).2.below (by have := B4.out.size; omega) (fun k hk => by rw [List.mem_singleton] at hk; omega)), fun F hF => O3.out F (fun k hk => by have := hF k hk; omega)⟩
  have P4 := Kept.mk (put4 F4.out (.int .i64 fk) (.int .i64 fg) (.int .i64 fs) (.slice A3 n3 c3)).1
  have PB := Kept.mk (put4 F4.out (.int .i64 fk) (.int .i64 fg) (.int .i64 fs) (.slice A3 n3 c3)).2
  have hT5 : T < w5.heap.size := TF4.out.lt
  clear TF4 F4 R4 B4 O3
  have hNT : N < T := by omega
  have eT : ∀ i, i < 4 → ((((w5.setCell ⟨N, 0, none⟩ (.int .i64 fk)).setCell ⟨N, 1, none⟩ (.int .i64 fg)).setCell ⟨N, 2, none⟩ (.int .i64 fs)).setCell ⟨N, 3, none⟩ (.slice A3 n3 c3)).cell? ⟨T, i, none⟩ = w5.cell? ⟨T, i, none⟩ := fun i _ => World.cell?_of_block ((PB.out.block T hT5 (by rw [List.mem_singleton]; omega)))
  have e0 := (eT 0 (by omega)).trans f0; have e1 := (eT 1 (by omega)).trans f1; have e2 := (eT 2 (by omega)).trans f2; have e3 := (eT 3 (by omega)).trans f3
  clear eT PB
  by_cases h1 : ge = 0
  · subst h1
    by_cases h2 : fk = 1
    · subst h2
      by_cases h3 : fs = 0
      · subst h3
        rw [show decide ((0 : Int) = 0 ∧ (1 : Int) = 1 ∧ (0 : Int) = 0) = true from rfl] at HO
        refine wp_region_noPanic ?_
        refine wp_region_held_drew (S := fun w' : World => w'.cell? ⟨T, 0, none⟩ = some (.int .i64 1) ∧ w'.cell? ⟨T, 1, none⟩ = some (.int .i64 fg) ∧ w'.cell? ⟨T, 2, none⟩ = some (.int .i64 0) ∧ w'.cell? ⟨T, 3, none⟩ = some (.slice A3 n3 c3)) (by kernel_rfl) (by rw [h5]; exact ⟨f0, f1, f2, f3⟩) (fun hS0 => ?_)
        rw [h5] at hS0 ⊢
        refine wpAnyH_take (i := 0) (oi := ?o59) (v := ?v59) ?hi59 (by kernel_rfl) (by kernel_rfl) (by kernel_rfl) ?hq59 (Or.inl ⟨?hw59, ?hy59⟩) (by assumption) ?r59
        case hi59 => (simp only [List.getElem?_toArray, List.getElem?_cons_zero]; exact rfl)
        case hq59 => exact fun _ _ _ h => h
        case hw59 => rfl
        case hy59 => (intro w hSw; (try dsimp only at hSw); go_simp; try exact rfl)
        simp only [Act.put, List.setIfInBounds_toArray, List.set_cons_zero, List.set_cons_succ]
        refine wpAnyH_take (i := 1) (oi := ?o60) (v := ?v60) ?hi60 (by kernel_rfl) (by kernel_rfl) (by kernel_rfl) ?hq60 (Or.inl ⟨?hw60, ?hy60⟩) (by assumption) ?r60
        case hi60 => (simp only [List.getElem?_toArray, List.getElem?_cons_succ, List.getElem?_cons_zero]; exact rfl)
        case hq60 => exact fun _ _ _ h => h
        case hw60 => rfl
        case hy60 => (intro w hSw; (try dsimp only at hSw); go_simp; try exact rfl)
        simp only [Act.put, List.setIfInBounds_toArray, List.set_cons_zero, List.set_cons_succ]
        refine wpAnyH_take (i := 2) (oi := ?o61) (v := ?v61) ?hi61 (by kernel_rfl) (by kernel_rfl) (by kernel_rfl) ?hq61 (Or.inl ⟨?hw61, ?hy61⟩) (by assumption) ?r61
        case hi61 => (simp only [List.getElem?_toArray, List.getElem?_cons_succ, List.getElem?_cons_zero]; exact rfl)
        case hq61 => exact fun _ _ _ h => h
        case hw61 => rfl
        case hy61 => (intro w hSw; (try dsimp only at hSw); go_simp; try exact rfl)
        simp only [Act.put, List.setIfInBounds_toArray, List.set_cons_zero, List.set_cons_succ]
        refine wpAnyH_take (i := 3) (oi := ?o62) (v := ?v62) ?hi62 (by kernel_rfl) (by kernel_rfl) (by kernel_rfl) ?hq62 (Or.inl ⟨?hw62, ?hy62⟩) (by assumption) ?r62
        case hi62 => (simp only [List.getElem?_toArray, List.getElem?_cons_succ, List.getElem?_cons_zero]; exact rfl)
        case hq62 => exact fun _ _ _ h => h
        case hw62 => rfl
        case hy62 => (intro w hSw; (try dsimp only at hSw); go_simp; try exact rfl)
        simp only [Act.put, List.setIfInBounds_toArray, List.set_cons_zero, List.set_cons_succ]
        refine wpAnyH_take (i := 4) (oi := ?o63) (v := ?v63) ?hi63 (by kernel_rfl) (by kernel_rfl) (by kernel_rfl) ?hq63 (Or.inl ⟨?hw63, ?hy63⟩) (by assumption) ?r63
        case hi63 => (simp only [List.getElem?_toArray, List.getElem?_cons_succ, List.getElem?_cons_zero]; exact rfl)
        case hq63 => exact fun _ _ _ h => h
        case hw63 => rfl
        case hy63 => (intro w hSw; (try dsimp only at hSw); go_simp; try exact rfl)
        simp only [Act.put, List.setIfInBounds_toArray, List.set_cons_zero, List.set_cons_succ]
        refine wpAnyH_take (i := 5) (oi := ?o64) (v := ?v64) ?hi64 (by kernel_rfl) (by kernel_rfl) (by kernel_rfl) ?hq64 (Or.inl ⟨?hw64, ?hy64⟩) (by assumption) ?r64
        case hi64 => (simp only [List.getElem?_toArray, List.getElem?_cons_succ, List.getElem?_cons_zero]; exact rfl)
        case hq64 => exact fun _ _ _ h => h
        case hw64 => rfl
        case hy64 => (intro w hSw; (try dsimp only at hSw); go_simp; try exact rfl)
        simp only [Act.put, List.setIfInBounds_toArray, List.set_cons_zero, List.set_cons_succ]
        refine wpAnyH_take (i := 6) (oi := ?o65) (v := ?v65) ?hi65 (by kernel_rfl) (by kernel_rfl) (by kernel_rfl) ?hq65 (Or.inl ⟨?hw65, ?hy65⟩) (by assumption) ?r65
        case hi65 => (simp only [List.getElem?_toArray, List.getElem?_cons_succ, List.getElem?_cons_zero]; exact rfl)
        case hq65 => exact fun _ _ _ h => h
        case hw65 => rfl
        case hy65 => (intro w hSw; (try dsimp only at hSw); go_simp; try exact rfl)
        simp only [Act.put, List.setIfInBounds_toArray, List.set_cons_zero, List.set_cons_succ]
        refine wpAnyH_take (i := 7) (oi := ?o66) (v := ?v66) ?hi66 (by kernel_rfl) (by kernel_rfl) (by kernel_rfl) ?hq66 (Or.inl ⟨?hw66, ?hy66⟩) (by assumption) ?r66
        case hi66 => (simp only [List.getElem?_toArray, List.getElem?_cons_succ, List.getElem?_cons_zero]; exact rfl)
        case hq66 => exact fun _ _ _ h => h
        case hw66 => rfl
        case hy66 => (intro w hSw; (try dsimp only at hSw); go_simp; try exact rfl)
        simp only [Act.put, List.setIfInBounds_toArray, List.set_cons_zero, List.set_cons_succ]
        refine wpAnyH_take (i := 8) (oi := ?o67) (v := ?v67) ?hi67 (by kernel_rfl) (by kernel_rfl) (by kernel_rfl) ?hq67 (Or.inl ⟨?hw67, ?hy67⟩) (by assumption) ?r67
        case hi67 => (simp only [List.getElem?_toArray, List.getElem?_cons_succ, List.getElem?_cons_zero]; exact rfl)
        case hq67 => exact fun _ _ _ h => h
        case hw67 => rfl
        case hy67 => (intro w hSw; (try dsimp only at hSw); go_simp; try exact rfl)
        simp only [Act.put, List.setIfInBounds_toArray, List.set_cons_zero, List.set_cons_succ]
        refine wpAnyH_take (i := 9) (oi := ?o68) (v := ?v68) ?hi68 (by kernel_rfl) (by kernel_rfl) (by kernel_rfl) ?hq68 (Or.inl ⟨?hw68, ?hy68⟩) (by assumption) ?r68
        case hi68 => (simp only [List.getElem?_toArray, List.getElem?_cons_succ, List.getElem?_cons_zero]; exact rfl)
        case hq68 => exact fun _ _ _ h => h
        case hw68 => rfl
        case hy68 => (intro w hSw; (try dsimp only at hSw); go_simp; try exact rfl)
        simp only [Act.put, List.setIfInBounds_toArray, List.set_cons_zero, List.set_cons_succ]
        refine wpAnyH_take (i := 10) (oi := ?o69) (v := ?v69) ?hi69 (by kernel_rfl) (by kernel_rfl) (by kernel_rfl) ?hq69 (Or.inl ⟨?hw69, ?hy69⟩) (by assumption) ?r69
        case hi69 => (simp only [List.getElem?_toArray, List.getElem?_cons_succ, List.getElem?_cons_zero]; exact rfl)
        case hq69 => exact fun _ _ _ h => h
        case hw69 => rfl
        case hy69 => (intro w hSw; (try dsimp only at hSw); go_simp; try exact rfl)
        simp only [Act.put, List.setIfInBounds_toArray, List.set_cons_zero, List.set_cons_succ]
        refine wpAnyH_take (i := 11) (oi := ?o70) (v := ?v70) ?hi70 (by kernel_rfl) (by kernel_rfl) (by kernel_rfl) ?hq70 (Or.inl ⟨?hw70, ?hy70⟩) (by assumption) ?r70
        case hi70 => (simp only [List.getElem?_toArray, List.getElem?_cons_succ, List.getElem?_cons_zero]; exact rfl)
        case hq70 => exact fun _ _ _ h => h
        case hw70 => rfl
        case hy70 => (intro w hSw; (try dsimp only at hSw); go_simp; try exact rfl)
        simp only [Act.put, List.setIfInBounds_toArray, List.set_cons_zero, List.set_cons_succ]
        refine wpAnyH_take (i := 12) (oi := ?o71) (v := ?v71) ?hi71 (by kernel_rfl) (by kernel_rfl) (by kernel_rfl) ?hq71 (Or.inl ⟨?hw71, ?hy71⟩) (by assumption) ?r71
        case hi71 => (simp only [List.getElem?_toArray, List.getElem?_cons_succ, List.getElem?_cons_zero]; exact rfl)
        case hq71 => exact fun _ _ _ h => h
        case hw71 => rfl
        case hy71 => (intro w hSw; (try dsimp only at hSw); go_simp; try exact rfl)
        simp only [Act.put, List.setIfInBounds_toArray, List.set_cons_zero, List.set_cons_succ]
        refine wpAnyH_take (i := 13) (oi := ?o72) (v := ?v72) ?hi72 (by kernel_rfl) (by kernel_rfl) (by kernel_rfl) ?hq72 (Or.inl ⟨?hw72, ?hy72⟩) (by assumption) ?r72
        case hi72 => (simp only [List.getElem?_toArray, List.getElem?_cons_succ, List.getElem?_cons_zero]; exact rfl)
        case hq72 => exact fun _ _ _ h => h
        case hw72 => rfl
        case hy72 => (intro w hSw; (try dsimp only at hSw); go_simp; try exact rfl)
        simp only [Act.put, List.setIfInBounds_toArray, List.set_cons_zero, List.set_cons_succ]
        refine wpAnyH_ready (rs := [14]) (by kernel_rfl) (by simp) ?_
        refine AllReadyH.cons (o := ?o123) ?hi123 (fun K hK => ?_) AllReadyH.nil
        case hi123 => (simp only [List.getElem?_toArray, List.getElem?_cons_succ, List.getElem?_cons_zero]; exact rfl)
        go_simp
        refine hK.out _ _ ⟨e0, e1, e2, e3⟩ (fun _ => ?_)
        clear hK K
        try simp only [Act.put, List.setIfInBounds_toArray, List.set_cons_zero, List.set_cons_succ]
        refine wpAnyH_take (i := 15) (oi := ?o73) (v := ?v73) ?hi73 (by kernel_rfl) (by kernel_rfl) (by kernel_rfl) ?hq73 (Or.inl ⟨?hw73, ?hy73⟩) (by assumption) ?r73
        case hi73 => (simp only [List.getElem?_toArray, List.getElem?_cons_succ, List.getElem?_cons_zero]; exact rfl)
        case hq73 => exact fun _ _ _ h => h
        case hw73 => rfl
        case hy73 => (intro w hSw; (try dsimp only at hSw); go_simp; try exact rfl)
        simp only [Act.put, List.setIfInBounds_toArray, List.set_cons_zero, List.set_cons_succ]
        refine wpAnyH_take (i := 16) (oi := ?o74) (v := ?v74) ?hi74 (by kernel_rfl) (by kernel_rfl) (by kernel_rfl) ?hq74 (Or.inl ⟨?hw74, ?hy74⟩) (by assumption) ?r74
        case hi74 => (simp only [List.getElem?_toArray, List.getElem?_cons_succ, List.getElem?_cons_zero]; exact rfl)
        case hq74 => exact fun _ _ _ h => h
        case hw74 => rfl
        case hy74 => (intro w hSw; (try dsimp only at hSw); go_simp; try exact rfl)
        simp only [Act.put, List.setIfInBounds_toArray, List.set_cons_zero, List.set_cons_succ]
        refine wpAnyH_done (by kernel_rfl) ?_ _
        refine NoPanic.normal ?_
        go_wp2
        (try simp only [Exit.inBlock, Exit.then])
        refine bodyPost_ret (results_cell_two rfl _ _ N 90 #[.int .i64 1, .int .i64 fg, .int .i64 0, .slice A3 n3 c3] (0, 0) _ rfl P4.out Tryz.underlying90 rfl frame_size) rfl ?_
        exact HO.out
      · have h3d : (fs == 0) = false := by simpa using h3
        rw [show decide ((0 : Int) = 0 ∧ (1 : Int) = 1 ∧ fs = 0) = false by simp [h3]] at HO
        refine wp_region_noPanic ?_
        refine wp_region_held_drew (S := fun w' : World => w'.cell? ⟨T, 0, none⟩ = some (.int .i64 1) ∧ w'.cell? ⟨T, 1, none⟩ = some (.int .i64 fg) ∧ w'.cell? ⟨T, 2, none⟩ = some (.int .i64 fs) ∧ w'.cell? ⟨T, 3, none⟩ = some (.slice A3 n3 c3)) (by kernel_rfl) (by rw [h5]; exact ⟨f0, f1, f2, f3⟩) (fun hS0 => ?_)
        rw [h5] at hS0 ⊢
        refine wpAnyH_take (i := 0) (oi := ?o75) (v := ?v75) ?hi75 (by kernel_rfl) (by kernel_rfl) (by kernel_rfl) ?hq75 (Or.inl ⟨?hw75, ?hy75⟩) (by assumption) ?r75
        case hi75 => (simp only [List.getElem?_toArray, List.getElem?_cons_zero]; exact rfl)
        case hq75 => exact fun _ _ _ h => h
        case hw75 => rfl
        case hy75 => (intro w hSw; (try dsimp only at hSw); go_simp; try exact rfl)
        simp only [Act.put, List.setIfInBounds_toArray, List.set_cons_zero, List.set_cons_succ]
        refine wpAnyH_take (i := 1) (oi := ?o76) (v := ?v76) ?hi76 (by kernel_rfl) (by kernel_rfl) (by kernel_rfl) ?hq76 (Or.inl ⟨?hw76, ?hy76⟩) (by assumption) ?r76
        case hi76 => (simp only [List.getElem?_toArray, List.getElem?_cons_succ, List.getElem?_cons_zero]; exact rfl)
        case hq76 => exact fun _ _ _ h => h
        case hw76 => rfl
        case hy76 => (intro w hSw; (try dsimp only at hSw); go_simp; try exact rfl)
        simp only [Act.put, List.setIfInBounds_toArray, List.set_cons_zero, List.set_cons_succ]
        refine wpAnyH_take (i := 2) (oi := ?o77) (v := ?v77) ?hi77 (by kernel_rfl) (by kernel_rfl) (by kernel_rfl) ?hq77 (Or.inl ⟨?hw77, ?hy77⟩) (by assumption) ?r77
        case hi77 => (simp only [List.getElem?_toArray, List.getElem?_cons_succ, List.getElem?_cons_zero]; exact rfl)
        case hq77 => exact fun _ _ _ h => h
        case hw77 => rfl
        case hy77 => (intro w hSw; (try dsimp only at hSw); go_simp; try exact rfl)
        simp only [Act.put, List.setIfInBounds_toArray, List.set_cons_zero, List.set_cons_succ]
        refine wpAnyH_take (i := 3) (oi := ?o78) (v := ?v78) ?hi78 (by kernel_rfl) (by kernel_rfl) (by kernel_rfl) ?hq78 (Or.inl ⟨?hw78, ?hy78⟩) (by assumption) ?r78
        case hi78 => (simp only [List.getElem?_toArray, List.getElem?_cons_succ, List.getElem?_cons_zero]; exact rfl)
        case hq78 => exact fun _ _ _ h => h
        case hw78 => rfl
        case hy78 => (intro w hSw; (try dsimp only at hSw); go_simp; try exact rfl)
        simp only [Act.put, List.setIfInBounds_toArray, List.set_cons_zero, List.set_cons_succ]
        refine wpAnyH_take (i := 4) (oi := ?o79) (v := ?v79) ?hi79 (by kernel_rfl) (by kernel_rfl) (by kernel_rfl) ?hq79 (Or.inl ⟨?hw79, ?hy79⟩) (by assumption) ?r79
        case hi79 => (simp only [List.getElem?_toArray, List.getElem?_cons_succ, List.getElem?_cons_zero]; exact rfl)
        case hq79 => exact fun _ _ _ h => h
        case hw79 => rfl
        case hy79 => (intro w hSw; (try dsimp only at hSw); go_simp; try exact rfl)
        simp only [Act.put, List.setIfInBounds_toArray, List.set_cons_zero, List.set_cons_succ]
        refine wpAnyH_take (i := 5) (oi := ?o80) (v := ?v80) ?hi80 (by kernel_rfl) (by kernel_rfl) (by kernel_rfl) ?hq80 (Or.inl ⟨?hw80, ?hy80⟩) (by assumption) ?r80
        case hi80 => (simp only [List.getElem?_toArray, List.getElem?_cons_succ, List.getElem?_cons_zero]; exact rfl)
        case hq80 => exact fun _ _ _ h => h
        case hw80 => rfl
        case hy80 => (intro w hSw; (try dsimp only at hSw); go_simp; try exact rfl)
        simp only [Act.put, List.setIfInBounds_toArray, List.set_cons_zero, List.set_cons_succ]
        refine wpAnyH_take (i := 6) (oi := ?o81) (v := ?v81) ?hi81 (by kernel_rfl) (by kernel_rfl) (by kernel_rfl) ?hq81 (Or.inl ⟨?hw81, ?hy81⟩) (by assumption) ?r81
        case hi81 => (simp only [List.getElem?_toArray, List.getElem?_cons_succ, List.getElem?_cons_zero]; exact rfl)
        case hq81 => exact fun _ _ _ h => h
        case hw81 => rfl
        case hy81 => (intro w hSw; (try dsimp only at hSw); go_simp; try exact rfl)
        simp only [Act.put, List.setIfInBounds_toArray, List.set_cons_zero, List.set_cons_succ]
        refine wpAnyH_take (i := 7) (oi := ?o82) (v := ?v82) ?hi82 (by kernel_rfl) (by kernel_rfl) (by kernel_rfl) ?hq82 (Or.inl ⟨?hw82, ?hy82⟩) (by assumption) ?r82
        case hi82 => (simp only [List.getElem?_toArray, List.getElem?_cons_succ, List.getElem?_cons_zero]; exact rfl)
        case hq82 => exact fun _ _ _ h => h
        case hw82 => rfl
        case hy82 => (intro w hSw; (try dsimp only at hSw); go_simp; try exact rfl)
        simp only [Act.put, List.setIfInBounds_toArray, List.set_cons_zero, List.set_cons_succ]
        refine wpAnyH_take (i := 8) (oi := ?o83) (v := ?v83) ?hi83 (by kernel_rfl) (by kernel_rfl) (by kernel_rfl) ?hq83 (Or.inl ⟨?hw83, ?hy83⟩) (by assumption) ?r83
        case hi83 => (simp only [List.getElem?_toArray, List.getElem?_cons_succ, List.getElem?_cons_zero]; exact rfl)
        case hq83 => exact fun _ _ _ h => h
        case hw83 => rfl
        case hy83 => (intro w hSw; (try dsimp only at hSw); go_simp; try exact rfl)
        simp only [Act.put, List.setIfInBounds_toArray, List.set_cons_zero, List.set_cons_succ]
        refine wpAnyH_take (i := 9) (oi := ?o84) (v := ?v84) ?hi84 (by kernel_rfl) (by kernel_rfl) (by kernel_rfl) ?hq84 (Or.inl ⟨?hw84, ?hy84⟩) (by assumption) ?r84
        case hi84 => (simp only [List.getElem?_toArray, List.getElem?_cons_succ, List.getElem?_cons_zero]; exact rfl)
        case hq84 => exact fun _ _ _ h => h
        case hw84 => rfl
        case hy84 => (intro w hSw; (try dsimp only at hSw); go_simp; try exact rfl)
        simp only [Act.put, List.setIfInBounds_toArray, List.set_cons_zero, List.set_cons_succ]
        refine wpAnyH_take (i := 10) (oi := ?o85) (v := ?v85) ?hi85 (by kernel_rfl) (by kernel_rfl) (by kernel_rfl) ?hq85 (Or.inl ⟨?hw85, ?hy85⟩) (by assumption) ?r85
        case hi85 => (simp only [List.getElem?_toArray, List.getElem?_cons_succ, List.getElem?_cons_zero]; exact rfl)
        case hq85 => exact fun _ _ _ h => h
        case hw85 => rfl
        case hy85 => (intro w hSw; (try dsimp only at hSw); go_simp; try exact rfl)
        simp only [Act.put, List.setIfInBounds_toArray, List.set_cons_zero, List.set_cons_succ]
        refine wpAnyH_take (i := 11) (oi := ?o86) (v := ?v86) ?hi86 (by kernel_rfl) (by kernel_rfl) (by kernel_rfl) ?hq86 (Or.inl ⟨?hw86, ?hy86⟩) (by assumption) ?r86
        case hi86 => (simp only [List.getElem?_toArray, List.getElem?_cons_succ, List.getElem?_cons_zero]; exact rfl)
        case hq86 => exact fun _ _ _ h => h
        case hw86 => rfl
        case hy86 => (intro w hSw; (try dsimp only at hSw); go_simp; try exact rfl)
        simp only [Act.put, List.setIfInBounds_toArray, List.set_cons_zero, List.set_cons_succ]
        refine wpAnyH_take (i := 12) (oi := ?o87) (v := ?v87) ?hi87 (by kernel_rfl) (by kernel_rfl) (by kernel_rfl) ?hq87 (Or.inl ⟨?hw87, ?hy87⟩) (by assumption) ?r87
        case hi87 => (simp only [List.getElem?_toArray, List.getElem?_cons_succ, List.getElem?_cons_zero]; exact rfl)
        case hq87 => exact fun _ _ _ h => h
        case hw87 => rfl
        case hy87 => (intro w hSw; (try dsimp only at hSw); go_simp; try exact rfl)
        simp only [Act.put, List.setIfInBounds_toArray, List.set_cons_zero, List.set_cons_succ]
        refine wpAnyH_take (i := 13) (oi := ?o88) (v := ?v88) ?hi88 (by kernel_rfl) (by kernel_rfl) (by kernel_rfl) ?hq88 (Or.inl ⟨?hw88, ?hy88⟩) (by assumption) ?r88
        case hi88 => (simp only [List.getElem?_toArray, List.getElem?_cons_succ, List.getElem?_cons_zero]; exact rfl)
        case hq88 => exact fun _ _ _ h => h
        case hw88 => rfl
        case hy88 => (intro w hSw; (try dsimp only at hSw); go_simp; try exact rfl)
        simp only [Act.put, List.setIfInBounds_toArray, List.set_cons_zero, List.set_cons_succ]
        refine wpAnyH_ready (rs := [14]) (by kernel_rfl) (by simp) ?_
        refine AllReadyH.cons (o := ?o124) ?hi124 (fun K hK => ?_) AllReadyH.nil
        case hi124 => (simp only [List.getElem?_toArray, List.getElem?_cons_succ, List.getElem?_cons_zero]; exact rfl)
        go_simp
        refine hK.out _ _ ⟨e0, e1, e2, e3⟩ (fun _ => ?_)
        clear hK K
        try simp only [Act.put, List.setIfInBounds_toArray, List.set_cons_zero, List.set_cons_succ]
        refine wpAnyH_take (i := 15) (oi := ?o89) (v := ?v89) ?hi89 (by kernel_rfl) (by kernel_rfl) (by kernel_rfl) ?hq89 (Or.inl ⟨?hw89, ?hy89⟩) (by assumption) ?r89
        case hi89 => (simp only [List.getElem?_toArray, List.getElem?_cons_succ, List.getElem?_cons_zero]; exact rfl)
        case hq89 => exact fun _ _ _ h => h
        case hw89 => rfl
        case hy89 => (intro w hSw; (try dsimp only at hSw); go_simp; try exact rfl)
        simp only [Act.put, List.setIfInBounds_toArray, List.set_cons_zero, List.set_cons_succ]
        refine wpAnyH_take (i := 16) (oi := ?o90) (v := ?v90) ?hi90 (by kernel_rfl) (by kernel_rfl) (by kernel_rfl) ?hq90 (Or.inl ⟨?hw90, ?hy90⟩) (by assumption) ?r90
        case hi90 => (simp only [List.getElem?_toArray, List.getElem?_cons_succ, List.getElem?_cons_zero]; exact rfl)
        case hq90 => exact fun _ _ _ h => h
        case hw90 => rfl
        case hy90 => (intro w hSw; (try dsimp only at hSw); go_simp; try exact rfl)
        simp only [Act.put, List.setIfInBounds_toArray, List.set_cons_zero, List.set_cons_succ]
        refine wpAnyH_done (by kernel_rfl) ?_ _
        refine NoPanic.normal ?_
        go_wp2
        (try simp only [Exit.inBlock, Exit.then])
        refine bodyPost_ret (results_cell_two rfl _ _ N 90 #[.int .i64 1, .int .i64 fg, .int .i64 fs, .slice A3 n3 c3] (0, 0) _ rfl P4.out Tryz.underlying90 rfl frame_size) rfl ?_
        exact HO.out
    · have h2d : (fk == 1) = false := by simpa using h2
      rw [show decide ((0 : Int) = 0 ∧ fk = 1 ∧ fs = 0) = false by simp [h2]] at HO
      refine wp_region_noPanic ?_
      refine wp_region_held_drew (S := fun w' : World => w'.cell? ⟨T, 0, none⟩ = some (.int .i64 fk) ∧ w'.cell? ⟨T, 1, none⟩ = some (.int .i64 fg) ∧ w'.cell? ⟨T, 2, none⟩ = some (.int .i64 fs) ∧ w'.cell? ⟨T, 3, none⟩ = some (.slice A3 n3 c3)) (by kernel_rfl) (by rw [h5]; exact ⟨f0, f1, f2, f3⟩) (fun hS0 => ?_)
      rw [h5] at hS0 ⊢
      refine wpAnyH_take (i := 0) (oi := ?o91) (v := ?v91) ?hi91 (by kernel_rfl) (by kernel_rfl) (by kernel_rfl) ?hq91 (Or.inl ⟨?hw91, ?hy91⟩) (by assumption) ?r91
      case hi91 => (simp only [List.getElem?_toArray, List.getElem?_cons_zero]; exact rfl)
      case hq91 => exact fun _ _ _ h => h
      case hw91 => rfl
      case hy91 => (intro w hSw; (try dsimp only at hSw); go_simp; try exact rfl)
      simp only [Act.put, List.setIfInBounds_toArray, List.set_cons_zero, List.set_cons_succ]
      refine wpAnyH_take (i := 1) (oi := ?o92) (v := ?v92) ?hi92 (by kernel_rfl) (by kernel_rfl) (by kernel_rfl) ?hq92 (Or.inl ⟨?hw92, ?hy92⟩) (by assumption) ?r92
      case hi92 => (simp only [List.getElem?_toArray, List.getElem?_cons_succ, List.getElem?_cons_zero]; exact rfl)
      case hq92 => exact fun _ _ _ h => h
      case hw92 => rfl
      case hy92 => (intro w hSw; (try dsimp only at hSw); go_simp; try exact rfl)
      simp only [Act.put, List.setIfInBounds_toArray, List.set_cons_zero, List.set_cons_succ]
      refine wpAnyH_take (i := 2) (oi := ?o93) (v := ?v93) ?hi93 (by kernel_rfl) (by kernel_rfl) (by kernel_rfl) ?hq93 (Or.inl ⟨?hw93, ?hy93⟩) (by assumption) ?r93
      case hi93 => (simp only [List.getElem?_toArray, List.getElem?_cons_succ, List.getElem?_cons_zero]; exact rfl)
      case hq93 => exact fun _ _ _ h => h
      case hw93 => rfl
      case hy93 => (intro w hSw; (try dsimp only at hSw); go_simp; try exact rfl)
      simp only [Act.put, List.setIfInBounds_toArray, List.set_cons_zero, List.set_cons_succ]
      refine wpAnyH_take (i := 3) (oi := ?o94) (v := ?v94) ?hi94 (by kernel_rfl) (by kernel_rfl) (by kernel_rfl) ?hq94 (Or.inl ⟨?hw94, ?hy94⟩) (by assumption) ?r94
      case hi94 => (simp only [List.getElem?_toArray, List.getElem?_cons_succ, List.getElem?_cons_zero]; exact rfl)
      case hq94 => exact fun _ _ _ h => h
      case hw94 => rfl
      case hy94 => (intro w hSw; (try dsimp only at hSw); go_simp; try exact rfl)
      simp only [Act.put, List.setIfInBounds_toArray, List.set_cons_zero, List.set_cons_succ]
      refine wpAnyH_take (i := 4) (oi := ?o95) (v := ?v95) ?hi95 (by kernel_rfl) (by kernel_rfl) (by kernel_rfl) ?hq95 (Or.inl ⟨?hw95, ?hy95⟩) (by assumption) ?r95
      case hi95 => (simp only [List.getElem?_toArray, List.getElem?_cons_succ, List.getElem?_cons_zero]; exact rfl)
      case hq95 => exact fun _ _ _ h => h
      case hw95 => rfl
      case hy95 => (intro w hSw; (try dsimp only at hSw); go_simp; try exact rfl)
      simp only [Act.put, List.setIfInBounds_toArray, List.set_cons_zero, List.set_cons_succ]
      refine wpAnyH_take (i := 5) (oi := ?o96) (v := ?v96) ?hi96 (by kernel_rfl) (by kernel_rfl) (by kernel_rfl) ?hq96 (Or.inl ⟨?hw96, ?hy96⟩) (by assumption) ?r96
      case hi96 => (simp only [List.getElem?_toArray, List.getElem?_cons_succ, List.getElem?_cons_zero]; exact rfl)
      case hq96 => exact fun _ _ _ h => h
      case hw96 => rfl
      case hy96 => (intro w hSw; (try dsimp only at hSw); go_simp; try exact rfl)
      simp only [Act.put, List.setIfInBounds_toArray, List.set_cons_zero, List.set_cons_succ]
      refine wpAnyH_take (i := 6) (oi := ?o97) (v := ?v97) ?hi97 (by kernel_rfl) (by kernel_rfl) (by kernel_rfl) ?hq97 (Or.inl ⟨?hw97, ?hy97⟩) (by assumption) ?r97
      case hi97 => (simp only [List.getElem?_toArray, List.getElem?_cons_succ, List.getElem?_cons_zero]; exact rfl)
      case hq97 => exact fun _ _ _ h => h
      case hw97 => rfl
      case hy97 => (intro w hSw; (try dsimp only at hSw); go_simp; try exact rfl)
      simp only [Act.put, List.setIfInBounds_toArray, List.set_cons_zero, List.set_cons_succ]
      refine wpAnyH_take (i := 7) (oi := ?o98) (v := ?v98) ?hi98 (by kernel_rfl) (by kernel_rfl) (by kernel_rfl) ?hq98 (Or.inl ⟨?hw98, ?hy98⟩) (by assumption) ?r98
      case hi98 => (simp only [List.getElem?_toArray, List.getElem?_cons_succ, List.getElem?_cons_zero]; exact rfl)
      case hq98 => exact fun _ _ _ h => h
      case hw98 => rfl
      case hy98 => (intro w hSw; (try dsimp only at hSw); go_simp; try exact rfl)
      simp only [Act.put, List.setIfInBounds_toArray, List.set_cons_zero, List.set_cons_succ]
      refine wpAnyH_take (i := 8) (oi := ?o99) (v := ?v99) ?hi99 (by kernel_rfl) (by kernel_rfl) (by kernel_rfl) ?hq99 (Or.inl ⟨?hw99, ?hy99⟩) (by assumption) ?r99
      case hi99 => (simp only [List.getElem?_toArray, List.getElem?_cons_succ, List.getElem?_cons_zero]; exact rfl)
      case hq99 => exact fun _ _ _ h => h
      case hw99 => rfl
      case hy99 => (intro w hSw; (try dsimp only at hSw); go_simp; try exact rfl)
      simp only [Act.put, List.setIfInBounds_toArray, List.set_cons_zero, List.set_cons_succ]
      refine wpAnyH_take (i := 9) (oi := ?o100) (v := ?v100) ?hi100 (by kernel_rfl) (by kernel_rfl) (by kernel_rfl) ?hq100 (Or.inl ⟨?hw100, ?hy100⟩) (by assumption) ?r100
      case hi100 => (simp only [List.getElem?_toArray, List.getElem?_cons_succ, List.getElem?_cons_zero]; exact rfl)
      case hq100 => exact fun _ _ _ h => h
      case hw100 => rfl
      case hy100 => (intro w hSw; (try dsimp only at hSw); go_simp; try exact rfl)
      simp only [Act.put, List.setIfInBounds_toArray, List.set_cons_zero, List.set_cons_succ]
      refine wpAnyH_take (i := 10) (oi := ?o101) (v := undef) ?hi101 (by kernel_rfl) (by kernel_rfl) (by kernel_rfl) ?hq101 (Or.inr ⟨?hw101, rfl⟩) (by assumption) ?r101
      case hi101 => (simp only [List.getElem?_toArray, List.getElem?_cons_succ, List.getElem?_cons_zero]; exact rfl)
      case hq101 => exact fun _ _ _ h => h
      case hw101 => rfl
      simp only [Act.put, List.setIfInBounds_toArray, List.set_cons_zero, List.set_cons_succ]
      refine wpAnyH_take (i := 11) (oi := ?o102) (v := undef) ?hi102 (by kernel_rfl) (by kernel_rfl) (by kernel_rfl) ?hq102 (Or.inr ⟨?hw102, rfl⟩) (by assumption) ?r102
      case hi102 => (simp only [List.getElem?_toArray, List.getElem?_cons_succ, List.getElem?_cons_zero]; exact rfl)
      case hq102 => exact fun _ _ _ h => h
      case hw102 => rfl
      simp only [Act.put, List.setIfInBounds_toArray, List.set_cons_zero, List.set_cons_succ]
      refine wpAnyH_take (i := 12) (oi := ?o103) (v := undef) ?hi103 (by kernel_rfl) (by kernel_rfl) (by kernel_rfl) ?hq103 (Or.inr ⟨?hw103, rfl⟩) (by assumption) ?r103
      case hi103 => (simp only [List.getElem?_toArray, List.getElem?_cons_succ, List.getElem?_cons_zero]; exact rfl)
      case hq103 => exact fun _ _ _ h => h
      case hw103 => rfl
      simp only [Act.put, List.setIfInBounds_toArray, List.set_cons_zero, List.set_cons_succ]
      refine wpAnyH_take (i := 13) (oi := ?o104) (v := ?v104) ?hi104 (by kernel_rfl) (by kernel_rfl) (by kernel_rfl) ?hq104 (Or.inl ⟨?hw104, ?hy104⟩) (by assumption) ?r104
      case hi104 => (simp only [List.getElem?_toArray, List.getElem?_cons_succ, List.getElem?_cons_zero]; exact rfl)
      case hq104 => exact fun _ _ _ h => h
      case hw104 => rfl
      case hy104 => (intro w hSw; (try dsimp only at hSw); go_simp; try exact rfl)
      simp only [Act.put, List.setIfInBounds_toArray, List.set_cons_zero, List.set_cons_succ]
      refine wpAnyH_ready (rs := [14]) (by kernel_rfl) (by simp) ?_
      refine AllReadyH.cons (o := ?o125) ?hi125 (fun K hK => ?_) AllReadyH.nil
      case hi125 => (simp only [List.getElem?_toArray, List.getElem?_cons_succ, List.getElem?_cons_zero]; exact rfl)
      go_simp
      refine hK.out _ _ ⟨e0, e1, e2, e3⟩ (fun _ => ?_)
      clear hK K
      try simp only [Act.put, List.setIfInBounds_toArray, List.set_cons_zero, List.set_cons_succ]
      refine wpAnyH_take (i := 15) (oi := ?o105) (v := ?v105) ?hi105 (by kernel_rfl) (by kernel_rfl) (by kernel_rfl) ?hq105 (Or.inl ⟨?hw105, ?hy105⟩) (by assumption) ?r105
      case hi105 => (simp only [List.getElem?_toArray, List.getElem?_cons_succ, List.getElem?_cons_zero]; exact rfl)
      case hq105 => exact fun _ _ _ h => h
      case hw105 => rfl
      case hy105 => (intro w hSw; (try dsimp only at hSw); go_simp; try exact rfl)
      simp only [Act.put, List.setIfInBounds_toArray, List.set_cons_zero, List.set_cons_succ]
      refine wpAnyH_take (i := 16) (oi := ?o106) (v := ?v106) ?hi106 (by kernel_rfl) (by kernel_rfl) (by kernel_rfl) ?hq106 (Or.inl ⟨?hw106, ?hy106⟩) (by assumption) ?r106
      case hi106 => (simp only [List.getElem?_toArray, List.getElem?_cons_succ, List.getElem?_cons_zero]; exact rfl)
      case hq106 => exact fun _ _ _ h => h
      case hw106 => rfl
      case hy106 => (intro w hSw; (try dsimp only at hSw); go_simp; try exact rfl)
      simp only [Act.put, List.setIfInBounds_toArray, List.set_cons_zero, List.set_cons_succ]
      refine wpAnyH_done (by kernel_rfl) ?_ _
      refine NoPanic.normal ?_
      go_wp2
      (try simp only [Exit.inBlock, Exit.then])
      refine bodyPost_ret (results_cell_two rfl _ _ N 90 #[.int .i64 fk, .int .i64 fg, .int .i64 fs, .slice A3 n3 c3] (0, 0) _ rfl P4.out Tryz.underlying90 rfl frame_size) rfl ?_
      exact HO.out
  · have h1d : (ge == 0) = false := by simpa using h1
    rw [show decide (ge = 0 ∧ fk = 1 ∧ fs = 0) = false by simp [h1]] at HO
    refine wp_region_noPanic ?_
    refine wp_region_held_drew (S := fun w' : World => w'.cell? ⟨T, 0, none⟩ = some (.int .i64 fk) ∧ w'.cell? ⟨T, 1, none⟩ = some (.int .i64 fg) ∧ w'.cell? ⟨T, 2, none⟩ = some (.int .i64 fs) ∧ w'.cell? ⟨T, 3, none⟩ = some (.slice A3 n3 c3)) (by kernel_rfl) (by rw [h5]; exact ⟨f0, f1, f2, f3⟩) (fun hS0 => ?_)
    rw [h5] at hS0 ⊢
    refine wpAnyH_take (i := 0) (oi := ?o107) (v := ?v107) ?hi107 (by kernel_rfl) (by kernel_rfl) (by kernel_rfl) ?hq107 (Or.inl ⟨?hw107, ?hy107⟩) (by assumption) ?r107
    case hi107 => (simp only [List.getElem?_toArray, List.getElem?_cons_zero]; exact rfl)
    case hq107 => exact fun _ _ _ h => h
    case hw107 => rfl
    case hy107 => (intro w hSw; (try dsimp only at hSw); go_simp; try exact rfl)
    simp only [Act.put, List.setIfInBounds_toArray, List.set_cons_zero, List.set_cons_succ]
    refine wpAnyH_take (i := 1) (oi := ?o108) (v := ?v108) ?hi108 (by kernel_rfl) (by kernel_rfl) (by kernel_rfl) ?hq108 (Or.inl ⟨?hw108, ?hy108⟩) (by assumption) ?r108
    case hi108 => (simp only [List.getElem?_toArray, List.getElem?_cons_succ, List.getElem?_cons_zero]; exact rfl)
    case hq108 => exact fun _ _ _ h => h
    case hw108 => rfl
    case hy108 => (intro w hSw; (try dsimp only at hSw); go_simp; try exact rfl)
    simp only [Act.put, List.setIfInBounds_toArray, List.set_cons_zero, List.set_cons_succ]
    refine wpAnyH_take (i := 2) (oi := ?o109) (v := ?v109) ?hi109 (by kernel_rfl) (by kernel_rfl) (by kernel_rfl) ?hq109 (Or.inl ⟨?hw109, ?hy109⟩) (by assumption) ?r109
    case hi109 => (simp only [List.getElem?_toArray, List.getElem?_cons_succ, List.getElem?_cons_zero]; exact rfl)
    case hq109 => exact fun _ _ _ h => h
    case hw109 => rfl
    case hy109 => (intro w hSw; (try dsimp only at hSw); go_simp; try exact rfl)
    simp only [Act.put, List.setIfInBounds_toArray, List.set_cons_zero, List.set_cons_succ]
    refine wpAnyH_take (i := 3) (oi := ?o110) (v := ?v110) ?hi110 (by kernel_rfl) (by kernel_rfl) (by kernel_rfl) ?hq110 (Or.inl ⟨?hw110, ?hy110⟩) (by assumption) ?r110
    case hi110 => (simp only [List.getElem?_toArray, List.getElem?_cons_succ, List.getElem?_cons_zero]; exact rfl)
    case hq110 => exact fun _ _ _ h => h
    case hw110 => rfl
    case hy110 => (intro w hSw; (try dsimp only at hSw); go_simp; try exact rfl)
    simp only [Act.put, List.setIfInBounds_toArray, List.set_cons_zero, List.set_cons_succ]
    refine wpAnyH_take (i := 4) (oi := ?o111) (v := ?v111) ?hi111 (by kernel_rfl) (by kernel_rfl) (by kernel_rfl) ?hq111 (Or.inl ⟨?hw111, ?hy111⟩) (by assumption) ?r111
    case hi111 => (simp only [List.getElem?_toArray, List.getElem?_cons_succ, List.getElem?_cons_zero]; exact rfl)
    case hq111 => exact fun _ _ _ h => h
    case hw111 => rfl
    case hy111 => (intro w hSw; (try dsimp only at hSw); go_simp; try exact rfl)
    simp only [Act.put, List.setIfInBounds_toArray, List.set_cons_zero, List.set_cons_succ]
    refine wpAnyH_take (i := 5) (oi := ?o112) (v := undef) ?hi112 (by kernel_rfl) (by kernel_rfl) (by kernel_rfl) ?hq112 (Or.inr ⟨?hw112, rfl⟩) (by assumption) ?r112
    case hi112 => (simp only [List.getElem?_toArray, List.getElem?_cons_succ, List.getElem?_cons_zero]; exact rfl)
    case hq112 => exact fun _ _ _ h => h
    case hw112 => rfl
    simp only [Act.put, List.setIfInBounds_toArray, List.set_cons_zero, List.set_cons_succ]
    refine wpAnyH_take (i := 6) (oi := ?o113) (v := undef) ?hi113 (by kernel_rfl) (by kernel_rfl) (by kernel_rfl) ?hq113 (Or.inr ⟨?hw113, rfl⟩) (by assumption) ?r113
    case hi113 => (simp only [List.getElem?_toArray, List.getElem?_cons_succ, List.getElem?_cons_zero]; exact rfl)
    case hq113 => exact fun _ _ _ h => h
    case hw113 => rfl
    simp only [Act.put, List.setIfInBounds_toArray, List.set_cons_zero, List.set_cons_succ]
    refine wpAnyH_take (i := 7) (oi := ?o114) (v := undef) ?hi114 (by kernel_rfl) (by kernel_rfl) (by kernel_rfl) ?hq114 (Or.inr ⟨?hw114, rfl⟩) (by assumption) ?r114
    case hi114 => (simp only [List.getElem?_toArray, List.getElem?_cons_succ, List.getElem?_cons_zero]; exact rfl)
    case hq114 => exact fun _ _ _ h => h
    case hw114 => rfl
    simp only [Act.put, List.setIfInBounds_toArray, List.set_cons_zero, List.set_cons_succ]
    refine wpAnyH_take (i := 8) (oi := ?o115) (v := ?v115) ?hi115 (by kernel_rfl) (by kernel_rfl) (by kernel_rfl) ?hq115 (Or.inl ⟨?hw115, ?hy115⟩) (by assumption) ?r115
    case hi115 => (simp only [List.getElem?_toArray, List.getElem?_cons_succ, List.getElem?_cons_zero]; exact rfl)
    case hq115 => exact fun _ _ _ h => h
    case hw115 => rfl
    case hy115 => (intro w hSw; (try dsimp only at hSw); go_simp; try exact rfl)
    simp only [Act.put, List.setIfInBounds_toArray, List.set_cons_zero, List.set_cons_succ]
    refine wpAnyH_take (i := 9) (oi := ?o116) (v := ?v116) ?hi116 (by kernel_rfl) (by kernel_rfl) (by kernel_rfl) ?hq116 (Or.inl ⟨?hw116, ?hy116⟩) (by assumption) ?r116
    case hi116 => (simp only [List.getElem?_toArray, List.getElem?_cons_succ, List.getElem?_cons_zero]; exact rfl)
    case hq116 => exact fun _ _ _ h => h
    case hw116 => rfl
    case hy116 => (intro w hSw; (try dsimp only at hSw); go_simp; try exact rfl)
    simp only [Act.put, List.setIfInBounds_toArray, List.set_cons_zero, List.set_cons_succ]
    refine wpAnyH_take (i := 10) (oi := ?o117) (v := undef) ?hi117 (by kernel_rfl) (by kernel_rfl) (by kernel_rfl) ?hq117 (Or.inr ⟨?hw117, rfl⟩) (by assumption) ?r117
    case hi117 => (simp only [List.getElem?_toArray, List.getElem?_cons_succ, List.getElem?_cons_zero]; exact rfl)
    case hq117 => exact fun _ _ _ h => h
    case hw117 => rfl
    simp only [Act.put, List.setIfInBounds_toArray, List.set_cons_zero, List.set_cons_succ]
    refine wpAnyH_take (i := 11) (oi := ?o118) (v := undef) ?hi118 (by kernel_rfl) (by kernel_rfl) (by kernel_rfl) ?hq118 (Or.inr ⟨?hw118, rfl⟩) (by assumption) ?r118
    case hi118 => (simp only [List.getElem?_toArray, List.getElem?_cons_succ, List.getElem?_cons_zero]; exact rfl)
    case hq118 => exact fun _ _ _ h => h
    case hw118 => rfl
    simp only [Act.put, List.setIfInBounds_toArray, List.set_cons_zero, List.set_cons_succ]
    refine wpAnyH_take (i := 12) (oi := ?o119) (v := undef) ?hi119 (by kernel_rfl) (by kernel_rfl) (by kernel_rfl) ?hq119 (Or.inr ⟨?hw119, rfl⟩) (by assumption) ?r119
    case hi119 => (simp only [List.getElem?_toArray, List.getElem?_cons_succ, List.getElem?_cons_zero]; exact rfl)
    case hq119 => exact fun _ _ _ h => h
    case hw119 => rfl
    simp only [Act.put, List.setIfInBounds_toArray, List.set_cons_zero, List.set_cons_succ]
    refine wpAnyH_take (i := 13) (oi := ?o120) (v := ?v120) ?hi120 (by kernel_rfl) (by kernel_rfl) (by kernel_rfl) ?hq120 (Or.inl ⟨?hw120, ?hy120⟩) (by assumption) ?r120
    case hi120 => (simp only [List.getElem?_toArray, List.getElem?_cons_succ, List.getElem?_cons_zero]; exact rfl)
    case hq120 => exact fun _ _ _ h => h
    case hw120 => rfl
    case hy120 => (intro w hSw; (try dsimp only at hSw); go_simp; try exact rfl)
    simp only [Act.put, List.setIfInBounds_toArray, List.set_cons_zero, List.set_cons_succ]
    refine wpAnyH_ready (rs := [14]) (by kernel_rfl) (by simp) ?_
    refine AllReadyH.cons (o := ?o126) ?hi126 (fun K hK => ?_) AllReadyH.nil
    case hi126 => (simp only [List.getElem?_toArray, List.getElem?_cons_succ, List.getElem?_cons_zero]; exact rfl)
    go_simp
    refine hK.out _ _ ⟨e0, e1, e2, e3⟩ (fun _ => ?_)
    clear hK K
    try simp only [Act.put, List.setIfInBounds_toArray, List.set_cons_zero, List.set_cons_succ]
    refine wpAnyH_take (i := 15) (oi := ?o121) (v := ?v121) ?hi121 (by kernel_rfl) (by kernel_rfl) (by kernel_rfl) ?hq121 (Or.inl ⟨?hw121, ?hy121⟩) (by assumption) ?r121
    case hi121 => (simp only [List.getElem?_toArray, List.getElem?_cons_succ, List.getElem?_cons_zero]; exact rfl)
    case hq121 => exact fun _ _ _ h => h
    case hw121 => rfl
    case hy121 => (intro w hSw; (try dsimp only at hSw); go_simp; try exact rfl)
    simp only [Act.put, List.setIfInBounds_toArray, List.set_cons_zero, List.set_cons_succ]
    refine wpAnyH_take (i := 16) (oi := ?o122) (v := ?v122) ?hi122 (by kernel_rfl) (by kernel_rfl) (by kernel_rfl) ?hq122 (Or.inl ⟨?hw122, ?hy122⟩) (by assumption) ?r122
    case hi122 => (simp only [List.getElem?_toArray, List.getElem?_cons_succ, List.getElem?_cons_zero]; exact rfl)
    case hq122 => exact fun _ _ _ h => h
    case hw122 => rfl
    case hy122 => (intro w hSw; (try dsimp only at hSw); go_simp; try exact rfl)
    simp only [Act.put, List.setIfInBounds_toArray, List.set_cons_zero, List.set_cons_succ]
    refine wpAnyH_done (by kernel_rfl) ?_ _
    refine NoPanic.normal ?_
    go_wp2
    (try simp only [Exit.inBlock, Exit.then])
    refine bodyPost_ret (results_cell_two rfl _ _ N 90 #[.int .i64 fk, .int .i64 fg, .int .i64 fs, .slice A3 n3 c3] (0, 0) _ rfl P4.out Tryz.underlying90 rfl frame_size) rfl ?_
    exact HO.out
end Go.Proofs.YtkbehjdglgpgjaaGreat.Journal

namespace Go.Proofs.YtkbehjdglgpgjaaGreat.Journal
open Go.RowKit Go.Proofs.YtkbehjdglgpgjaaGreat.Sha Go.Proofs.YtkbehjdglgpgjaaGreat.Disk Go.Proofs.YtkbehjdglgpgjaaGreat.Frame

def headsJ (s : DS) : Nat → JV
 | 0 => noJ
 | h + 1 => headJ s h (headsJ s h)
theorem rj_new (w : World) (d N : Nat) (hN : w.heap.size = N) (v : JV) (h0 : v.half = 0) (h1 : v.gen = 0) (h2 : v.has = false) (h3 : v.pict = []) (h4 : v.recs = []) (h5 : v.pos = 0) (h6 : v.seq = 1) :
  Rj (w.alloc (.cells #[.pointer (some ⟨d, 0, none⟩), .int .i64 0, .int .i64 0, .bool false, .slice none 0 0, .slice none 0 0, .int .i64 0, .int .i64 1, .bool v.dead] 88)) [N] N d v := by
 refine ⟨none, 0, 0, .slice none 0 0, [], ?_, Nat.le_refl _, by omega, by rw [h3]; exact Rd.nil_, ⟨.inl rfl, .inl rfl⟩, by rw [h4]; exact Og.nil _ _ _, by simp, by simp, rfl, ⟨.inl h0, by omega, by omega, by omega, by rw [h4]; simp⟩⟩
 have := Blk.new_at w 88 #[.pointer (some ⟨d, 0, none⟩), .int .i64 0, .int .i64 0, .bool false, .slice none 0 0, .slice none 0 0, .int .i64 0, .int .i64 1, .bool v.dead] N hN.symm
 unfold rjc
 rw [h0, h1, h2, h5, h6]
 exact this
def ROpenPost (w : World) (F : List Nat) (y n : Nat) (s : DS) (v : JV) (e : Ending) (w' : World) : Prop := ∃ x G, e = .returned (.pointer (some ⟨x, 0, none⟩)) ∧ Dr w' F y n s ∧ Rj w' G x y v ∧ (∀ k ∈ G, w.heap.size ≤ k) ∧ Below w.heap.size w w'
set_option maxRecDepth 100000 in
set_option maxHeartbeats 1000000 in
theorem ropen_down {w : World} {F : List Nat} {y n : Nat} {s : DS} (h : Dr w F y n s) (hd : s.down = true) :
  Calls Tryz.prog 10 #[.pointer (some ⟨y, 0, none⟩)] w (ROpenPost w F y n s (openJ s)) := by
 obtain ⟨N, hN⟩ : ∃ N, w.heap.size = N := ⟨_, rfl⟩
 have b1 : Below w.heap.size w (w.alloc (.cells #[.pointer (some ⟨y, 0, none⟩), .int .i64 0, .int .i64 0, .bool false, .slice none 0 0, .slice none 0 0, .int .i64 0, .int .i64 1, .bool false] 88)) := (Below.refl _ _).alloc (Nat.le_refl _) _
 have D1 := h.below b1
 have hy : (w.alloc (.cells #[.pointer (some ⟨y, 0, none⟩), .int .i64 0, .int .i64 0, .bool false, .slice none 0 0, .slice none 0 0, .int .i64 0, .int .i64 1, .bool false] 88)).cell? ⟨y, 4, none⟩ = some (.bool true) := by
  obtain ⟨-, gn, cn, gl, cl, vp, k1, -⟩ := D1
  rw [← hd]; exact k1.cell 4
 have b2 : Below w.heap.size w (w.alloc (.cells #[.pointer (some ⟨y, 0, none⟩), .int .i64 0, .int .i64 0, .bool false, .slice none 0 0, .slice none 0 0, .int .i64 0, .int .i64 1, .bool true] 88)) := (Below.refl _ _).alloc (Nat.le_refl _) _
 have PG : Kept (ROpenPost w F y n s (openJ s) (.returned (.pointer (some ⟨N, 0, none⟩))) (w.alloc (.cells #[.pointer (some ⟨y, 0, none⟩), .int .i64 0, .int .i64 0, .bool false, .slice none 0 0, .slice none 0 0, .int .i64 0, .int .i64 1, .bool true] 88))) := by
  have e : openJ s = { noJ with dead := true } := by unfold openJ; rw [if_pos hd]
  rw [e]
  exact ⟨N, [N], rfl, h.below b2, rj_new w y N hN { noJ with dead := true } rfl rfl rfl rfl rfl rfl rfl, by simp [hN], b2⟩
 clear b1 b2 D1 h
 go_enter Tryz.func10, Tryz.ntmps10
 go_wp2
 go_ret
 exact PG.out
end Go.Proofs.YtkbehjdglgpgjaaGreat.Journal
