/-
  Parts laid together: JournalRef.
-/
import Derived.Test.YtkbehjdglgpgjaaGreatPart3
import Derived.Test.YtkbehjdglgpgjaaGreatPart18
import Derived.Test.YtkbehjdglgpgjaaGreatPart20
import Derived.Deep.RegionHeld3
import Derived.Deep.AppendLies

namespace Go.Proofs.YtkbehjdglgpgjaaGreat.Journal
open Go.RowKit Go.Proofs.YtkbehjdglgpgjaaGreat.Sha Go.Proofs.YtkbehjdglgpgjaaGreat.Disk Go.Proofs.YtkbehjdglgpgjaaGreat.Frame

structure VOk (v : JV) : Prop where
 half : v.half = 0 ∨ v.half = 1
 gen : 0 ≤ v.gen ∧ v.gen ≤ 4294967295
 seq : 1 ≤ v.seq ∧ v.seq ≤ 4294967296
 pos : v.pos ≤ 8192
 recs : v.recs.length ≤ v.pos
theorem vok_no : VOk noJ := ⟨.inl rfl, by decide, by decide, by decide, by decide⟩
theorem VOk.dead {v : JV} (h : VOk v) : VOk (deadJ v) := ⟨h.half, h.gen, h.seq, h.pos, h.recs⟩
def rjc (d : Nat) (v : JV) (A : Option Addr) (n c : Nat) (vr : Value) : Array Value := #[.pointer (some ⟨d, 0, none⟩), .int .i64 (v.half : Nat), .int .i64 v.gen, .bool v.has, .slice A n c, vr, .int .i64 (v.pos : Nat), .int .i64 v.seq, .bool v.dead]
def Rj (w : World) (G : List Nat) (x d : Nat) (v : JV) : Prop :=
 ∃ A n c vr K, Blk w x 88 (rjc d v A n c vr) ∧ n ≤ c ∧ c ≤ 9223372036854775807 ∧ Rd w A n v.pict ∧ (In A n K ∧ Off A n vr.ownBlock.toList) ∧ Og w 38 vr v.recs K ∧ (∀ k ∈ K, k < w.heap.size) ∧ x ∉ K ∧ G = x :: K ∧ VOk v
theorem Rj.lts {w : World} {G : List Nat} {x d : Nat} {v : JV} (h : Rj w G x d v) : ∀ k ∈ G, k < w.heap.size := by
 obtain ⟨A, n, c, vr, K, h1, -, -, -, -, -, h7, -, rfl, -⟩ := h
 intro k hk
 rcases List.mem_cons.1 hk with rfl | hk
 ·exact h1.lt
 ·exact h7 k hk
theorem Rj.keep {w w' : World} {G K : List Nat} {x d : Nat} {v : JV} (h : Rj w G x d v) (b : Bar K w w') (j : Disj G K) : Rj w' G x d v := by
 obtain ⟨A, n, c, vr, K', h1, h2, h3, h4, h5, h6, h7, h8, rfl, h9⟩ := h
 have jk : Disj K' K := fun k hk => j k (by simp [hk])
 exact ⟨A, n, c, vr, K', h1.bar b (j x (by simp)), h2, h3, h4.far b (h5.1.off jk), h5, h6.keep b jk, fun k hk => Nat.lt_of_lt_of_le (h7 k hk) b.size, h8, rfl, h9⟩
theorem Rj.ok {w : World} {G : List Nat} {x d : Nat} {v : JV} (h : Rj w G x d v) : VOk v := h.choose_spec.choose_spec.choose_spec.choose_spec.choose_spec.2.2.2.2.2.2.2.2.2
def Ry (w : World) (H : List Nat) (x y n : Nat) (s : DS) (v : JV) : Prop := ∃ F G, Dr w F y n s ∧ Rj w G x y v ∧ Disj F G ∧ H = F ++ G
theorem Ry.lts {w : World} {H : List Nat} {x y n : Nat} {s : DS} {v : JV} (h : Ry w H x y n s v) : ∀ k ∈ H, k < w.heap.size := by
 obtain ⟨F, G, h1, h2, -, rfl⟩ := h
 intro k hk
 rcases List.mem_append.1 hk with hk | hk
 ·exact h1.lts k hk
 ·exact h2.lts k hk
theorem Ry.keep {w w' : World} {H K : List Nat} {x y n : Nat} {s : DS} {v : JV} (h : Ry w H x y n s v) (b : Bar K w w') (j : Disj H K) : Ry w' H x y n s v := by
 obtain ⟨F, G, h1, h2, h3, rfl⟩ := h
 exact ⟨F, G, h1.keep b (fun k hk => j k (by simp [hk])), h2.keep b (fun k hk => j k (by simp [hk])), h3, rfl⟩
theorem Ry.below {w w' : World} {H : List Nat} {x y n : Nat} {s : DS} {v : JV} (h : Ry w H x y n s v) (b : Below w.heap.size w w') : Ry w' H x y n s v := h.keep (barOf b []) (fun _ _ => by simp)
theorem rlen_any {w : World} {F : List Nat} {d n : Nat} {s : DS} (h : Dr w F d n s) : Calls Tryz.prog 41 #[.pointer (some ⟨d, 0, none⟩)] w fun e w' => e = .returned (.int .i64 (n : Nat)) ∧ w = w' := by
 obtain ⟨h0, gn, cn, gl, cl, vp, h1, h2, h3, h4, h5, rfl⟩ := h
 have c0 : w.cell? ⟨d, 0, none⟩ = some (.slice (some ⟨gn, 0, none⟩) n cn) := h1.cell 0
 clear h0 h1 h2 h3 h4 h5
 go_enter Tryz.func41, Tryz.ntmps41
 go_wp2
 go_ret
 exact ⟨rfl, rfl⟩
def RowPost (xs : List Int) (w : World) (e : Ending) (w' : World) : Prop := ∃ A c, e = .returned (.slice A xs.length c) ∧ w'.ownsRow w.heap.size 5 1 (.slice A xs.length c) xs.length (ints .u8 xs) ∧ Below w.heap.size w w'
set_option maxRecDepth 100000 in
set_option maxHeartbeats 1000000 in
theorem rtext_any2 {w : World} {F : List Nat} {x y n : Nat} {s : DS} (h : Dr w F y n s) (hd : s.down = false) (hx : w.cell? ⟨x, 0, none⟩ = some (.pointer (some ⟨y, 0, none⟩))) (half m : Nat) (hh : half ≤ 1) (hm : m ≤ 8192) :
  Calls Tryz.prog 34 #[.pointer (some ⟨x, 0, none⟩), .int .i64 (half : Nat), .int .i64 (m : Nat)] w (RowPost (textJ s half m) w) := by
 obtain ⟨N, hN⟩ : ∃ N, w.heap.size = N := ⟨_, rfl⟩
 have hwf := h.1
 have hn8 := hwf.n2
 have hhn := wf_hn hwf
 have HD := Kept.mk h; have HX := Kept.mk hx
 have hxN : x < N := by rw [← hN]; exact World.block_lt_of_cell? _ _ hx
 have PE : Kept (∀ v w' k, m + k = max m (n / 2) → w'.ownsRow N 5 1 v (64 * k) (ints .u8 (textM s half m k)) → Below N w w' → RowPost (textJ s half m) w (.returned v) w') := ⟨fun v w' k hk ho hb => by
  obtain rfl : k = hn s - m := by omega
  have hl : (textJ s half m).length = 64 * (hn s - m) := by
   rcases Nat.le_total m (hn s) with hle | hle
   ·rw [← textM_all]; exact textM_len hwf hh (by omega)
   ·rw [← textM_all, show hn s - m = 0 by omega]; rfl
  rw [textM_all, ← hl] at ho
  obtain ⟨A, c, rfl⟩ := own_shape ho
  exact ⟨A, c, rfl, by rw [hN]; exact ho, by rw [hN]; exact hb⟩⟩
 have HT : Kept (∀ k, m + k < n / 2 → (textM s half m k).length = 64 * k ∧ readD s ((half * (n / 2) + (m + k) : Nat) : Int) = (0, rowOf s.now (half * (n / 2) + (m + k))) ∧ textM s half m (k + 1) = textM s half m k ++ rowOf s.now (half * (n / 2) + (m + k)) ∧ (rowOf s.now (half * (n / 2) + (m + k))).length = 64) := ⟨fun k hk => by
  have : half * (n / 2) + (m + k) < n := by rcases (show half = 0 ∨ half = 1 by omega) with e | e <;> subst e <;> omega
  refine ⟨textM_len hwf hh (by omega), readD_at hwf hd this, ?_, ((hwf.secs _ this).1).1⟩
  unfold textM
  rw [cat, hhn, Nat.add_assoc]⟩
 clear h hx hwf hhn
 go_enter Tryz.func34, Tryz.ntmps34
 have hq : Int.tdiv (n : Int) 2 = ((n / 2 : Nat) : Int) := by rw [Int.tdiv_eq_ediv_of_nonneg (by omega)]; omega
 obtain ⟨M, hM⟩ : ∃ M, n / 2 = M := ⟨_, rfl⟩
 have hM9 : M ≤ 4096 := by omega
 rw [hM] at hq PE HT
 clear hM
 obtain ⟨hb, hbe⟩ : ∃ hb, half * M = hb := ⟨_, rfl⟩
 have hb9 : hb ≤ 4096 := by rw [← hbe]; rcases (show half = 0 ∨ half = 1 by omega) with e | e <;> subst e <;> omega
 rw [hbe] at HT
 have HB := Kept.mk hbe
 clear hbe
 go_wp2_with fail
 go_loopw [7, 8, 9, 10] (fun v i _b _e wr => ∃ (k : Nat) (u : Value), m + k ≤ max m M ∧ u = v ∧ i = .int .i64 ((m + k : Nat) : Int) ∧ Kept (wr.ownsRow N 5 1 u (64 * k) (ints .u8 (textM s half m k))) ∧ Kept (Below N w wr)) (fun _ i _ _ _ => max m M - (intOf i).toNat)
 case atStart => exact ⟨0, _, by omega, rfl, rfl, ⟨World.ownsRow_nil _ _ _ _⟩, ⟨Below.refl _ _⟩⟩
 case round =>
  obtain ⟨k, u, hk, rfl, rfl, O, B⟩ := hrel
  have HDr : Kept (Dr wr F y n s) := ⟨HD.out.below (by rw [hN]; exact B.out)⟩
  have x0 : wr.cell? ⟨x, 0, none⟩ = some (.pointer (some ⟨y, 0, none⟩)) := (B.out.cell (p := ⟨x, 0, none⟩) hxN).trans HX.out
  have cL := Kept.mk (rlen_any HDr.out)
  obtain ⟨i, hi⟩ : ∃ i, m + k = i := ⟨_, rfl⟩
  rw [hi] at hk ⊢
  by_cases hkM : i < M
  ·have hkM' : (i : Int) < M := by omega
   obtain ⟨t1, t2, t3, t4⟩ := HT.out k (by omega)
   rw [hi] at t2 t3 t4
   go_wp2_with fail
   refine cL.out.mono ?_
   rintro e w' ⟨rfl, rfl⟩
   clear cL
   go_upto_region 5 with (fail)
   refine wp_region_noPanic ?_
   refine wp_region_held_drew (S := fun w' : World => w'.cell? ⟨x, 0, none⟩ = some (.pointer (some ⟨y, 0, none⟩))) (by kernel_rfl) x0 (fun _ => ?_)
   have HD2 : Kept (Dr wr.drew F y n s) := ⟨HDr.out.below (Below.refl _ _).drew⟩
   have O2 : Kept (wr.drew.ownsRow N 5 1 u (64 * k) (ints .u8 (textM s half m k))) := ⟨O.out⟩
   have B2 : Kept (Below N w wr.drew) := ⟨B.out.drew⟩
   have x2 : wr.drew.cell? ⟨x, 0, none⟩ = some (.pointer (some ⟨y, 0, none⟩)) := x0
   clear x0 HDr O B
   generalize wr.drew = w2 at *
   have W0 : IntKind.i64.wrap (M : Int) = (M : Int) := by simp only [IntKind.wrap_i64]; omega
   have W1 : IntKind.i64.wrap ((half : Int) * (M : Int)) = (hb : Int) := by rw [← Int.natCast_mul, HB.out]; simp only [IntKind.wrap_i64]; omega
   have W2 : IntKind.i64.wrap ((hb : Int) + (i : Int)) = ((hb + i : Nat) : Int) := by simp only [IntKind.wrap_i64]; omega
   refine wpAnyH_take (i := 0) (oi := ?o1) (v := ?v1) ?hi1 (by kernel_rfl) (by kernel_rfl) (by kernel_rfl) ?hq1 (Or.inl ⟨?hw1, ?hy1⟩) (by assumption) ?r1
   case hi1 => (simp only [List.getElem?_toArray, List.getElem?_cons_zero]; exact rfl)
   case hq1 => exact fun _ _ _ h => h
   case hw1 => rfl
   case hy1 => (intro w hSw; (try dsimp only at hSw); go_simp; try exact rfl)
   simp only [Act.put, List.setIfInBounds_toArray, List.set_cons_zero, List.set_cons_succ]
   refine wpAnyH_take (i := 1) (oi := ?o2) (v := ?v2) ?hi2 (by kernel_rfl) (by kernel_rfl) (by kernel_rfl) ?hq2 (Or.inl ⟨?hw2, ?hy2⟩) (by assumption) ?r2
   case hi2 => (simp only [List.getElem?_toArray, List.getElem?_cons_succ, List.getElem?_cons_zero]; exact rfl)
   case hq2 => exact fun _ _ _ h => h
   case hw2 => rfl
   case hy2 => (intro w hSw; (try dsimp only at hSw); go_simp; try exact rfl)
   simp only [Act.put, List.setIfInBounds_toArray, List.set_cons_zero, List.set_cons_succ]
   refine wpAnyH_take (i := 2) (oi := ?o3) (v := ?v3) ?hi3 (by kernel_rfl) (by kernel_rfl) (by kernel_rfl) ?hq3 (Or.inl ⟨?hw3, ?hy3⟩) (by assumption) ?r3
   case hi3 => (simp only [List.getElem?_toArray, List.getElem?_cons_succ, List.getElem?_cons_zero]; exact rfl)
   case hq3 => exact fun _ _ _ h => h
   case hw3 => rfl
   case hy3 => (intro w hSw; (try dsimp only at hSw); go_simp; try exact rfl)
   simp only [Act.put, List.setIfInBounds_toArray, List.set_cons_zero, List.set_cons_succ]
   refine wpAnyH_take (i := 3) (oi := ?o4) (v := ?v4) ?hi4 (by kernel_rfl) (by kernel_rfl) (by kernel_rfl) ?hq4 (Or.inl ⟨?hw4, ?hy4⟩) (by assumption) ?r4
   case hi4 => (simp only [List.getElem?_toArray, List.getElem?_cons_succ, List.getElem?_cons_zero]; exact rfl)
   case hq4 => exact fun _ _ _ h => h
   case hw4 => rfl
   case hy4 => (intro w hSw; (try dsimp only at hSw); go_simp; try exact rfl)
   simp only [Act.put, List.setIfInBounds_toArray, List.set_cons_zero, List.set_cons_succ]
   refine wpAnyH_take (i := 4) (oi := ?o5) (v := ?v5) ?hi5 (by kernel_rfl) (by kernel_rfl) (by kernel_rfl) ?hq5 (Or.inl ⟨?hw5, ?hy5⟩) (by assumption) ?r5
   case hi5 => (simp only [List.getElem?_toArray, List.getElem?_cons_succ, List.getElem?_cons_zero]; exact rfl)
   case hq5 => exact fun _ _ _ h => h
   case hw5 => rfl
   case hy5 => (intro w hSw; (try dsimp only at hSw); go_simp; try exact rfl)
   simp only [Act.put, List.setIfInBounds_toArray, List.set_cons_zero, List.set_cons_succ]
   refine wpAnyH_take (i := 5) (oi := ?o6) (v := ?v6) ?hi6 (by kernel_rfl) (by kernel_rfl) (by kernel_rfl) ?hq6 (Or.inl ⟨?hw6, ?hy6⟩) (by assumption) ?r6
   case hi6 => (simp only [List.getElem?_toArray, List.getElem?_cons_succ, List.getElem?_cons_zero]; exact rfl)
   case hq6 => exact fun _ _ _ h => h
   case hw6 => rfl
   case hy6 => (intro w hSw; (try dsimp only at hSw); go_simp; try exact rfl)
   simp only [Act.put, List.setIfInBounds_toArray, List.set_cons_zero, List.set_cons_succ]
   refine wpAnyH_take (i := 6) (oi := ?o7) (v := ?v7) ?hi7 (by kernel_rfl) (by kernel_rfl) (by kernel_rfl) ?hq7 (Or.inl ⟨?hw7, ?hy7⟩) (by assumption) ?r7
   case hi7 => (simp only [List.getElem?_toArray, List.getElem?_cons_succ, List.getElem?_cons_zero]; exact rfl)
   case hq7 => exact fun _ _ _ h => h
   case hw7 => rfl
   case hy7 => (intro w hSw; (try dsimp only at hSw); go_simp; try exact rfl)
   simp only [Act.put, List.setIfInBounds_toArray, List.set_cons_zero, List.set_cons_succ]
   refine wpAnyH_take (i := 7) (oi := ?o8) (v := ?v8) ?hi8 (by kernel_rfl) (by kernel_rfl) (by kernel_rfl) ?hq8 (Or.inl ⟨?hw8, ?hy8⟩) (by assumption) ?r8
   case hi8 => (simp only [List.getElem?_toArray, List.getElem?_cons_succ, List.getElem?_cons_zero]; exact rfl)
   case hq8 => exact fun _ _ _ h => h
   case hw8 => rfl
   case hy8 => (intro w hSw; (try dsimp only at hSw); go_simp; try exact rfl)
   simp only [Act.put, List.setIfInBounds_toArray, List.set_cons_zero, List.set_cons_succ]
   refine wpAnyH_take (i := 8) (oi := ?o9) (v := ?v9) ?hi9 (by kernel_rfl) (by kernel_rfl) (by kernel_rfl) ?hq9 (Or.inl ⟨?hw9, ?hy9⟩) (by assumption) ?r9
   case hi9 => (simp only [List.getElem?_toArray, List.getElem?_cons_succ, List.getElem?_cons_zero]; exact rfl)
   case hq9 => exact fun _ _ _ h => h
   case hw9 => rfl
   case hy9 => (intro w hSw; (try dsimp only at hSw); go_simp; try exact rfl)
   simp only [Act.put, List.setIfInBounds_toArray, List.set_cons_zero, List.set_cons_succ]
   refine wpAnyH_take (i := 12) (oi := ?o10) (v := ?v10) ?hi10 (by kernel_rfl) (by kernel_rfl) (by kernel_rfl) ?hq10 (Or.inl ⟨?hw10, ?hy10⟩) (by assumption) ?r10
   case hi10 => (simp only [List.getElem?_toArray, List.getElem?_cons_succ, List.getElem?_cons_zero]; exact rfl)
   case hq10 => exact fun _ _ _ h => h
   case hw10 => rfl
   case hy10 => (intro w hSw; (try dsimp only at hSw); go_simp; try exact rfl)
   simp only [Act.put, List.setIfInBounds_toArray, List.set_cons_zero, List.set_cons_succ]
   refine wpAnyH_ready (rs := [9]) (by kernel_rfl) (by simp) ?_
   refine AllReadyH.cons (o := ?o19) ?hi19 (fun K hK => ?_) AllReadyH.nil
   case hi19 => (simp only [List.getElem?_toArray, List.getElem?_cons_succ, List.getElem?_cons_zero]; exact rfl)
   go_simp
   go_at_call 41
   refine (rlen_any HD2.out).mono ?_
   rintro e w' ⟨rfl, rfl⟩
   refine hK.out _ _ x2 (fun _ => ?_)
   clear hK K
   try simp only [Act.put, List.setIfInBounds_toArray, List.set_cons_zero, List.set_cons_succ]
   refine wpAnyH_take (i := 10) (oi := ?o11) (v := ?v11) ?hi11 (by kernel_rfl) (by kernel_rfl) (by kernel_rfl) ?hq11 (Or.inl ⟨?hw11, ?hy11⟩) (by assumption) ?r11
   case hi11 => (simp only [List.getElem?_toArray, List.getElem?_cons_succ, List.getElem?_cons_zero]; exact rfl)
   case hq11 => exact fun _ _ _ h => h
   case hw11 => rfl
   case hy11 => (intro w hSw; (try dsimp only at hSw); go_simp; try exact rfl)
   simp only [Act.put, List.setIfInBounds_toArray, List.set_cons_zero, List.set_cons_succ]
   refine wpAnyH_take (i := 11) (oi := ?o12) (v := ?v12) ?hi12 (by kernel_rfl) (by kernel_rfl) (by kernel_rfl) ?hq12 (Or.inl ⟨?hw12, ?hy12⟩) (by assumption) ?r12
   case hi12 => (simp only [List.getElem?_toArray, List.getElem?_cons_succ, List.getElem?_cons_zero]; exact rfl)
   case hq12 => exact fun _ _ _ h => h
   case hw12 => rfl
   case hy12 => (intro w hSw; (try dsimp only at hSw); go_simp; try exact rfl)
   simp only [Act.put, List.setIfInBounds_toArray, List.set_cons_zero, List.set_cons_succ]
   refine wpAnyH_take (i := 13) (oi := ?o13) (v := ?v13) ?hi13 (by kernel_rfl) (by kernel_rfl) (by kernel_rfl) ?hq13 (Or.inl ⟨?hw13, ?hy13⟩) (by assumption) ?r13
   case hi13 => (simp only [List.getElem?_toArray, List.getElem?_cons_succ, List.getElem?_cons_zero]; exact rfl)
   case hq13 => exact fun _ _ _ h => h
   case hw13 => rfl
   case hy13 => (intro w hSw; (try dsimp only at hSw); go_simp; try exact rfl)
   simp only [Act.put, List.setIfInBounds_toArray, List.set_cons_zero, List.set_cons_succ]
   refine wpAnyH_ready (rs := [14]) (by kernel_rfl) (by simp) ?_
   refine AllReadyH.cons (o := ?o20) ?hi20 (fun K hK => ?_) AllReadyH.nil
   case hi20 => (simp only [List.getElem?_toArray, List.getElem?_cons_succ, List.getElem?_cons_zero]; exact rfl)
   go_simp
   go_at_call 57
   rw [Int.natCast_add] at t2
   have cR := rread_any w2 F y n s ((hb : Int) + (i : Int)) HD2.out
   unfold RReadPost at cR
   rw [t2] at cR
   refine cR.mono ?_
   clear cR
   rintro e w3 ⟨A3, c3, rfl, r3, b3⟩
   simp only at r3 ⊢
   have x3 : w3.cell? ⟨x, 0, none⟩ = some (.pointer (some ⟨y, 0, none⟩)) := by rw [← x2]; exact World.cell?_of_block (b3.block x (World.block_lt_of_cell? _ _ x2))
   have hN2 : N ≤ w2.heap.size := by rw [← hN]; exact B2.out.size
   have O3 := Kept.mk (own_bar O2.out (barOf b3 []) (by simp))
   have B3 := Kept.mk (B2.out.trans (b3.mono hN2))
   have hN3 : N ≤ w3.heap.size := by rw [← hN]; exact B3.out.size
   rw [t4] at r3 ⊢
   have R3 := Kept.mk r3
   refine hK.out _ _ x3 (fun _ => ?_)
   clear hK K x2 HD2 O2 B2 b3 r3 x3 W0 W1 W2
   try simp only [Act.put, List.setIfInBounds_toArray, List.set_cons_zero, List.set_cons_succ]
   refine wpAnyH_take (i := 15) (oi := ?o14) (v := ?v14) ?hi14 (by kernel_rfl) (by kernel_rfl) (by kernel_rfl) ?hq14 (Or.inl ⟨?hw14, ?hy14⟩) (by assumption) ?r14
   case hi14 => (simp only [List.getElem?_toArray, List.getElem?_cons_succ, List.getElem?_cons_zero]; exact rfl)
   case hq14 => exact fun _ _ _ h => h
   case hw14 => rfl
   case hy14 => (intro w hSw; (try dsimp only at hSw); go_simp; try exact rfl)
   simp only [Act.put, List.setIfInBounds_toArray, List.set_cons_zero, List.set_cons_succ]
   refine wpAnyH_take (i := 16) (oi := ?o15) (v := ?v15) ?hi15 (by kernel_rfl) (by kernel_rfl) (by kernel_rfl) ?hq15 (Or.inl ⟨?hw15, ?hy15⟩) (by assumption) ?r15
   case hi15 => (simp only [List.getElem?_toArray, List.getElem?_cons_succ, List.getElem?_cons_zero]; exact rfl)
   case hq15 => exact fun _ _ _ h => h
   case hw15 => rfl
   case hy15 => (intro w hSw; (try dsimp only at hSw); go_simp; try exact rfl)
   simp only [Act.put, List.setIfInBounds_toArray, List.set_cons_zero, List.set_cons_succ]
   refine wpAnyH_take (i := 17) (oi := ?o16) (v := ?v16) ?hi16 (by kernel_rfl) (by kernel_rfl) (by kernel_rfl) ?hq16 (Or.inl ⟨?hw16, ?hy16⟩) (by assumption) ?r16
   case hi16 => (simp only [List.getElem?_toArray, List.getElem?_cons_succ, List.getElem?_cons_zero]; exact rfl)
   case hq16 => exact fun _ _ _ h => h
   case hw16 => rfl
   case hy16 => (intro w hSw; (try dsimp only at hSw); go_simp; try exact rfl)
   simp only [Act.put, List.setIfInBounds_toArray, List.set_cons_zero, List.set_cons_succ]
   refine wpAnyH_take (i := 18) (oi := ?o17) (v := ?v17) ?hi17 (by kernel_rfl) (by kernel_rfl) (by kernel_rfl) ?hq17 (Or.inl ⟨?hw17, ?hy17⟩) (by assumption) ?r17
   case hi17 => (simp only [List.getElem?_toArray, List.getElem?_cons_succ, List.getElem?_cons_zero]; exact rfl)
   case hq17 => exact fun _ _ _ h => h
   case hw17 => rfl
   case hy17 => (intro w hSw; (try dsimp only at hSw); go_simp; try exact rfl)
   simp only [Act.put, List.setIfInBounds_toArray, List.set_cons_zero, List.set_cons_succ]
   refine wpAnyH_take (i := 19) (oi := ?o18) (v := ?v18) ?hi18 (by kernel_rfl) (by kernel_rfl) (by kernel_rfl) ?hq18 (Or.inl ⟨?hw18, ?hy18⟩) (by assumption) ?r18
   case hi18 => (simp only [List.getElem?_toArray, List.getElem?_cons_succ, List.getElem?_cons_zero]; exact rfl)
   case hq18 => exact fun _ _ _ h => h
   case hw18 => rfl
   case hy18 => (intro w hSw; (try dsimp only at hSw); go_simp; try exact rfl)
   simp only [Act.put, List.setIfInBounds_toArray, List.set_cons_zero, List.set_cons_succ]
   refine wpAnyH_done (by kernel_rfl) ?_ _
   refine NoPanic.normal ?_
   generalize rowOf s.now (hb + i) = xs at *
   go_wp2_with ((with_reducible refine sel 42 ?_); refine wpList_append_rd rfl (.tmp 40) (.tmp 41) 38 rfl N 5 Tryz.underlying38 info_u8 u (64 * k) _ rfl O3.out A3 64 c3 xs rfl R3.out (by omega) hN3 ?_; intro v7 w7 o7 g7; have B7 := Kept.mk (B3.out.trans (own_below O3.out g7 hN3)); clear g7)
   go_roundw
   case rel =>
    refine ⟨k + 1, _, by omega, rfl, by go_num, ⟨?_⟩, B7⟩
    have := o7.out
    rw [← ints_append, ← t3] at this
    exact this
   case measure => simp [intOf]; omega
  ·have hkM' : ¬ (i : Int) < M := by omega
   have PG := Kept.mk (PE.out _ _ k (by omega) O.out B.out)
   clear PE
   go_wp2_with fail
   refine cL.out.mono ?_
   rintro e w' ⟨rfl, rfl⟩
   clear cL
   go_wp2
   go_ret
   exact PG.out
end Go.Proofs.YtkbehjdglgpgjaaGreat.Journal
