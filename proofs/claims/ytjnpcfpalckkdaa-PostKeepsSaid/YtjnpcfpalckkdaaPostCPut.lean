/-
  Package post: Put.
-/
import Derived.Test.YtjnpcfpalckkdaaTakesU
import Derived.Test.YtjnpcfpalckkdaaPostDel
import Derived.Test.YtjnpcfpalckkdaaClone
import Derived.Test.YtjnpcfpalckkdaaTakes
import Derived.Test.YtjnpcfpalckkdaaLast
import Derived.Deep.AppendLies
namespace Go.Proofs.Ytjnpcfpalckkdaa.Post
open Go.RowKit Go.Proofs.Ytjnpcfpalckkdaa.Sha

section
variable {N x n c : Nat} {F : List Nat} {w : World} {m : Int} {l : List PV} {A : Option Addr} {b : List Int}
set_option maxRecDepth 100000 in
set_option maxHeartbeats 1000000 in
theorem cput_of {q : List PA} (to : Int) (P : Po 52 F N w x m q) (r : Rd w A n b) : Calls Try.prog 11 #[.pointer (some ⟨x, 0, none⟩), .int .i64 to, .slice A n c] w (NumQ 52 F N x m q (.int .i64 (putE m (q.map PA.val) b)) (putP m (q.map PA.val) to b) w) := by
  have hbn := r.1
  obtain ⟨er, her⟩ : ∃ z, putE m (q.map PA.val) b = z := ⟨_, rfl⟩
  obtain ⟨l2, hl2⟩ : ∃ z, putP m (q.map PA.val) to b = z := ⟨_, rfl⟩
  rw [her, hl2]
  unfold putP at hl2
  rw [her] at hl2
  unfold putE at her
  rw [List.length_map, hbn] at her
  have KE : Kept (er ≠ 0 → ∀ w', Below w.heap.size w w' → q.map PA.val = l2 ∧ Po 52 F N w' x m q ∧ (∀ p ∈ q, p ∈ q ∨ NewA w p.A) ∧ Fp F F w w') := ⟨fun h w' bb => by rw [if_neg h] at hl2; exact ⟨hl2, P.below bb, fun _ h => .inl h, barOf bb _, fun _ h => .inl h⟩⟩
  have KL : Kept (er = 0 → l2 = q.map PA.val ++ [⟨to, b⟩]) := ⟨fun h => by rw [if_pos h] at hl2; exact hl2.symm⟩
  have hmm := P.most
  obtain ⟨B, cp, hcp1, hcp2, X, hF⟩ := P.pv
  have c0 : w.cell? ⟨x, 0, none⟩ = some (.int .i64 m) := X.blk.cell 0
  have c1 : w.cell? ⟨x, 1, none⟩ = some (.slice B q.length cp) := X.blk.cell 1
  replace X := Kept.mk X; have HF := Kept.mk hF; have R := Kept.mk r
  clear hF r hbn hl2 P
  by_cases hm : (q.length : Int) = m
  · rw [if_pos hm] at her
    subst her
    have q1 : ((q.length : Int) == m) = true := by simpa using hm
    clear hm hmm
    go_enter Try.func11, Try.ntmps11
    go_upto_region 1 with (fail)
    go_quiet (fail)
    go_wp2
    go_ret
    exact ⟨F, q, rfl, KE.out (by omega) _ (below_drewN (Below.refl _ _) _)⟩
  · rw [if_neg hm] at her
    have q1 : ((q.length : Int) == m) = false := by simpa using hm
    by_cases hn : 60100 < n
    · rw [if_pos (by omega)] at her
      subst her
      have hn' : (60100 : Int) < n := by omega
      clear hm hmm
      go_enter Try.func11, Try.ntmps11
      go_upto_region 1 with (fail)
      go_quiet (fail)
      go_wp2
      go_ret
      exact ⟨F, q, rfl, KE.out (by omega) _ (below_drewN (Below.refl _ _) _)⟩
    · rw [if_neg (by omega)] at her
      subst her
      have hn' : ((60100 : Int) < n) = False := eq_false (by omega)
      have HM := Kept.mk (show (q.length : Int) + 1 ≤ m ∧ m ≤ 200 by omega)
      clear hm hmm KE
      go_enter Try.func11, Try.ntmps11
      go_upto_region 1 with (fail)
      go_quiet (fail)
      go_upto_region 5 with (fail)
      refine wp_region_noPanic ?_
      have bb : Below w.heap.size w (w.drewN nq).drew := (below_drewN (Below.refl _ _) nq).drew
      replace X := Kept.mk (X.out.below bb); replace R := Kept.mk (R.out.below bb)
      have FP : Kept (Fp F F w (w.drewN nq).drew) := ⟨barOf bb _, fun _ h => .inl h⟩
      have hS0 : (w.drewN nq).drew.cell? ⟨x, 1, none⟩ = some (.slice B q.length cp) := X.out.blk.cell 1
      refine wp_region_U 13 (S := fun u : World => u.cell? ⟨x, 1, none⟩ = some (.slice B q.length cp)) (by kernel_rfl) hS0 (fun hS0 => ?_)
      clear bb c0 c1 q1
      generalize (w.drewN nq).drew = w5 at *
      have EV := clone_any A n c b w5 R.out (by omega)
      unfold NewRow at EV
      replace EV := Kept.mk EV
      refine tkU 0 (by assumption) ?_
      simp only [Act.put, List.setIfInBounds_toArray, List.set_cons_zero, List.set_cons_succ]
      refine tkU 1 (by assumption) ?_
      simp only [Act.put, List.setIfInBounds_toArray, List.set_cons_zero, List.set_cons_succ]
      refine tkU 2 (by assumption) ?_
      simp only [Act.put, List.setIfInBounds_toArray, List.set_cons_zero, List.set_cons_succ]
      refine tkU 3 (by assumption) ?_
      simp only [Act.put, List.setIfInBounds_toArray, List.set_cons_zero, List.set_cons_succ]
      refine tkU 4 (by assumption) ?_
      simp only [Act.put, List.setIfInBounds_toArray, List.set_cons_zero, List.set_cons_succ]
      refine tkU 5 (by assumption) ?_
      simp only [Act.put, List.setIfInBounds_toArray, List.set_cons_zero, List.set_cons_succ]
      refine tkU 6 (by assumption) ?_
      simp only [Act.put, List.setIfInBounds_toArray, List.set_cons_zero, List.set_cons_succ]
      refine ldU 7 (fun K hK => ?_)
      go_simp
      go_at_call 24
      refine EV.out.mono ?_
      rintro e w6 ⟨v6, rfl, o6, bb⟩
      obtain ⟨A6, c6, rfl⟩ := own_shape o6
      have RB := Kept.mk (Rb.own o6 R.out.2.1)
      have NA : Kept (NewA w A6) := ⟨own_newA o6 (Nat.le_trans FP.out.1.size bb.size |> fun h => by have := FP.out.1.size; omega)⟩
      replace X := Kept.mk (X.out.below bb)
      replace FP := Kept.mk (Fp.trans FP.out ⟨barOf bb _, fun _ hk => .inl hk⟩)
      have hS1 : w6.cell? ⟨x, 1, none⟩ = some (.slice B q.length cp) := X.out.blk.cell 1
      refine hK.out _ _ (fun _ => hS1) (fun _ => ?_)
      clear hK K hS0 EV bb o6 R
      try simp only [Act.put, List.setIfInBounds_toArray, List.set_cons_zero, List.set_cons_succ]
      refine tkU 8 (by assumption) ?_
      simp only [Act.put, List.setIfInBounds_toArray, List.set_cons_zero, List.set_cons_succ]
      refine ldU 9 (fun K hK => ?_)
      go_simp
      have bb : Below w6.heap.size w6 (w6.alloc (.cells #[.int .i64 to, .slice A6 n c6] 37)) := (Below.refl _ _).alloc (Nat.le_refl _) _
      have NW := Kept.mk (World.news_of_block (cs := #[.int .i64 to, .slice A6 n c6]) (t := 37) (fr := (0, 0)) (heap_alloc_new w6 _))
      replace X := Kept.mk (X.out.below bb)
      replace RB := Kept.mk (show Ec _ ⟨to, A6, n, c6, b⟩ from ⟨RB.out.1, RB.out.2.1, Nat.le_of_not_lt hn, RB.out.2.2.below bb⟩)
      replace FP := Kept.mk (Fp.trans FP.out ⟨barOf bb _, fun _ hk => .inl hk⟩)
      have hS2 : (w6.alloc (.cells #[.int .i64 to, .slice A6 n c6] 37)).cell? ⟨x, 1, none⟩ = some (.slice B q.length cp) := X.out.blk.cell 1
      refine hK.out _ _ (fun _ => hS2) (fun _ => ?_)
      clear hK K bb hS1
      try simp only [Act.put, List.setIfInBounds_toArray, List.set_cons_zero, List.set_cons_succ]
      generalize (w6.alloc (.cells #[.int .i64 to, .slice A6 n c6] 37)) = w7 at *
      generalize w6.heap.size = gB at *
      obtain ⟨iu, hi, hz0, hz1, hz2⟩ := info_parts info_pa
      have hNx := X.out.least; have hxl := X.out.blk.lt
      refine ldU 10 (fun K hK => ?_)
      refine step_append_lies _ (by rfl) _ _ _ (by rfl) N 37 iu (.agg #[.int .i64 0, .slice none 0 0]) 2 32 Try.underlying44 hi hz0 hz1 hz2 rfl (by omega) (.slice B q.length cp) q.length (q.flatMap paC) (by rfl) X.out.row
        ⟨gB, 0, none⟩ 1 1 (paC ⟨to, A6, n, c6, b⟩) (by rfl) (by rfl) NW.out (paC_one _) (by have := HM.out; omega) (by unfold maxLen; have := HM.out; omega) (by have := HM.out; omega) (by omega) w7.heap.size rfl ?_
      intro gg cg w8 hown hgrow hat hlt
      have PS := Kept.mk (X.out.push (by decide) (by decide) hgrow hown (hat.imp (fun h => h.symm) (fun h1 => by rw [h1]; rfl)) RB.out)
      have y1 : w8.cell? ⟨x, 1, none⟩ = some (.slice B q.length cp) := PS.out.1.cell 1
      have f1 := PS.out.1.frozen 1
      replace FP := Kept.mk (Fp.trans (HF.out ▸ FP.out) PS.out.2.2)
      clear hown hgrow hat hlt NW hi hz0 hz1 hz2 X hS2 hNx hxl RB
      refine hK.out _ _ (fun _ => y1) (fun _ => ?_)
      clear hK K
      try simp only [Act.put, List.setIfInBounds_toArray, List.set_cons_zero, List.set_cons_succ]
      refine ldU 11 (fun K hK => ?_)
      go_simp
      refine hK.out _ _ (fun _ => y1) (fun _ => ?_)
      clear hK K
      try simp only [Act.put, List.setIfInBounds_toArray, List.set_cons_zero, List.set_cons_succ]
      refine ldU 12 (fun K hK => ?_)
      go_simp
      refine hK.out _ _ (fun _ => y1) (fun _ => ?_)
      clear hK K
      try simp only [Act.put, List.setIfInBounds_toArray, List.set_cons_zero, List.set_cons_succ]
      refine ldU 13 (fun K hK => ?_)
      go_simp
      refine hK.out _ _ (fun h => absurd rfl h) (fun _ => ?_)
      clear hK K
      try simp only [Act.put, List.setIfInBounds_toArray, List.set_cons_zero, List.set_cons_succ]
      refine wpAnyU_done (by kernel_rfl) ?_ _
      refine NoPanic.normal ?_
      have PE : Kept (∃ q', q'.map PA.val = l2 ∧ Po 52 (x :: (Value.slice (some ⟨gg, 0, none⟩) (q.length + 1) cg).ownBlock.toList) N (w8.setCell ⟨x, 1, none⟩ (.slice (some ⟨gg, 0, none⟩) (q.length + 1) cg)) x m q' ∧ ∀ p ∈ q', p ∈ q ∨ NewA w p.A) := ⟨q ++ [⟨to, A6, n, c6, b⟩], by rw [KL.out rfl, List.map_append]; rfl, PS.out.2.1.po (by rw [List.length_append, List.length_singleton]; exact ⟨by have := HM.out; omega, HM.out.2⟩), fun p hp => (List.mem_append.1 hp).imp id (fun h => by rw [List.mem_singleton] at h; subst h; exact NA.out)⟩
      clear PS y1 f1 KL
      go_wp2
      go_ret
      obtain ⟨q', e1, e2, e3⟩ := PE.out
      exact ⟨_, q', rfl, e1, e2, e3, HF.out ▸ FP.out⟩
theorem cput_any (to : Int) (h : Ps 52 F N w x m l) (r : Rd w A n b) : Calls Try.prog 11 #[.pointer (some ⟨x, 0, none⟩), .int .i64 to, .slice A n c] w (NumP 52 F N x m (.int .i64 (putE m l b)) (putP m l to b) w) := by
  obtain ⟨q, rfl, P⟩ := h
  refine (cput_of to P r).mono ?_
  rintro e w' ⟨F', q', rfl, e1, e2, -, e3⟩
  exact ⟨F', rfl, ⟨q', e1, e2⟩, e3⟩
end
end Go.Proofs.Ytjnpcfpalckkdaa.Post
