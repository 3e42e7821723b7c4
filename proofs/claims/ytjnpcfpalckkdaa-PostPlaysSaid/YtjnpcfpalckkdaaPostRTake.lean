/-
  The document's post: Take.
-/
import Derived.Test.YtjnpcfpalckkdaaTakesU
import Derived.Test.YtjnpcfpalckkdaaPostCDrop
import Derived.Test.YtjnpcfpalckkdaaPostR1
import Derived.Test.YtjnpcfpalckkdaaAppC
import Derived.Test.YtjnpcfpalckkdaaCellTmp
import Derived.Test.YtjnpcfpalckkdaaLast
import Derived.Test.YtjnpcfpalckkdaaTakes
namespace Go.Proofs.Ytjnpcfpalckkdaa.Post
open Go.RowKit Go.Proofs.Ytjnpcfpalckkdaa.Sha

theorem pa_size_t : (Try.prog.info? 37).map (·.size) = some 2 := by kernel_rfl
section
variable {α : Type} {C : α → List Value} {s n : Nat} {w : World} {A : Option Addr} {l : List α}
theorem rc_take (r : Rc C s w A n l) (h : Nat) (hh : h ≤ n) : Rc C s w A h (l.take h) := by
  refine ⟨by rw [List.length_take, r.1]; omega, ?_⟩
  rcases r.2 with h0 | ⟨b, o, rfl, hx⟩
  · exact .inl (by omega)
  · refine .inr ⟨b, o, rfl, fun k x hk j v hv => ?_⟩
    rw [List.getElem?_take] at hk
    split at hk
    · exact hx k x hk j v hv
    · cases hk
theorem rc_drop {b o : Nat} {A' : Addr} (r : Rc C s w (some ⟨b, o, none⟩) n l) (k : Nat) (hA : k < n → A' = ⟨b, o + k * s, none⟩) : Rc C s w (some A') (n - k) (l.drop k) := by
  refine ⟨by rw [List.length_drop, r.1], ?_⟩
  by_cases hk : n ≤ k
  · exact .inl (by omega)
  · obtain ⟨b', o', e, hx⟩ := r.2.resolve_left (by omega)
    injection e with e
    injection e with e1 e2
    subst e1 e2
    refine .inr ⟨b, o + k * s, by rw [hA (by omega)], fun i x hi j v hv => ?_⟩
    rw [List.getElem?_drop] at hi
    have := hx (k + i) x hi j v hv
    rw [Nat.add_mul, ← Nat.add_assoc] at this
    exact this
end
set_option maxRecDepth 100000 in
set_option maxHeartbeats 1000000 in
theorem rtake_any {N x : Nat} {F : List Nat} {w : World} {m : Int} {l : List PV} (i : Int) (h : Ps 46 F N w x m l) : Calls Try.prog 14 #[.pointer (some ⟨x, 0, none⟩), .int .i64 i] w (ParP 46 F N x m (atP i l) (hasB i l) (delP i l) w) := by
  obtain ⟨w1, hw1⟩ : ∃ z, w.alloc (.cells #[.int .i64 0, .slice none 0 0] 37) = z := ⟨_, rfl⟩
  obtain ⟨R, hR⟩ : ∃ z, w.heap.size = z := ⟨_, rfl⟩
  have bb : Below w.heap.size w w1 := hw1 ▸ (Below.refl _ _).alloc (Nat.le_refl _) _
  have YR : Kept (Blk w1 R 37 #[.int .i64 0, .slice none 0 0]) := ⟨hw1 ▸ Blk.new_at w _ _ _ hR.symm⟩
  have H := Kept.mk (h.below bb)
  have CH := Kept.mk (rhas_any i H.out)
  have FB : Kept (Bar F w w1) := ⟨barOf bb _⟩
  have HRF : Kept (∀ k ∈ F, k ≠ R) := ⟨fun k hk => by have := (h.lt k hk).2; omega⟩
  have HR := Kept.mk hR
  clear bb hR
  obtain ⟨l2, hl2⟩ : ∃ z, delP i l = z := ⟨_, rfl⟩
  rw [hl2]
  by_cases hi : hasB i l = true
  · obtain ⟨k, rfl, hk⟩ := has_true hi
    rw [hi] at CH ⊢
    have H0 := H.out
    obtain ⟨q, hq0, P⟩ := H0
    have hm := P.most
    obtain ⟨B, cp, hcp1, hcp2, X, hF⟩ := P.pv
    rw [← hq0, List.length_map] at hk
    obtain ⟨g, p, rfl, hq, k0, k1, he, hv⟩ := X.at_ hk
    rw [← hq0, hv]
    rw [← hq0, ← del_val hk] at hl2
    have c1 : w1.cell? ⟨x, 1, none⟩ = some (.slice (some ⟨g, 0, none⟩) q.length cp) := X.blk.cell 1
    have hk' : (k : Int) < q.length := by omega
    have hq2 : q.length ≤ 200 := by omega
    have HL : Kept (((q.take k ++ q.drop (k + 1)).length : Int) ≤ m ∧ m ≤ 200) := ⟨by simp; omega⟩
    have SUB : Kept (∀ z ∈ q.take k ++ q.drop (k + 1), z ∈ q) := ⟨fun z hz => (List.mem_append.1 hz).elim (fun h => List.mem_of_mem_take h) (fun h => List.mem_of_mem_drop h)⟩
    have E := Kept.mk he
    obtain ⟨pt, pA, pn, pc, pb⟩ := p
    dsimp only [PA.val] at k0 k1
    have HV := Kept.mk hl2; have HF := Kept.mk hF
    clear hi hq hv he P hF hq0 h hl2 hm
    have hR := HR.out
    go_enter Try.func14, Try.ntmps14
    go_upto_region 1 with (fail)
    clear hw1
    go_wp2_with fail
    refine CH.out.mono ?_
    rintro e w2 ⟨rfl, rfl⟩
    clear CH hR
    obtain ⟨M, hM⟩ : ∃ z, w1.heap.size = z := ⟨_, rfl⟩
    have bb : Below w1.heap.size w1 (w1.alloc (.cells #[.int .i64 pt, .slice pA pn pc] 37)) := (Below.refl _ _).alloc (Nat.le_refl _) _
    have HMF : Kept (∀ k ∈ F, k ≠ M) := ⟨fun k hk => by have := (H.out.lt k hk).2; omega⟩
    have HM : Kept (w.heap.size ≤ M) := ⟨by have := FB.out.size; omega⟩
    have hRM : R ≠ M := by have := YR.out.lt; omega
    have YM := Kept.mk (Blk.new_at w1 37 #[.int .i64 pt, .slice pA pn pc] M hM.symm)
    replace YR := Kept.mk (YR.out.below bb YR.out.lt)
    replace X := Kept.mk (X.below bb)
    replace FB := Kept.mk (FB.out.trans (barOf bb []) (by simp))
    replace E := Kept.mk (E.out.keep (barOf bb []) (fun _ h => by cases h))
    clear bb H
    go_upto_region 4 with (fail)
    clear hM k0 k1 c1
    generalize w1.alloc (.cells #[.int .i64 pt, .slice pA pn pc] 37) = w3 at *
    refine wp_region_noPanic ?_
    have bb : Below w3.heap.size w3 w3.drew := (Below.refl _ _).drew
    replace YR := Kept.mk YR.out.drew; replace YM := Kept.mk YM.out.drew
    replace X := Kept.mk (X.out.below bb)
    replace FB := Kept.mk (FB.out.trans (barOf bb []) (by simp))
    replace E := Kept.mk (E.out.keep (barOf bb []) (fun _ h => by cases h))
    have hS0 : w3.drew.cell? ⟨x, 1, none⟩ = some (.slice (some ⟨g, 0, none⟩) q.length cp) := X.out.blk.cell 1
    refine wp_region_U 19 (S := fun u : World => u.cell? ⟨x, 1, none⟩ = some (.slice (some ⟨g, 0, none⟩) q.length cp)) (by kernel_rfl) hS0 (fun hS0 => ?_)
    clear bb
    generalize w3.drew = w4 at *
    have s0 := pa_h g 0 q.length cp k (by omega) hcp1 (k : Int) rfl
    obtain ⟨A2, s2, hA2⟩ := pa_l g 0 q.length cp (k + 1) hk hcp1 ((k : Int) + 1) (by omega)
    have HA := Kept.mk hA2
    clear hA2
    have hwr : IntKind.i64.wrap ((k : Int) + 1) = (k : Int) + 1 := by simp only [IntKind.wrap_i64]; omega
    refine tkU 0 (by assumption) ?_
    simp only [Act.put, List.setIfInBounds_toArray, List.set_cons_zero, List.set_cons_succ]
    refine tkU 2 (by assumption) ?_
    simp only [Act.put, List.setIfInBounds_toArray, List.set_cons_zero, List.set_cons_succ]
    refine tkU 3 (by assumption) ?_
    simp only [Act.put, List.setIfInBounds_toArray, List.set_cons_zero, List.set_cons_succ]
    refine tkU 4 (by assumption) ?_
    simp only [Act.put, List.setIfInBounds_toArray, List.set_cons_zero, List.set_cons_succ]
    refine tkU 5 (by assumption) ?_
    simp only [Act.put, List.setIfInBounds_toArray, List.set_cons_zero, List.set_cons_succ]
    refine tkU 6 (by assumption) ?_
    simp only [Act.put, List.setIfInBounds_toArray, List.set_cons_zero, List.set_cons_succ]
    refine tkU 7 (by assumption) ?_
    simp only [Act.put, List.setIfInBounds_toArray, List.set_cons_zero, List.set_cons_succ]
    refine tkU 9 (by assumption) ?_
    simp only [Act.put, List.setIfInBounds_toArray, List.set_cons_zero, List.set_cons_succ]
    refine tkU 10 (by assumption) ?_
    simp only [Act.put, List.setIfInBounds_toArray, List.set_cons_zero, List.set_cons_succ]
    refine tkU 11 (by assumption) ?_
    simp only [Act.put, List.setIfInBounds_toArray, List.set_cons_zero, List.set_cons_succ]
    refine tkU 12 (by assumption) ?_
    simp only [Act.put, List.setIfInBounds_toArray, List.set_cons_zero, List.set_cons_succ]
    refine tkU 13 (by assumption) ?_
    simp only [Act.put, List.setIfInBounds_toArray, List.set_cons_zero, List.set_cons_succ]
    refine tkU 14 (by assumption) ?_
    simp only [Act.put, List.setIfInBounds_toArray, List.set_cons_zero, List.set_cons_succ]
    refine tkU 15 (by assumption) ?_
    simp only [Act.put, List.setIfInBounds_toArray, List.set_cons_zero, List.set_cons_succ]
    clear hwr s0 s2
    refine ldU 1 (fun K hK => ?_)
    go_simp
    obtain ⟨Z, hZ⟩ : ∃ z, w4.heap.size = z := ⟨_, rfl⟩
    rw [hZ]
    have own0 := World.ownsRow_made (base := Z) (e := 37) (size := 2) w4 #[] 0 (by omega) (by unfold maxLen; omega) rfl
    rw [hZ] at own0
    obtain ⟨A0, c0, ev, -, -, rc⟩ := Rc.own paC_len X.out.row rfl
    injection ev with ev1 _ ev3
    subst ev1 ev3
    have RT := Kept.mk (rc_take rc k (by omega))
    have RD := Kept.mk (rc_drop rc (k + 1) (fun h => HA.out (by omega)))
    have OW := Kept.mk own0
    have BW : Kept (Below Z w4 (w4.alloc (.cells #[] 37))) := ⟨(Below.refl _ _).alloc (by omega) _⟩
    have hS1 : (w4.alloc (.cells #[] 37)).cell? ⟨x, 1, none⟩ = some (.slice (some ⟨g, 0, none⟩) q.length cp) := (X.out.below (hZ.symm ▸ BW.out)).blk.cell 1
    have HZ := Kept.mk hZ
    refine hK.out _ _ (fun _ => hS1) (fun _ => ?_)
    clear hK K hS0 own0 rc HA hZ
    try simp only [Act.put, List.setIfInBounds_toArray, List.set_cons_zero, List.set_cons_succ]
    generalize (w4.alloc (.cells #[] 37)) = w5 at *
    obtain ⟨iu, hiu, hz0, hz1, hz2⟩ := info_parts info_pa
    refine ldU 8 (fun K hK => ?_)
    refine step_append_rc (by rfl) _ _ _ (by rfl) Z 37 iu (.agg #[.int .i64 0, .slice none 0 0]) 32 Try.underlying44 hiu hz0 hz1 hz2 rfl (by omega) (.slice (some ⟨Z, 0, none⟩) 0 0) 0 [] (by rfl) OW.out
      (some ⟨g, 0, none⟩) k cp (q.take k) (by rfl) (RT.out.below (HZ.out.symm ▸ BW.out)) paC_len paC_one (by unfold maxLen; omega) (by omega) (by have := OW.out.lt Z rfl; omega) ?_
    intro v1 w6 ho hgr hat
    obtain ⟨A1, c1, rfl⟩ := own_shape ho
    replace BW := Kept.mk (BW.out.trans (own_below OW.out hgr (by have := OW.out.lt Z rfl; omega)))
    replace OW := Kept.mk (show w6.ownsRow Z 37 2 (.slice A1 (0 + k) c1) (0 + k) ((q.take k).flatMap paC) from by simpa using ho)
    have hS2 : w6.cell? ⟨x, 1, none⟩ = some (.slice (some ⟨g, 0, none⟩) q.length cp) := (X.out.below (HZ.out.symm ▸ BW.out)).blk.cell 1
    have hZ6 : Kept (Z ≤ w6.heap.size) := ⟨by have := BW.out.size; have := HZ.out; omega⟩
    refine hK.out _ _ (fun _ => hS2) (fun _ => ?_)
    clear hK K hS1 ho hgr hat
    try simp only [Act.put, List.setIfInBounds_toArray, List.set_cons_zero, List.set_cons_succ]
    refine ldU 16 (fun K hK => ?_)
    refine step_append_rc (by rfl) _ _ _ (by rfl) Z 37 iu (.agg #[.int .i64 0, .slice none 0 0]) 32 Try.underlying44 hiu hz0 hz1 hz2 rfl (by omega) (.slice A1 (0 + k) c1) (0 + k) _ (by rfl) OW.out
      (some A2) (q.length - (k + 1)) (cp - (k + 1)) (q.drop (k + 1)) (by rfl) (RD.out.below (HZ.out.symm ▸ BW.out)) paC_len paC_one (by unfold maxLen; omega) (by omega) hZ6.out ?_
    intro v2 w7 ho hgr hat
    obtain ⟨A3, c3, rfl⟩ := own_shape ho
    replace BW := Kept.mk (BW.out.trans (own_below OW.out hgr hZ6.out))
    have hln : (q.take k ++ q.drop (k + 1)).length = 0 + k + (q.length - (k + 1)) := by simp; omega
    have TU := Kept.mk (X.out.turn (w' := w7) (v' := .slice A3 (0 + k + (q.length - (k + 1))) c3) (q' := q.take k ++ q.drop (k + 1)) (G := []) (by decide) (by decide) (barOf (HZ.out.symm ▸ BW.out) []) (by simp) (by
      unfold Prw
      rw [hln, List.flatMap_append]
      refine ⟨ho.1, ho.2.imp id ?_⟩
      rintro ⟨g', cap, cur, a1, a2, a3⟩
      exact ⟨g', cap, cur, a1, by have := X.out.least; have := X.out.blk.lt; have := HZ.out; omega, a3⟩) (fun z hz => X.out.each z (SUB.out z hz)) (fun z hz => .inr (by rw [HZ.out]; exact (ho.lt z (by simpa using hz)).1)))
    have y1 : w7.cell? ⟨x, 1, none⟩ = some (.slice (some ⟨g, 0, none⟩) q.length cp) := TU.out.1.cell 1
    have f1 := TU.out.1.frozen 1
    simp only [Nat.zero_add] at TU
    clear ho hgr hat hln hS2 OW RT RD hiu hz0 hz1 hz2
    refine hK.out _ _ (fun _ => y1) (fun _ => ?_)
    clear hK K
    try simp only [Act.put, List.setIfInBounds_toArray, List.set_cons_zero, List.set_cons_succ]
    refine ldU 17 (fun K hK => ?_)
    go_simp
    refine hK.out _ _ (fun _ => y1) (fun _ => ?_)
    clear hK K
    try simp only [Act.put, List.setIfInBounds_toArray, List.set_cons_zero, List.set_cons_succ]
    refine ldU 18 (fun K hK => ?_)
    go_simp
    refine hK.out _ _ (fun _ => y1) (fun _ => ?_)
    clear hK K
    try simp only [Act.put, List.setIfInBounds_toArray, List.set_cons_zero, List.set_cons_succ]
    refine ldU 19 (fun K hK => ?_)
    go_simp
    refine hK.out _ _ (fun h => absurd rfl h) (fun _ => ?_)
    clear hK K
    try simp only [Act.put, List.setIfInBounds_toArray, List.set_cons_zero, List.set_cons_succ]
    refine wpAnyU_done (by kernel_rfl) ?_ _
    refine NoPanic.normal ?_
    have P2 : Kept (Ps 46 (x :: (Value.slice A3 (k + (q.length - (k + 1))) c3).ownBlock.toList) N (w7.setCell ⟨x, 1, none⟩ (.slice A3 (k + (q.length - (k + 1))) c3)) x m l2) := ⟨_, HV.out, TU.out.2.1.po HL.out⟩
    have FP : Kept (Fp F (x :: (Value.slice A3 (k + (q.length - (k + 1))) c3).ownBlock.toList) w4 (w7.setCell ⟨x, 1, none⟩ (.slice A3 (k + (q.length - (k + 1))) c3))) := ⟨HF.out ▸ TU.out.2.2⟩
    have nF : Nb w4 F := HF.out ▸ X.out.nb (by decide)
    have hRl := YR.out.lt
    have RF2 : Kept (R ∉ x :: (Value.slice A3 (k + (q.length - (k + 1))) c3).ownBlock.toList) := ⟨fun hm => by
      rcases FP.out.2 R hm with e | e
      · exact HRF.out R e rfl
      · omega⟩
    replace YR := Kept.mk (YR.out.bar FP.out.1 (fun hm => HRF.out R hm rfl))
    replace YM := Kept.mk (YM.out.bar FP.out.1 (fun hm => HMF.out M hm rfl))
    replace E := Kept.mk (E.out.keep FP.out.1 nF)
    replace FP : Kept (Fp F (x :: (Value.slice A3 (k + (q.length - (k + 1))) c3).ownBlock.toList) w (w7.setCell ⟨x, 1, none⟩ (.slice A3 (k + (q.length - (k + 1))) c3))) := ⟨FB.out.trans FP.out.1 (fun _ h => .inl h), fun z hz => (FP.out.2 z hz).imp id (fun h => by have := FB.out.size; omega)⟩
    clear nF hRl TU HV HL X FB HRF HMF BW y1 f1 SUB HZ hZ6
    generalize w7.setCell ⟨x, 1, none⟩ (.slice A3 (k + (q.length - (k + 1))) c3) = w8 at *
    have m0 : w8.cell? ⟨M, 0, none⟩ = some (.int .i64 pt) := YM.out.cell 0
    have m1 : w8.cell? ⟨M, 1, none⟩ = some (.slice pA pn pc) := YM.out.cell 1
    have y0 : w8.cell? ⟨R, 0, none⟩ = some (.int .i64 0) := YR.out.cell 0
    have y1 : w8.cell? ⟨R, 1, none⟩ = some (.slice none 0 0) := YR.out.cell 1
    have z0 := YR.out.frozen 0; have z1 := YR.out.frozen 1
    have PP := Kept.mk (put2 YR.out (.int .i64 pt) (.slice pA pn pc))
    have nR : Kept (Nb w8 [R]) := ⟨fun z hz => by rw [List.mem_singleton] at hz; subst hz; exact ⟨_, _, _, YR.out, by decide⟩⟩
    go_wp2
    refine bodyPost_ret (Sha.results_cell_tmp rfl _ _ R 37 #[.int .i64 pt, .slice pA pn pc] (0, 0) _ rfl PP.out.1 Try.underlying37 rfl pa_size_t) rfl ?_
    exact ⟨pA, pn, pc, _, rfl, E.out.1, E.out.2.1, E.out.2.2.2.keep PP.out.2 nR.out, P2.out.keep PP.out.2 (fun z hz hm => RF2.out (by rw [List.mem_singleton] at hm; exact hm ▸ hz)) nR.out, FP.out.1.trans PP.out.2 (fun z hz => .inr (by rw [List.mem_singleton] at hz; subst hz; exact Nat.le_of_eq HR.out)), FP.out.2⟩
  · have hi' : hasB i l = false := by simpa using hi
    have ha : atP i l = zeroP := by unfold atP; rw [if_neg hi]
    rw [hi'] at CH ⊢
    rw [ha]
    unfold delP at hl2
    rw [if_neg hi] at hl2
    subst hl2
    clear hi hi' ha h
    have hR := HR.out
    have y0 : w1.cell? ⟨R, 0, none⟩ = some (.int .i64 0) := YR.out.cell 0
    have y1 : w1.cell? ⟨R, 1, none⟩ = some (.slice none 0 0) := YR.out.cell 1
    have z0 := YR.out.frozen 0; have z1 := YR.out.frozen 1
    have PP := Kept.mk (put2 YR.out (.int .i64 0) (.slice none 0 0))
    have nR : Kept (Nb w1 [R]) := ⟨fun z hz => by rw [List.mem_singleton] at hz; subst hz; exact ⟨_, _, _, YR.out, by decide⟩⟩
    go_enter Try.func14, Try.ntmps14
    go_upto_region 1 with (fail)
    clear hw1
    go_wp2_with fail
    refine CH.out.mono ?_
    rintro e w2 ⟨rfl, rfl⟩
    clear CH
    go_wp2
    refine bodyPost_ret (Sha.results_cell_tmp rfl _ _ R 37 #[.int .i64 0, .slice none 0 0] (0, 0) _ rfl PP.out.1 Try.underlying37 rfl pa_size_t) rfl ?_
    exact ⟨none, 0, 0, F, rfl, Nat.le_refl _, by omega, Rb.nil, H.out.keep PP.out.2 (fun z hz hm => HRF.out z hz (by simpa using hm)) nR.out, FB.out.trans PP.out.2 (fun z hz => .inr (by rw [List.mem_singleton] at hz; subst hz; exact Nat.le_of_eq HR.out)), fun _ h => .inl h⟩
end Go.Proofs.Ytjnpcfpalckkdaa.Post
