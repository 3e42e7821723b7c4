/-
  The law FrameTells, walked over contracts.
-/
import Derived.Test.YtimdbljagpbecaaPart3
namespace Go.Proofs.Ytimdbljagpbecaa.Frame
open Go.RowKit Go.Proofs.Ytimdbljagpbecaa.Sha Go.Proofs.Ytimdbljagpbecaa.Wire

set_option maxRecDepth 100000 in
set_option maxHeartbeats 1000000 in
theorem ftells_walk (api : FrameApi) (f : FV) (A : Option Addr) (n cap : Nat) (z : Int) (w : World) (hr : Rd w A n f.body) (hc : n ≤ cap) (hcm : cap ≤ 9223372036854775807) :
    Calls Try.prog 3 #[frv f A n cap, .int .i64 z] w fun e w' => e = .returned (.bool true) ∧ Below w.heap.size w w' := by
  obtain ⟨N, hN⟩ : ∃ N, w.heap.size = N := ⟨_, rfl⟩
  rw [hN]
  have HR := Kept.mk hr
  have cf := Kept.mk fun w => ffirst_any api w
  have X1 := Blk.new_at w 24 #[.int .i64 f.kind, .int .i64 f.gen, .int .i64 f.seq, .slice A n cap] N hN.symm
  have B1 : Below N w (w.alloc (.cells #[.int .i64 f.kind, .int .i64 f.gen, .int .i64 f.seq, .slice A n cap] 24)) := (Below.refl _ _).alloc (by omega) _
  have HX1 := Kept.mk X1; have HB1 := Kept.mk B1
  unfold frv
  clear hr X1 B1
  by_cases hbig : 70000 < n
  · have hbig' : (70000 : Int) < n := by omega
    go_enter Try.func3, Try.ntmps3
    go_wp2_with fail
    generalize w.alloc (.cells #[.int .i64 f.kind, .int .i64 f.gen, .int .i64 f.seq, .slice A n cap] 24) = w1 at *
    refine (cf.out _).mono ?_
    rintro x w2 ⟨rfl, b2⟩
    have X2 := HX1.out.below b2 HX1.out.lt
    have x3 := X2.cell 3
    have B2 := Kept.mk (HB1.out.trans (b2.mono (by have := HX1.out.lt; omega)))
    clear X2 b2
    go_wp2_with fail
    refine (cf.out _).mono ?_
    rintro x w3 ⟨rfl, b3⟩
    have B3 := Kept.mk (B2.out.trans (b3.mono (by have := B2.out.size; omega)))
    clear b3
    go_wp2
    go_ret
    exact ⟨rfl, B3.out⟩
  · have hbig' : ((70000 : Int) < n) = False := eq_false (by omega)
    go_enter Try.func3, Try.ntmps3
    go_wp2_with fail
    generalize w.alloc (.cells #[.int .i64 f.kind, .int .i64 f.gen, .int .i64 f.seq, .slice A n cap] 24) = w1 at *
    refine (cf.out _).mono ?_
    rintro x w2 ⟨rfl, b2⟩
    have X2 := HX1.out.below b2 HX1.out.lt
    have x0 := X2.cell 0; have x1 := X2.cell 1; have x2 := X2.cell 2; have x3 := X2.cell 3
    have B2 := Kept.mk (HB1.out.trans (b2.mono (by have := HX1.out.lt; omega)))
    have HX2 := Kept.mk X2
    clear X2 b2 HB1 HX1
    go_upto_region 5 with (fail)
    refine wp_region_noPanic ?_
    refine wp_region_held_drew (S := fun w' : World => w'.cell? ⟨N, 0, none⟩ = some (.int .i64 f.kind) ∧ w'.cell? ⟨N, 1, none⟩ = some (.int .i64 f.gen) ∧ w'.cell? ⟨N, 2, none⟩ = some (.int .i64 f.seq) ∧ w'.cell? ⟨N, 3, none⟩ = some (.slice A n cap)) (by kernel_rfl) ⟨x0, x1, x2, x3⟩ (fun _ => ?_)
    have CS : ∀ {u : World}, Blk u N 24 #[.int .i64 f.kind, .int .i64 f.gen, .int .i64 f.seq, .slice A n cap] → u.cell? ⟨N, 0, none⟩ = some (.int .i64 f.kind) ∧ u.cell? ⟨N, 1, none⟩ = some (.int .i64 f.gen) ∧ u.cell? ⟨N, 2, none⟩ = some (.int .i64 f.seq) ∧ u.cell? ⟨N, 3, none⟩ = some (.slice A n cap) := fun h => ⟨h.cell 0, h.cell 1, h.cell 2, h.cell 3⟩
    have X3 := HX2.out.drew
    have B3 := B2.out.drew
    clear x0 x1 x2 x3 HX2 B2
    generalize w2.drew = w3 at *
    refine wpAnyH_take (i := 1) (oi := ?o39) (v := ?v39) ?hi39 (by kernel_rfl) (by kernel_rfl) (by kernel_rfl) ?hq39 (Or.inl ⟨?hw39, ?hy39⟩) (by assumption) ?r39
    case hi39 => (simp only [List.getElem?_toArray, List.getElem?_cons_succ, List.getElem?_cons_zero]; exact rfl)
    case hq39 => exact fun _ _ _ h => h
    case hw39 => rfl
    case hy39 => (intro w hSw; (try dsimp only at hSw); go_simp; try exact rfl)
    simp only [Act.put, List.setIfInBounds_toArray, List.set_cons_zero, List.set_cons_succ]
    refine wpAnyH_ready (rs := [0]) (by kernel_rfl) (by simp) ?_
    refine AllReadyH.cons (o := ?o45) ?hi45 (fun K hK => ?_) AllReadyH.nil
    case hi45 => (simp only [List.getElem?_toArray, List.getElem?_cons_zero]; exact rfl)
    go_simp
    go_at_call 10
    refine (newtable_any w3).mono ?_
    rintro e w4 ⟨rfl, rfl⟩
    obtain ⟨t, ht⟩ : ∃ t, w3.heap.size = t := ⟨_, rfl⟩
    rw [ht]
    have hNt : N < t := by rw [← ht]; exact X3.lt
    have hT : Tab (w3.alloc (.cells (tbl (.int .u32 0) (.int .i32 0) (.int .u32 0) 0 0) 63)) t := .inl (Blk.new_at _ _ _ t ht.symm)
    have B4 : Below N w (w3.alloc (.cells (tbl (.int .u32 0) (.int .i32 0) (.int .u32 0) 0 0) 63)) := B3.alloc (by omega) _
    have X4 := X3.alloc (.cells (tbl (.int .u32 0) (.int .i32 0) (.int .u32 0) 0 0) 63)
    generalize w3.alloc (.cells (tbl (.int .u32 0) (.int .i32 0) (.int .u32 0) 0 0) 63) = w4 at *
    refine hK.out _ _ (CS X4) (fun _ => ?_)
    clear hK K X3 B3 ht
    try simp only [Act.put, List.setIfInBounds_toArray, List.set_cons_zero, List.set_cons_succ]
    refine wpAnyH_ready (rs := [2]) (by kernel_rfl) (by simp) ?_
    refine AllReadyH.cons (o := ?o46) ?hi46 (fun K hK => ?_) AllReadyH.nil
    case hi46 => (simp only [List.getElem?_toArray, List.getElem?_cons_succ, List.getElem?_cons_zero]; exact rfl)
    go_simp
    have CP := api.put (f := f) (c := cap) hT (HR.out.below (hN ▸ B4)) hc hcm (by omega) (HR.out.off (fun k hk => by rw [List.mem_singleton] at hk; omega))
    go_at_call 9
    refine CP.mono ?_
    rintro x w5 ⟨Ap, np, cp, rfl, hcp, hmp, rp, -, -, b5⟩
    have X5 := X4.bar b5 (by rw [List.mem_singleton]; omega)
    have B5 := Kept.mk (B4.trans (b5.below (B := N) (by have := B4.size; omega) (fun k hk => by rw [List.mem_singleton] at hk; omega)))
    have RP := Kept.mk rp
    refine hK.out _ _ (CS X5) (fun _ => ?_)
    clear hK K CP X4 B4 b5 rp hT
    try simp only [Act.put, List.setIfInBounds_toArray, List.set_cons_zero, List.set_cons_succ]
    refine wpAnyH_take (i := 3) (oi := ?o40) (v := ?v40) ?hi40 (by kernel_rfl) (by kernel_rfl) (by kernel_rfl) ?hq40 (Or.inl ⟨?hw40, ?hy40⟩) (by assumption) ?r40
    case hi40 => (simp only [List.getElem?_toArray, List.getElem?_cons_succ, List.getElem?_cons_zero]; exact rfl)
    case hq40 => exact fun _ _ _ h => h
    case hw40 => rfl
    case hy40 => (intro w hSw; (try dsimp only at hSw); go_simp; try exact rfl)
    simp only [Act.put, List.setIfInBounds_toArray, List.set_cons_zero, List.set_cons_succ]
    refine wpAnyH_take (i := 4) (oi := ?o41) (v := ?v41) ?hi41 (by kernel_rfl) (by kernel_rfl) (by kernel_rfl) ?hq41 (Or.inl ⟨?hw41, ?hy41⟩) (by assumption) ?r41
    case hi41 => (simp only [List.getElem?_toArray, List.getElem?_cons_succ, List.getElem?_cons_zero]; exact rfl)
    case hq41 => exact fun _ _ _ h => h
    case hw41 => rfl
    case hy41 => (intro w hSw; (try dsimp only at hSw); go_simp; try exact rfl)
    simp only [Act.put, List.setIfInBounds_toArray, List.set_cons_zero, List.set_cons_succ]
    refine wpAnyH_take (i := 5) (oi := ?o42) (v := ?v42) ?hi42 (by kernel_rfl) (by kernel_rfl) (by kernel_rfl) ?hq42 (Or.inl ⟨?hw42, ?hy42⟩) (by assumption) ?r42
    case hi42 => (simp only [List.getElem?_toArray, List.getElem?_cons_succ, List.getElem?_cons_zero]; exact rfl)
    case hq42 => exact fun _ _ _ h => h
    case hw42 => rfl
    case hy42 => (intro w hSw; (try dsimp only at hSw); go_simp; try exact rfl)
    simp only [Act.put, List.setIfInBounds_toArray, List.set_cons_zero, List.set_cons_succ]
    refine wpAnyH_take (i := 6) (oi := ?o43) (v := ?v43) ?hi43 (by kernel_rfl) (by kernel_rfl) (by kernel_rfl) ?hq43 (Or.inl ⟨?hw43, ?hy43⟩) (by assumption) ?r43
    case hi43 => (simp only [List.getElem?_toArray, List.getElem?_cons_succ, List.getElem?_cons_zero]; exact rfl)
    case hq43 => exact fun _ _ _ h => h
    case hw43 => rfl
    case hy43 => (intro w hSw; (try dsimp only at hSw); go_simp; try exact rfl)
    simp only [Act.put, List.setIfInBounds_toArray, List.set_cons_zero, List.set_cons_succ]
    refine wpAnyH_take (i := 7) (oi := ?o44) (v := ?v44) ?hi44 (by kernel_rfl) (by kernel_rfl) (by kernel_rfl) ?hq44 (Or.inl ⟨?hw44, ?hy44⟩) (by assumption) ?r44
    case hi44 => (simp only [List.getElem?_toArray, List.getElem?_cons_succ, List.getElem?_cons_zero]; exact rfl)
    case hq44 => exact fun _ _ _ h => h
    case hw44 => rfl
    case hy44 => (intro w hSw; (try dsimp only at hSw); go_simp; try exact rfl)
    simp only [Act.put, List.setIfInBounds_toArray, List.set_cons_zero, List.set_cons_succ]
    refine wpAnyH_done (by kernel_rfl) ?_ _
    refine NoPanic.normal ?_
    have x0 := X5.cell 0; have x1 := X5.cell 1; have x2 := X5.cell 2; have x3 := X5.cell 3
    clear CS X5
    go_wp2_with fail
    refine (rput_any f A n cap w5 (HR.out.below (hN ▸ B5.out))).mono ?_
    rintro x w6 ⟨Aq, nq, cq, rfl, hcq, hmq, rq, b6⟩
    have B6 := Kept.mk (B5.out.trans (b6.mono (by have := B5.out.size; omega)))
    have RP6 := Kept.mk (RP.out.below b6)
    have RQ := Kept.mk rq
    clear RP rq b6 B5 x0 x1 x2 x3
    go_wp2_with fail
    refine (cf.out _).mono ?_
    rintro x w7 ⟨rfl, b7⟩
    have B7 := Kept.mk (B6.out.trans (b7.mono (by have := B6.out.size; omega)))
    have cb := Kept.mk (bytes_same Ap Aq np nq cp cq (putF f).2 w7 (RP6.out.below b7) (RQ.out.below b7))
    have c1 := Kept.mk (api.sectors z w7)
    have c2 := Kept.mk (rsectors_any z w7)
    clear b7 RP6 RQ B6
    generalize (putF f).1 = pe at *
    generalize sectorsF z = sz at *
    go_wp2_with fail
    refine cb.out.mono ?_
    rintro x w8 ⟨rfl, rfl⟩
    go_wp2_with fail
    refine c1.out.mono ?_
    rintro x w8 ⟨rfl, rfl⟩
    go_wp2_with fail
    refine c2.out.mono ?_
    rintro x w8 ⟨rfl, rfl⟩
    go_wp2
    go_ret
    exact ⟨rfl, B7.out⟩
end Go.Proofs.Ytimdbljagpbecaa.Frame
