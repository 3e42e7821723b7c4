/-
  The law FrameCuts, walked over contracts.
-/
import Derived.Test.YtimdbljagpbecaaPart3
import Derived.Test.YtimdbljagpbecaaPart5
import Derived.Test.YtimdbljagpbecaaPart2
import Derived.StillTailTactics
namespace Go.Proofs.Ytimdbljagpbecaa.Frame
open Go.RowKit Go.Proofs.Ytimdbljagpbecaa.Sha Go.Proofs.Ytimdbljagpbecaa.Wire

theorem cut_idx {X J S np : Nat} (h : np = 64 * S) (hX : X < S) (hJ : J < 64) (hS : S ≤ 40) : ∃ x64 xa : Nat, IntKind.i64.wrap (64 * (X : Int)) = (x64 : Int) ∧ IntKind.i64.wrap ((x64 : Int) + (J : Int)) = (xa : Int) ∧ xa < np ∧ (xa : Int) < np := by
  refine ⟨64 * X, 64 * X + J, ?_, ?_, by omega, by omega⟩
  · rw [IntKind.wrap_i64]; omega
  · rw [IntKind.wrap_i64]; omega
/-- what the last line of FrameCuts asks -/
theorem cuts_end {b C : List Int} (e : Int) (he : e = (getF C).2.2) (hb : (getF b).2.2 = 0) : (sameB b C = true → e = 0) ∧ (e = 0 ∨ e = 2) := by
  subst he
  refine ⟨fun h => ?_, get_err C⟩
  unfold sameB at h
  rw [decide_eq_true_eq] at h
  rw [← h]; exact hb

set_option maxRecDepth 100000 in
set_option maxHeartbeats 2000000 in
theorem fcuts_walk (api : FrameApi) (f : FV) (A : Option Addr) (n cap : Nat) (i k : Int) (w : World) (hr : Rd w A n f.body) (hc : n ≤ cap) (hcm : cap ≤ 9223372036854775807) :
    Calls Try.prog 7 #[frv f A n cap, .int .i64 i, .int .i64 k] w fun e w' => e = .returned (.bool true) ∧ Below w.heap.size w w' := by
  obtain ⟨N, hN⟩ : ∃ N, w.heap.size = N := ⟨_, rfl⟩
  rw [hN]
  have HR := Kept.mk hr
  have hlen := hr.1
  have cf := Kept.mk fun w => ffirst_any api w
  have X1 := Blk.new_at w 24 #[.int .i64 f.kind, .int .i64 f.gen, .int .i64 f.seq, .slice A n cap] N hN.symm
  have B1 : Below N w (w.alloc (.cells #[.int .i64 f.kind, .int .i64 f.gen, .int .i64 f.seq, .slice A n cap] 24)) := (Below.refl _ _).alloc (by omega) _
  have HX1 := Kept.mk X1; have HB1 := Kept.mk B1
  unfold frv
  clear hr X1 B1
  go_enter Try.func7, Try.ntmps7
  go_wp2_with fail
  generalize w.alloc (.cells #[.int .i64 f.kind, .int .i64 f.gen, .int .i64 f.seq, .slice A n cap] 24) = w1 at *
  refine (cf.out _).mono ?_
  rintro x w2 ⟨rfl, b2⟩
  have X2 := HX1.out.below b2 HX1.out.lt
  have B2 := HB1.out.trans (b2.mono (by have := HX1.out.lt; omega))
  go_wp2_with fail
  refine (newtable_any w2).mono ?_
  rintro e w3 ⟨rfl, rfl⟩
  obtain ⟨t, ht⟩ : ∃ t, w2.heap.size = t := ⟨_, rfl⟩
  rw [ht]
  have hNt : N < t := by rw [← ht]; exact X2.lt
  have hT : Tab (w2.alloc (.cells (tbl (.int .u32 0) (.int .i32 0) (.int .u32 0) 0 0) 63)) t := .inl (Blk.new_at _ _ _ t ht.symm)
  have B3 : Below N w (w2.alloc (.cells (tbl (.int .u32 0) (.int .i32 0) (.int .u32 0) 0 0) 63)) := B2.alloc (by omega) _
  have X3 := X2.alloc (.cells (tbl (.int .u32 0) (.int .i32 0) (.int .u32 0) 0 0) 63)
  generalize w2.alloc (.cells (tbl (.int .u32 0) (.int .i32 0) (.int .u32 0) 0 0) 63) = w3 at *
  have x0 := X3.cell 0; have x1 := X3.cell 1; have x2 := X3.cell 2; have x3 := X3.cell 3
  have HB3 := Kept.mk B3; have HT3 := Kept.mk hT
  clear X2 b2 B2 HX1 HB1 ht X3 B3 hT
  by_cases hbig : 2000 < n
  · have hbig' : (2000 : Int) < n := by omega
    go_wp2_with fail
    refine (cf.out _).mono ?_
    rintro x w4 ⟨rfl, b4⟩
    have B4 := Kept.mk (HB3.out.trans (b4.mono (by have := HB3.out.size; omega)))
    clear b4 HB3
    go_wp2
    go_ret
    exact ⟨rfl, B4.out⟩
  by_cases hi : i < 0
  · have hbig' : ((2000 : Int) < n) = False := eq_false (by omega)
    go_wp2_with fail
    refine (cf.out _).mono ?_
    rintro x w4 ⟨rfl, b4⟩
    have B4 := Kept.mk (HB3.out.trans (b4.mono (by have := HB3.out.size; omega)))
    clear b4 HB3
    go_wp2
    go_ret
    exact ⟨rfl, B4.out⟩
  by_cases hk : k < 0
  · have hbig' : ((2000 : Int) < n) = False := eq_false (by omega)
    have hi0 : (i < 0) = False := eq_false (by omega)
    clear hi
    go_wp2_with fail
    refine (cf.out _).mono ?_
    rintro x w4 ⟨rfl, b4⟩
    have B4 := Kept.mk (HB3.out.trans (b4.mono (by have := HB3.out.size; omega)))
    clear b4 HB3
    go_wp2
    go_ret
    exact ⟨rfl, B4.out⟩
  · have hbig' : ((2000 : Int) < n) = False := eq_false (by omega)
    have hi0 : (i < 0) = False := eq_false (by omega)
    have hk0 : (k < 0) = False := eq_false (by omega)
    have CP := Kept.mk (api.put (f := f) (c := cap) HT3.out (HR.out.below (hN ▸ HB3.out)) hc hcm (by omega) (HR.out.off (fun k hk => by rw [List.mem_singleton] at hk; omega)))
    unfold frv at CP
    have hi0' : 0 ≤ i := by omega
    have hk0' : 0 ≤ k := by omega
    go_wp2_with fail
    refine CP.out.mono ?_
    rintro x w4 ⟨Ap, np, cp, rfl, hcp, hmp, rp, op, tp, b4⟩
    have hs3 : t < w3.heap.size := ftab_lt HT3.out
    have B4 := Kept.mk (HB3.out.trans (b4.below (B := N) (by have := HB3.out.size; omega) (fun k hk => by rw [List.mem_singleton] at hk; omega)))
    have OP := Kept.mk (op [t] (fun k hk => by rw [List.mem_singleton] at hk; omega))
    have T4 := Kept.mk tp
    clear CP HT3 HB3 x0 x1 x2 x3 op tp b4
    by_cases he : errF f = 0
    · have e1 : putF f = (0, laid (textF f)) := by unfold putF; rw [he, if_pos rfl]
      rw [e1] at rp ⊢
      obtain ⟨S, hS⟩ : ∃ S, secs (textF f).length = S := ⟨_, rfl⟩
      have hbl : np = 64 * S := by have := rp.1; rw [laid_len, hS] at this; omega
      have hS1 : 1 ≤ S ∧ S ≤ 40 := by rw [← hS]; unfold secs; rw [textF_len]; omega
      have CUT := Kept.mk fun m (hm : m < 64 * S) => get_cut f he m (by rw [hS]; exact hm)
      have WHOLE : Kept ((getF (laid (textF f))).2.2 = 0) := ⟨by have := get_put f [] he; rw [List.append_nil] at this; rw [this]⟩
      obtain ⟨b, hb⟩ : ∃ b, laid (textF f) = b := ⟨_, rfl⟩
      simp only [hb] at rp CUT WHOLE ⊢
      have RP := Kept.mk rp
      have hpm : Int.tmod (np : Int) 64 = 0 := by rw [Int.tmod_eq_emod_of_nonneg (by omega)]; omega
      have hpd : Int.tdiv (np : Int) 64 = (S : Int) := by rw [Int.tdiv_eq_ediv_of_nonneg (by omega)]; omega
      have hp0 : ((np : Int) == 0) = false := by simp; omega
      have hp64 : ((np : Int) < 64) = False := eq_false (by omega)
      have hS0 : ((S : Int) == 0) = false := by simp; omega
      have hw1 : wrap64 ((np : Int) - 64) = ((np - 64 : Nat) : Int) := by unfold wrap64; omega
      have hw2 : wrap64 ((np : Int) - 1) = ((np - 1 : Nat) : Int) := by unfold wrap64; omega
      obtain ⟨A1, hs1, r1, o1⟩ := slice_h rp hcp (np - 64) (by omega) ((np - 64 : Nat) : Int) rfl
      have CG1 := Kept.mk (api.get (c := cp) T4.out r1 (by omega) hmp (by omega) (o1 [t] OP.out))
      rw [CUT.out (np - 64) (by omega)] at CG1
      have HBL := Kept.mk hbl
      have HNP : Kept (64 ≤ np ∧ np ≤ 2560) := ⟨by omega⟩
      clear rp e1 hb r1 o1 hS he hbl
      go_wp2_with fail
      refine CG1.out.mono ?_
      rintro x w5 ⟨Ax, nx, cx, rfl, -, -, -, -, tx, bx⟩
      unfold frv
      have ca : Below w5.heap.size w5 (w5.alloc (.cells #[.int .i64 noF.kind, .int .i64 noF.gen, .int .i64 noF.seq, .slice Ax nx cx] 24)) := (Below.refl _ _).alloc (Nat.le_refl _) _
      have T6 := Kept.mk (ftab_below tx ca (ftab_lt tx))
      have RP6 := Kept.mk ((RP.out.far bx OP.out).below ca)
      have B5 : Below N w w5 := B4.out.trans (bx.below (B := N) (by have := B4.out.size; omega) (fun k hk => by rw [List.mem_singleton] at hk; omega))
      have B6 := Kept.mk (B5.trans (ca.mono (by have := B5.size; omega)))
      obtain ⟨A2, hs2, r2, o2⟩ := slice_h RP6.out hcp (np - 1) (by omega) ((np - 1 : Nat) : Int) rfl
      have CG2 := Kept.mk (api.get (c := cp) T6.out r2 (by omega) hmp (by have := HNP.out; omega) (o2 [t] OP.out))
      rw [CUT.out (np - 1) (by have := HBL.out; omega)] at CG2
      clear r2 o2 CG1 tx bx ca B5 RP T4 B4
      go_wp2_with fail
      generalize w5.alloc (.cells #[.int .i64 noF.kind, .int .i64 noF.gen, .int .i64 noF.seq, .slice Ax nx cx] 24) = w6 at *
      refine CG2.out.mono ?_
      rintro x w7 ⟨Ay, ny, cy, rfl, -, -, -, -, ty, by_⟩
      unfold frv
      have ca : Below w7.heap.size w7 (w7.alloc (.cells #[.int .i64 noF.kind, .int .i64 noF.gen, .int .i64 noF.seq, .slice Ay ny cy] 24)) := (Below.refl _ _).alloc (Nat.le_refl _) _
      have T8 := Kept.mk (ftab_below ty ca (ftab_lt ty))
      have RP8 := Kept.mk ((RP6.out.far by_ OP.out).below ca)
      have B7 : Below N w w7 := B6.out.trans (by_.below (B := N) (by have := B6.out.size; omega) (fun k hk => by rw [List.mem_singleton] at hk; omega))
      have B8 := Kept.mk (B7.trans (ca.mono (by have := B7.size; omega)))
      clear CG2 ty by_ ca B7 RP6 T6 B6 hs1 hs2
      obtain ⟨X, hX, hXl⟩ : ∃ X : Nat, Int.tmod i S = X ∧ X < S := ⟨i.toNat % S, by rw [Int.tmod_eq_emod_of_nonneg hi0', Int.natCast_emod, Int.toNat_of_nonneg hi0'], Nat.mod_lt _ (by omega)⟩
      obtain ⟨Y, hY, hYl⟩ : ∃ Y : Nat, Int.tmod k S = Y ∧ Y < S := ⟨k.toNat % S, by rw [Int.tmod_eq_emod_of_nonneg hk0', Int.natCast_emod, Int.toNat_of_nonneg hk0'], Nat.mod_lt _ (by omega)⟩
      go_wp2
      generalize w7.alloc (.cells #[.int .i64 noF.kind, .int .i64 noF.gen, .int .i64 noF.seq, .slice Ay ny cy] 24) = w8 at *
      go_quiet (fail)
      have T9 : Kept (Tab (w8.drewN nq) t) := ⟨ftab_below T8.out (below_drewN (Below.refl _ _) _) (ftab_lt T8.out)⟩
      have RP9 : Kept (Rd (w8.drewN nq) Ap np b) := ⟨RP8.out.below (below_drewN (Below.refl _ _) _)⟩
      have B9 : Kept (Below N w (w8.drewN nq)) := ⟨below_drewN B8.out _⟩
      clear T8 RP8 B8
      generalize w8.drewN nq = w9 at *
      go_wp2_with fail
      refine (copy_any Ap np cp b w9 RP9.out (by have := HNP.out; omega)).mono ?_
      rintro x w10 ⟨v, rfl, own, b10⟩
      obtain ⟨g, gc, rfl, hg, hgc, hgm, hwr⟩ := wr_of_own own RP9.out.2.1 (by have := HNP.out; omega)
      have ht9 : t < w9.heap.size := ftab_lt T9.out
      have hgt : g ≠ t := by omega
      have T10 := Kept.mk (ftab_below T9.out b10 ht9)
      have RP10 := Kept.mk (RP9.out.below b10)
      have B10 := Kept.mk (B9.out.trans (b10.mono (by have := B9.out.size; omega)))
      obtain ⟨pb, po, rfl, hpc9⟩ := RP9.out.2.2.resolve_left (by have := HNP.out; omega)
      have hpb : pb < w9.heap.size := World.block_lt_of_cell? _ _ (hpc9 0 (by have := HNP.out; omega))
      have hpg : pb ≠ g := by omega
      have hgw : N ≤ g := by have := B9.out.size; omega
      have W10 := Kept.mk hwr
      clear own b10 hwr hpc9 T9 RP9 B9
      go_wp2
      go_loopw [20] (fun j wr => ∃ (J : Nat) (C : List Int), J ≤ 64 ∧ j = .int .i64 (J : Nat) ∧ Kept (Wr wr g 5 np C) ∧ Kept (Bar [g] w10 wr)) (fun j _ => 64 - (intOf j).toNat)
      case atStart => exact ⟨0, b, by omega, rfl, W10, ⟨Bar.refl _ _⟩⟩
      case round =>
        clear W10
        obtain ⟨J, C, hJ, rfl, WC, BC⟩ := hrel
        by_cases hJ6 : J < 64
        · have hJ6' : (J : Int) < 64 := by omega
          obtain ⟨x64, xa, hwa, hwb, hxn, hxn'⟩ := cut_idx HBL.out hXl hJ6 hS1.2
          obtain ⟨y64, ya, hwc, hwd, hyn, hyn'⟩ := cut_idx HBL.out hYl hJ6 hS1.2
          have RPr := rd_bar RP10.out BC.out hpg
          have v1 := rd_cell RPr xa hxn
          have v2 := rd_cell RPr ya hyn
          have hVX := Kept.mk (RPr.2.1.at_ xa)
          have hVY := Kept.mk (RPr.2.1.at_ ya)
          obtain ⟨vx, hvx⟩ : ∃ vx, at_ b xa = vx := ⟨_, rfl⟩
          obtain ⟨vy, hvy⟩ : ∃ vy, at_ b ya = vy := ⟨_, rfl⟩
          rw [hvx] at v1 hVX
          rw [hvy] at v2 hVY
          clear hvx hvy
          have WD := Kept.mk (WC.out.bar (l := []) (Bar.refl [] wr).drew (by simp))
          have BD : Kept (Bar [g] w10 wr.drew) := ⟨BC.out.drew⟩
          have S0 : wr.drew.cell? ⟨pb, po + ya, none⟩ = some (.int .u8 vy) ∧ wr.drew.cell? ⟨pb, po + xa, none⟩ = some (.int .u8 vx) := ⟨v2, v1⟩
          have CS : ∀ (u : World) (i : Nat) (z : Value), (u.cell? ⟨pb, po + ya, none⟩ = some (.int .u8 vy) ∧ u.cell? ⟨pb, po + xa, none⟩ = some (.int .u8 vx)) → ((u.setCell ⟨g, i, none⟩ z).cell? ⟨pb, po + ya, none⟩ = some (.int .u8 vy) ∧ (u.setCell ⟨g, i, none⟩ z).cell? ⟨pb, po + xa, none⟩ = some (.int .u8 vx)) := fun u i z h => by
            have hb : Bar [g] u (u.setCell ⟨g, i, none⟩ z) := (Bar.refl _ _).setCell (by simp) _
            exact ⟨cell_bar h.1 hb (by simpa using hpg), cell_bar h.2 hb (by simpa using hpg)⟩
          have KCS := Kept.mk CS
          clear v1 v2 RPr WC BC CS
          go_wp2
          refine wp_region_noPanic ?_
          refine wp_region_held_drew (S := fun w' : World => w'.cell? ⟨pb, po + ya, none⟩ = some (.int .u8 vy) ∧ w'.cell? ⟨pb, po + xa, none⟩ = some (.int .u8 vx)) (by kernel_rfl) S0 (fun _ => ?_)
          generalize wr.drew = wd at *
          have y0 := WD.out.cell xa hxn
          have z0 := WD.out.frozen xa
          refine wpAnyH_take (i := 0) (oi := ?o47) (v := ?v47) ?hi47 (by kernel_rfl) (by kernel_rfl) (by kernel_rfl) ?hq47 (Or.inl ⟨?hw47, ?hy47⟩) (by assumption) ?r47
          case hi47 => (simp only [List.getElem?_toArray, List.getElem?_cons_zero]; exact rfl)
          case hq47 => exact fun _ _ _ h => h
          case hw47 => rfl
          case hy47 => (intro w hSw; (try dsimp only at hSw); go_simp; try exact rfl)
          simp only [Act.put, List.setIfInBounds_toArray, List.set_cons_zero, List.set_cons_succ]
          refine wpAnyH_take (i := 1) (oi := ?o48) (v := ?v48) ?hi48 (by kernel_rfl) (by kernel_rfl) (by kernel_rfl) ?hq48 (Or.inl ⟨?hw48, ?hy48⟩) (by assumption) ?r48
          case hi48 => (simp only [List.getElem?_toArray, List.getElem?_cons_succ, List.getElem?_cons_zero]; exact rfl)
          case hq48 => exact fun _ _ _ h => h
          case hw48 => rfl
          case hy48 => (intro w hSw; (try dsimp only at hSw); go_simp; try exact rfl)
          simp only [Act.put, List.setIfInBounds_toArray, List.set_cons_zero, List.set_cons_succ]
          refine wpAnyH_take (i := 2) (oi := ?o49) (v := ?v49) ?hi49 (by kernel_rfl) (by kernel_rfl) (by kernel_rfl) ?hq49 (Or.inl ⟨?hw49, ?hy49⟩) (by assumption) ?r49
          case hi49 => (simp only [List.getElem?_toArray, List.getElem?_cons_succ, List.getElem?_cons_zero]; exact rfl)
          case hq49 => exact fun _ _ _ h => h
          case hw49 => rfl
          case hy49 => (intro w hSw; (try dsimp only at hSw); go_simp; try exact rfl)
          simp only [Act.put, List.setIfInBounds_toArray, List.set_cons_zero, List.set_cons_succ]
          refine wpAnyH_take (i := 3) (oi := ?o50) (v := ?v50) ?hi50 (by kernel_rfl) (by kernel_rfl) (by kernel_rfl) ?hq50 (Or.inl ⟨?hw50, ?hy50⟩) (by assumption) ?r50
          case hi50 => (simp only [List.getElem?_toArray, List.getElem?_cons_succ, List.getElem?_cons_zero]; exact rfl)
          case hq50 => exact fun _ _ _ h => h
          case hw50 => rfl
          case hy50 => (intro w hSw; (try dsimp only at hSw); go_simp; try exact rfl)
          simp only [Act.put, List.setIfInBounds_toArray, List.set_cons_zero, List.set_cons_succ]
          refine wpAnyH_take (i := 4) (oi := ?o51) (v := ?v51) ?hi51 (by kernel_rfl) (by kernel_rfl) (by kernel_rfl) ?hq51 (Or.inl ⟨?hw51, ?hy51⟩) (by assumption) ?r51
          case hi51 => (simp only [List.getElem?_toArray, List.getElem?_cons_succ, List.getElem?_cons_zero]; exact rfl)
          case hq51 => exact fun _ _ _ h => h
          case hw51 => rfl
          case hy51 => (intro w hSw; (try dsimp only at hSw); go_simp; try exact rfl)
          simp only [Act.put, List.setIfInBounds_toArray, List.set_cons_zero, List.set_cons_succ]
          refine wpAnyH_take (i := 5) (oi := ?o52) (v := ?v52) ?hi52 (by kernel_rfl) (by kernel_rfl) (by kernel_rfl) ?hq52 (Or.inl ⟨?hw52, ?hy52⟩) (by assumption) ?r52
          case hi52 => (simp only [List.getElem?_toArray, List.getElem?_cons_succ, List.getElem?_cons_zero]; exact rfl)
          case hq52 => exact fun _ _ _ h => h
          case hw52 => rfl
          case hy52 => (intro w hSw; (try dsimp only at hSw); go_simp; try exact rfl)
          simp only [Act.put, List.setIfInBounds_toArray, List.set_cons_zero, List.set_cons_succ]
          refine wpAnyH_take (i := 6) (oi := ?o53) (v := ?v53) ?hi53 (by kernel_rfl) (by kernel_rfl) (by kernel_rfl) ?hq53 (Or.inl ⟨?hw53, ?hy53⟩) (by assumption) ?r53
          case hi53 => (simp only [List.getElem?_toArray, List.getElem?_cons_succ, List.getElem?_cons_zero]; exact rfl)
          case hq53 => exact fun _ _ _ h => h
          case hw53 => rfl
          case hy53 => (intro w hSw; (try dsimp only at hSw); go_simp; try exact rfl)
          simp only [Act.put, List.setIfInBounds_toArray, List.set_cons_zero, List.set_cons_succ]
          refine wpAnyH_take (i := 7) (oi := ?o54) (v := ?v54) ?hi54 (by kernel_rfl) (by kernel_rfl) (by kernel_rfl) ?hq54 (Or.inl ⟨?hw54, ?hy54⟩) (by assumption) ?r54
          case hi54 => (simp only [List.getElem?_toArray, List.getElem?_cons_succ, List.getElem?_cons_zero]; exact rfl)
          case hq54 => exact fun _ _ _ h => h
          case hw54 => rfl
          case hy54 => (intro w hSw; (try dsimp only at hSw); go_simp; try exact rfl)
          simp only [Act.put, List.setIfInBounds_toArray, List.set_cons_zero, List.set_cons_succ]
          refine wpAnyH_take (i := 8) (oi := ?o55) (v := ?v55) ?hi55 (by kernel_rfl) (by kernel_rfl) (by kernel_rfl) ?hq55 (Or.inl ⟨?hw55, ?hy55⟩) (by assumption) ?r55
          case hi55 => (simp only [List.getElem?_toArray, List.getElem?_cons_succ, List.getElem?_cons_zero]; exact rfl)
          case hq55 => exact fun _ _ _ h => h
          case hw55 => rfl
          case hy55 => (intro w hSw; (try dsimp only at hSw); go_simp; try exact rfl)
          simp only [Act.put, List.setIfInBounds_toArray, List.set_cons_zero, List.set_cons_succ]
          refine wpAnyH_take (i := 9) (oi := ?o56) (v := ?v56) ?hi56 (by kernel_rfl) (by kernel_rfl) (by kernel_rfl) ?hq56 (Or.inl ⟨?hw56, ?hy56⟩) (by assumption) ?r56
          case hi56 => (simp only [List.getElem?_toArray, List.getElem?_cons_succ, List.getElem?_cons_zero]; exact rfl)
          case hq56 => exact fun _ _ _ h => h
          case hw56 => rfl
          case hy56 => (intro w hSw; (try dsimp only at hSw); go_simp; try exact rfl)
          simp only [Act.put, List.setIfInBounds_toArray, List.set_cons_zero, List.set_cons_succ]
          refine wpAnyH_take (i := 10) (oi := ?o57) (v := ?v57) ?hi57 (by kernel_rfl) (by kernel_rfl) (by kernel_rfl) ?hq57 (Or.inl ⟨?hw57, ?hy57⟩) (by assumption) ?r57
          case hi57 => (simp only [List.getElem?_toArray, List.getElem?_cons_succ, List.getElem?_cons_zero]; exact rfl)
          case hq57 => exact fun _ _ _ h => h
          case hw57 => rfl
          case hy57 => (intro w hSw; (try dsimp only at hSw); go_simp; try exact rfl)
          simp only [Act.put, List.setIfInBounds_toArray, List.set_cons_zero, List.set_cons_succ]
          refine wpAnyH_take (i := 11) (oi := ?o58) (v := ?v58) ?hi58 (by kernel_rfl) (by kernel_rfl) (by kernel_rfl) ?hq58 (Or.inl ⟨?hw58, ?hy58⟩) (by assumption) ?r58
          case hi58 => (simp only [List.getElem?_toArray, List.getElem?_cons_succ, List.getElem?_cons_zero]; exact rfl)
          case hq58 => exact fun _ _ _ h => h
          case hw58 => rfl
          case hy58 => (intro w hSw; (try dsimp only at hSw); go_simp; try exact rfl)
          simp only [Act.put, List.setIfInBounds_toArray, List.set_cons_zero, List.set_cons_succ]
          refine wpAnyH_take (i := 12) (oi := ?o59) (v := ?v59) ?hi59 (by kernel_rfl) (by kernel_rfl) (by kernel_rfl) ?hq59 (Or.inl ⟨?hw59, ?hy59⟩) (by assumption) ?r59
          case hi59 => (simp only [List.getElem?_toArray, List.getElem?_cons_succ, List.getElem?_cons_zero]; exact rfl)
          case hq59 => exact fun _ _ _ h => h
          case hw59 => rfl
          case hy59 => (intro w hSw; (try dsimp only at hSw); go_simp; try exact rfl)
          simp only [Act.put, List.setIfInBounds_toArray, List.set_cons_zero, List.set_cons_succ]
          refine wpAnyH_take (i := 13) (oi := ?o60) (v := ?v60) ?hi60 (by kernel_rfl) (by kernel_rfl) (by kernel_rfl) ?hq60 (Or.inl ⟨?hw60, ?hy60⟩) (by assumption) ?r60
          case hi60 => (simp only [List.getElem?_toArray, List.getElem?_cons_succ, List.getElem?_cons_zero]; exact rfl)
          case hq60 => exact fun _ _ _ h => h
          case hw60 => rfl
          case hy60 => (intro w hSw; (try dsimp only at hSw); go_simp; try exact rfl)
          simp only [Act.put, List.setIfInBounds_toArray, List.set_cons_zero, List.set_cons_succ]
          refine wpAnyH_take (i := 14) (oi := ?o61) (v := ?v61) ?hi61 (by kernel_rfl) (by kernel_rfl) (by kernel_rfl) ?hq61 (Or.inl ⟨?hw61, ?hy61⟩) (by assumption) ?r61
          case hi61 => (simp only [List.getElem?_toArray, List.getElem?_cons_succ, List.getElem?_cons_zero]; exact rfl)
          case hq61 => exact fun _ _ _ h => h
          case hw61 => rfl
          case hy61 => (intro w hSw; (try dsimp only at hSw); go_simp; try exact rfl)
          simp only [Act.put, List.setIfInBounds_toArray, List.set_cons_zero, List.set_cons_succ]
          refine wpAnyH_take (i := 15) (oi := ?o62) (v := ?v62) ?hi62 (by kernel_rfl) (by kernel_rfl) (by kernel_rfl) ?hq62 (Or.inl ⟨?hw62, ?hy62⟩) (by assumption) ?r62
          case hi62 => (simp only [List.getElem?_toArray, List.getElem?_cons_succ, List.getElem?_cons_zero]; exact rfl)
          case hq62 => exact fun _ _ _ h => h
          case hw62 => rfl
          case hy62 => (intro w hSw; (try dsimp only at hSw); go_simp; try exact rfl)
          simp only [Act.put, List.setIfInBounds_toArray, List.set_cons_zero, List.set_cons_succ]
          refine wpAnyH_take (i := 16) (oi := ?o63) (v := ?v63) ?hi63 (by kernel_rfl) (by kernel_rfl) (by kernel_rfl) ?hq63 (Or.inl ⟨?hw63, ?hy63⟩) (by assumption) ?r63
          case hi63 => (simp only [List.getElem?_toArray, List.getElem?_cons_succ, List.getElem?_cons_zero]; exact rfl)
          case hq63 => exact fun _ _ _ h => h
          case hw63 => rfl
          case hy63 => (intro w hSw; (try dsimp only at hSw); go_simp; try exact rfl)
          simp only [Act.put, List.setIfInBounds_toArray, List.set_cons_zero, List.set_cons_succ]
          refine wpAnyH_take (i := 17) (oi := ?o64) (v := ?v64) ?hi64 (by kernel_rfl) (by kernel_rfl) (by kernel_rfl) ?hq64 (Or.inl ⟨?hw64, ?hy64⟩) (by assumption) ?r64
          case hi64 => (simp only [List.getElem?_toArray, List.getElem?_cons_succ, List.getElem?_cons_zero]; exact rfl)
          case hq64 => exact fun _ _ _ h => h
          case hw64 => rfl
          case hy64 => (intro w hSw; (try dsimp only at hSw); go_simp; try exact rfl)
          simp only [Act.put, List.setIfInBounds_toArray, List.set_cons_zero, List.set_cons_succ]
          refine wpAnyH_take (i := 18) (oi := ?o65) (v := ?v65) ?hi65 (by kernel_rfl) (by kernel_rfl) (by kernel_rfl) ?hq65 (Or.inl ⟨?hw65, ?hy65⟩) (by assumption) ?r65
          case hi65 => (simp only [List.getElem?_toArray, List.getElem?_cons_succ, List.getElem?_cons_zero]; exact rfl)
          case hq65 => exact fun _ _ _ h => h
          case hw65 => rfl
          case hy65 => (intro w hSw; (try dsimp only at hSw); go_simp; try exact rfl)
          simp only [Act.put, List.setIfInBounds_toArray, List.set_cons_zero, List.set_cons_succ]
          refine wpAnyH_take (i := 19) (oi := ?o66) (v := ?v66) ?hi66 (by kernel_rfl) (by kernel_rfl) (by kernel_rfl) ?hq66 (Or.inl ⟨?hw66, ?hy66⟩) (by assumption) ?r66
          case hi66 => (simp only [List.getElem?_toArray, List.getElem?_cons_succ, List.getElem?_cons_zero]; exact rfl)
          case hq66 => exact fun _ _ _ h => h
          case hw66 => rfl
          case hy66 => (intro w hSw; (try dsimp only at hSw); go_simp; try exact rfl)
          simp only [Act.put, List.setIfInBounds_toArray, List.set_cons_zero, List.set_cons_succ]
          refine wpAnyH_take (i := 20) (oi := ?o67) (v := ?v67) ?hi67 (by kernel_rfl) (by kernel_rfl) (by kernel_rfl) ?hq67 (Or.inl ⟨?hw67, ?hy67⟩) (by assumption) ?r67
          case hi67 => (simp only [List.getElem?_toArray, List.getElem?_cons_succ, List.getElem?_cons_zero]; exact rfl)
          case hq67 => exact fun _ _ _ h => h
          case hw67 => rfl
          case hy67 => (intro w hSw; (try dsimp only at hSw); go_simp; try exact rfl)
          simp only [Act.put, List.setIfInBounds_toArray, List.set_cons_zero, List.set_cons_succ]
          refine wpAnyH_take (i := 21) (oi := ?o68) (v := ?v68) ?hi68 (by kernel_rfl) (by kernel_rfl) (by kernel_rfl) ?hq68 (Or.inl ⟨?hw68, ?hy68⟩) (by assumption) ?r68
          case hi68 => (simp only [List.getElem?_toArray, List.getElem?_cons_succ, List.getElem?_cons_zero]; exact rfl)
          case hq68 => exact fun _ _ _ h => h
          case hw68 => rfl
          case hy68 => (intro w hSw; (try dsimp only at hSw); go_simp; try exact rfl)
          simp only [Act.put, List.setIfInBounds_toArray, List.set_cons_zero, List.set_cons_succ]
          refine wpAnyH_take (i := 22) (oi := ?o69) (v := ?v69) ?hi69 (by kernel_rfl) (by kernel_rfl) (by kernel_rfl) ?hq69 (Or.inl ⟨?hw69, ?hy69⟩) (by assumption) ?r69
          case hi69 => (simp only [List.getElem?_toArray, List.getElem?_cons_succ, List.getElem?_cons_zero]; exact rfl)
          case hq69 => exact fun _ _ _ h => h
          case hw69 => rfl
          case hy69 => (intro w hSw; (try dsimp only at hSw); go_simp; try exact rfl)
          simp only [Act.put, List.setIfInBounds_toArray, List.set_cons_zero, List.set_cons_succ]
          refine wpAnyH_take (i := 23) (oi := ?o70) (v := ?v70) ?hi70 (by kernel_rfl) (by kernel_rfl) (by kernel_rfl) ?hq70 (Or.inl ⟨?hw70, ?hy70⟩) (by assumption) ?r70
          case hi70 => (simp only [List.getElem?_toArray, List.getElem?_cons_succ, List.getElem?_cons_zero]; exact rfl)
          case hq70 => exact fun _ _ _ h => h
          case hw70 => rfl
          case hy70 => (intro w hSw; (try dsimp only at hSw); go_simp; try exact rfl)
          simp only [Act.put, List.setIfInBounds_toArray, List.set_cons_zero, List.set_cons_succ]
          refine wpAnyH_take (i := 24) (oi := ?o71) (v := ?v71) ?hi71 (by kernel_rfl) (by kernel_rfl) (by kernel_rfl) ?hq71 (Or.inl ⟨?hw71, ?hy71⟩) (by assumption) ?r71
          case hi71 => (simp only [List.getElem?_toArray, List.getElem?_cons_succ, List.getElem?_cons_zero]; exact rfl)
          case hq71 => exact fun _ _ _ h => h
          case hw71 => rfl
          case hy71 => (intro w hSw; (try dsimp only at hSw); go_simp; try exact rfl)
          simp only [Act.put, List.setIfInBounds_toArray, List.set_cons_zero, List.set_cons_succ]
          refine wpAnyH_ready (rs := [25]) (by kernel_rfl) (by simp) ?_
          refine AllReadyH.cons (o := ?o73) ?hi73 (fun K hK => ?_) AllReadyH.nil
          case hi73 => (simp only [List.getElem?_toArray, List.getElem?_cons_succ, List.getElem?_cons_zero]; exact rfl)
          go_simp
          refine hK.out _ _ (KCS.out _ _ _ (by assumption)) (fun hH2 => ?_)
          clear hK K
          try simp only [Act.put, List.setIfInBounds_toArray, List.set_cons_zero, List.set_cons_succ]
          have WS := Kept.mk (WD.out.set xa vy hVY.out)
          have BS := Kept.mk (BD.out.setCell (p := ⟨g, xa, none⟩) (by simp) (.int .u8 vy))
          clear y0 z0 WD BD
          generalize wd.setCell ⟨g, xa, none⟩ (.int .u8 vy) = we at *
          have y0 := WS.out.cell ya hyn
          have z0 := WS.out.frozen ya
          refine wpAnyH_take (i := 26) (oi := ?o72) (v := ?v72) ?hi72 (by kernel_rfl) (by kernel_rfl) (by kernel_rfl) ?hq72 (Or.inl ⟨?hw72, ?hy72⟩) (by assumption) ?r72
          case hi72 => (simp only [List.getElem?_toArray, List.getElem?_cons_succ, List.getElem?_cons_zero]; exact rfl)
          case hq72 => exact fun _ _ _ h => h
          case hw72 => rfl
          case hy72 => (intro w hSw; (try dsimp only at hSw); go_simp; try exact rfl)
          simp only [Act.put, List.setIfInBounds_toArray, List.set_cons_zero, List.set_cons_succ]
          refine wpAnyH_ready (rs := [27]) (by kernel_rfl) (by simp) ?_
          refine AllReadyH.cons (o := ?o74) ?hi74 (fun K hK => ?_) AllReadyH.nil
          case hi74 => (simp only [List.getElem?_toArray, List.getElem?_cons_succ, List.getElem?_cons_zero]; exact rfl)
          go_simp
          refine hK.out _ _ (KCS.out _ _ _ hH2) (fun hH3 => ?_)
          clear hK K
          try simp only [Act.put, List.setIfInBounds_toArray, List.set_cons_zero, List.set_cons_succ]
          have WF := Kept.mk (WS.out.set ya vx hVX.out)
          have BF := Kept.mk (BS.out.setCell (p := ⟨g, ya, none⟩) (by simp) (.int .u8 vx))
          clear y0 z0 WS BS
          generalize we.setCell ⟨g, ya, none⟩ (.int .u8 vx) = wf at *
          refine wpAnyH_done (by kernel_rfl) ?_ _
          refine NoPanic.normal ?_
          go_wp2
          go_roundw
          case rel => exact ⟨J + 1, _, by omega, by go_num, WF, BF⟩
          case measure => simp [intOf]; omega
        · have hJ6' : ¬ (J : Int) < 64 := by omega
          have RPr := rd_bar RP10.out BC.out hpg
          have RC := WC.out.rd
          have OC : Off (some ⟨g, 0, none⟩) np [t] := .inr ⟨g, 0, rfl, by simpa using hgt⟩
          have CG := api.get (c := gc) (ftab_bar T10.out BC.out (by simpa using Ne.symm hgt)) RC hgc hgm (by have := HNP.out; omega) OC
          have BX := Kept.mk (B10.out.trans (BC.out.below (B := N) (by have := B10.out.size; omega) (fun k hk => by rw [List.mem_singleton] at hk; omega)))
          obtain ⟨G, hG⟩ : ∃ G, getF C = G := ⟨_, rfl⟩
          obtain ⟨E1, E2⟩ := cuts_end (b := b) (C := C) G.2.2 (by rw [hG]) WHOLE.out
          have CD : ∀ w', Rd w' (some ⟨g, 0, none⟩) np C → Calls Try.prog 16 #[.slice (some ⟨g, 0, none⟩) np gc] w' (RGetPost (getF C) w') := fun w' h => rget_any _ _ _ _ w' h hgc hgm
          rw [hG] at CG CD
          clear hG
          obtain ⟨fz, kz, ez⟩ := G
          simp only at E1 E2
          have KG := Kept.mk CG; have KD := Kept.mk CD; have KR := Kept.mk RC; have KP := Kept.mk RPr
          clear CG CD RC RPr WC BC T10 RP10 B10 WHOLE CUT
          have hts : t < wr.heap.size := by
            have h1 := BX.out.size
            have h2 := World.block_lt_of_cell? _ _ (rd_cell KP.out 0 (by have := HNP.out; omega))
            have h3 := hg
            simp only at h2
            have h4 := World.block_lt_of_cell? _ _ (rd_cell KR.out 0 (by have := HNP.out; omega))
            simp only at h4
            omega
          rcases E2 with EZ | EZ
          · subst EZ
            go_wp2_with fail
            refine KG.out.mono ?_
            rintro x w11 ⟨Az, nz, cz, rfl, -, -, -, -, tz, bz⟩
            unfold frv
            have ca : Below w11.heap.size w11 (w11.alloc (.cells #[.int .i64 fz.kind, .int .i64 fz.gen, .int .i64 fz.seq, .slice Az nz cz] 24)) := (Below.refl _ _).alloc (Nat.le_refl _) _
            have R12 := Kept.mk ((KR.out.far bz OC).below ca)
            have P12 := Kept.mk ((KP.out.far bz OP.out).below ca)
            have B11 : Below N w w11 := BX.out.trans (bz.below (B := N) (by have := BX.out.size; omega) (fun k hk => by rw [List.mem_singleton] at hk; omega))
            have B12 := Kept.mk (B11.trans (ca.mono (by have := B11.size; omega)))
            clear KG KR KP BX tz bz ca B11
            go_wp2_with fail
            generalize w11.alloc (.cells #[.int .i64 fz.kind, .int .i64 fz.gen, .int .i64 fz.seq, .slice Az nz cz] 24) = w12 at *
            refine (KD.out _ R12.out).mono ?_
            rintro x w13 ⟨Av, nv, cv, rfl, -, -, -, b13⟩
            have ca : Below w13.heap.size w13 (w13.alloc (.cells #[.int .i64 fz.kind, .int .i64 fz.gen, .int .i64 fz.seq, .slice Av nv cv] 24)) := (Below.refl _ _).alloc (Nat.le_refl _) _
            have b14 : Below w12.heap.size w12 (w13.alloc (.cells #[.int .i64 fz.kind, .int .i64 fz.gen, .int .i64 fz.seq, .slice Av nv cv] 24)) := b13.trans (ca.mono b13.size)
            have R14 := Kept.mk (R12.out.below b14)
            have P14 := Kept.mk (P12.out.below b14)
            have B14 := Kept.mk (B12.out.trans (b14.mono (by have := B12.out.size; omega)))
            clear KD R12 P12 B12 b13 ca b14
            go_wp2_with fail
            generalize w13.alloc (.cells #[.int .i64 fz.kind, .int .i64 fz.gen, .int .i64 fz.seq, .slice Av nv cv] 24) = w14 at *
            refine (cf.out _).mono ?_
            rintro x w15 ⟨rfl, b15⟩
            have CB := Kept.mk (bytes_any (some ⟨pb, po, none⟩) (some ⟨g, 0, none⟩) np np cp gc b C w15 (P14.out.below b15) (R14.out.below b15))
            have B15 := Kept.mk (B14.out.trans (b15.mono (by have := B14.out.size; omega)))
            clear R14 P14 B14 b15
            cases hsm : sameB b C <;>
            · rw [hsm] at CB
              go_wp2_with fail
              refine CB.out.mono ?_
              rintro x w16 ⟨rfl, rfl⟩
              go_wp2
              go_ret
              exact ⟨rfl, B15.out⟩
          · subst EZ
            go_wp2_with fail
            refine KG.out.mono ?_
            rintro x w11 ⟨Az, nz, cz, rfl, -, -, -, -, tz, bz⟩
            unfold frv
            have ca : Below w11.heap.size w11 (w11.alloc (.cells #[.int .i64 fz.kind, .int .i64 fz.gen, .int .i64 fz.seq, .slice Az nz cz] 24)) := (Below.refl _ _).alloc (Nat.le_refl _) _
            have R12 := Kept.mk ((KR.out.far bz OC).below ca)
            have P12 := Kept.mk ((KP.out.far bz OP.out).below ca)
            have B11 : Below N w w11 := BX.out.trans (bz.below (B := N) (by have := BX.out.size; omega) (fun k hk => by rw [List.mem_singleton] at hk; omega))
            have B12 := Kept.mk (B11.trans (ca.mono (by have := B11.size; omega)))
            clear KG KR KP BX tz bz ca B11
            go_wp2_with fail
            generalize w11.alloc (.cells #[.int .i64 fz.kind, .int .i64 fz.gen, .int .i64 fz.seq, .slice Az nz cz] 24) = w12 at *
            refine (KD.out _ R12.out).mono ?_
            rintro x w13 ⟨Av, nv, cv, rfl, -, -, -, b13⟩
            have ca : Below w13.heap.size w13 (w13.alloc (.cells #[.int .i64 fz.kind, .int .i64 fz.gen, .int .i64 fz.seq, .slice Av nv cv] 24)) := (Below.refl _ _).alloc (Nat.le_refl _) _
            have b14 : Below w12.heap.size w12 (w13.alloc (.cells #[.int .i64 fz.kind, .int .i64 fz.gen, .int .i64 fz.seq, .slice Av nv cv] 24)) := b13.trans (ca.mono b13.size)
            have R14 := Kept.mk (R12.out.below b14)
            have P14 := Kept.mk (P12.out.below b14)
            have B14 := Kept.mk (B12.out.trans (b14.mono (by have := B12.out.size; omega)))
            clear KD R12 P12 B12 b13 ca b14
            go_wp2_with fail
            generalize w13.alloc (.cells #[.int .i64 fz.kind, .int .i64 fz.gen, .int .i64 fz.seq, .slice Av nv cv] 24) = w14 at *
            refine (cf.out _).mono ?_
            rintro x w15 ⟨rfl, b15⟩
            have CB := Kept.mk (bytes_any (some ⟨pb, po, none⟩) (some ⟨g, 0, none⟩) np np cp gc b C w15 (P14.out.below b15) (R14.out.below b15))
            have B15 := Kept.mk (B14.out.trans (b15.mono (by have := B14.out.size; omega)))
            clear R14 P14 B14 b15
            have hsm : sameB b C = false := by
              cases h : sameB b C with
              | false => rfl
              | true => exact absurd (E1 h) (by omega)
            rw [hsm] at CB
            go_wp2_with fail
            refine CB.out.mono ?_
            rintro x w16 ⟨rfl, rfl⟩
            go_wp2
            go_ret
            exact ⟨rfl, B15.out⟩
    · have e1 : (putF f).1 = errF f := rfl
      have e2 : (putF f).2 = [] := by simp only [putF]; rw [if_neg he]
      rw [e2] at rp
      rw [e1]
      obtain rfl : np = 0 := rp.1.symm
      have he2 : (errF f == 0) = false := by simpa using he
      clear rp e1 e2 OP T4
      have he3 : (errF f != 0) = true := by simpa using he
      generalize errF f = ee at *
      go_wp2_with fail
      refine (cf.out _).mono ?_
      rintro x w5 ⟨rfl, b5⟩
      have B5 := Kept.mk (B4.out.trans (b5.mono (by have := B4.out.size; omega)))
      clear b5 B4
      go_wp2
      go_ret
      exact ⟨rfl, B5.out⟩
end Go.Proofs.Ytimdbljagpbecaa.Frame
