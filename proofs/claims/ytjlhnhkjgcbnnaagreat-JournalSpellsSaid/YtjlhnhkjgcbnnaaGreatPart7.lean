/-
  Parts laid together: JCompact JText JBegin JFollow DiskRead JOpenRead JOpenSpec.
-/
import Derived.Test.YtjlhnhkjgcbnnaaGreatPart6
import Derived.Deep.OwnRows
import Derived.Deep.DeepCutAuto
import Derived.Test.YtjlhnhkjgcbnnaaGreatPart4
import Derived.Test.YtjlhnhkjgcbnnaaGreatPart2
import Derived.Test.YtjlhnhkjgcbnnaaGreatPart5

/-
  The landed journal: Compact.
-/



namespace Go.Proofs.YtjlhnhkjgcbnnaaGreat.Journal
open Go.RowKit Go.Proofs.YtjlhnhkjgcbnnaaGreat.Sha Go.Proofs.YtjlhnhkjgcbnnaaGreat.Disk Go.Proofs.YtjlhnhkjgcbnnaaGreat.Frame

theorem put6 {w : World} {N : Nat} {t : TypeId} {c0 c1 c2 c3 c4 c5 : Value} (h : Blk w N t #[c0, c1, c2, c3, c4, c5]) (v0 v1 v2 v3 v4 v5 : Value) :
    Blk ((((((w.setCell ⟨N, 0, none⟩ v0).setCell ⟨N, 1, none⟩ v1).setCell ⟨N, 2, none⟩ v2).setCell ⟨N, 3, none⟩ v3).setCell ⟨N, 4, none⟩ v4).setCell ⟨N, 5, none⟩ v5) N t #[v0, v1, v2, v3, v4, v5] ∧
      Bar [N] w ((((((w.setCell ⟨N, 0, none⟩ v0).setCell ⟨N, 1, none⟩ v1).setCell ⟨N, 2, none⟩ v2).setCell ⟨N, 3, none⟩ v3).setCell ⟨N, 4, none⟩ v4).setCell ⟨N, 5, none⟩ v5) :=
  ⟨(((((h.set_ 0 v0).set_ 1 v1).set_ 2 v2).set_ 3 v3).set_ 4 v4).set_ 5 v5, ((((((Bar.refl [N] w).setCell (by simp) _).setCell (by simp) _).setCell (by simp) _).setCell (by simp) _).setCell (by simp) _).setCell (by simp) _⟩

/-- a new picture, and nothing behind it -/
theorem cy_pict {w0 w : World} {H F K : List Nat} {t d j n : Nat} {s : DS} {A A2 : Option Addr} {m c l c2 : Nat} {vr : Value} {b : List Int} {fr g0 rm0 : Int} {hs dd : Bool} (h1 : Tab w t) (h2 : Dk w F d n s) (k1 : Blk w j 87 (jc t d fr g0 hs A m c vr rm0 dd)) (k2 : l ≤ c2) (k3 : c2 ≤ 9223372036854775807) (k4 : Rd w A2 l b) (k5 : In A2 l K)
    (k7 : ∀ k ∈ K, k < w.heap.size) (k8 : j ∉ K) (h4 : t ∉ F) (h5 : t ∉ j :: K) (h6 : Disj F (j :: K)) (fp : Fp H (t :: (F ++ j :: K)) w0 w) (hjH : j ∈ H) (half' pos' rm' : Nat) (gen' : Int) (k9 : COk n ⟨half', gen', true, b, [], pos', 1, dd⟩) (k10 : rm' ≤ n / 2) (k11 : dd = false → rm' + pos' = n / 2) :
    ActPost Cj w0 H t d j n (0, s, ⟨half', gen', true, b, [], pos', 1, dd⟩) (.returned (.int .i64 0))
      ((((((w.setCell ⟨j, 2, none⟩ (.int .i64 ((half' * (n / 2) : Nat) : Int))).setCell ⟨j, 3, none⟩ (.int .i64 gen')).setCell ⟨j, 4, none⟩ (.bool true)).setCell ⟨j, 5, none⟩ (.slice A2 l c2)).setCell ⟨j, 6, none⟩ (.slice none 0 0)).setCell ⟨j, 7, none⟩ (.int .i64 (rm' : Nat))) := by
  have hb : Bar [j] w ((((((w.setCell ⟨j, 2, none⟩ (.int .i64 ((half' * (n / 2) : Nat) : Int))).setCell ⟨j, 3, none⟩ (.int .i64 gen')).setCell ⟨j, 4, none⟩ (.bool true)).setCell ⟨j, 5, none⟩ (.slice A2 l c2)).setCell ⟨j, 6, none⟩ (.slice none 0 0)).setCell ⟨j, 7, none⟩ (.int .i64 (rm' : Nat))) :=
    ((((((Bar.refl [j] w).setCell (by simp) _).setCell (by simp) _).setCell (by simp) _).setCell (by simp) _).setCell (by simp) _).setCell (by simp) _
  have hj := (((((k1.set_ 2 (.int .i64 ((half' * (n / 2) : Nat) : Int))).set_ 3 (.int .i64 gen')).set_ 4 (.bool true)).set_ 5 (.slice A2 l c2)).set_ 6 (.slice none 0 0)).set_ 7 (.int .i64 (rm' : Nat))
  have e : ((((((jc t d fr g0 hs A m c vr rm0 dd).setIfInBounds 2 (.int .i64 ((half' * (n / 2) : Nat) : Int))).setIfInBounds 3 (.int .i64 gen')).setIfInBounds 4 (.bool true)).setIfInBounds 5 (.slice A2 l c2)).setIfInBounds 6 (.slice none 0 0)).setIfInBounds 7 (.int .i64 (rm' : Nat)) = jc t d ((half' * (n / 2) : Nat) : Int) gen' true A2 l c2 (.slice none 0 0) (rm' : Nat) dd := by unfold jc; rfl
  rw [e] at hj
  have htj : t ≠ j := fun e => h5 (by simp [e])
  exact cy_mk (v := ⟨half', gen', true, b, [], pos', 1, dd⟩) (ftab_bar h1 hb (by simpa using htj)) (h2.keep hb (set1_far (fun hm => h6 j hm (by simp)))) hj k2 k3 (k4.far hb (k5.off (set1_far k8))) k5 (k5.off (fun _ _ h => by simp [Value.ownBlock] at h)) (Og.nil _ _ _) (fun k hk => Nat.lt_of_lt_of_le (k7 k hk) hb.size) k8 h4 h5 h6 k9 k10 k11
    ⟨fp.1.trans hb (fun k hk => by rw [List.mem_singleton] at hk; subst hk; exact .inl hjH), fp.2⟩

set_option maxRecDepth 100000 in
set_option maxHeartbeats 4000000 in
theorem ccompact_j (api : FrameApi) {w : World} {H : List Nat} {t d j n : Nat} {s : DS} {v : JV} {A : Option Addr} {l c : Nat} {b : List Int} (sy : Sy Cj w H t d j n s v) (hr : Rd w A l b) (hO : Off A l H) (hc : l ≤ c) (hcm : c ≤ maxLen) (hl9 : l ≤ 100000) :
    Calls Tryz.prog 14 #[.pointer (some ⟨j, 0, none⟩), .slice A l c] w (ActPost Cj w H t d j n (compactJ s v b)) := by
  obtain ⟨N, hN⟩ : ∃ N, w.heap.size = N := ⟨_, rfl⟩
  obtain ⟨Ar, cr, rm, x2, x3, -, -, ok, -, -, hjH, hwf, -⟩ := sy_cells sy
  have hjN : j < N := by rw [← hN]; exact sy.lts cj_base j hjH
  have HLT : Kept (∀ k ∈ H, k < N) := ⟨fun k hk => by rw [← hN]; exact sy.lts cj_base k hk⟩
  have dN : Disj H [N] := fun k hk hm => by rw [List.mem_singleton] at hm; have := HLT.out k hk; omega
  have hn8 := hwf.n2
  obtain ⟨M, hM⟩ : ∃ M, n / 2 = M := ⟨_, rfl⟩
  have hM9 : M ≤ 4096 := by omega
  have AC := Kept.mk (compact_code (b := b) hwf ok)
  have OK := Kept.mk ok
  have hg := ok.gen
  rw [hM] at x2 AC
  obtain ⟨hb, hhbe⟩ : ∃ hb, v.half * M = hb := ⟨_, rfl⟩
  obtain ⟨h2, hh2⟩ : ∃ h2, (1 - v.half) * M = h2 := ⟨_, rfl⟩
  have hhh : h2 + hb = M := by rcases ok.half with e | e <;> rw [e] at hhbe hh2 <;> omega
  rw [hhbe] at x2
  rw [hh2] at AC
  have hh29 : h2 ≤ M := by omega
  have SY := Kept.mk sy
  have HR := Kept.mk hr
  have HO := Kept.mk hO
  have HBE : Kept (v.half * M = hb ∧ (1 - v.half) * M = h2 ∧ n / 2 = M) := ⟨hhbe, hh2, hM⟩
  have W1 : IntKind.i64.wrap ((M : Int) - (hb : Int)) = (h2 : Int) := by simp only [IntKind.wrap_i64]; omega
  have W2 : IntKind.i64.wrap (v.gen + 1) = v.gen + 1 := by simp only [IntKind.wrap_i64]; omega
  clear sy hr hO hwf ok hhbe hh2 hM
  go_enter Tryz.func14, Tryz.ntmps14
  go_upto_region 1 with (fail)
  go_cut [5] (fun hp wx => hp = .pointer (some ⟨N, 0, none⟩) ∧ Kept (Blk wx N 85 #[.int .i64 (h2 : Nat), .int .i64 (v.gen + 1), .bool true, .slice none 0 0, .slice none 0 0, .int .i64 0]) ∧ Kept (Sy Cj wx H t d j n s v) ∧ Kept (Below w.heap.size w wx))
  case first =>
    have SY1 := Kept.mk (SY.out.keep cj_base (barOf (Below.refl w.heap.size w).drew []) (fun _ _ => by simp))
    have hN1 : w.drew.heap.size = N := hN
    have B1 : Kept (Below w.heap.size w w.drew) := ⟨(Below.refl _ _).drew⟩
    have y2 : w.drew.cell? ⟨j, 2, none⟩ = some (.int .i64 (hb : Nat)) := x2
    have y3 : w.drew.cell? ⟨j, 3, none⟩ = some (.int .i64 v.gen) := x3
    clear x2 x3 SY
    refine wp_region_noPanic ?_
    refine wp_region_held_drew (S := fun w' : World => w'.cell? ⟨j, 2, none⟩ = some (.int .i64 (hb : Nat)) ∧ w'.cell? ⟨j, 3, none⟩ = some (.int .i64 v.gen)) (by kernel_rfl) ⟨y2, y3⟩ (fun hHeld => ?_)
    clear y2 y3
    generalize w.drew = w1 at *
    have CS := Kept.mk (csectors_sy SY1.out)
    rw [HBE.out.2.2] at CS
    refine wpAnyH_take (i := 0) (oi := ?o85) (v := ?v85) ?hi85 (by kernel_rfl) (by kernel_rfl) (by kernel_rfl) ?hq85 (Or.inl ⟨?hw85, ?hy85⟩) (by assumption) ?r85
    case hi85 => (simp only [List.getElem?_toArray, List.getElem?_cons_zero]; exact rfl)
    case hq85 => exact fun _ _ _ h => h
    case hw85 => rfl
    case hy85 => (intro w hSw; (try dsimp only at hSw); go_simp; try exact rfl)
    simp only [Act.put, List.setIfInBounds_toArray, List.set_cons_zero, List.set_cons_succ]
    refine wpAnyH_take (i := 2) (oi := ?o86) (v := ?v86) ?hi86 (by kernel_rfl) (by kernel_rfl) (by kernel_rfl) ?hq86 (Or.inl ⟨?hw86, ?hy86⟩) (by assumption) ?r86
    case hi86 => (simp only [List.getElem?_toArray, List.getElem?_cons_succ, List.getElem?_cons_zero]; exact rfl)
    case hq86 => exact fun _ _ _ h => h
    case hw86 => rfl
    case hy86 => (intro w hSw; (try dsimp only at hSw); go_simp; try exact rfl)
    simp only [Act.put, List.setIfInBounds_toArray, List.set_cons_zero, List.set_cons_succ]
    refine wpAnyH_take (i := 3) (oi := ?o87) (v := ?v87) ?hi87 (by kernel_rfl) (by kernel_rfl) (by kernel_rfl) ?hq87 (Or.inl ⟨?hw87, ?hy87⟩) (by assumption) ?r87
    case hi87 => (simp only [List.getElem?_toArray, List.getElem?_cons_succ, List.getElem?_cons_zero]; exact rfl)
    case hq87 => exact fun _ _ _ h => h
    case hw87 => rfl
    case hy87 => (intro w hSw; (try dsimp only at hSw); go_simp; try exact rfl)
    simp only [Act.put, List.setIfInBounds_toArray, List.set_cons_zero, List.set_cons_succ]
    refine wpAnyH_take (i := 4) (oi := ?o88) (v := ?v88) ?hi88 (by kernel_rfl) (by kernel_rfl) (by kernel_rfl) ?hq88 (Or.inl ⟨?hw88, ?hy88⟩) (by assumption) ?r88
    case hi88 => (simp only [List.getElem?_toArray, List.getElem?_cons_succ, List.getElem?_cons_zero]; exact rfl)
    case hq88 => exact fun _ _ _ h => h
    case hw88 => rfl
    case hy88 => (intro w hSw; (try dsimp only at hSw); go_simp; try exact rfl)
    simp only [Act.put, List.setIfInBounds_toArray, List.set_cons_zero, List.set_cons_succ]
    refine wpAnyH_take (i := 5) (oi := ?o89) (v := ?v89) ?hi89 (by kernel_rfl) (by kernel_rfl) (by kernel_rfl) ?hq89 (Or.inl ⟨?hw89, ?hy89⟩) (by assumption) ?r89
    case hi89 => (simp only [List.getElem?_toArray, List.getElem?_cons_succ, List.getElem?_cons_zero]; exact rfl)
    case hq89 => exact fun _ _ _ h => h
    case hw89 => rfl
    case hy89 => (intro w hSw; (try dsimp only at hSw); go_simp; try exact rfl)
    simp only [Act.put, List.setIfInBounds_toArray, List.set_cons_zero, List.set_cons_succ]
    refine wpAnyH_take (i := 6) (oi := ?o90) (v := ?v90) ?hi90 (by kernel_rfl) (by kernel_rfl) (by kernel_rfl) ?hq90 (Or.inl ⟨?hw90, ?hy90⟩) (by assumption) ?r90
    case hi90 => (simp only [List.getElem?_toArray, List.getElem?_cons_succ, List.getElem?_cons_zero]; exact rfl)
    case hq90 => exact fun _ _ _ h => h
    case hw90 => rfl
    case hy90 => (intro w hSw; (try dsimp only at hSw); go_simp; try exact rfl)
    simp only [Act.put, List.setIfInBounds_toArray, List.set_cons_zero, List.set_cons_succ]
    refine wpAnyH_take (i := 8) (oi := ?o91) (v := ?v91) ?hi91 (by kernel_rfl) (by kernel_rfl) (by kernel_rfl) ?hq91 (Or.inl ⟨?hw91, ?hy91⟩) (by assumption) ?r91
    case hi91 => (simp only [List.getElem?_toArray, List.getElem?_cons_succ, List.getElem?_cons_zero]; exact rfl)
    case hq91 => exact fun _ _ _ h => h
    case hw91 => rfl
    case hy91 => (intro w hSw; (try dsimp only at hSw); go_simp; try exact rfl)
    simp only [Act.put, List.setIfInBounds_toArray, List.set_cons_zero, List.set_cons_succ]
    refine wpAnyH_take (i := 9) (oi := ?o92) (v := ?v92) ?hi92 (by kernel_rfl) (by kernel_rfl) (by kernel_rfl) ?hq92 (Or.inl ⟨?hw92, ?hy92⟩) (by assumption) ?r92
    case hi92 => (simp only [List.getElem?_toArray, List.getElem?_cons_succ, List.getElem?_cons_zero]; exact rfl)
    case hq92 => exact fun _ _ _ h => h
    case hw92 => rfl
    case hy92 => (intro w hSw; (try dsimp only at hSw); go_simp; try exact rfl)
    simp only [Act.put, List.setIfInBounds_toArray, List.set_cons_zero, List.set_cons_succ]
    refine wpAnyH_take (i := 10) (oi := ?o93) (v := ?v93) ?hi93 (by kernel_rfl) (by kernel_rfl) (by kernel_rfl) ?hq93 (Or.inl ⟨?hw93, ?hy93⟩) (by assumption) ?r93
    case hi93 => (simp only [List.getElem?_toArray, List.getElem?_cons_succ, List.getElem?_cons_zero]; exact rfl)
    case hq93 => exact fun _ _ _ h => h
    case hw93 => rfl
    case hy93 => (intro w hSw; (try dsimp only at hSw); go_simp; try exact rfl)
    simp only [Act.put, List.setIfInBounds_toArray, List.set_cons_zero, List.set_cons_succ]
    refine wpAnyH_take (i := 11) (oi := ?o94) (v := ?v94) ?hi94 (by kernel_rfl) (by kernel_rfl) (by kernel_rfl) ?hq94 (Or.inl ⟨?hw94, ?hy94⟩) (by assumption) ?r94
    case hi94 => (simp only [List.getElem?_toArray, List.getElem?_cons_succ, List.getElem?_cons_zero]; exact rfl)
    case hq94 => exact fun _ _ _ h => h
    case hw94 => rfl
    case hy94 => (intro w hSw; (try dsimp only at hSw); go_simp; try exact rfl)
    simp only [Act.put, List.setIfInBounds_toArray, List.set_cons_zero, List.set_cons_succ]
    refine wpAnyH_take (i := 12) (oi := ?o95) (v := ?v95) ?hi95 (by kernel_rfl) (by kernel_rfl) (by kernel_rfl) ?hq95 (Or.inl ⟨?hw95, ?hy95⟩) (by assumption) ?r95
    case hi95 => (simp only [List.getElem?_toArray, List.getElem?_cons_succ, List.getElem?_cons_zero]; exact rfl)
    case hq95 => exact fun _ _ _ h => h
    case hw95 => rfl
    case hy95 => (intro w hSw; (try dsimp only at hSw); go_simp; try exact rfl)
    simp only [Act.put, List.setIfInBounds_toArray, List.set_cons_zero, List.set_cons_succ]
    refine wpAnyH_take (i := 13) (oi := ?o96) (v := ?v96) ?hi96 (by kernel_rfl) (by kernel_rfl) (by kernel_rfl) ?hq96 (Or.inl ⟨?hw96, ?hy96⟩) (by assumption) ?r96
    case hi96 => (simp only [List.getElem?_toArray, List.getElem?_cons_succ, List.getElem?_cons_zero]; exact rfl)
    case hq96 => exact fun _ _ _ h => h
    case hw96 => rfl
    case hy96 => (intro w hSw; (try dsimp only at hSw); go_simp; try exact rfl)
    simp only [Act.put, List.setIfInBounds_toArray, List.set_cons_zero, List.set_cons_succ]
    refine wpAnyH_ready (rs := [1, 15]) (by kernel_rfl) (by simp) ?_
    refine AllReadyH.cons (o := ?o111) ?hi111 (fun K hK => ?_) (AllReadyH.cons (o := ?o112) ?hi112 (fun K hK => ?_) AllReadyH.nil)
    case hi111 => (simp only [List.getElem?_toArray, List.getElem?_cons_succ, List.getElem?_cons_zero]; exact rfl)
    case hi112 => (simp only [List.getElem?_toArray, List.getElem?_cons_succ, List.getElem?_cons_zero]; exact rfl)
    · go_simp
      go_at_call 32
      refine CS.out.mono ?_
      rintro e w' ⟨rfl, rfl⟩
      refine hK.out _ _ hHeld (fun _ => ?_)
      clear hK K CS
      try simp only [Act.put, List.setIfInBounds_toArray, List.set_cons_zero, List.set_cons_succ]
      refine wpAnyH_take (i := 7) (oi := ?o97) (v := ?v97) ?hi97 (by kernel_rfl) (by kernel_rfl) (by kernel_rfl) ?hq97 (Or.inl ⟨?hw97, ?hy97⟩) (by assumption) ?r97
      case hi97 => (simp only [List.getElem?_toArray, List.getElem?_cons_succ, List.getElem?_cons_zero]; exact rfl)
      case hq97 => exact fun _ _ _ h => h
      case hw97 => rfl
      case hy97 => (intro w hSw; (try dsimp only at hSw); go_simp; try exact rfl)
      simp only [Act.put, List.setIfInBounds_toArray, List.set_cons_zero, List.set_cons_succ]
      refine wpAnyH_take (i := 14) (oi := ?o98) (v := ?v98) ?hi98 (by kernel_rfl) (by kernel_rfl) (by kernel_rfl) ?hq98 (Or.inl ⟨?hw98, ?hy98⟩) (by assumption) ?r98
      case hi98 => (simp only [List.getElem?_toArray, List.getElem?_cons_succ, List.getElem?_cons_zero]; exact rfl)
      case hq98 => exact fun _ _ _ h => h
      case hw98 => rfl
      case hy98 => (intro w hSw; (try dsimp only at hSw); go_simp; try exact rfl)
      simp only [Act.put, List.setIfInBounds_toArray, List.set_cons_zero, List.set_cons_succ]
      refine wpAnyH_ready (rs := [15]) (by kernel_rfl) (by simp) ?_
      refine AllReadyH.cons (o := ?o113) ?hi113 (fun K hK => ?_) AllReadyH.nil
      case hi113 => (simp only [List.getElem?_toArray, List.getElem?_cons_succ, List.getElem?_cons_zero]; exact rfl)
      go_simp
      have ba : Below w1.heap.size w1 (w1.alloc (.cells #[.int .i64 0, .int .i64 0, .bool false, .slice none 0 0, .slice none 0 0, .int .i64 0] 85)) := (Below.refl _ _).alloc (Nat.le_refl _) _
      have HB := Blk.new_at w1 85 #[.int .i64 0, .int .i64 0, .bool false, .slice none 0 0, .slice none 0 0, .int .i64 0] N hN1.symm
      have SY2 := Kept.mk (SY1.out.keep cj_base (barOf ba []) (fun _ _ => by simp))
      have B2 := Kept.mk (B1.out.trans (ba.mono (by rw [hN1, ← hN]; exact Nat.le_refl _)))
      have z2 : (w1.alloc (.cells #[.int .i64 0, .int .i64 0, .bool false, .slice none 0 0, .slice none 0 0, .int .i64 0] 85)).cell? ⟨j, 2, none⟩ = some (.int .i64 (hb : Nat)) := (ba.cell (p := ⟨j, 2, none⟩) (by rw [hN1]; exact hjN)).trans hHeld.1
      have z3 : (w1.alloc (.cells #[.int .i64 0, .int .i64 0, .bool false, .slice none 0 0, .slice none 0 0, .int .i64 0] 85)).cell? ⟨j, 3, none⟩ = some (.int .i64 v.gen) := (ba.cell (p := ⟨j, 3, none⟩) (by rw [hN1]; exact hjN)).trans hHeld.2

      refine hK.out _ _ ⟨z2, z3⟩ (fun _ => ?_)
      clear hK K SY1 B1 ba
      try simp only [Act.put, List.setIfInBounds_toArray, List.set_cons_zero, List.set_cons_succ]
      generalize (w1.alloc (.cells #[.int .i64 0, .int .i64 0, .bool false, .slice none 0 0, .slice none 0 0, .int .i64 0] 85)) = w2 at *
      have g0 := HB.frozen 0; have g1 := HB.frozen 1; have g2 := HB.frozen 2; have g3 := HB.frozen 3; have g4 := HB.frozen 4; have g5 := HB.frozen 5
      have f0 := HB.cell 0; have f1 := HB.cell 1; have f2 := HB.cell 2; have f3 := HB.cell 3; have f4 := HB.cell 4; have f5 := HB.cell 5
      have P6 := put6 HB (.int .i64 (h2 : Nat)) (.int .i64 (v.gen + 1)) (.bool true) (.slice none 0 0) (.slice none 0 0) (.int .i64 0)
      have SY3 := Kept.mk (SY2.out.keep cj_base P6.2 dN)
      have B3 := Kept.mk (B2.out.trans (P6.2.below (by have := B2.out.size; omega) (fun k hk => by rw [List.mem_singleton] at hk; omega)))
      have HB3 := Kept.mk P6.1
      have z2' := (World.cell?_of_block (a := ⟨j, 2, none⟩) (P6.2.block j (by have := B2.out.size; omega) (by simp; omega))).trans z2
      have z3' := (World.cell?_of_block (a := ⟨j, 3, none⟩) (P6.2.block j (by have := B2.out.size; omega) (by simp; omega))).trans z3
      clear P6 SY2 B2 HB z2 z3
      refine wpAnyH_ready (rs := [16]) (by kernel_rfl) (by simp) ?_
      refine AllReadyH.cons (o := ?o114) ?hi114 (fun K hK => ?_) AllReadyH.nil
      case hi114 => (simp only [List.getElem?_toArray, List.getElem?_cons_succ, List.getElem?_cons_zero]; exact rfl)
      go_simp
      refine hK.out _ _ ⟨z2', z3'⟩ (fun _ => ?_)
      clear hK K g0 g1 g2 g3 g4 g5 f0 f1 f2 f3 f4 f5 z2' z3'
      try simp only [Act.put]
      refine wpAnyH_done (by kernel_rfl) ?_ _
      refine NoPanic.normal ?_
      clear hHeld
      go_wp2
      go_meet
      case rel => exact ⟨rfl, HB3, SY3, B3⟩
    · go_simp
      have ba : Below w1.heap.size w1 (w1.alloc (.cells #[.int .i64 0, .int .i64 0, .bool false, .slice none 0 0, .slice none 0 0, .int .i64 0] 85)) := (Below.refl _ _).alloc (Nat.le_refl _) _
      have HB := Blk.new_at w1 85 #[.int .i64 0, .int .i64 0, .bool false, .slice none 0 0, .slice none 0 0, .int .i64 0] N hN1.symm
      have SY2 := Kept.mk (SY1.out.keep cj_base (barOf ba []) (fun _ _ => by simp))
      have B2 := Kept.mk (B1.out.trans (ba.mono (by rw [hN1, ← hN]; exact Nat.le_refl _)))
      have z2 : (w1.alloc (.cells #[.int .i64 0, .int .i64 0, .bool false, .slice none 0 0, .slice none 0 0, .int .i64 0] 85)).cell? ⟨j, 2, none⟩ = some (.int .i64 (hb : Nat)) := (ba.cell (p := ⟨j, 2, none⟩) (by rw [hN1]; exact hjN)).trans hHeld.1
      have z3 : (w1.alloc (.cells #[.int .i64 0, .int .i64 0, .bool false, .slice none 0 0, .slice none 0 0, .int .i64 0] 85)).cell? ⟨j, 3, none⟩ = some (.int .i64 v.gen) := (ba.cell (p := ⟨j, 3, none⟩) (by rw [hN1]; exact hjN)).trans hHeld.2

      refine hK.out _ _ ⟨z2, z3⟩ (fun _ => ?_)
      clear hK K SY1 B1 ba
      try simp only [Act.put, List.setIfInBounds_toArray, List.set_cons_zero, List.set_cons_succ]
      generalize (w1.alloc (.cells #[.int .i64 0, .int .i64 0, .bool false, .slice none 0 0, .slice none 0 0, .int .i64 0] 85)) = w2 at *
      have CS2 := Kept.mk (csectors_sy SY2.out)
      rw [HBE.out.2.2] at CS2
      refine wpAnyH_ready (rs := [1]) (by kernel_rfl) (by simp) ?_
      refine AllReadyH.cons (o := ?o115) ?hi115 (fun K hK => ?_) AllReadyH.nil
      case hi115 => (simp only [List.getElem?_toArray, List.getElem?_cons_succ, List.getElem?_cons_zero]; exact rfl)
      go_simp
      go_at_call 32
      refine CS2.out.mono ?_
      rintro e w' ⟨rfl, rfl⟩
      refine hK.out _ _ ⟨z2, z3⟩ (fun _ => ?_)
      clear hK K CS CS2
      try simp only [Act.put, List.setIfInBounds_toArray, List.set_cons_zero, List.set_cons_succ]
      refine wpAnyH_take (i := 7) (oi := ?o99) (v := ?v99) ?hi99 (by kernel_rfl) (by kernel_rfl) (by kernel_rfl) ?hq99 (Or.inl ⟨?hw99, ?hy99⟩) (by assumption) ?r99
      case hi99 => (simp only [List.getElem?_toArray, List.getElem?_cons_succ, List.getElem?_cons_zero]; exact rfl)
      case hq99 => exact fun _ _ _ h => h
      case hw99 => rfl
      case hy99 => (intro w hSw; (try dsimp only at hSw); go_simp; try exact rfl)
      simp only [Act.put, List.setIfInBounds_toArray, List.set_cons_zero, List.set_cons_succ]
      refine wpAnyH_take (i := 14) (oi := ?o100) (v := ?v100) ?hi100 (by kernel_rfl) (by kernel_rfl) (by kernel_rfl) ?hq100 (Or.inl ⟨?hw100, ?hy100⟩) (by assumption) ?r100
      case hi100 => (simp only [List.getElem?_toArray, List.getElem?_cons_succ, List.getElem?_cons_zero]; exact rfl)
      case hq100 => exact fun _ _ _ h => h
      case hw100 => rfl
      case hy100 => (intro w hSw; (try dsimp only at hSw); go_simp; try exact rfl)
      simp only [Act.put, List.setIfInBounds_toArray, List.set_cons_zero, List.set_cons_succ]
      have g0 := HB.frozen 0; have g1 := HB.frozen 1; have g2 := HB.frozen 2; have g3 := HB.frozen 3; have g4 := HB.frozen 4; have g5 := HB.frozen 5
      have f0 := HB.cell 0; have f1 := HB.cell 1; have f2 := HB.cell 2; have f3 := HB.cell 3; have f4 := HB.cell 4; have f5 := HB.cell 5
      have P6 := put6 HB (.int .i64 (h2 : Nat)) (.int .i64 (v.gen + 1)) (.bool true) (.slice none 0 0) (.slice none 0 0) (.int .i64 0)
      have SY3 := Kept.mk (SY2.out.keep cj_base P6.2 dN)
      have B3 := Kept.mk (B2.out.trans (P6.2.below (by have := B2.out.size; omega) (fun k hk => by rw [List.mem_singleton] at hk; omega)))
      have HB3 := Kept.mk P6.1
      have z2' := (World.cell?_of_block (a := ⟨j, 2, none⟩) (P6.2.block j (by have := B2.out.size; omega) (by simp; omega))).trans z2
      have z3' := (World.cell?_of_block (a := ⟨j, 3, none⟩) (P6.2.block j (by have := B2.out.size; omega) (by simp; omega))).trans z3
      clear P6 SY2 B2 HB z2 z3
      refine wpAnyH_ready (rs := [16]) (by kernel_rfl) (by simp) ?_
      refine AllReadyH.cons (o := ?o116) ?hi116 (fun K hK => ?_) AllReadyH.nil
      case hi116 => (simp only [List.getElem?_toArray, List.getElem?_cons_succ, List.getElem?_cons_zero]; exact rfl)
      go_simp
      refine hK.out _ _ ⟨z2', z3'⟩ (fun _ => ?_)
      clear hK K g0 g1 g2 g3 g4 g5 f0 f1 f2 f3 f4 f5 z2' z3'
      try simp only [Act.put]
      refine wpAnyH_done (by kernel_rfl) ?_ _
      refine NoPanic.normal ?_
      clear hHeld
      go_wp2
      go_meet
      case rel => exact ⟨rfl, HB3, SY3, B3⟩
  case rest =>
    obtain ⟨rfl, HB1, SY1, B1⟩ := hcut
    clear W1 W2 x2 x3 SY
    have h1 := HB1.out.cell 1
    have hNs := HB1.out.lt
    obtain ⟨N2, hN2⟩ : ∃ q, wc.heap.size = q := ⟨_, rfl⟩
    have ba : Below wc.heap.size wc (wc.alloc (.cells #[.int .i64 1, .int .i64 (v.gen + 1), .int .i64 0, .slice A l c] 56)) := (Below.refl _ _).alloc (Nat.le_refl _) _
    have FB := Kept.mk (Blk.new_at wc 56 #[.int .i64 1, .int .i64 (v.gen + 1), .int .i64 0, .slice A l c] N2 hN2.symm)
    have hwN : w.heap.size ≤ wc.heap.size := B1.out.size
    have SY2 := Kept.mk (SY1.out.keep cj_base (barOf ba []) (fun _ _ => by simp))
    have HB2 := Kept.mk (HB1.out.below ba hNs)
    have B2 := Kept.mk (B1.out.trans (ba.mono hwN))
    clear SY1 ba
    go_upto_region 3 with (fail)
    clear HB1 B1 h1
    have HR2 := Kept.mk (HR.out.below B2.out)
    generalize (wc.alloc (.cells #[.int .i64 1, .int .i64 (v.gen + 1), .int .i64 0, .slice A l c] 56)) = w2 at *
    have SY3 := Kept.mk (SY2.out.keep cj_base (barOf (Below.refl w2.heap.size w2).drew []) (fun _ _ => by simp))
    have HB3 := Kept.mk HB2.out.drew
    have B3 := Kept.mk B2.out.drew
    have FB3 := Kept.mk FB.out.drew
    have HR3 := Kept.mk HR2.out.drew
    clear SY2 HB2 B2 FB HR2
    refine wp_region_noPanic ?_
    refine wp_region_held_drew (S := fun w' : World => w'.cell? ⟨N2, 0, none⟩ = some (.int .i64 1) ∧ w'.cell? ⟨N2, 1, none⟩ = some (.int .i64 (v.gen + 1)) ∧ w'.cell? ⟨N2, 2, none⟩ = some (.int .i64 0) ∧ w'.cell? ⟨N2, 3, none⟩ = some (.slice A l c) ∧ w'.cell? ⟨N, 0, none⟩ = some (.int .i64 (h2 : Nat))) (by kernel_rfl) ⟨FB3.out.cell 0, FB3.out.cell 1, FB3.out.cell 2, FB3.out.cell 3, HB3.out.cell 0⟩ (fun hHeld => ?_)
    generalize w2.drew = w4 at *
    have CS := Kept.mk (csectors_sy SY3.out)
    rw [HBE.out.2.2] at CS
    refine wpAnyH_take (i := 0) (oi := ?o101) (v := ?v101) ?hi101 (by kernel_rfl) (by kernel_rfl) (by kernel_rfl) ?hq101 (Or.inl ⟨?hw101, ?hy101⟩) (by assumption) ?r101
    case hi101 => (simp only [List.getElem?_toArray, List.getElem?_cons_zero]; exact rfl)
    case hq101 => exact fun _ _ _ h => h
    case hw101 => rfl
    case hy101 => (intro w hSw; (try dsimp only at hSw); go_simp; try exact rfl)
    simp only [Act.put, List.setIfInBounds_toArray, List.set_cons_zero, List.set_cons_succ]
    refine wpAnyH_take (i := 1) (oi := ?o102) (v := ?v102) ?hi102 (by kernel_rfl) (by kernel_rfl) (by kernel_rfl) ?hq102 (Or.inl ⟨?hw102, ?hy102⟩) (by assumption) ?r102
    case hi102 => (simp only [List.getElem?_toArray, List.getElem?_cons_succ, List.getElem?_cons_zero]; exact rfl)
    case hq102 => exact fun _ _ _ h => h
    case hw102 => rfl
    case hy102 => (intro w hSw; (try dsimp only at hSw); go_simp; try exact rfl)
    simp only [Act.put, List.setIfInBounds_toArray, List.set_cons_zero, List.set_cons_succ]
    refine wpAnyH_take (i := 2) (oi := ?o103) (v := ?v103) ?hi103 (by kernel_rfl) (by kernel_rfl) (by kernel_rfl) ?hq103 (Or.inl ⟨?hw103, ?hy103⟩) (by assumption) ?r103
    case hi103 => (simp only [List.getElem?_toArray, List.getElem?_cons_succ, List.getElem?_cons_zero]; exact rfl)
    case hq103 => exact fun _ _ _ h => h
    case hw103 => rfl
    case hy103 => (intro w hSw; (try dsimp only at hSw); go_simp; try exact rfl)
    simp only [Act.put, List.setIfInBounds_toArray, List.set_cons_zero, List.set_cons_succ]
    refine wpAnyH_take (i := 3) (oi := ?o104) (v := ?v104) ?hi104 (by kernel_rfl) (by kernel_rfl) (by kernel_rfl) ?hq104 (Or.inl ⟨?hw104, ?hy104⟩) (by assumption) ?r104
    case hi104 => (simp only [List.getElem?_toArray, List.getElem?_cons_succ, List.getElem?_cons_zero]; exact rfl)
    case hq104 => exact fun _ _ _ h => h
    case hw104 => rfl
    case hy104 => (intro w hSw; (try dsimp only at hSw); go_simp; try exact rfl)
    simp only [Act.put, List.setIfInBounds_toArray, List.set_cons_zero, List.set_cons_succ]
    refine wpAnyH_take (i := 4) (oi := ?o105) (v := ?v105) ?hi105 (by kernel_rfl) (by kernel_rfl) (by kernel_rfl) ?hq105 (Or.inl ⟨?hw105, ?hy105⟩) (by assumption) ?r105
    case hi105 => (simp only [List.getElem?_toArray, List.getElem?_cons_succ, List.getElem?_cons_zero]; exact rfl)
    case hq105 => exact fun _ _ _ h => h
    case hw105 => rfl
    case hy105 => (intro w hSw; (try dsimp only at hSw); go_simp; try exact rfl)
    simp only [Act.put, List.setIfInBounds_toArray, List.set_cons_zero, List.set_cons_succ]
    refine wpAnyH_ready (rs := [5]) (by kernel_rfl) (by simp) ?_
    refine AllReadyH.cons (o := ?o117) ?hi117 (fun K hK => ?_) AllReadyH.nil
    case hi117 => (simp only [List.getElem?_toArray, List.getElem?_cons_succ, List.getElem?_cons_zero]; exact rfl)
    go_simp
    go_at_call 32
    refine CS.out.mono ?_
    rintro e w' ⟨rfl, rfl⟩
    refine hK.out _ _ hHeld (fun _ => ?_)
    clear hK K CS
    try simp only [Act.put, List.setIfInBounds_toArray, List.set_cons_zero, List.set_cons_succ]
    refine wpAnyH_ready (rs := [6]) (by kernel_rfl) (by simp) ?_
    refine AllReadyH.cons (o := ?o118) ?hi118 (fun K hK => ?_) AllReadyH.nil
    case hi118 => (simp only [List.getElem?_toArray, List.getElem?_cons_succ, List.getElem?_cons_zero]; exact rfl)
    go_simp
    go_at_call 38
    refine (lay_sy api (f := pictF v b) h2 M SY3.out HR3.out HO.out hc hcm hl9 (by omega) (by omega)).mono ?_
    rintro e w5 ⟨rfl, H', sy5, fp5⟩
    have hNH : N ∉ H := fun hm => by have := HLT.out N hm; omega
    have hN2H : N2 ∉ H := fun hm => by have := HLT.out N2 hm; omega
    have FB5 := FB3.out.bar fp5.1 hN2H
    have HB5 := HB3.out.bar fp5.1 hNH
    refine hK.out _ _ ⟨FB5.cell 0, FB5.cell 1, FB5.cell 2, FB5.cell 3, HB5.cell 0⟩ (fun _ => ?_)
    have FP5 : Kept (Fp H H' w w5) := ⟨Fp.trans (⟨barOf B3.out _, fun _ h => .inl h⟩ : Fp H H w w4) fp5⟩
    have SY5 := Kept.mk sy5
    have HB6 := Kept.mk HB5
    have hNH' : N ∉ H' := fun hm => by
      rcases fp5.2 N hm with e | e
      · exact hNH e
      · have := HB3.out.lt; omega
    clear hK K hHeld SY3 HR3 B3 FB3 FB5 HB3 HB5 sy5 fp5
    refine wpAnyH_take (i := 7) (oi := ?o106) (v := ?v106) ?hi106 (by kernel_rfl) (by kernel_rfl) (by kernel_rfl) ?hq106 (Or.inl ⟨?hw106, ?hy106⟩) (by assumption) ?r106
    case hi106 => (simp only [List.getElem?_toArray, List.getElem?_cons_succ, List.getElem?_cons_zero]; exact rfl)
    case hq106 => exact fun _ _ _ h => h
    case hw106 => rfl
    case hy106 => (intro w hSw; (try dsimp only at hSw); go_simp; try exact rfl)
    simp only [Act.put, List.setIfInBounds_toArray, List.set_cons_zero, List.set_cons_succ]
    refine wpAnyH_take (i := 8) (oi := ?o107) (v := ?v107) ?hi107 (by kernel_rfl) (by kernel_rfl) (by kernel_rfl) ?hq107 (Or.inl ⟨?hw107, ?hy107⟩) (by assumption) ?r107
    case hi107 => (simp only [List.getElem?_toArray, List.getElem?_cons_succ, List.getElem?_cons_zero]; exact rfl)
    case hq107 => exact fun _ _ _ h => h
    case hw107 => rfl
    case hy107 => (intro w hSw; (try dsimp only at hSw); go_simp; try exact rfl)
    simp only [Act.put, List.setIfInBounds_toArray, List.set_cons_zero, List.set_cons_succ]
    refine wpAnyH_take (i := 9) (oi := ?o108) (v := ?v108) ?hi108 (by kernel_rfl) (by kernel_rfl) (by kernel_rfl) ?hq108 (Or.inl ⟨?hw108, ?hy108⟩) (by assumption) ?r108
    case hi108 => (simp only [List.getElem?_toArray, List.getElem?_cons_succ, List.getElem?_cons_zero]; exact rfl)
    case hq108 => exact fun _ _ _ h => h
    case hw108 => rfl
    case hy108 => (intro w hSw; (try dsimp only at hSw); go_simp; try exact rfl)
    simp only [Act.put, List.setIfInBounds_toArray, List.set_cons_zero, List.set_cons_succ]
    refine wpAnyH_take (i := 10) (oi := ?o109) (v := ?v109) ?hi109 (by kernel_rfl) (by kernel_rfl) (by kernel_rfl) ?hq109 (Or.inl ⟨?hw109, ?hy109⟩) (by assumption) ?r109
    case hi109 => (simp only [List.getElem?_toArray, List.getElem?_cons_succ, List.getElem?_cons_zero]; exact rfl)
    case hq109 => exact fun _ _ _ h => h
    case hw109 => rfl
    case hy109 => (intro w hSw; (try dsimp only at hSw); go_simp; try exact rfl)
    simp only [Act.put, List.setIfInBounds_toArray, List.set_cons_zero, List.set_cons_succ]
    refine wpAnyH_take (i := 11) (oi := ?o110) (v := ?v110) ?hi110 (by kernel_rfl) (by kernel_rfl) (by kernel_rfl) ?hq110 (Or.inl ⟨?hw110, ?hy110⟩) (by assumption) ?r110
    case hi110 => (simp only [List.getElem?_toArray, List.getElem?_cons_succ, List.getElem?_cons_zero]; exact rfl)
    case hq110 => exact fun _ _ _ h => h
    case hw110 => rfl
    case hy110 => (intro w hSw; (try dsimp only at hSw); go_simp; try exact rfl)
    simp only [Act.put, List.setIfInBounds_toArray, List.set_cons_zero, List.set_cons_succ]
    refine wpAnyH_done (by kernel_rfl) ?_ _
    refine NoPanic.normal ?_
    generalize layC s v.dead (pictF v b) h2 M = R at *
    obtain ⟨⟨lf, er⟩, s5, df⟩ := R
    simp only at AC SY5 ⊢
    by_cases h0 : er = 0
    · subst h0
      obtain ⟨hdv, hdf, hb6, hgn, hkr, hlf⟩ := AC.out.2 rfl
      subst hdf hlf
      have AC1 : Kept (compactJ s v b = (0, s5, ⟨1 - v.half, v.gen + 1, true, b, [], kF b, 1, v.dead⟩)) := ⟨by rw [AC.out.1]; unfold actC; rw [if_pos rfl]⟩
      have hv : { v with dead := false } = v := by rw [← hdv]
      rw [hv] at SY5
      clear AC hv
      obtain ⟨F, KJ, A0, m0, c0, vr, rm0, t5, d5, j5, -, -, -, -, -, -, -, -, ntF, ntK, dFK, rfl, k9, -, -⟩ := cy_parts SY5.out
      have hjN' : j ≠ N := by omega
      have jF : j ∉ F := fun hm => dFK j hm (by simp)
      have hNF : N ∉ t :: F := fun hm => hNH' (by rcases List.mem_cons.1 hm with e | e <;> simp [e])
      have RB5 : Rd w5 A l b := HR.out.far FP5.out.1 HO.out
      have CL := Kept.mk (clone_any A l c b w5 RB5 (by omega))
      obtain ⟨kb, hkb⟩ : ∃ q, kF b = q := ⟨_, rfl⟩
      rw [hkb] at AC1 hkr ⊢
      have he7 : (M : Int) - (kb : Int) = ((M - kb : Nat) : Int) := by omega
      have bods := RB5.2.1
      rw [he7]
      go_wp2_with fail
      refine CL.out.mono ?_
      rintro e w7 ⟨v2, rfl, own, bel⟩
      obtain ⟨A2, c2, rfl, q1, q2, q3⟩ := own_rd own bods
      have K3L : ∀ k ∈ (Value.slice A2 l c2).ownBlock.toList, w5.heap.size ≤ k ∧ k < w7.heap.size := fun k hk => own.lt k (by simpa using hk)
      have IN3 : In A2 l (Value.slice A2 l c2).ownBlock.toList := in_own own
      generalize (Value.slice A2 l c2).ownBlock.toList = K3 at *
      have hN5 : N < w5.heap.size := HB6.out.lt
      have htN : t ≠ N := fun e => hNF (by simp [e])
      have nFN : N ∉ F := fun hm => hNF (by simp [hm])
      have HB7 := HB6.out.below bel hN5
      have T7 := ftab_bar t5 (barOf bel []) (by simp)
      have D7 := d5.keep (barOf bel []) (fun _ _ => by simp)
      have J7 := j5.below bel j5.lt
      have FL5 : ∀ k ∈ t :: F, k < w5.heap.size := fun k hk => by
        rcases List.mem_cons.1 hk with rfl | hk
        · exact ftab_lt t5
        · exact d5.lts k hk
      have jl5 := j5.lt
      have nxK : j ∉ K3 := fun hk => by have := K3L j hk; omega
      have dF2 : Disj F (j :: K3) := fun k hk hk2 => by
        rcases List.mem_cons.1 hk2 with rfl | hk2
        · exact jF hk
        · have := K3L k hk2; have := FL5 k (by simp [hk]); omega
      have ntK2 : t ∉ j :: K3 := fun hk2 => by
        rcases List.mem_cons.1 hk2 with e | hk2
        · exact ntK (by simp [e])
        · have := K3L t hk2; have := FL5 t (by simp); omega
      have szw5 : w.heap.size ≤ w5.heap.size := FP5.out.1.size
      have sz57 := bel.size
      have FP7 : Fp H (t :: (F ++ j :: K3)) w w7 := ⟨FP5.out.1.trans (barOf bel []) (by simp), fun k hk => by
        simp only [List.mem_append, List.mem_cons] at hk
        rcases hk with hk | hk | hk | hk
        · exact FP5.out.2 k (by simp [hk])
        · exact FP5.out.2 k (by simp [hk])
        · exact FP5.out.2 k (by simp [hk])
        · have := K3L k hk; exact .inr (by omega)⟩
      have f3 := HB7.cell 3; have f5 := HB7.cell 5; have g3 := HB7.frozen 3; have g5 := HB7.frozen 5
      have hbn : Bar [N] w7 ((w7.setCell ⟨N, 3, none⟩ (.slice A2 l c2)).setCell ⟨N, 5, none⟩ (.int .i64 ((M - kb : Nat) : Int))) := ((Bar.refl [N] w7).setCell (by simp) _).setCell (by simp) _
      have HB8 : Blk ((w7.setCell ⟨N, 3, none⟩ (.slice A2 l c2)).setCell ⟨N, 5, none⟩ (.int .i64 ((M - kb : Nat) : Int))) N 85 #[.int .i64 (h2 : Nat), .int .i64 (v.gen + 1), .bool true, .slice A2 l c2, .slice none 0 0, .int .i64 ((M - kb : Nat) : Int)] := (HB7.set_ 3 _).set_ 5 _
      have T8 := ftab_bar T7 hbn (by simpa using htN)
      have D8 := D7.keep hbn (set1_far nFN)
      have J8 := J7.bar hbn (by simp; omega)
      have R8 := q3.far hbn (IN3.off (fun k hk hk2 => by rw [List.mem_singleton] at hk2; have := K3L k hk; omega))
      have FP8 : Fp H (t :: (F ++ j :: K3)) w ((w7.setCell ⟨N, 3, none⟩ (.slice A2 l c2)).setCell ⟨N, 5, none⟩ (.int .i64 ((M - kb : Nat) : Int))) := ⟨FP7.1.trans hbn (fun k hk => by rw [List.mem_singleton] at hk; exact .inr (by omega)), FP7.2⟩
      have KL8 : ∀ k ∈ K3, k < ((w7.setCell ⟨N, 3, none⟩ (.slice A2 l c2)).setCell ⟨N, 5, none⟩ (.int .i64 ((M - kb : Nat) : Int))).heap.size := fun k hk => Nat.lt_of_lt_of_le (K3L k hk).2 hbn.size
      have hv9 : COk n ⟨1 - v.half, v.gen + 1, true, b, [], kb, 1, v.dead⟩ := by
        have h1 := OK.out
        have h2' := HBE.out.2.2
        refine ⟨?_, ?_, rfl, ?_, ?_, hb6, ?_⟩
        · show 1 - v.half = 0 ∨ 1 - v.half = 1; have := h1.half; omega
        · show 0 ≤ v.gen + 1 ∧ v.gen + 1 ≤ 4294967295; have := h1.gen; omega
        · show kb ≤ n / 2; omega
        · show ([] : List (List Int)).length ≤ kb; simp
        · intro q hq; cases hq
      have PG := Kept.mk (cy_pict (b := b) T8 D8 J8 q1 q2 R8 IN3 KL8 nxK ntF ntK2 dF2 FP8 hjH (1 - v.half) kb (M - kb) (v.gen + 1) hv9 (by have := HBE.out.2.2; omega) (fun _ => by have := HBE.out.2.2; omega))
      rw [← AC1.out, HBE.out.2.2, HBE.out.2.1] at PG
      clear FP7 FP8 T7 D7 J7 HB7 T8 D8 KL8 R8 hv9 FL5 K3L IN3 q3 hbn nxK dF2 ntK2 AC1 t5 d5 j5 FP5 SY5 HR HO HLT OK HBE dN dFK ntK ntF hNH hN2H hNH' hNF jF RB5 bods own bel HB6 CL he7
      have k0 := HB8.cell 0; have k1 := HB8.cell 1; have k2 := HB8.cell 2; have k3 := HB8.cell 3; have k4 := HB8.cell 4; have k5 := HB8.cell 5
      have j2 := J8.cell 2; have j3 := J8.cell 3; have j4 := J8.cell 4; have j5 := J8.cell 5; have j6 := J8.cell 6; have j7 := J8.cell 7
      have i2 := J8.frozen 2; have i3 := J8.frozen 3; have i4 := J8.frozen 4; have i5 := J8.frozen 5; have i6 := J8.frozen 6; have i7 := J8.frozen 7
      clear HB8 J8
      go_upto_region 7 with (fail)
      clear f3 f5 g3 g5
      generalize ((w7.setCell ⟨N, 3, none⟩ (.slice A2 l c2)).setCell ⟨N, 5, none⟩ (.int .i64 ((M - kb : Nat) : Int))) = w8 at *
      have j2' : ∃ u, w8.cell? ⟨j, 2, none⟩ = some u := ⟨_, j2⟩
      have j3' : ∃ u, w8.cell? ⟨j, 3, none⟩ = some u := ⟨_, j3⟩
      have j4' : ∃ u, w8.cell? ⟨j, 4, none⟩ = some u := ⟨_, j4⟩
      have j5' : ∃ u, w8.cell? ⟨j, 5, none⟩ = some u := ⟨_, j5⟩
      have j6' : ∃ u, w8.cell? ⟨j, 6, none⟩ = some u := ⟨_, j6⟩
      have j7' : ∃ u, w8.cell? ⟨j, 7, none⟩ = some u := ⟨_, j7⟩
      clear j2 j3 j4 j5 j6 j7
      obtain ⟨u2, j2⟩ := j2'; obtain ⟨u3, j3⟩ := j3'; obtain ⟨u4, j4⟩ := j4'; obtain ⟨u5, j5⟩ := j5'; obtain ⟨u6, j6⟩ := j6'; obtain ⟨u7, j7⟩ := j7'
      go_wp2
      go_ret
      exact PG.out
    · have PG := Kept.mk (show ActPost Cj w H t d j n (compactJ s v b) (.returned (.int .i64 er)) w5 from by
        rw [AC.out.1]; unfold actC; rw [if_neg h0]; exact ⟨rfl, H', SY5.out, FP5.out⟩)
      clear AC SY5 FP5 OK HO HR HLT HBE HB6
      go_wp2
      go_ret
      exact PG.out
end Go.Proofs.YtjlhnhkjgcbnnaaGreat.Journal

/-
  The texts of a disk's halves, of values alone.
-/

namespace Go.Proofs.YtjlhnhkjgcbnnaaGreat.Journal
open Go.Proofs.YtjlhnhkjgcbnnaaGreat.Sha Go.Proofs.YtjlhnhkjgcbnnaaGreat.Disk Go.Proofs.YtjlhnhkjgcbnnaaGreat.Frame

/-- what was read so far -/
def textM (s : DS) (half m k : Nat) : List Int := cat (fun i => rowOf s.now (half * hn s + m + i)) k
theorem textM_all (s : DS) (half m : Nat) : textM s half m (hn s - m) = textJ s half m := rfl
theorem textM_len {n : Nat} {s : DS} (h : WF n s) {half m k : Nat} (hh : half ≤ 1) (hk : m + k ≤ hn s) : (textM s half m k).length = 64 * k := by
  have hhn := wf_hn h
  refine cat_len (c := 64) k (fun j hj => ?_)
  have : half * hn s ≤ hn s := by rcases (show half = 0 ∨ half = 1 by omega) with e | e <;> subst e <;> omega
  exact ((h.secs _ (by omega)).1).1
theorem readD_at {n : Nat} {s : DS} (h : WF n s) (hd : s.down = false) {j : Nat} (hj : j < n) : readD s (j : Nat) = (0, rowOf s.now j) := by
  unfold readD
  rw [if_neg (by simp [hd]), if_neg (by unfold noSector; rw [h.now]; omega), Int.toNat_natCast]

/-- a frame that is read tells numbers that go in -/
theorem getF_bounds {b : List Int} (hb : Bytes b) (h : (getF b).2.2 = 0) : 0 ≤ (getF b).1.gen ∧ (getF b).1.gen ≤ 4294967295 ∧ (getF b).1.seq ≤ 4294967295 ∧ 1 ≤ (getF b).2.1.toNat ∧ 64 * (getF b).2.1.toNat ≤ b.length ∧ (getF b).2.1 = ((getF b).2.1.toNat : Nat) := by
  unfold getF at h ⊢
  by_cases hk : getOk b
  · rw [if_pos hk] at h ⊢
    have h2 : fG b < 4294967296 := val4 _ ((((hb.take _).drop _).drop _).take _) (by simp; omega)
    have h3 : fS b < 4294967296 := val4 _ ((((hb.take _).drop _).drop _).take _) (by simp; omega)
    obtain ⟨-, -, k3, k4, -⟩ := hk
    have k0 : 0 ≤ sectorsF (fN b) := by unfold sectorsF; split <;> omega
    simp only [frameOf]
    omega
  · rw [if_neg hk] at h
    simp at h
theorem text_bytes {n : Nat} {s : DS} (hwf : WF n s) {half m : Nat} (hh : half ≤ 1) : Bytes (textJ s half m) := by
  have hhn := wf_hn hwf
  rw [← textM_all]
  unfold textM
  have : ∀ k, k ≤ hn s - m → Bytes (cat (fun i => rowOf s.now (half * hn s + m + i)) k) := fun k => by
    induction k with
    | zero => intro _ z hz; simp [cat] at hz
    | succ k ih =>
      intro hk
      refine (ih (by omega)).append ?_
      have : half * hn s ≤ hn s := by rcases (show half = 0 ∨ half = 1 by omega) with e | e <;> subst e <;> omega
      exact ((hwf.secs _ (by omega)).1).2
  exact this _ (Nat.le_refl _)
theorem text_len {n : Nat} {s : DS} (hwf : WF n s) {half m : Nat} (hh : half ≤ 1) : (textJ s half m).length = 64 * (hn s - m) := by
  rcases Nat.le_total m (hn s) with hle | hle
  · rw [← textM_all]; exact textM_len hwf hh (by omega)
  · rw [← textM_all, show hn s - m = 0 by omega]; rfl

end Go.Proofs.YtjlhnhkjgcbnnaaGreat.Journal

/-
  The landed journal: begin, the half that a text tells, with its picture.
-/




namespace Go.Proofs.YtjlhnhkjgcbnnaaGreat.Journal
open Go.RowKit Go.Proofs.YtjlhnhkjgcbnnaaGreat.Sha Go.Proofs.YtjlhnhkjgcbnnaaGreat.Disk Go.Proofs.YtjlhnhkjgcbnnaaGreat.Frame

def hitB (b : List Int) : Prop := (getF b).2.2 = 0 ∧ (getF b).1.kind = 1 ∧ (getF b).1.seq = 0
def hvl (fr gen : Int) (has : Bool) (A : Option Addr) (m c : Nat) : Value := .agg #[.int .i64 fr, .int .i64 gen, .bool has, .slice A m c, .slice none 0 0, .int .i64 0]
def BegPost (t : Nat) (fr : Int) (b : List Int) (A : Option Addr) (l c : Nat) (w : World) (e : Ending) (w' : World) : Prop := Tab w' t ∧ Bar [t] w w' ∧
  ((¬ hitB b ∧ e = .returned (.tuple #[hvl fr 0 false none 0 0, .slice A l c])) ∨
   (hitB b ∧ ∃ Ap m cp A2 l2 c2, e = .returned (.tuple #[hvl fr (getF b).1.gen true Ap m cp, .slice A2 l2 c2]) ∧ m ≤ cp ∧ cp ≤ maxLen ∧ Rd w' Ap m (getF b).1.body ∧ (∀ F : List Nat, (∀ k ∈ F, k < w.heap.size) → Off Ap m F) ∧
     l2 = l - 64 * (getF b).2.1.toNat ∧ l2 ≤ c2 ∧ c2 ≤ maxLen ∧ Rd w' A2 l2 (b.drop (64 * (getF b).2.1.toNat)) ∧ (∀ F, Off A l F → Off A2 l2 F)))
theorem results_cell_one {P : Program} {fn : Func} {p u : Tmp} {ty : TypeId} (h : fn.results = #[.cell p ty, .tmp u]) (tmps : Array Value) (w : World) (g : Nat) (t : TypeId) (cs : Array Value) (fr : Nat × Nat) (d : TypeDesc)
    (hp : tmps.getD p undef = .pointer (some ⟨g, 0, none⟩)) (hg : w.heap[g]? = some (.cells cs t fr))
    (hu : P.underlying ty = some d) (hd : (match d with | .struct _ | .array _ _ => true | _ => false) = true) (hi : (P.info? ty).map (·.size) = some cs.size) :
    (results fn tmps).run P w = .ok (.tuple #[.agg cs, tmps.getD u undef]) w := by
  have hp' : tmps[p]?.getD undef = .pointer (some ⟨g, 0, none⟩) := by simpa using hp
  simp [results, h, hp', asAddr, run_loadVar_row w g t ty cs fr d hg hu hd hi, Result.andThen]
theorem half_size : (Tryz.prog.info? 85).map (·.size) = some 6 := by kernel_rfl
theorem off_two {A : Option Addr} {l : Nat} {F G : List Nat} (h1 : Off A l F) (h2 : Off A l G) : Off A l (F ++ G) := by
  rcases h1 with h | ⟨g, o, rfl, hg⟩
  · exact .inl h
  · rcases h2 with h | ⟨g', o', e, hg'⟩
    · exact .inl h
    · injection e with e; injection e with e1 e2
      subst e1
      exact .inr ⟨g, o, rfl, by simp [hg, hg']⟩

theorem slice_l_all (A : Option Addr) (n c : Nat) (hc : n ≤ c) (l : Nat) (h1 : l ≤ n) (li : Int) (e1 : li = l) :
    ∃ A', (∀ w', (Instr.slice 38 (.slice A n c) (some (.int .i64 li)) none none).run Tryz.prog w' = .ok (.slice A' (n - l) (c - l)) w') ∧ (∀ w xs, Rd w A n xs → Rd w A' (n - l) (xs.drop l)) ∧ ∀ F, Off A n F → Off A' (n - l) F := by
  refine ⟨if c = l then A else A.map (·.add (l * 1)), fun w' => ?_, fun w xs r => ?_, fun F hF => ?_⟩
  · subst e1
    rw [run_slice_l w' 38 A n c und_u8 .i64 l (by omega) (by omega), size_u8]
    rfl
  · have hp := (r.piece hc l n h1 (Nat.le_refl _)).1
    rw [show xs.take n = xs from List.take_of_length_le (by rw [r.1]; exact Nat.le_refl _)] at hp
    exact hp
  · rcases hF with hF | ⟨g, o, rfl, hg⟩
    · exact .inl (by omega)
    · by_cases hcl : c = l
      · rw [if_pos hcl]; exact .inr ⟨g, o, rfl, hg⟩
      · rw [if_neg hcl, Nat.mul_one]
        refine .inr ⟨g, o + l, ?_, hg⟩
        simp only [Option.map_some]
        have ea : (⟨g, o, none⟩ : Addr).add l = ⟨g, o + l, none⟩ := by cases l <;> simp [Addr.add]
        rw [ea]
theorem beg_hit {w w' : World} {t : Nat} {fr fg : Int} {b fb : List Int} {A A3 A2 : Option Addr} {l c n3 c3 l2 c2 kk : Nat} (hh : hitB b) (h1 : (getF b).1.gen = fg) (h2 : (getF b).1.body = fb) (h3 : (getF b).2.1.toNat = kk) (ht : Tab w' t) (hb : Bar [t] w w') (hc3 : n3 ≤ c3) (hcm3 : c3 ≤ maxLen) (r3 : Rd w' A3 n3 fb) (o3 : ∀ F : List Nat, (∀ k ∈ F, k < w.heap.size) → Off A3 n3 F)
    (hl2 : l2 = l - 64 * kk) (hc2 : l2 ≤ c2) (hcm2 : c2 ≤ maxLen) (r2 : Rd w' A2 l2 (b.drop (64 * kk))) (o2 : ∀ F, Off A l F → Off A2 l2 F) : BegPost t fr b A l c w (.returned (.tuple #[hvl fr fg true A3 n3 c3, .slice A2 l2 c2])) w' := by
  subst h1 h2 h3
  exact ⟨ht, hb, .inr ⟨hh, A3, n3, c3, A2, l2, c2, rfl, hc3, hcm3, r3, o3, hl2, hc2, hcm2, r2, o2⟩⟩

set_option maxRecDepth 100000 in
set_option maxHeartbeats 4000000 in
theorem jbegin_any (api : FrameApi) {w : World} {t : Nat} {b : List Int} {A : Option Addr} {l c : Nat} (fr : Int) (ht : Tab w t) (hr : Rd w A l b) (hc : l ≤ c) (hcm : c ≤ maxLen) (hl : l ≤ 1000000) (hO : Off A l [t]) :
    Calls Tryz.prog 33 #[.pointer (some ⟨t, 0, none⟩), .int .i64 fr, .slice A l c] w (BegPost t fr b A l c w) := by
  obtain ⟨N, hN⟩ : ∃ N, w.heap.size = N := ⟨_, rfl⟩
  have htN : t < N := by rw [← hN]; exact ftab_lt ht
  have b1 : Below w.heap.size w ((w.alloc (.cells #[.int .i64 0, .int .i64 0, .bool false, .slice none 0 0, .slice none 0 0, .int .i64 0] 85)).alloc (.cells #[.int .i64 fr, .int .i64 0, .bool false, .slice none 0 0, .slice none 0 0, .int .i64 0] 85)) := ((Below.refl _ w).alloc (Nat.le_refl _) _).alloc (by simp) _
  have RB0 := (Blk.new_at w 85 #[.int .i64 0, .int .i64 0, .bool false, .slice none 0 0, .slice none 0 0, .int .i64 0] N hN.symm).below ((Below.refl _ _).alloc (Nat.le_refl _) (.cells #[.int .i64 fr, .int .i64 0, .bool false, .slice none 0 0, .slice none 0 0, .int .i64 0] 85)) (by simp [hN])
  have HB0 := Blk.new_at (w.alloc (.cells #[.int .i64 0, .int .i64 0, .bool false, .slice none 0 0, .slice none 0 0, .int .i64 0] 85)) 85 #[.int .i64 fr, .int .i64 0, .bool false, .slice none 0 0, .slice none 0 0, .int .i64 0] (N + 1) (by simp [hN])
  have hs1 : ((w.alloc (.cells #[.int .i64 0, .int .i64 0, .bool false, .slice none 0 0, .slice none 0 0, .int .i64 0] 85)).alloc (.cells #[.int .i64 fr, .int .i64 0, .bool false, .slice none 0 0, .slice none 0 0, .int .i64 0] 85)).heap.size = N + 2 := by simp [hN]
  have hN1 : (w.alloc (.cells #[.int .i64 0, .int .i64 0, .bool false, .slice none 0 0, .slice none 0 0, .int .i64 0] 85)).heap.size = N + 1 := by simp [hN]
  have T1 := ftab_below ht b1 (ftab_lt ht)
  have R1 := hr.below b1
  have GC := Kept.mk (api.get T1 R1 hc hcm hl hO)
  have HB := Kept.mk HB0
  have RB := Kept.mk RB0
  have HO := Kept.mk hO
  have HR := Kept.mk hr
  have BA := Kept.mk b1
  clear ht hr hO b1 RB0 HB0 T1 R1
  go_enter Tryz.func33, Tryz.ntmps33
  go_wp2_with fail
  refine GC.out.mono ?_
  generalize ((w.alloc (.cells #[.int .i64 0, .int .i64 0, .bool false, .slice none 0 0, .slice none 0 0, .int .i64 0] 85)).alloc (.cells #[.int .i64 fr, .int .i64 0, .bool false, .slice none 0 0, .slice none 0 0, .int .i64 0] 85)) = w1 at *
  rintro e w3 ⟨A3, n3, c3, rfl, hc3, hcm3, r3, o3, t3, bt3⟩
  obtain ⟨T, hT⟩ : ∃ T, w3.heap.size = T := ⟨_, rfl⟩
  have sz3 := bt3.size
  have hTN : N + 2 ≤ T := by omega
  obtain ⟨⟨⟨fk, fg, fs, fb⟩, gk, ge⟩, hg⟩ : ∃ g, getF b = g := ⟨_, rfl⟩
  rw [hg] at r3 ⊢
  have HG := Kept.mk hg
  simp only [frv] at r3 ⊢
  have ba : Below w3.heap.size w3 (w3.alloc (.cells #[.int .i64 fk, .int .i64 fg, .int .i64 fs, .slice A3 n3 c3] 56)) := (Below.refl _ _).alloc (Nat.le_refl _) _
  have BA3 : Kept (Bar [t] w (w3.alloc (.cells #[.int .i64 fk, .int .i64 fg, .int .i64 fs, .slice A3 n3 c3] 56))) := ⟨((barOf BA.out [t]).trans bt3 (by simp)).trans (barOf ba []) (by simp)⟩
  have T3 := Kept.mk (ftab_bar t3 (barOf ba []) (by simp))
  have R3 := Kept.mk (r3.below ba)
  have RR := Kept.mk (HR.out.far BA3.out HO.out)
  replace HB := Kept.mk ((HB.out.bar bt3 (by simp; omega)).below ba (by omega))
  replace RB := Kept.mk ((RB.out.bar bt3 (by simp; omega)).below ba (by omega))
  have FBk := Kept.mk (Blk.new_at w3 56 #[.int .i64 fk, .int .i64 fg, .int .i64 fs, .slice A3 n3 c3] T hT.symm)
  have O3 : Kept (∀ F : List Nat, (∀ k ∈ F, k < N + 2) → Off A3 n3 F) := ⟨fun F hF => o3 F (fun k hk => by rw [hs1]; exact hF k hk)⟩
  clear GC BA r3 t3 bt3 o3 ba hs1 hN1
  have MS : Kept (ge ≠ 0 ∨ fk ≠ 1 ∨ fs ≠ 0 → ¬ hitB b) := ⟨by
    rintro h ⟨a1, a2, a3⟩
    rw [HG.out] at a1 a2 a3
    rcases h with h | h | h
    · exact h a1
    · exact h a2
    · exact h a3⟩
  have HIT : Kept (ge = 0 → fk = 1 → fs = 0 → hitB b) := ⟨fun a1 a2 a3 => ⟨by rw [HG.out]; exact a1, by rw [HG.out]; exact a2, by rw [HG.out]; exact a3⟩⟩
  have f0 := FBk.out.cell 0
  have f2 := FBk.out.cell 2
  have PM : Kept (¬ hitB b → ∀ w', Bar [N] (w3.alloc (.cells #[.int .i64 fk, .int .i64 fg, .int .i64 fs, .slice A3 n3 c3] 56)) w' → BegPost t fr b A l c w (.returned (.tuple #[hvl fr 0 false none 0 0, .slice A l c])) w') := ⟨fun hm w' hb => ⟨ftab_bar T3.out hb (by simp; omega), BA3.out.trans hb (fun k hk => by rw [List.mem_singleton] at hk; exact .inr (by omega)), .inl ⟨hm, rfl⟩⟩⟩
  by_cases h1 : ge = 0
  · subst h1
    by_cases h2 : fk = 1
    · subst h2
      by_cases h3 : fs = 0
      · subst h3
        have hh := HIT.out rfl rfl rfl
        have hgb := getF_bounds (b := b) RR.out.2.1 (by rw [HG.out])
        rw [HG.out] at hgb
        simp only at hgb
        obtain ⟨kk, hkk⟩ : ∃ q, gk.toNat = q := ⟨_, rfl⟩
        rw [hkk] at hgb
        obtain ⟨-, -, -, hk1, hk2, rfl⟩ := hgb
        have hbl := RR.out.1
        have hk3 : 64 * kk ≤ l := by omega
        clear hkk MS HIT PM hk2 hbl
        go_upto_region 5 with (fail)
        clear f0 f2
        generalize (w3.alloc (.cells #[.int .i64 1, .int .i64 fg, .int .i64 0, .slice A3 n3 c3] 56)) = w4x at *
        have BA4 : Kept (Bar [t] w w4x.drew) := ⟨BA3.out.trans (barOf (Below.refl w4x.heap.size w4x).drew []) (by simp)⟩
        have T4 := Kept.mk (ftab_bar T3.out (barOf (Below.refl w4x.heap.size w4x).drew []) (by simp))
        have R4 := Kept.mk R3.out.drew
        have RR4 := Kept.mk RR.out.drew
        have HB4 := HB.out.drew
        have RB4 := RB.out.drew
        have FB4 := FBk.out.drew
        clear BA3 T3 R3 RR HB RB FBk
        refine wp_region_noPanic ?_
        refine wp_region_held_drew (S := fun w' : World => w'.cell? ⟨T, 1, none⟩ = some (.int .i64 fg) ∧ w'.cell? ⟨T, 3, none⟩ = some (.slice A3 n3 c3)) (by kernel_rfl) ⟨FB4.cell 1, FB4.cell 3⟩ (fun hHeld => ?_)
        generalize w4x.drew = w4 at *
        have z1 := HB4.frozen 1; have z2 := HB4.frozen 2; have z3 := HB4.frozen 3
        have y1 := HB4.cell 1; have y2 := HB4.cell 2; have y3 := HB4.cell 3
        have hbS : Bar [N + 1] w4 (((w4.setCell ⟨N + 1, 1, none⟩ (.int .i64 fg)).setCell ⟨N + 1, 2, none⟩ (.bool true)).setCell ⟨N + 1, 3, none⟩ (.slice A3 n3 c3)) := (((Bar.refl [N + 1] w4).setCell (by simp) _).setCell (by simp) _).setCell (by simp) _
        have HB5 : Blk (((w4.setCell ⟨N + 1, 1, none⟩ (.int .i64 fg)).setCell ⟨N + 1, 2, none⟩ (.bool true)).setCell ⟨N + 1, 3, none⟩ (.slice A3 n3 c3)) (N + 1) 85 #[.int .i64 fr, .int .i64 fg, .bool true, .slice A3 n3 c3, .slice none 0 0, .int .i64 0] := ((HB4.set_ 1 _).set_ 2 _).set_ 3 _
        have RB5 := RB4.bar hbS (by simp)
        have BA5 : Kept (Bar [t] w (((w4.setCell ⟨N + 1, 1, none⟩ (.int .i64 fg)).setCell ⟨N + 1, 2, none⟩ (.bool true)).setCell ⟨N + 1, 3, none⟩ (.slice A3 n3 c3))) := ⟨BA4.out.trans hbS (fun k hk => by rw [List.mem_singleton] at hk; exact .inr (by omega))⟩
        have T5 := Kept.mk (ftab_bar T4.out hbS (by simp; omega))
        have R5 := Kept.mk (R4.out.far hbS (O3.out [N + 1] (by simp)))
        have RR5 := Kept.mk (HR.out.far BA5.out HO.out)
        have FS1 : ∀ v, (w4.setCell ⟨N + 1, 1, none⟩ v).cell? ⟨T, 1, none⟩ = some (.int .i64 fg) ∧ (w4.setCell ⟨N + 1, 1, none⟩ v).cell? ⟨T, 3, none⟩ = some (.slice A3 n3 c3) := fun v => by
          have q := FB4.bar (show Bar [N + 1] w4 (w4.setCell ⟨N + 1, 1, none⟩ v) from (Bar.refl [N + 1] w4).setCell (by simp) _) (by simp; omega)
          exact ⟨q.cell 1, q.cell 3⟩
        have FS2 : ∀ v v', ((w4.setCell ⟨N + 1, 1, none⟩ v).setCell ⟨N + 1, 2, none⟩ v').cell? ⟨T, 1, none⟩ = some (.int .i64 fg) ∧ ((w4.setCell ⟨N + 1, 1, none⟩ v).setCell ⟨N + 1, 2, none⟩ v').cell? ⟨T, 3, none⟩ = some (.slice A3 n3 c3) := fun v v' => by
          have q := FB4.bar (show Bar [N + 1] w4 ((w4.setCell ⟨N + 1, 1, none⟩ v).setCell ⟨N + 1, 2, none⟩ v') from ((Bar.refl [N + 1] w4).setCell (by simp) _).setCell (by simp) _) (by simp; omega)
          exact ⟨q.cell 1, q.cell 3⟩
        have FS3 := FB4.bar hbS (by simp; omega)
        clear BA4 T4 R4 RR4 HB4 RB4 FB4 hbS
        refine wpAnyH_take (i := 0) (oi := ?o119) (v := ?v119) ?hi119 (by kernel_rfl) (by kernel_rfl) (by kernel_rfl) ?hq119 (Or.inl ⟨?hw119, ?hy119⟩) (by assumption) ?r119
        case hi119 => (simp only [List.getElem?_toArray, List.getElem?_cons_zero]; exact rfl)
        case hq119 => exact fun _ _ _ h => h
        case hw119 => rfl
        case hy119 => (intro w hSw; (try dsimp only at hSw); go_simp; try exact rfl)
        simp only [Act.put, List.setIfInBounds_toArray, List.set_cons_zero, List.set_cons_succ]
        refine wpAnyH_take (i := 1) (oi := ?o120) (v := ?v120) ?hi120 (by kernel_rfl) (by kernel_rfl) (by kernel_rfl) ?hq120 (Or.inl ⟨?hw120, ?hy120⟩) (by assumption) ?r120
        case hi120 => (simp only [List.getElem?_toArray, List.getElem?_cons_succ, List.getElem?_cons_zero]; exact rfl)
        case hq120 => exact fun _ _ _ h => h
        case hw120 => rfl
        case hy120 => (intro w hSw; (try dsimp only at hSw); go_simp; try exact rfl)
        simp only [Act.put, List.setIfInBounds_toArray, List.set_cons_zero, List.set_cons_succ]
        refine wpAnyH_take (i := 2) (oi := ?o121) (v := ?v121) ?hi121 (by kernel_rfl) (by kernel_rfl) (by kernel_rfl) ?hq121 (Or.inl ⟨?hw121, ?hy121⟩) (by assumption) ?r121
        case hi121 => (simp only [List.getElem?_toArray, List.getElem?_cons_succ, List.getElem?_cons_zero]; exact rfl)
        case hq121 => exact fun _ _ _ h => h
        case hw121 => rfl
        case hy121 => (intro w hSw; (try dsimp only at hSw); go_simp; try exact rfl)
        simp only [Act.put, List.setIfInBounds_toArray, List.set_cons_zero, List.set_cons_succ]
        refine wpAnyH_take (i := 3) (oi := ?o122) (v := ?v122) ?hi122 (by kernel_rfl) (by kernel_rfl) (by kernel_rfl) ?hq122 (Or.inl ⟨?hw122, ?hy122⟩) (by assumption) ?r122
        case hi122 => (simp only [List.getElem?_toArray, List.getElem?_cons_succ, List.getElem?_cons_zero]; exact rfl)
        case hq122 => exact fun _ _ _ h => h
        case hw122 => rfl
        case hy122 => (intro w hSw; (try dsimp only at hSw); go_simp; try exact rfl)
        simp only [Act.put, List.setIfInBounds_toArray, List.set_cons_zero, List.set_cons_succ]
        refine wpAnyH_take (i := 4) (oi := ?o123) (v := ?v123) ?hi123 (by kernel_rfl) (by kernel_rfl) (by kernel_rfl) ?hq123 (Or.inl ⟨?hw123, ?hy123⟩) (by assumption) ?r123
        case hi123 => (simp only [List.getElem?_toArray, List.getElem?_cons_succ, List.getElem?_cons_zero]; exact rfl)
        case hq123 => exact fun _ _ _ h => h
        case hw123 => rfl
        case hy123 => (intro w hSw; (try dsimp only at hSw); go_simp; try exact rfl)
        simp only [Act.put, List.setIfInBounds_toArray, List.set_cons_zero, List.set_cons_succ]
        refine wpAnyH_ready (rs := [5]) (by kernel_rfl) (by simp) ?_
        refine AllReadyH.cons (o := ?o132) ?hi132 (fun K hK => ?_) AllReadyH.nil
        case hi132 => (simp only [List.getElem?_toArray, List.getElem?_cons_succ, List.getElem?_cons_zero]; exact rfl)
        go_simp
        refine hK.out _ _ (FS1 _) (fun hHeld2 => ?_)
        clear hK K
        try simp only [Act.put]
        refine wpAnyH_take (i := 6) (oi := ?o124) (v := ?v124) ?hi124 (by kernel_rfl) (by kernel_rfl) (by kernel_rfl) ?hq124 (Or.inl ⟨?hw124, ?hy124⟩) (by assumption) ?r124
        case hi124 => (simp only [List.getElem?_toArray, List.getElem?_cons_succ, List.getElem?_cons_zero]; exact rfl)
        case hq124 => exact fun _ _ _ h => h
        case hw124 => rfl
        case hy124 => (intro w hSw; (try dsimp only at hSw); go_simp; try exact rfl)
        simp only [Act.put, List.setIfInBounds_toArray, List.set_cons_zero, List.set_cons_succ]
        refine wpAnyH_ready (rs := [7]) (by kernel_rfl) (by simp) ?_
        refine AllReadyH.cons (o := ?o133) ?hi133 (fun K hK => ?_) AllReadyH.nil
        case hi133 => (simp only [List.getElem?_toArray, List.getElem?_cons_succ, List.getElem?_cons_zero]; exact rfl)
        go_simp
        refine hK.out _ _ (FS2 _ _) (fun hHeld3 => ?_)
        clear hK K
        try simp only [Act.put]
        refine wpAnyH_take (i := 8) (oi := ?o125) (v := ?v125) ?hi125 (by kernel_rfl) (by kernel_rfl) (by kernel_rfl) ?hq125 (Or.inl ⟨?hw125, ?hy125⟩) (by assumption) ?r125
        case hi125 => (simp only [List.getElem?_toArray, List.getElem?_cons_succ, List.getElem?_cons_zero]; exact rfl)
        case hq125 => exact fun _ _ _ h => h
        case hw125 => rfl
        case hy125 => (intro w hSw; (try dsimp only at hSw); go_simp; try exact rfl)
        simp only [Act.put, List.setIfInBounds_toArray, List.set_cons_zero, List.set_cons_succ]
        refine wpAnyH_ready (rs := [9]) (by kernel_rfl) (by simp) ?_
        refine AllReadyH.cons (o := ?o134) ?hi134 (fun K hK => ?_) AllReadyH.nil
        case hi134 => (simp only [List.getElem?_toArray, List.getElem?_cons_succ, List.getElem?_cons_zero]; exact rfl)
        go_simp
        refine hK.out _ _ ⟨FS3.cell 1, FS3.cell 3⟩ (fun _ => ?_)
        clear hK K hHeld hHeld2 hHeld3 FS1 FS2 FS3 z1 z2 z3 y1 y2 y3
        try simp only [Act.put]
        refine wpAnyH_done (by kernel_rfl) ?_ _
        refine NoPanic.normal ?_
        generalize (((w4.setCell ⟨N + 1, 1, none⟩ (.int .i64 fg)).setCell ⟨N + 1, 2, none⟩ (.bool true)).setCell ⟨N + 1, 3, none⟩ (.slice A3 n3 c3)) = w5 at *
        go_upto_region 6 with (fail)
        have BA6 : Kept (Bar [t] w w5.drew) := ⟨BA5.out.trans (barOf (Below.refl w5.heap.size w5).drew []) (by simp)⟩
        have T6 := Kept.mk (ftab_bar T5.out (barOf (Below.refl w5.heap.size w5).drew []) (by simp))
        have R6 := Kept.mk R5.out.drew
        have RR6 := Kept.mk RR5.out.drew
        have HB6 := HB5.drew
        have RB6 := RB5.drew
        have W1 : IntKind.i64.wrap ((kk : Int) * 64) = (kk : Int) * 64 := by simp only [IntKind.wrap_i64]; omega
        obtain ⟨A2, s2, r2, o2⟩ := slice_l_all A l c hc (64 * kk) hk3 ((kk : Int) * 64) (by omega)
        clear BA5 T5 R5 RR5 HB5 RB5
        refine wp_region_noPanic ?_
        refine wp_region_held_drew (S := fun w' : World => w'.cell? ⟨N + 1, 0, none⟩ = some (.int .i64 fr) ∧ w'.cell? ⟨N + 1, 1, none⟩ = some (.int .i64 fg) ∧ w'.cell? ⟨N + 1, 2, none⟩ = some (.bool true) ∧ w'.cell? ⟨N + 1, 3, none⟩ = some (.slice A3 n3 c3) ∧ w'.cell? ⟨N + 1, 4, none⟩ = some (.slice none 0 0) ∧ w'.cell? ⟨N + 1, 5, none⟩ = some (.int .i64 0)) (by kernel_rfl) ⟨HB6.cell 0, HB6.cell 1, HB6.cell 2, HB6.cell 3, HB6.cell 4, HB6.cell 5⟩ (fun hHeld => ?_)
        generalize w5.drew = w6 at *
        have P6 := put6 RB6 (.int .i64 fr) (.int .i64 fg) (.bool true) (.slice A3 n3 c3) (.slice none 0 0) (.int .i64 0)
        have HB7 := HB6.bar P6.2 (by simp)
        have RR7 := HR.out.far ((BA6.out.trans P6.2 (fun k hk => by rw [List.mem_singleton] at hk; exact .inr (by omega)))) HO.out
        have PG := Kept.mk (beg_hit (fr := fr) (c := c) hh (congrArg (fun g => g.1.gen) HG.out) (congrArg (fun g => g.1.body) HG.out) (show (getF b).2.1.toNat = kk by rw [HG.out]; exact Int.toNat_natCast kk) (ftab_bar T6.out P6.2 (by simp; omega)) (BA6.out.trans P6.2 (fun k hk => by rw [List.mem_singleton] at hk; exact .inr (by omega))) hc3 hcm3 (R6.out.far P6.2 (O3.out [N] (by simp))) (fun F hF => O3.out F (fun k hk => by have := hF k hk; omega)) rfl (show l - 64 * kk ≤ c - 64 * kk by omega) (by omega) (r2 _ _ RR7) o2)
        have PC := Kept.mk P6.1
        have g0 := RB6.frozen 0; have g1 := RB6.frozen 1; have g2 := RB6.frozen 2; have g3 := RB6.frozen 3; have g4 := RB6.frozen 4; have g5 := RB6.frozen 5
        have k0 := RB6.cell 0; have k1 := RB6.cell 1; have k2 := RB6.cell 2; have k3 := RB6.cell 3; have k4 := RB6.cell 4; have k5 := RB6.cell 5
        clear P6 RB6 RR7 HB6 BA6 T6 R6 RR6 HR HO HG hh O3 o2 r2
        refine wpAnyH_take (i := 0) (oi := ?o126) (v := ?v126) ?hi126 (by kernel_rfl) (by kernel_rfl) (by kernel_rfl) ?hq126 (Or.inl ⟨?hw126, ?hy126⟩) (by assumption) ?r126
        case hi126 => (simp only [List.getElem?_toArray, List.getElem?_cons_zero]; exact rfl)
        case hq126 => exact fun _ _ _ h => h
        case hw126 => rfl
        case hy126 => (intro w hSw; (try dsimp only at hSw); go_simp; try exact rfl)
        simp only [Act.put, List.setIfInBounds_toArray, List.set_cons_zero, List.set_cons_succ]
        refine wpAnyH_take (i := 1) (oi := ?o127) (v := ?v127) ?hi127 (by kernel_rfl) (by kernel_rfl) (by kernel_rfl) ?hq127 (Or.inl ⟨?hw127, ?hy127⟩) (by assumption) ?r127
        case hi127 => (simp only [List.getElem?_toArray, List.getElem?_cons_succ, List.getElem?_cons_zero]; exact rfl)
        case hq127 => exact fun _ _ _ h => h
        case hw127 => rfl
        case hy127 => (intro w hSw; (try dsimp only at hSw); go_simp; try exact rfl)
        simp only [Act.put, List.setIfInBounds_toArray, List.set_cons_zero, List.set_cons_succ]
        refine wpAnyH_take (i := 2) (oi := ?o128) (v := ?v128) ?hi128 (by kernel_rfl) (by kernel_rfl) (by kernel_rfl) ?hq128 (Or.inl ⟨?hw128, ?hy128⟩) (by assumption) ?r128
        case hi128 => (simp only [List.getElem?_toArray, List.getElem?_cons_succ, List.getElem?_cons_zero]; exact rfl)
        case hq128 => exact fun _ _ _ h => h
        case hw128 => rfl
        case hy128 => (intro w hSw; (try dsimp only at hSw); go_simp; try exact rfl)
        simp only [Act.put, List.setIfInBounds_toArray, List.set_cons_zero, List.set_cons_succ]
        refine wpAnyH_take (i := 3) (oi := ?o129) (v := ?v129) ?hi129 (by kernel_rfl) (by kernel_rfl) (by kernel_rfl) ?hq129 (Or.inl ⟨?hw129, ?hy129⟩) (by assumption) ?r129
        case hi129 => (simp only [List.getElem?_toArray, List.getElem?_cons_succ, List.getElem?_cons_zero]; exact rfl)
        case hq129 => exact fun _ _ _ h => h
        case hw129 => rfl
        case hy129 => (intro w hSw; (try dsimp only at hSw); go_simp; try exact rfl)
        simp only [Act.put, List.setIfInBounds_toArray, List.set_cons_zero, List.set_cons_succ]
        refine wpAnyH_take (i := 4) (oi := ?o130) (v := ?v130) ?hi130 (by kernel_rfl) (by kernel_rfl) (by kernel_rfl) ?hq130 (Or.inl ⟨?hw130, ?hy130⟩) (by assumption) ?r130
        case hi130 => (simp only [List.getElem?_toArray, List.getElem?_cons_succ, List.getElem?_cons_zero]; exact rfl)
        case hq130 => exact fun _ _ _ h => h
        case hw130 => rfl
        case hy130 => (intro w hSw; (try dsimp only at hSw); go_simp; try exact rfl)
        simp only [Act.put, List.setIfInBounds_toArray, List.set_cons_zero, List.set_cons_succ]
        refine wpAnyH_ready (rs := [5]) (by kernel_rfl) (by simp) ?_
        refine AllReadyH.cons (o := ?o135) ?hi135 (fun K hK => ?_) AllReadyH.nil
        case hi135 => (simp only [List.getElem?_toArray, List.getElem?_cons_succ, List.getElem?_cons_zero]; exact rfl)
        go_simp
        refine hK.out _ _ ⟨HB7.cell 0, HB7.cell 1, HB7.cell 2, HB7.cell 3, HB7.cell 4, HB7.cell 5⟩ (fun _ => ?_)
        clear hK K hHeld HB7 g0 g1 g2 g3 g4 g5 k0 k1 k2 k3 k4 k5
        try simp only [Act.put]
        refine wpAnyH_take (i := 6) (oi := ?o131) (v := ?v131) ?hi131 (by kernel_rfl) (by kernel_rfl) (by kernel_rfl) ?hq131 (Or.inl ⟨?hw131, ?hy131⟩) (by assumption) ?r131
        case hi131 => (simp only [List.getElem?_toArray, List.getElem?_cons_succ, List.getElem?_cons_zero]; exact rfl)
        case hq131 => exact fun _ _ _ h => h
        case hw131 => rfl
        case hy131 => (intro w hSw; (try dsimp only at hSw); go_simp; try exact rfl)
        simp only [Act.put, List.setIfInBounds_toArray, List.set_cons_zero, List.set_cons_succ]
        refine wpAnyH_done (by kernel_rfl) ?_ _
        refine NoPanic.normal ?_
        go_wp2
        (try simp only [Exit.inBlock, Exit.then])
        refine bodyPost_ret (results_cell_one rfl _ _ N 85 #[.int .i64 fr, .int .i64 fg, .bool true, .slice A3 n3 c3, .slice none 0 0, .int .i64 0] (0, 0) _ rfl PC.out Tryz.underlying85 rfl half_size) rfl ?_
        exact PG.out
      · have h3' : (fs != 0) = true := by simpa using h3
        clear HG FBk HIT
        have hm : ¬ hitB b := MS.out (by first | exact Or.inl h1 | exact Or.inr (Or.inl h2) | exact Or.inr (Or.inr h3))
        have P6 := put6 RB.out (.int .i64 fr) (.int .i64 0) (.bool false) (.slice none 0 0) (.slice none 0 0) (.int .i64 0)
        have PG := Kept.mk (PM.out hm _ P6.2)
        have PC := Kept.mk P6.1
        have g0 := RB.out.frozen 0; have g1 := RB.out.frozen 1; have g2 := RB.out.frozen 2; have g3 := RB.out.frozen 3; have g4 := RB.out.frozen 4; have g5 := RB.out.frozen 5
        have k0 := RB.out.cell 0; have k1 := RB.out.cell 1; have k2 := RB.out.cell 2; have k3 := RB.out.cell 3; have k4 := RB.out.cell 4; have k5 := RB.out.cell 5
        have q0 := HB.out.cell 0; have q1 := HB.out.cell 1; have q2 := HB.out.cell 2; have q3 := HB.out.cell 3; have q4 := HB.out.cell 4; have q5 := HB.out.cell 5
        clear P6 RB HB PM MS
        go_wp2
        (try simp only [Exit.inBlock, Exit.then])
        refine bodyPost_ret (results_cell_one rfl _ _ N 85 #[.int .i64 fr, .int .i64 0, .bool false, .slice none 0 0, .slice none 0 0, .int .i64 0] (0, 0) _ rfl PC.out Tryz.underlying85 rfl half_size) rfl ?_
        exact PG.out
    · have h2' : (fk != 1) = true := by simpa using h2
      clear HG FBk HIT
      have hm : ¬ hitB b := MS.out (by first | exact Or.inl h1 | exact Or.inr (Or.inl h2) | exact Or.inr (Or.inr h3))
      have P6 := put6 RB.out (.int .i64 fr) (.int .i64 0) (.bool false) (.slice none 0 0) (.slice none 0 0) (.int .i64 0)
      have PG := Kept.mk (PM.out hm _ P6.2)
      have PC := Kept.mk P6.1
      have g0 := RB.out.frozen 0; have g1 := RB.out.frozen 1; have g2 := RB.out.frozen 2; have g3 := RB.out.frozen 3; have g4 := RB.out.frozen 4; have g5 := RB.out.frozen 5
      have k0 := RB.out.cell 0; have k1 := RB.out.cell 1; have k2 := RB.out.cell 2; have k3 := RB.out.cell 3; have k4 := RB.out.cell 4; have k5 := RB.out.cell 5
      have q0 := HB.out.cell 0; have q1 := HB.out.cell 1; have q2 := HB.out.cell 2; have q3 := HB.out.cell 3; have q4 := HB.out.cell 4; have q5 := HB.out.cell 5
      clear P6 RB HB PM MS
      go_wp2
      (try simp only [Exit.inBlock, Exit.then])
      refine bodyPost_ret (results_cell_one rfl _ _ N 85 #[.int .i64 fr, .int .i64 0, .bool false, .slice none 0 0, .slice none 0 0, .int .i64 0] (0, 0) _ rfl PC.out Tryz.underlying85 rfl half_size) rfl ?_
      exact PG.out
  · have h1' : (ge != 0) = true := by simpa using h1
    clear HG FBk HIT
    have hm : ¬ hitB b := MS.out (by first | exact Or.inl h1 | exact Or.inr (Or.inl h2) | exact Or.inr (Or.inr h3))
    have P6 := put6 RB.out (.int .i64 fr) (.int .i64 0) (.bool false) (.slice none 0 0) (.slice none 0 0) (.int .i64 0)
    have PG := Kept.mk (PM.out hm _ P6.2)
    have PC := Kept.mk P6.1
    have g0 := RB.out.frozen 0; have g1 := RB.out.frozen 1; have g2 := RB.out.frozen 2; have g3 := RB.out.frozen 3; have g4 := RB.out.frozen 4; have g5 := RB.out.frozen 5
    have k0 := RB.out.cell 0; have k1 := RB.out.cell 1; have k2 := RB.out.cell 2; have k3 := RB.out.cell 3; have k4 := RB.out.cell 4; have k5 := RB.out.cell 5
    have q0 := HB.out.cell 0; have q1 := HB.out.cell 1; have q2 := HB.out.cell 2; have q3 := HB.out.cell 3; have q4 := HB.out.cell 4; have q5 := HB.out.cell 5
    clear P6 RB HB PM MS
    go_wp2
    (try simp only [Exit.inBlock, Exit.then])
    refine bodyPost_ret (results_cell_one rfl _ _ N 85 #[.int .i64 fr, .int .i64 0, .bool false, .slice none 0 0, .slice none 0 0, .int .i64 0] (0, 0) _ rfl PC.out Tryz.underlying85 rfl half_size) rfl ?_
    exact PG.out
end Go.Proofs.YtjlhnhkjgcbnnaaGreat.Journal

/-
  The landed journal: follow, the records behind a picture.
-/

namespace Go.Proofs.YtjlhnhkjgcbnnaaGreat.Journal
open Go.RowKit Go.Proofs.YtjlhnhkjgcbnnaaGreat.Sha Go.Proofs.YtjlhnhkjgcbnnaaGreat.Disk Go.Proofs.YtjlhnhkjgcbnnaaGreat.Frame

theorem text_drop {n : Nat} {s : DS} (hwf : WF n s) {half m k : Nat} (hh : half ≤ 1) (hk : m + k ≤ hn s) : (textJ s half m).drop (64 * k) = textJ s half (m + k) := by
  rw [text_split s half m k hk]
  have hl : (cat (fun i => row s half (m + i)) k).length = 64 * k := cat_len (c := 64) k (fun j hj => row_len hwf half (by omega) (m + j) (by omega))
  rw [List.drop_append_of_le_length (by omega), List.drop_eq_nil_of_le (by omega), List.nil_append]
theorem getF_body {b : List Int} (h : (getF b).2.2 = 0) : (getF b).1.body.length ≤ 60000 := by
  unfold getF at h ⊢
  by_cases hk : getOk b
  · rw [if_pos hk]
    obtain ⟨-, -, -, -, k5, -⟩ := hk
    have h1 : errF (frameOf b) = 0 := by simpa [putF] using k5
    exact (errF_ok h1).1
  · rw [if_neg hk] at h
    simp at h
theorem cok_next {n : Nat} {s : DS} {v : JV} (h : COk n v) (hwf : WF n s) (hm : moreJ s v) : COk n (nextJ s v) := by
  have hh : v.half ≤ 1 := by rcases h.half with e | e <;> omega
  have hb := getF_bounds (text_bytes hwf (half := v.half) (m := v.pos) hh) hm.1
  have hl := text_len hwf (half := v.half) (m := v.pos) hh
  have hhn := wf_hn hwf
  have hp := h.pos
  have hbd := getF_body hm.1
  refine ⟨h.half, h.gen, ?_, ?_, ?_, h.pict, ?_⟩
  · show v.seq + 1 = ((v.recs ++ [_]).length : Int) + 1
    rw [List.length_append, List.length_singleton, h.seq]; omega
  · show v.pos + (getF (textJ s v.half v.pos)).2.1.toNat ≤ n / 2
    omega
  · show (v.recs ++ [_]).length ≤ v.pos + (getF (textJ s v.half v.pos)).2.1.toNat
    rw [List.length_append, List.length_singleton]; have := h.recs; omega
  · intro q hq
    rcases List.mem_append.1 hq with hq | hq
    · exact h.bods q hq
    · rw [List.mem_singleton] at hq; subst hq; exact hbd
/-- a half's cells, all but the records -/
def hcs (fr gen : Int) (has : Bool) (A : Option Addr) (m c : Nat) (vr : Value) (rm : Int) : Array Value := #[.int .i64 fr, .int .i64 gen, .bool has, .slice A m c, vr, .int .i64 rm]
def FolPost (w : World) (t hB : Nat) (fr : Int) (has : Bool) (Ap : Option Addr) (mp cp : Nat) (M : Nat) (v : JV) (e : Ending) (w' : World) : Prop := e = .returned (.tuple #[]) ∧ ∃ vr K, Tab w' t ∧ Blk w' hB 85 (hcs fr v.gen has Ap mp cp vr ((M - v.pos : Nat) : Int)) ∧ Og w' 38 vr v.recs K ∧ (∀ k ∈ K, w.heap.size ≤ k ∧ k < w'.heap.size) ∧ Bar [t, hB] w w'
theorem recs_gen {s : DS} : ∀ (k : Nat) (v : JV), (recsJ s k v).gen = v.gen ∧ (recsJ s k v).half = v.half
  | 0, _ => ⟨rfl, rfl⟩
  | k + 1, v => by
    show (if moreJ s v then recsJ s k (nextJ s v) else v).gen = v.gen ∧ (if moreJ s v then recsJ s k (nextJ s v) else v).half = v.half
    split
    · exact recs_gen k (nextJ s v)
    · exact ⟨rfl, rfl⟩

set_option maxRecDepth 100000 in
set_option maxHeartbeats 4000000 in
theorem jfollow_any (api : FrameApi) {w : World} {t hB n : Nat} {s : DS} {v0 : JV} {fr rm0 : Int} {has : Bool} {Ap A0 : Option Addr} {mp cp l0 c0 : Nat} (hwf : WF n s) (ht : Tab w t) (hb : Blk w hB 85 (hcs fr v0.gen has Ap mp cp (.slice none 0 0) rm0)) (htb : t ≠ hB) (hv : v0.recs = []) (ok : COk n v0)
    (hr : Rd w A0 l0 (textJ s v0.half v0.pos)) (hc : l0 ≤ c0) (hcm : c0 ≤ maxLen) (hO : Off A0 l0 [t, hB]) :
    Calls Tryz.prog 34 #[.pointer (some ⟨hB, 0, none⟩), .pointer (some ⟨t, 0, none⟩), .slice A0 l0 c0] w (FolPost w t hB fr has Ap mp cp (hn s) (recsJ s (hn s) v0)) := by
  obtain ⟨N, hN⟩ : ∃ N, w.heap.size = N := ⟨_, rfl⟩
  have htN : t < N := by rw [← hN]; exact ftab_lt ht
  have hBN : hB < N := by rw [← hN]; exact hb.lt
  have hhn := wf_hn hwf
  have hn8 := hwf.n2
  obtain ⟨V, hV⟩ : ∃ V, recsJ s (hn s) v0 = V := ⟨_, rfl⟩
  rw [hV]
  have HW := Kept.mk hwf
  have HP0 : Kept (hn s ≤ v0.pos + hn s) := ⟨by omega⟩
  have M0 : Kept (Tab w t ∧ Blk w hB 85 (hcs fr v0.gen has Ap mp cp (.slice none 0 0) rm0) ∧ Og w 38 (.slice none 0 0) v0.recs [] ∧ (∀ k ∈ ([] : List Nat), N ≤ k ∧ k < w.heap.size) ∧ Bar [t, hB] w w) := ⟨ht, hb, by rw [hv]; exact Og.nil _ _ _, by simp, Bar.refl _ _⟩
  have TX0 := Kept.mk (And.intro hr hO)
  have hl0 := hr.1
  rw [text_len hwf (by rcases ok.half with e | e <;> omega)] at hl0
  have EV := Kept.mk hV
  have CK := Kept.mk ok
  have hcm1 : maxLen = 9223372036854775807 := rfl
  have hhM : hn s ≤ 4096 := by omega
  have HHN := Kept.mk hhn
  clear ht hb hv ok hr hO hwf hV hhn
  go_enter Tryz.func34, Tryz.ntmps34
  go_wp2
  go_loopg [2] (hn s) (fun gn bv wr => ∃ (v : JV) (A : Option Addr) (l c : Nat) (vr : Value) (rm : Int) (K : List Nat), bv = .slice A l c ∧ l = 64 * (hn s - v.pos) ∧ l ≤ c ∧ c ≤ maxLen ∧ Kept (recsJ s gn v = V) ∧ Kept (hn s ≤ v.pos + gn) ∧ Kept (COk n v) ∧ Kept (Rd w A l (textJ s v.half v.pos) ∧ Off A l [t, hB]) ∧
    Kept (Tab wr t ∧ Blk wr hB 85 (hcs fr v.gen has Ap mp cp vr rm) ∧ Og wr 38 vr v.recs K ∧ (∀ k ∈ K, N ≤ k ∧ k < wr.heap.size) ∧ Bar [t, hB] w wr))
  case atStart => exact ⟨v0, A0, l0, c0, _, rm0, [], rfl, hl0.symm, hc, hcm, EV, HP0, CK, TX0, M0⟩
  case round =>
    clear M0 EV HP0 CK TX0
    obtain ⟨v, A, l, c, vr, rm, K, rfl, hl, hlc, hcc, HE, HP, HC, TX, MM⟩ := hrel
    have hvh : v.half ≤ 1 := by rcases HC.out.half with e | e <;> omega
    have hvp : v.pos ≤ hn s := by have := HC.out.pos; have := HHN.out; omega
    obtain ⟨q, hq⟩ : ∃ q, hn s - v.pos = q := ⟨_, rfl⟩
    rw [hq] at hl
    subst hl
    have hq9 : q ≤ 4096 := by omega
    have HMO : Kept (moreJ s v ↔ (getF (textJ s v.half v.pos)).2.2 = 0 ∧ (getF (textJ s v.half v.pos)).1.kind = 2 ∧ (getF (textJ s v.half v.pos)).1.gen = v.gen ∧ (getF (textJ s v.half v.pos)).1.seq = v.seq) := ⟨Iff.rfl⟩
    have HNX : Kept (nextJ s v = { v with recs := v.recs ++ [(getF (textJ s v.half v.pos)).1.body], pos := v.pos + (getF (textJ s v.half v.pos)).2.1.toNat, seq := v.seq + 1 }) := ⟨rfl⟩
    have HGB := Kept.mk fun e => getF_bounds (text_bytes HW.out (half := v.half) (m := v.pos) hvh) e
    have HTL := text_len HW.out (half := v.half) (m := v.pos) hvh
    have HDR : Kept (∀ k, v.pos + k ≤ hn s → (textJ s v.half v.pos).drop (64 * k) = textJ s v.half (v.pos + k)) := ⟨fun k hk => text_drop HW.out hvh hk⟩
    obtain ⟨b, hb⟩ : ∃ b, textJ s v.half v.pos = b := ⟨_, rfl⟩
    rw [hb] at TX HTL HMO HNX HGB HDR
    rw [hq] at HTL
    clear hb
    obtain ⟨gk1, hgk1⟩ : ∃ x, gk = x := ⟨_, rfl⟩
    rw [hgk1] at HE HP
    obtain ⟨⟨⟨fk, fg, fs, fb⟩, gk2, ge⟩, hg⟩ : ∃ g, getF b = g := ⟨_, rfl⟩
    have RA : Rd wr A (64 * q) b := TX.out.1.far MM.out.2.2.2.2 TX.out.2
    have offt : Off A (64 * q) [t] := by
      rcases TX.out.2 with h | ⟨g, o, e, hg⟩
      · exact .inl h
      · exact .inr ⟨g, o, e, fun hm => hg (by rw [List.mem_singleton] at hm; simp [hm])⟩
    have CG := Kept.mk (api.get MM.out.1 RA hlc hcc (by omega) offt)
    rw [hg] at HMO HNX HGB CG
    simp only at HMO HNX HGB
    clear hg RA offt
    go_wp2_with fail
    refine CG.out.mono ?_
    rintro e w3 ⟨A3, n3, c3, rfl, hc3, hcm3, r3, o3, t3, bt3⟩
    simp only [frv] at r3 ⊢
    obtain ⟨T, hT⟩ : ∃ T, w3.heap.size = T := ⟨_, rfl⟩
    have sz3 := bt3.size
    have szN : N ≤ wr.heap.size := by rw [← hN]; exact MM.out.2.2.2.2.size
    have ba : Below w3.heap.size w3 (w3.alloc (.cells #[.int .i64 fk, .int .i64 fg, .int .i64 fs, .slice A3 n3 c3] 56)) := (Below.refl _ _).alloc (Nat.le_refl _) _
    obtain ⟨K3, in3, hK3⟩ := in_new r3 o3
    have bb : Bar [t] wr (w3.alloc (.cells #[.int .i64 fk, .int .i64 fg, .int .i64 fs, .slice A3 n3 c3] 56)) := bt3.trans (barOf ba []) (by simp)
    have T4 := Kept.mk (ftab_bar t3 (barOf ba []) (by simp))
    have HB4 := Kept.mk (MM.out.2.1.bar bb (by simp; omega))
    have O4 := Kept.mk (MM.out.2.2.1.keep bb (fun k hk hk2 => by rw [List.mem_singleton] at hk2; have := (MM.out.2.2.2.1 k hk).1; omega))
    have KL4 : Kept (∀ k ∈ K, N ≤ k ∧ k < w3.heap.size) := ⟨fun k hk => ⟨(MM.out.2.2.2.1 k hk).1, by have := (MM.out.2.2.2.1 k hk).2; omega⟩⟩
    have BA4 : Kept (Bar [t, hB] w (w3.alloc (.cells #[.int .i64 fk, .int .i64 fg, .int .i64 fs, .slice A3 n3 c3] 56))) := ⟨MM.out.2.2.2.2.trans bb (by intro k hk; rw [List.mem_singleton] at hk; simp [hk])⟩
    have R3 := Kept.mk (r3.below ba)
    have IN3 : Kept (In A3 n3 K3 ∧ (∀ k ∈ K3, N ≤ k ∧ k < w3.heap.size ∧ k ∉ K)) := ⟨in3, fun k hk => by
      have h1 := hK3 k hk
      exact ⟨by omega, h1.2, fun hm => by have := (MM.out.2.2.2.1 k hm).2; omega⟩⟩
    have FB4 := Kept.mk (Blk.new_at w3 56 #[.int .i64 fk, .int .i64 fg, .int .i64 fs, .slice A3 n3 c3] T hT.symm)
    have sz4 : (w3.alloc (.cells #[.int .i64 fk, .int .i64 fg, .int .i64 fs, .slice A3 n3 c3] 56)).heap.size = T + 1 := by simp [hT]
    clear CG MM r3 o3 t3 bt3 ba in3 hK3 bb
    have hseq := HC.out.seq
    have hrc := HC.out.recs
    obtain ⟨Av, cv, hvr⟩ := O4.out.shape
    subst hvr
    have k1 : (w3.alloc (.cells #[.int .i64 fk, .int .i64 fg, .int .i64 fs, .slice A3 n3 c3] 56)).cell? ⟨hB, 1, none⟩ = some (.int .i64 v.gen) := HB4.out.cell 1
    have k4 : (w3.alloc (.cells #[.int .i64 fk, .int .i64 fg, .int .i64 fs, .slice A3 n3 c3] 56)).cell? ⟨hB, 4, none⟩ = some (.slice Av v.recs.length cv) := HB4.out.cell 4
    have f0 := FB4.out.cell 0; have f1 := FB4.out.cell 1; have f2 := FB4.out.cell 2
    rw [hT] at KL4 IN3
    have WS : IntKind.i64.wrap ((v.recs.length : Int) + 1) = v.seq := by simp only [IntKind.wrap_i64]; omega
    have hqd : Int.tdiv ((64 * q : Nat) : Int) 64 = (q : Int) := by rw [Int.tdiv_eq_ediv_of_nonneg (by omega)]; omega
    clear hseq
    go_upto_region 1 with (fail)
    obtain ⟨W4, hW4⟩ : ∃ W4, w3.alloc (.cells #[.int .i64 fk, .int .i64 fg, .int .i64 fs, .slice A3 n3 c3] 56) = W4 := ⟨_, rfl⟩
    rw [hW4] at T4 HB4 O4 BA4 R3 FB4 sz4 k1 k4 f0 f1 f2 ⊢
    have PE : Kept (∀ w', ¬ moreJ s v → Bar [] W4 w' → FolPost w t hB fr has Ap mp cp (hn s) V (.returned (.tuple #[])) (w'.setCell ⟨hB, 5, none⟩ (.int .i64 (q : Nat)))) := ⟨fun w' h1 hb => by
      have e : recsJ s gk1 v = v := by cases gk1 <;> simp [recsJ, h1]
      have he := HE.out
      rw [e] at he
      rw [← he]
      have hs : Bar [hB] w' (w'.setCell ⟨hB, 5, none⟩ (.int .i64 (q : Nat))) := (Bar.refl _ _).setCell (by simp) _
      refine ⟨rfl, _, K, ftab_bar (ftab_bar T4.out hb (by simp)) hs (by simpa using htb), ?_, (O4.out.keep hb (fun _ _ => by simp)).keep hs (fun k hk hk2 => by rw [List.mem_singleton] at hk2; have := (KL4.out k hk).1; omega), fun k hk => ?_, (BA4.out.trans hb (by simp)).trans hs (by intro k hk; rw [List.mem_singleton] at hk; simp [hk])⟩
      · have := ((HB4.out.bar hb (by simp)).set_ 5 (.int .i64 (q : Nat)))
        rw [hq]; exact this
      · have := KL4.out k hk
        have h2 := hb.size
        have h3 := hs.size
        rw [hN]
        exact ⟨this.1, by omega⟩⟩
    clear hW4
    by_cases h1 : ge = 0
    · subst h1
      by_cases h2 : fk = 2
      · subst h2
        by_cases h3 : fg = v.gen
        · have h3d : (fg != v.gen) = false := by simpa using h3
          by_cases h4 : fs = v.seq
          · have h4d : (fs != v.seq) = false := by simpa using h4
            have hyes : moreJ s v := HMO.out.2 ⟨rfl, rfl, h3, h4⟩
            obtain ⟨KK, hKK⟩ : ∃ KK, K = KK := ⟨_, rfl⟩
            rw [hKK] at O4 KL4 IN3
            clear hKK
            go_quiet (fail)
            have hgb := HGB.out rfl
            obtain ⟨kk, hkk⟩ : ∃ x, gk2.toNat = x := ⟨_, rfl⟩
            rw [hkk] at hgb HNX
            obtain ⟨-, -, -, hk1, hk2, rfl⟩ := hgb
            have hkq : kk ≤ q := by omega
            have bd : Bar [] W4 (W4.drewN nq) := barOf (below_drewN (Below.refl _ _) nq) []
            have T5 := Kept.mk (ftab_bar T4.out bd (by simp))
            have HB5 := Kept.mk (HB4.out.bar bd (by simp))
            have O5 := Kept.mk (O4.out.keep bd (fun _ _ => by simp))
            have BA5 : Kept (Bar [t, hB] w (W4.drewN nq)) := ⟨BA4.out.trans bd (by simp)⟩
            have R5 := Kept.mk (R3.out.far bd (R3.out.off (by simp)))
            have FB5 := Kept.mk (FB4.out.bar bd (by simp))
            have sz5 : T + 1 ≤ (W4.drewN nq).heap.size := by have := bd.size; omega
            clear PE T4 HB4 O4 BA4 R3 FB4 k1 k4 f0 f1 f2 hkk bd
            generalize W4.drewN nq = w5 at *
            go_upto_region 2 with (fail)
            have fd : Bar [] w5 w5.drew := barOf (Below.refl _ _).drew []
            have T6 := ftab_bar T5.out fd (by simp)
            have J6 := HB5.out.drew
            have O6 := O5.out.keep fd (fun _ _ => by simp)
            have BA6 : Bar [t, hB] w w5.drew := BA5.out.trans fd (by simp)
            have R6 := R5.out.drew
            have FB6 := FB5.out.drew
            have sz6 : T + 1 ≤ w5.drew.heap.size := sz5
            have hvo : ∀ g ∈ (Value.slice Av v.recs.length cv).ownBlock.toList, g ∈ KK := O6.choose_spec.2.1
            clear T5 HB5 O5 BA5 R5 FB5 fd sz5
            refine wp_region_noPanic ?_
            refine wp_region_U 11 (S := fun w' : World => w'.cell? ⟨hB, 4, none⟩ = some (.slice Av v.recs.length cv) ∧ w'.cell? ⟨T, 3, none⟩ = some (.slice A3 n3 c3)) (by kernel_rfl) ⟨J6.cell 4, FB6.cell 3⟩ (fun hS0 => ?_)
            generalize w5.drew = w6 at *
            refine wpAnyU_take (i := 0) (oi := ?o136) (v := ?v136) ?hi136 (by kernel_rfl) (by kernel_rfl) (by kernel_rfl) (by kernel_rfl) ?hq136 (Or.inl ⟨?hw136, ?hy136⟩) (by assumption) ?r136
            case hi136 => (simp only [List.getElem?_toArray, List.getElem?_cons_zero]; exact rfl)
            case hq136 => exact fun _ _ _ h => h
            case hw136 => rfl
            case hy136 => (intro w hSw; (try dsimp only at hSw); go_simp; try exact rfl)
            simp only [Act.put, List.setIfInBounds_toArray, List.set_cons_zero, List.set_cons_succ]
            refine wpAnyU_take (i := 1) (oi := ?o137) (v := ?v137) ?hi137 (by kernel_rfl) (by kernel_rfl) (by kernel_rfl) (by kernel_rfl) ?hq137 (Or.inl ⟨?hw137, ?hy137⟩) (by assumption) ?r137
            case hi137 => (simp only [List.getElem?_toArray, List.getElem?_cons_succ, List.getElem?_cons_zero]; exact rfl)
            case hq137 => exact fun _ _ _ h => h
            case hw137 => rfl
            case hy137 => (intro w hSw; (try dsimp only at hSw); go_simp; try exact rfl)
            simp only [Act.put, List.setIfInBounds_toArray, List.set_cons_zero, List.set_cons_succ]
            refine wpAnyU_take (i := 2) (oi := ?o138) (v := ?v138) ?hi138 (by kernel_rfl) (by kernel_rfl) (by kernel_rfl) (by kernel_rfl) ?hq138 (Or.inl ⟨?hw138, ?hy138⟩) (by assumption) ?r138
            case hi138 => (simp only [List.getElem?_toArray, List.getElem?_cons_succ, List.getElem?_cons_zero]; exact rfl)
            case hq138 => exact fun _ _ _ h => h
            case hw138 => rfl
            case hy138 => (intro w hSw; (try dsimp only at hSw); go_simp; try exact rfl)
            simp only [Act.put, List.setIfInBounds_toArray, List.set_cons_zero, List.set_cons_succ]
            refine wpAnyU_take (i := 3) (oi := ?o139) (v := ?v139) ?hi139 (by kernel_rfl) (by kernel_rfl) (by kernel_rfl) (by kernel_rfl) ?hq139 (Or.inl ⟨?hw139, ?hy139⟩) (by assumption) ?r139
            case hi139 => (simp only [List.getElem?_toArray, List.getElem?_cons_succ, List.getElem?_cons_zero]; exact rfl)
            case hq139 => exact fun _ _ _ h => h
            case hw139 => rfl
            case hy139 => (intro w hSw; (try dsimp only at hSw); go_simp; try exact rfl)
            simp only [Act.put, List.setIfInBounds_toArray, List.set_cons_zero, List.set_cons_succ]
            refine wpAnyU_take (i := 4) (oi := ?o140) (v := ?v140) ?hi140 (by kernel_rfl) (by kernel_rfl) (by kernel_rfl) (by kernel_rfl) ?hq140 (Or.inl ⟨?hw140, ?hy140⟩) (by assumption) ?r140
            case hi140 => (simp only [List.getElem?_toArray, List.getElem?_cons_succ, List.getElem?_cons_zero]; exact rfl)
            case hq140 => exact fun _ _ _ h => h
            case hw140 => rfl
            case hy140 => (intro w hSw; (try dsimp only at hSw); go_simp; try exact rfl)
            simp only [Act.put, List.setIfInBounds_toArray, List.set_cons_zero, List.set_cons_succ]
            refine wpAnyU_take (i := 5) (oi := ?o141) (v := ?v141) ?hi141 (by kernel_rfl) (by kernel_rfl) (by kernel_rfl) (by kernel_rfl) ?hq141 (Or.inl ⟨?hw141, ?hy141⟩) (by assumption) ?r141
            case hi141 => (simp only [List.getElem?_toArray, List.getElem?_cons_succ, List.getElem?_cons_zero]; exact rfl)
            case hq141 => exact fun _ _ _ h => h
            case hw141 => rfl
            case hy141 => (intro w hSw; (try dsimp only at hSw); go_simp; try exact rfl)
            simp only [Act.put, List.setIfInBounds_toArray, List.set_cons_zero, List.set_cons_succ]
            refine wpAnyU_take (i := 6) (oi := ?o142) (v := ?v142) ?hi142 (by kernel_rfl) (by kernel_rfl) (by kernel_rfl) (by kernel_rfl) ?hq142 (Or.inl ⟨?hw142, ?hy142⟩) (by assumption) ?r142
            case hi142 => (simp only [List.getElem?_toArray, List.getElem?_cons_succ, List.getElem?_cons_zero]; exact rfl)
            case hq142 => exact fun _ _ _ h => h
            case hw142 => rfl
            case hy142 => (intro w hSw; (try dsimp only at hSw); go_simp; try exact rfl)
            simp only [Act.put, List.setIfInBounds_toArray, List.set_cons_zero, List.set_cons_succ]
            refine wpAnyU_ready (rs := [7]) (by kernel_rfl) (by simp) ?_
            refine AllReadyU.cons (o := ?o143) ?hi143 (fun K hK => ?_) AllReadyU.nil
            case hi143 => (simp only [List.getElem?_toArray, List.getElem?_cons_succ, List.getElem?_cons_zero]; exact rfl)
            go_simp
            have ba : Bar [] w6 (w6.alloc (.cells #[.slice A3 n3 c3] 38)) := barOf ((Below.refl _ _).alloc (Nat.le_refl _) _) []
            have cB : (w6.alloc (.cells #[.slice A3 n3 c3] 38)).cell? ⟨w6.heap.size, 0, none⟩ = some (.slice A3 n3 c3) := (Blk.new w6 38 #[.slice A3 n3 c3]).cell 0
            have T8 := ftab_bar T6 ba (by simp)
            have J8 := J6.bar ba (by simp); have O8 := O6.keep ba (fun _ _ => by simp); have R8 := R6.far ba (R6.off (by simp)); have FB8 := FB6.bar ba (by simp)
            have BA8 : Bar [t, hB] w (w6.alloc (.cells #[.slice A3 n3 c3] 38)) := BA6.trans ba (by simp)
            have sz8 := ba.size
            refine hK.out _ _ (fun _ => ⟨J8.cell 4, FB8.cell 3⟩) (fun _ => ?_)
            clear hK K T6 J6 O6 R6 FB6 BA6 ba hS0
            try simp only [Act.put, List.setIfInBounds_toArray, List.set_cons_zero, List.set_cons_succ]
            generalize w6.alloc (.cells #[.slice A3 n3 c3] 38) = w8 at *
            generalize w6.heap.size = gB at *
            refine wpAnyU_ready (rs := [8]) (by kernel_rfl) (by simp) ?_
            refine AllReadyU.cons (o := ?o147) ?hi147 (fun K hK => ?_) AllReadyU.nil
            case hi147 => (simp only [List.getElem?_toArray, List.getElem?_cons_succ, List.getElem?_cons_zero]; exact rfl)
            have hog := O8.mono (G' := KK ++ K3) (fun k hk => by simp [hk])
            have hvT : t ∉ (Value.slice Av v.recs.length cv).ownBlock.toList := fun hk => by have := KL4.out t (hvo t hk); omega
            have hvN : hB ∉ (Value.slice Av v.recs.length cv).ownBlock.toList := fun hk => by have := KL4.out hB (hvo hB hk); omega
            have hvX : T ∉ (Value.slice Av v.recs.length cv).ownBlock.toList := fun hk => by have := KL4.out T (hvo T hk); omega
            have hin3 : Off A3 n3 (Value.slice Av v.recs.length cv).ownBlock.toList := IN3.out.1.off (fun k hk hk2 => (IN3.out.2 k hk).2.2 (hvo k hk2))
            obtain ⟨v8, w9, hrun, og9, fp9⟩ := run_append_og (P := Tryz.prog) 57 57 38 Tryz.underlying57 info_row hog gB 1 A3 n3 c3 fb cB R8 hc3 (by omega) (IN3.out.1.mono (fun k hk => by simp [hk])) hin3 (by omega)
            refine step_append_run rfl (.tmp 47) (.tmp 50) 57 57 (by rfl) _ _ (by rfl) (by rfl) v8 w9 hrun ?_
            have T9 := ftab_bar T8 fp9.1 hvT
            have J9 := J8.bar fp9.1 hvN
            have FB9 := FB8.bar fp9.1 hvX
            have BA9 : Bar [t, hB] w w9 := BA8.trans fp9.1 (fun k hk => .inr (by have := KL4.out k (hvo k hk); omega))
            have V9 : ∀ k ∈ v8.ownBlock.toList, k ∈ (Value.slice Av v.recs.length cv).ownBlock.toList ∨ w8.heap.size ≤ k := fp9.2
            have V9L : ∀ k ∈ v8.ownBlock.toList, k < w9.heap.size := fun k hk => (og9.choose_spec.1.lt k (by simpa using hk)).2
            have sz9 := fp9.1.size
            obtain ⟨Av8, cv8, hv8⟩ := og9.shape
            rw [List.length_append, List.length_singleton] at hv8
            subst hv8
            refine hK.out _ _ (fun _ => ⟨J9.cell 4, FB9.cell 3⟩) (fun _ => ?_)
            clear hK K
            try simp only [Act.put, List.setIfInBounds_toArray, List.set_cons_zero, List.set_cons_succ]
            refine wpAnyU_ready (rs := [9]) (by kernel_rfl) (by simp) ?_
            refine AllReadyU.cons (o := ?o144) ?hi144 (fun K hK => ?_) AllReadyU.nil
            case hi144 => (simp only [List.getElem?_toArray, List.getElem?_cons_succ, List.getElem?_cons_zero]; exact rfl)
            go_simp
            refine hK.out _ _ (fun _ => ⟨J9.cell 4, FB9.cell 3⟩) (fun _ => ?_)
            clear hK K
            try simp only [Act.put, List.setIfInBounds_toArray, List.set_cons_zero, List.set_cons_succ]
            refine wpAnyU_ready (rs := [10]) (by kernel_rfl) (by simp) ?_
            refine AllReadyU.cons (o := ?o145) ?hi145 (fun K hK => ?_) AllReadyU.nil
            case hi145 => (simp only [List.getElem?_toArray, List.getElem?_cons_succ, List.getElem?_cons_zero]; exact rfl)
            go_simp
            refine hK.out _ _ (fun _ => ⟨J9.cell 4, FB9.cell 3⟩) (fun _ => ?_)
            clear hK K
            try simp only [Act.put, List.setIfInBounds_toArray, List.set_cons_zero, List.set_cons_succ]
            have y4 := J9.frozen 4
            have x4 := J9.cell 4
            refine wpAnyU_ready (rs := [11]) (by kernel_rfl) (by simp) ?_
            refine AllReadyU.cons (o := ?o146) ?hi146 (fun K hK => ?_) AllReadyU.nil
            case hi146 => (simp only [List.getElem?_toArray, List.getElem?_cons_succ, List.getElem?_cons_zero]; exact rfl)
            go_simp
            refine hK.out _ _ (fun h => absurd rfl h) (fun _ => ?_)
            clear hK K
            try simp only [Act.put]
            refine wpAnyU_done (by kernel_rfl) ?_ _
            refine NoPanic.normal ?_
            obtain ⟨K', hK'⟩ : ∃ K', (Value.slice Av8 (v.recs.length + 1) cv8).ownBlock.toList ++ (KK ++ K3) = K' := ⟨_, rfl⟩
            have KL9 : ∀ k ∈ K', N ≤ k ∧ k < w9.heap.size := fun k hk => by
              rw [← hK'] at hk
              rcases List.mem_append.1 hk with hk | hk
              · rcases V9 k hk with e | e
                · have := KL4.out k (hvo k e); omega
                · have := V9L k hk; omega
              · rcases List.mem_append.1 hk with hk | hk
                · have := KL4.out k hk; omega
                · have := IN3.out.2 k hk; omega
            rw [hK'] at og9
            have hbr : Bar [hB] w9 (w9.setCell ⟨hB, 4, none⟩ (Value.slice Av8 (v.recs.length + 1) cv8)) := (Bar.refl _ _).setCell (by simp) _
            have J10 : Blk (w9.setCell ⟨hB, 4, none⟩ (Value.slice Av8 (v.recs.length + 1) cv8)) hB 85 (hcs fr v.gen has Ap mp cp (Value.slice Av8 (v.recs.length + 1) cv8) rm) := J9.set_ 4 _
            have hnx := HNX.out
            have MM2 : Kept (Tab (w9.setCell ⟨hB, 4, none⟩ (Value.slice Av8 (v.recs.length + 1) cv8)) t ∧ Blk (w9.setCell ⟨hB, 4, none⟩ (Value.slice Av8 (v.recs.length + 1) cv8)) hB 85 (hcs fr (nextJ s v).gen has Ap mp cp (Value.slice Av8 (v.recs.length + 1) cv8) rm) ∧ Og (w9.setCell ⟨hB, 4, none⟩ (Value.slice Av8 (v.recs.length + 1) cv8)) 38 (Value.slice Av8 (v.recs.length + 1) cv8) (nextJ s v).recs K' ∧ (∀ k ∈ K', N ≤ k ∧ k < (w9.setCell ⟨hB, 4, none⟩ (Value.slice Av8 (v.recs.length + 1) cv8)).heap.size) ∧ Bar [t, hB] w (w9.setCell ⟨hB, 4, none⟩ (Value.slice Av8 (v.recs.length + 1) cv8))) := ⟨by
              rw [hnx]
              exact ⟨ftab_bar T9 hbr (by simpa using htb), J10, og9.keep hbr (fun k hk hk2 => by rw [List.mem_singleton] at hk2; have := KL9 k hk; omega), fun k hk => ⟨(KL9 k hk).1, Nat.lt_of_lt_of_le (KL9 k hk).2 hbr.size⟩, BA9.trans hbr (by intro k hk; rw [List.mem_singleton] at hk; simp [hk])⟩⟩
            obtain ⟨A2, s2, r2, o2⟩ := slice_l_all A (64 * q) c hlc (64 * kk) (by omega) ((kk : Int) * 64) (by omega)
            have TX2 : Kept (Rd w A2 (64 * q - 64 * kk) (textJ s (nextJ s v).half (nextJ s v).pos) ∧ Off A2 (64 * q - 64 * kk) [t, hB]) := ⟨by
              have h1 := r2 w b TX.out.1
              rw [HDR.out kk (by omega)] at h1
              refine ⟨?_, o2 _ TX.out.2⟩
              rw [hnx]; exact h1⟩
            have hgk : 1 ≤ gk1 := by have := HP.out; omega
            have HE2 : Kept (recsJ s (gk1 - 1) (nextJ s v) = V) := ⟨by
              obtain ⟨g', hg'⟩ : ∃ g', gk1 = g' + 1 := ⟨gk1 - 1, by omega⟩
              have h1 := HE.out
              rw [hg'] at h1 ⊢
              have h2 : recsJ s (g' + 1) v = recsJ s g' (nextJ s v) := by show (if moreJ s v then _ else _) = _; rw [if_pos hyes]
              rw [h2] at h1
              exact h1⟩
            have HP2 : Kept (hn s ≤ (nextJ s v).pos + (gk1 - 1)) := ⟨by rw [hnx]; have h3 := HP.out; show hn s ≤ v.pos + kk + (gk1 - 1); omega⟩
            have HC2 := Kept.mk (cok_next HC.out HW.out hyes)
            have HL2 : Kept (64 * q - 64 * kk = 64 * (hn s - (nextJ s v).pos) ∧ 64 * q - 64 * kk ≤ c - 64 * kk ∧ c - 64 * kk ≤ maxLen) := ⟨by
              rw [hnx]; refine ⟨?_, by omega, by omega⟩
              show _ = 64 * (hn s - (v.pos + kk)); omega⟩
            have HGK := Kept.mk hgk1
            have HGK1 := Kept.mk hgk
            clear hyes HE HP HC hgk hgk1 HNX hnx HMO HGB HTL HDR TX IN3 KL4 hvo hog hvT hvN hvX hin3 hrun og9 fp9 T8 J8 O8 R8 FB8 BA8 T9 J9 FB9 BA9 V9 V9L KL9 J10 hbr x4 y4 cB r2 o2 hK'
            generalize w9.setCell ⟨hB, 4, none⟩ (Value.slice Av8 (v.recs.length + 1) cv8) = w10 at *
            go_wp2
            go_roundg (gk1 - 1)
            case measure => have := HGK.out; have := HGK1.out; omega
            case rel => exact ⟨nextJ s v, A2, _, _, _, rm, K', rfl, HL2.out.1, HL2.out.2.1, HL2.out.2.2, HE2, HP2, HC2, TX2, MM2⟩
          · have h4d : (fs != v.seq) = true := by simpa using h4
            have hno : ¬ moreJ s v := fun h => h4 (HMO.out.1 h).2.2.2
            go_quiet (fail)
            have PG := Kept.mk (PE.out _ hno (barOf (below_drewN (Below.refl _ _) nq) []))
            have y5 := HB4.out.frozen 5
            have x5 : ∃ u, (W4.drewN nq).cell? ⟨hB, 5, none⟩ = some u := ⟨_, HB4.out.cell 5⟩
            obtain ⟨u5, x5⟩ := x5
            clear PE hno HB4 O4 KL4 BA4 T4 TX FB4 R3 IN3 k1 k4 f0 f1 f2
            go_wp2
            go_end0
            exact PG.out
        · have h3d : (fg != v.gen) = true := by simpa using h3
          have hno : ¬ moreJ s v := fun h => h3 (HMO.out.1 h).2.2.1
          go_quiet (fail)
          have PG := Kept.mk (PE.out _ hno (barOf (below_drewN (Below.refl _ _) nq) []))
          have y5 := HB4.out.frozen 5
          have x5 : ∃ u, (W4.drewN nq).cell? ⟨hB, 5, none⟩ = some u := ⟨_, HB4.out.cell 5⟩
          obtain ⟨u5, x5⟩ := x5
          clear PE hno HB4 O4 KL4 BA4 T4 TX FB4 R3 IN3 k1 k4 f0 f1 f2
          go_wp2
          go_end0
          exact PG.out
      · have h2d : (fk != 2) = true := by simpa using h2
        have hno : ¬ moreJ s v := fun h => h2 (HMO.out.1 h).2.1
        go_quiet (fail)
        have PG := Kept.mk (PE.out _ hno (barOf (below_drewN (Below.refl _ _) nq) []))
        have y5 := HB4.out.frozen 5
        have x5 : ∃ u, (W4.drewN nq).cell? ⟨hB, 5, none⟩ = some u := ⟨_, HB4.out.cell 5⟩
        obtain ⟨u5, x5⟩ := x5
        clear PE hno HB4 O4 KL4 BA4 T4 TX FB4 R3 IN3 k1 k4 f0 f1 f2
        go_wp2
        go_end0
        exact PG.out
    · have h1d : (ge != 0) = true := by simpa using h1
      have hno : ¬ moreJ s v := fun h => h1 (HMO.out.1 h).1
      go_quiet (fail)
      have PG := Kept.mk (PE.out _ hno (barOf (below_drewN (Below.refl _ _) nq) []))
      have y5 := HB4.out.frozen 5
      have x5 : ∃ u, (W4.drewN nq).cell? ⟨hB, 5, none⟩ = some u := ⟨_, HB4.out.cell 5⟩
      obtain ⟨u5, x5⟩ := x5
      clear PE hno HB4 O4 KL4 BA4 T4 TX FB4 R3 IN3 k1 k4 f0 f1 f2
      go_wp2
      go_end0
      exact PG.out
end Go.Proofs.YtjlhnhkjgcbnnaaGreat.Journal

/-
  Package disk: Read.
-/


namespace Go.Proofs.YtjlhnhkjgcbnnaaGreat.Disk
open Go.RowKit Go.Proofs.YtjlhnhkjgcbnnaaGreat.Sha

/-- what Read leaves behind, said more sharply: nothing that was there has changed -/
def CReadPost (w : World) (r : Int × List Int) (e : Ending) (w' : World) : Prop := ∃ A c, e = .returned (.tuple #[.slice A r.2.length c, .int .i64 r.1]) ∧ Rd w' A r.2.length r.2 ∧ (r.2.length = 0 ∨ ∃ g o, A = some ⟨g, o, none⟩ ∧ w.heap.size ≤ g ∧ ∀ i, i < r.2.length → w'.frozen? ⟨g, o + i, none⟩ = false) ∧ r.2.length ≤ c ∧ c ≤ 9223372036854775807 ∧ Below w.heap.size w w'
set_option maxRecDepth 100000 in
set_option maxHeartbeats 1000000 in
theorem cread_b {w : World} {F : List Nat} {d n : Nat} {s : DS} (i : Int) (h : Dk w F d n s) : Calls Tryz.prog 55 #[.pointer (some ⟨d, 0, none⟩), .int .i64 i] w (CReadPost w (readD s i)) := by
  have C1 := Kept.mk (cdown_any h)
  have C2 := Kept.mk (chas_any i h)
  have D := Kept.mk h
  have hno : ∀ c : Int, CReadPost w (c, []) (.returned (.tuple #[.slice none 0 0, .int .i64 c])) w := fun c => ⟨none, 0, rfl, Rd.nil_, .inl rfl, by simp, by omega, Below.refl _ _⟩
  have NO := Kept.mk hno
  have hwf := Kept.mk h.1
  clear h hno
  cases hd : s.down with
  | true =>
    rw [hd] at C1
    have e1 : readD s i = (13, []) := by unfold readD; rw [if_pos hd]
    rw [e1]
    clear C2 e1 hd
    go_enter Tryz.func55, Tryz.ntmps55
    go_wp2_with fail
    refine C1.out.mono ?_
    rintro e w' ⟨rfl, rfl⟩
    go_wp2
    go_ret2
    exact NO.out 13
  | false =>
    rw [hd] at C1
    rw [hasB_no hwf.out] at C2
    by_cases hs : noSector s i
    · have e1 : readD s i = (1, []) := by unfold readD; rw [if_neg (by rw [hd]; decide), if_pos hs]
      rw [e1]
      rw [decide_eq_true hs] at C2
      clear e1 hd hs
      go_enter Tryz.func55, Tryz.ntmps55
      go_wp2_with fail
      refine C1.out.mono ?_
      rintro e w' ⟨rfl, rfl⟩
      go_wp2_with fail
      refine C2.out.mono ?_
      rintro e w' ⟨rfl, rfl⟩
      go_wp2
      go_ret2
      exact NO.out 1
    · have e1 : readD s i = (0, rowOf s.now i.toNat) := by unfold readD; rw [if_neg (by rw [hd]; decide), if_neg hs]
      rw [e1]
      rw [decide_eq_false hs] at C2
      obtain ⟨j, rfl, hj⟩ := idx_of hwf.out hs
      have hj' : (j : Int) < n := by omega
      rw [Int.toNat_natCast]
      have hsec := (hwf.out.secs j hj).1
      have L64 := Kept.mk hsec.1
      have LB := Kept.mk hsec.2
      obtain ⟨h0, gw, cw, gm, f, h1, h2, h3, h4, hF⟩ := D.out
      have c0 := (h1.cell 0).trans (dk_0 _ _ _ _)
      have hl := h2.load j (by rw [h0.now]; exact hj) hsec.1
      clear e1 hd hs h0 h1 h2 h3 h4 hF hsec NO
      generalize rowOf s.now j = x at *
      go_enter Tryz.func55, Tryz.ntmps55
      go_wp2_with fail
      refine C1.out.mono ?_
      rintro e w' ⟨rfl, rfl⟩
      go_wp2_with fail
      refine C2.out.mono ?_
      rintro e w' ⟨rfl, rfl⟩
      go_upto_region 6 with (first | ((with_reducible refine sel 19 ?_); refine wpList_loadAt rfl 107 (.tmp 18) rfl _ _ rfl hl ?_) | ((with_reducible refine selS 107 (.tmp 6) (.tmp 19) ?_); refine wpList_store_row rfl 107 (.tmp 6) (.tmp 19) rfl w.heap.size (arr .u8 x) rfl rfl 107 _ (Blk.new _ _ _) (by rw [arr_size, L64.out]; kernel_rfl) (by rw [arr_size, L64.out]; rfl) (all_oneCell_toArray (ints_one _ _)) ?_; refine wp_gen (fun w' => Kept (Blk w' w.heap.size 107 (arr .u8 x)) ∧ Kept (Below w.heap.size w w')) ⟨⟨?_⟩, ⟨?_⟩⟩ (fun w1 hw1 => ?_)))
      case refine_1 => exact (Blk.new w _ _).row _
      case refine_2 => exact below_setRow ((Below.refl _ _).alloc (Nat.le_refl _) _) (Nat.le_refl _) _
      obtain ⟨k1, b1⟩ := hw1
      go_wp2
      go_ret2
      refine ⟨some ⟨w.heap.size, 0, none⟩, 64, by simp only [L64.out]; rfl, ?_, .inr ⟨_, 0, rfl, Nat.le_refl _, fun k _ => ?_⟩, by simp only [L64.out]; omega, by omega, b1.out⟩
      · simp only [L64.out]; exact Rd.blk k1.out LB.out L64.out
      · exact k1.out.frozen _
theorem cread_any {w : World} {F : List Nat} {d n : Nat} {s : DS} (i : Int) (h : Dk w F d n s) : Calls Tryz.prog 55 #[.pointer (some ⟨d, 0, none⟩), .int .i64 i] w (ReadPost (fun w' F' => Dk w' F' d n s) w F (readD s i)) := by
  refine (cread_b i h).mono ?_
  rintro e w' ⟨A, c, h1, h2, h3, h4, h5, h6⟩
  refine ⟨A, c, F, h1, h2, ?_, h4, h5, h.keep (barOf h6 []) (fun _ _ => by simp), barOf h6 _, fun k hk => .inl hk⟩
  rcases h3 with h3 | ⟨g, o, e1, e2, e3⟩
  · exact .inl h3
  · exact .inr ⟨g, o, e1, e2, fun hm => by have := h.lts _ hm; omega, e3⟩
end Go.Proofs.YtjlhnhkjgcbnnaaGreat.Disk

/-
  The landed journal: read, all sectors of a disk.
-/




namespace Go.Proofs.YtjlhnhkjgcbnnaaGreat.Journal
open Go.RowKit Go.Proofs.YtjlhnhkjgcbnnaaGreat.Sha Go.Proofs.YtjlhnhkjgcbnnaaGreat.Disk Go.Proofs.YtjlhnhkjgcbnnaaGreat.Frame

/-- all sectors, one behind the other -/
def allD (s : DS) (n : Nat) : List Int := cat (rowOf s.now) n
def AllPost (s : DS) (n : Nat) (w : World) (e : Ending) (w' : World) : Prop := ∃ A c, e = .returned (.tuple #[.slice A (64 * n) c, .int .i64 0]) ∧ 64 * n ≤ c ∧ c ≤ maxLen ∧ Rd w' A (64 * n) (allD s n) ∧ (∀ F : List Nat, (∀ k ∈ F, k < w.heap.size) → Off A (64 * n) F) ∧ Below w.heap.size w w'
theorem readD_down {s : DS} (hd : s.down = true) (i : Int) : readD s i = (13, []) := by unfold readD; rw [if_pos hd]
set_option maxRecDepth 100000 in
set_option maxHeartbeats 1000000 in
theorem jread_down {w : World} {F : List Nat} {d n : Nat} {s : DS} (h : Dk w F d n s) (hd : s.down = true) :
    Calls Tryz.prog 31 #[.pointer (some ⟨d, 0, none⟩)] w fun e w' => e = .returned (.tuple #[.slice none 0 0, .int .i64 13]) ∧ Below w.heap.size w w' := by
  obtain ⟨N, hN⟩ : ∃ N, w.heap.size = N := ⟨_, rfl⟩
  have h1 := h.1.n1
  have hn8 := h.1.n2
  have cL := Kept.mk (clen_any h)
  obtain ⟨w1, hmk, own, bel⟩ := make_cap w (64 * n) (by omega)
  have hmk' : (Instr.makeSlice 38 (.int .i64 0) (.int .i64 ((n : Int) * 64))).run Tryz.prog w = .ok (.slice (some ⟨w.heap.size, 0, none⟩) 0 (64 * n)) w1 := by
    have e : ((64 * n : Nat) : Int) = (n : Int) * 64 := by omega
    rw [← e]; exact hmk
  have R0 := Kept.mk (h.keep (barOf bel []) (fun _ _ => by simp))
  have B1 := Kept.mk bel
  have O1 := Kept.mk own
  have RD := readD_down hd
  have hn1 : (0 : Int) < (n : Int) := by omega
  rw [hN] at hmk'
  clear h hmk own bel
  go_enter Tryz.func31, Tryz.ntmps31
  go_wp2_with fail
  refine cL.out.mono ?_
  rintro e w' ⟨rfl, rfl⟩
  go_wp2_with fail
  have cL2 := Kept.mk (clen_any R0.out)
  refine cL2.out.mono ?_
  rintro e w' ⟨rfl, rfl⟩
  clear cL cL2
  go_wp2_with fail
  go_loopw [14] (fun i wr => i = .int .i64 0 ∧ Kept (Dk wr F d n s) ∧ Kept (Below w.heap.size w wr)) (fun _ _ => 0)
  case atStart => exact ⟨rfl, R0, B1⟩
  case round =>
    obtain ⟨rfl, R2, B2⟩ := hrel
    have CR := cread_b 0 R2.out
    rw [RD 0] at CR
    have CR2 := Kept.mk CR
    clear CR
    go_wp2_with fail
    refine CR2.out.mono ?_
    rintro e w2 ⟨A, c, rfl, -, -, -, -, b2⟩
    have B3 := Kept.mk (B2.out.trans (b2.mono B2.out.size))
    clear CR2 b2
    go_wp2
    go_ret2
    exact ⟨rfl, B3.out⟩
set_option maxRecDepth 100000 in
set_option maxHeartbeats 1000000 in
theorem jread_up {w : World} {F : List Nat} {d n : Nat} {s : DS} (h : Dk w F d n s) (hd : s.down = false) :
    Calls Tryz.prog 31 #[.pointer (some ⟨d, 0, none⟩)] w (AllPost s n w) := by
  obtain ⟨N, hN⟩ : ∃ N, w.heap.size = N := ⟨_, rfl⟩
  have h1 := h.1.n1
  have hn8 := h.1.n2
  have hwf := h.1
  have cL := Kept.mk (clen_any h)
  obtain ⟨w1, hmk, own, bel⟩ := make_cap w (64 * n) (by omega)
  have hmk' : (Instr.makeSlice 38 (.int .i64 0) (.int .i64 ((n : Int) * 64))).run Tryz.prog w = .ok (.slice (some ⟨w.heap.size, 0, none⟩) 0 (64 * n)) w1 := by
    have e : ((64 * n : Nat) : Int) = (n : Int) * 64 := by omega
    rw [← e]; exact hmk
  have R0 := Kept.mk (h.keep (barOf bel []) (fun _ _ => by simp))
  have B1 := Kept.mk bel
  have O1 := Kept.mk own
  have HF : Kept (∀ k ∈ F, k < N) := ⟨fun k hk => by rw [← hN]; exact h.lts k hk⟩
  have HT : Kept (∀ k : Nat, k < n → readD s (k : Nat) = (0, rowOf s.now k) ∧ (rowOf s.now k).length = 64 ∧ cat (rowOf s.now) (k + 1) = cat (rowOf s.now) k ++ rowOf s.now k) := ⟨fun k hk => ⟨readD_at hwf hd hk, ((hwf.secs k hk).1).1, rfl⟩⟩
  have HBY : Kept (Bytes (cat (rowOf s.now) n)) := ⟨by
    have : ∀ k, k ≤ n → Bytes (cat (rowOf s.now) k) := fun k => by
      induction k with
      | zero => intro _ z hz; simp [cat] at hz
      | succ k ih => intro hk; exact (ih (by omega)).append ((hwf.secs k (by omega)).1).2
    exact this n (Nat.le_refl _)⟩
  have PE : Kept (∀ u w', w'.ownsRow N 5 1 u (64 * n) (ints .u8 (cat (rowOf s.now) n)) → Below N w w' → AllPost s n w (.returned (.tuple #[u, .int .i64 0])) w') := ⟨fun u w' ho hb => by
    obtain ⟨A, c, rfl, k1, k2, k3⟩ := own_rd ho HBY.out
    exact ⟨A, c, rfl, k1, k2, k3, fun F hF => own_off ho (fun q hq hm => by
      have := (ho.lt q (by simpa using hq)).1
      have := hF q hm
      omega), by rw [hN]; exact hb⟩⟩
  rw [hN] at hmk' own
  clear h hmk own bel hwf
  go_enter Tryz.func31, Tryz.ntmps31
  go_wp2_with fail
  refine cL.out.mono ?_
  rintro e w' ⟨rfl, rfl⟩
  go_wp2_with fail
  have cL2 := Kept.mk (clen_any R0.out)
  refine cL2.out.mono ?_
  rintro e w' ⟨rfl, rfl⟩
  clear cL cL2
  go_wp2_with fail
  rw [hN] at O1 B1
  go_loopw [4, 14] (fun vv i wr => ∃ (k : Nat) (u : Value), k ≤ n ∧ u = vv ∧ i = .int .i64 (k : Nat) ∧ Kept (wr.ownsRow N 5 1 u (64 * k) (ints .u8 (cat (rowOf s.now) k))) ∧ Kept (Dk wr F d n s) ∧ Kept (Below N w wr)) (fun _ i _ => n - (lenI i).toNat)
  case atStart => exact ⟨0, _, by omega, rfl, rfl, O1, R0, B1⟩
  case round =>
    obtain ⟨k, u, hk, rfl, rfl, O, R2, B2⟩ := hrel
    clear hmk' O1 R0 B1
    by_cases hkn : k < n
    · have hkn' : (k : Int) < (n : Int) := by omega
      obtain ⟨t1, t2, t3⟩ := HT.out k hkn
      have CR := cread_b (k : Nat) R2.out
      rw [t1] at CR
      have CR2 := Kept.mk CR
      clear CR t1
      go_wp2_with fail
      refine CR2.out.mono ?_
      rintro e w2 ⟨A2, c2, rfl, r2, -, -, -, b2⟩
      have hN2 : N ≤ wr.heap.size := by rw [← hN]; have := B2.out.size; omega
      have O3 := Kept.mk (own_bar O.out (barOf b2 []) (by simp))
      have R3 := Kept.mk r2
      have D3 := Kept.mk (R2.out.keep (barOf b2 []) (fun _ _ => by simp))
      have B3 := Kept.mk (B2.out.trans (b2.mono hN2))
      have hN3 : N ≤ w2.heap.size := by have := b2.size; omega
      simp only at R3 ⊢
      rw [t2] at R3 ⊢
      have T3 := Kept.mk t3
      clear CR2 r2 b2 O R2 B2 t2 t3
      generalize rowOf s.now k = xs at *
      go_wp2_with ((with_reducible refine sel 28 ?_); refine wpList_append_rd rfl (.tmp 26) (.tmp 27) 38 rfl N 5 Tryz.underlying38 info_u8 u (64 * k) _ rfl O3.out A2 64 c2 xs rfl R3.out (by omega) hN3 ?_; intro v7 w7 o7 g7; have B7 := Kept.mk (B3.out.trans (own_below O3.out g7 hN3)); have D7 := Kept.mk (D3.out.keep (Bar.grownRow g7) (fun k hk hk2 => by have := HF.out k hk; have := (O3.out.lt k (by simpa using hk2)).1; omega)); clear g7)
      go_roundw
      case rel =>
        refine ⟨k + 1, _, by omega, rfl, by go_num, ⟨?_⟩, D7, B7⟩
        have := o7.out
        rw [← ints_append, ← T3.out] at this
        exact this
      case measure => simp only [lenI]; omega
    · have hkn' : ¬ (k : Int) < (n : Int) := by omega
      obtain rfl : k = n := by omega
      have PG := Kept.mk (PE.out _ _ O.out B2.out)
      clear PE
      go_wp2
      go_ret2
      exact PG.out
end Go.Proofs.YtjlhnhkjgcbnnaaGreat.Journal

/-
  The landed journal: what Open's two halves are, as values; what begin leaves behind, told as one.
-/


namespace Go.Proofs.YtjlhnhkjgcbnnaaGreat.Journal
open Go.RowKit Go.Proofs.YtjlhnhkjgcbnnaaGreat.Sha Go.Proofs.YtjlhnhkjgcbnnaaGreat.Disk Go.Proofs.YtjlhnhkjgcbnnaaGreat.Frame

instance (b : List Int) : Decidable (hitB b) := by unfold hitB; infer_instance
/-- what begin tells of a half -/
def begV (s : DS) (half : Nat) : JV := if hitB (textJ s half 0) then ⟨half, (getF (textJ s half 0)).1.gen, true, (getF (textJ s half 0)).1.body, [], (getF (textJ s half 0)).2.1.toNat, 1, false⟩ else ⟨half, 0, false, [], [], 0, 1, false⟩
/-- the one that holds -/
def nowV (s : DS) : JV := if (begV s 1).has = true ∧ ((begV s 0).has = false ∨ (begV s 0).gen < (begV s 1).gen) then begV s 1 else begV s 0
theorem open_now {s : DS} (hd : s.down = false) : openJ s = recsJ s (hn s) (nowV s) := by
  unfold openJ
  rw [if_neg (by simp [hd])]
  congr 1
  have h0 : headJ s 0 noJ = begV s 0 := by
    unfold headJ begV
    by_cases hh : hitB (textJ s 0 0)
    · rw [if_pos hh, if_pos ⟨hh.1, hh.2.1, hh.2.2, .inl rfl⟩]; rfl
    · rw [if_neg hh, if_neg (fun h => hh ⟨h.1, h.2.1, h.2.2.1⟩)]; rfl
  rw [h0]
  have hr : (begV s 0).recs = [] ∧ (begV s 0).seq = 1 ∧ (begV s 0).dead = false := by unfold begV; split <;> exact ⟨rfl, rfl, rfl⟩
  unfold nowV headJ
  by_cases hh : hitB (textJ s 1 0)
  · have e : begV s 1 = ⟨1, (getF (textJ s 1 0)).1.gen, true, (getF (textJ s 1 0)).1.body, [], (getF (textJ s 1 0)).2.1.toNat, 1, false⟩ := by unfold begV; rw [if_pos hh]
    rw [e]
    by_cases hc : (begV s 0).has = false ∨ (begV s 0).gen < (getF (textJ s 1 0)).1.gen
    · rw [if_pos ⟨hh.1, hh.2.1, hh.2.2, hc⟩, if_pos ⟨rfl, hc⟩, hr.1, hr.2.1, hr.2.2]
    · rw [if_neg (fun h => hc h.2.2.2), if_neg (fun h => hc h.2)]
  · have e : (begV s 1).has = false := by unfold begV; rw [if_neg hh]
    rw [if_neg (fun h => hh ⟨h.1, h.2.1, h.2.2.1⟩), if_neg (fun h => by rw [e] at h; exact absurd h.1 (by simp))]
theorem beg_ok {n : Nat} {s : DS} (hwf : WF n s) {half : Nat} (hh : half = 0 ∨ half = 1) : COk n (begV s half) ∧ (begV s half).recs = [] ∧ (begV s half).half = half ∧ (begV s half).dead = false := by
  unfold begV
  split
  · next hc =>
    have hb := getF_bounds (text_bytes hwf (half := half) (m := 0) (by omega)) hc.1
    have hl := text_len hwf (half := half) (m := 0) (by omega)
    have hhn := wf_hn hwf
    exact ⟨⟨hh, ⟨hb.1, hb.2.1⟩, rfl, by show (getF (textJ s half 0)).2.1.toNat ≤ n / 2; omega, Nat.zero_le _, getF_body hc.1, fun q hq => by cases hq⟩, rfl, rfl, rfl⟩
  · exact ⟨⟨hh, by show (0 : Int) ≤ 0 ∧ (0 : Int) ≤ 4294967295; omega, rfl, Nat.zero_le _, Nat.zero_le _, by show 0 ≤ 60000; omega, fun q hq => by cases hq⟩, rfl, rfl, rfl⟩
def UniPost (t : Nat) (fr : Int) (s : DS) (half : Nat) (A : Option Addr) (l : Nat) (w : World) (e : Ending) (w' : World) : Prop := ∃ Ap m cp A2 l2 c2, e = .returned (.tuple #[hvl fr (begV s half).gen (begV s half).has Ap m cp, .slice A2 l2 c2]) ∧ m ≤ cp ∧ cp ≤ maxLen ∧ Rd w' Ap m (begV s half).pict ∧ (∀ F : List Nat, (∀ k ∈ F, k < w.heap.size) → Off Ap m F) ∧
  l2 ≤ c2 ∧ c2 ≤ maxLen ∧ Rd w' A2 l2 (textJ s half (begV s half).pos) ∧ (∀ F, Off A l F → Off A2 l2 F) ∧ Tab w' t ∧ Bar [t] w w'
theorem beg_uni {n : Nat} {s : DS} (hwf : WF n s) {t half : Nat} {fr : Int} (hh : half = 0 ∨ half = 1) {A : Option Addr} {l c : Nat} {w w' : World} {e : Ending} (hr : Rd w A l (textJ s half 0)) (hO : Off A l [t]) (hc : l ≤ c) (hcm : c ≤ maxLen) (h : BegPost t fr (textJ s half 0) A l c w e w') : UniPost t fr s half A l w e w' := by
  obtain ⟨h1, h2, h3⟩ := h
  rcases h3 with ⟨h3, h4⟩ | ⟨h3, Ap, m, cp, A2, l2, c2, h4, h5, h6, h7, h8, h9, h10, h11, h12, h13⟩
  · have e : begV s half = ⟨half, 0, false, [], [], 0, 1, false⟩ := by unfold begV; rw [if_neg h3]
    refine ⟨none, 0, 0, A, l, c, by rw [e]; exact h4, Nat.le_refl _, by unfold maxLen; omega, by rw [e]; exact Rd.nil_, fun _ _ => .inl rfl, hc, hcm, by rw [e]; exact hr.far h2 hO, fun _ h => h, h1, h2⟩
  · have e : begV s half = ⟨half, (getF (textJ s half 0)).1.gen, true, (getF (textJ s half 0)).1.body, [], (getF (textJ s half 0)).2.1.toNat, 1, false⟩ := by unfold begV; rw [if_pos h3]
    have hb := getF_bounds (text_bytes hwf (half := half) (m := 0) (by omega)) h3.1
    have hl := text_len hwf (half := half) (m := 0) (by omega)
    refine ⟨Ap, m, cp, A2, l2, c2, by rw [e]; exact h4, h5, h6, by rw [e]; exact h7, h8, h10, h11, ?_, h13, h1, h2⟩
    rw [e]
    have hd := text_drop hwf (half := half) (m := 0) (k := (getF (textJ s half 0)).2.1.toNat) (by omega) (by omega)
    rw [hd, Nat.zero_add] at h12
    exact h12
/-- the halves of all that was read -/
theorem all_halves {n : Nat} {s : DS} (hwf : WF n s) : (allD s n).take (64 * (n / 2)) = textJ s 0 0 ∧ ((allD s n).drop (64 * (n / 2))).take (64 * (n / 2)) = textJ s 1 0 := by
  have hhn := wf_hn hwf
  have hl : ∀ k, k ≤ n → (cat (rowOf s.now) k).length = 64 * k := fun k hk => cat_len (c := 64) k (fun j hj => ((hwf.secs j (by omega)).1).1)
  have e0 : cat (rowOf s.now) (n / 2) = textJ s 0 0 := by
    unfold textJ; rw [hhn, Nat.sub_zero]; congr 1; funext i; congr 1; omega
  have e1 : cat (fun i => rowOf s.now (n / 2 + i)) (n / 2) = textJ s 1 0 := by
    unfold textJ; rw [hhn, Nat.sub_zero]; congr 1; funext i; congr 1; omega
  have hlx : ∀ k, n / 2 + k ≤ n → (cat (fun i => rowOf s.now (n / 2 + i)) k).length = 64 * k := fun k hk => cat_len (c := 64) k (fun j hj => ((hwf.secs _ (by omega)).1).1)
  have hs : allD s n = cat (rowOf s.now) (n / 2) ++ cat (fun i => rowOf s.now (n / 2 + i)) (n - n / 2) := by
    unfold allD; rw [← cat_add]; congr 1; omega
  have hs2 : cat (fun i => rowOf s.now (n / 2 + i)) (n - n / 2) = cat (fun i => rowOf s.now (n / 2 + i)) (n / 2) ++ cat (fun i => rowOf s.now (n / 2 + (n / 2 + i))) (n - n / 2 - n / 2) := by
    rw [← cat_add]; congr 1; omega
  have h1 := hl (n / 2) (by omega)
  have h2 := hlx (n / 2) (by omega)
  refine ⟨?_, ?_⟩
  · rw [hs, List.take_append_of_le_length (by omega), List.take_of_length_le (by omega), e0]
  · rw [hs, List.drop_append_of_le_length (by omega), List.drop_eq_nil_of_le (by omega), List.nil_append, hs2, List.take_append_of_le_length (by omega), List.take_of_length_le (by omega), e1]
end Go.Proofs.YtjlhnhkjgcbnnaaGreat.Journal
