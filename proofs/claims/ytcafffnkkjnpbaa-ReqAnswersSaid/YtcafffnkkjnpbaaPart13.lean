/-
  Parts laid together: ReqRMayV.
-/
import Derived.Test.YtcafffnkkjnpbaaPart12

namespace Go.Proofs.Ytcafffnkkjnpbaa.Req
open Go.RowKit Go.Proofs.Ytcafffnkkjnpbaa.Sha Go.Proofs.Ytcafffnkkjnpbaa.Wire Go.Proofs.Ytcafffnkkjnpbaa.Num

/-- what stays of an event, by its kind -/
def normV (r : VV) : VV :=
  if r.kind = 1 then ⟨1, r.src, r.dst, r.asset, r.amount, 0, 0, [], []⟩ else if r.kind = 2 then ⟨2, r.src, r.dst, r.asset, r.amount, r.id, r.due, r.hash, []⟩ else if r.kind = 3 then ⟨3, 0, 0, 0, 0, r.id, 0, [], r.sec⟩ else ⟨r.kind, 0, 0, 0, 0, r.id, 0, [], []⟩
theorem mayV_norm (r : VV) : MayV r ↔ (1 ≤ r.kind ∧ r.kind ≤ 4 ∧ r = normV r ∧ B8 r.src ∧ B8 r.dst ∧ B8 r.asset ∧ Amt r.amount ∧ I16 r.id ∧ Tck r.due ∧ (r.kind = 2 → r.hash.length = 32) ∧ (r.kind = 3 → r.sec.length = 32)) := by
  have z8 : B8 0 := ⟨by omega, by omega⟩
  have za : Amt 0 := ⟨by omega, by omega⟩
  have zi : I16 0 := ⟨by omega, by omega⟩
  have zt : Tck 0 := ⟨by omega, by omega⟩
  obtain ⟨kind, src, dst, asset, amount, id, due, hash, sec⟩ := r
  constructor
  · rintro (h | h | h | h)
    all_goals
      obtain ⟨h1, hs, h2, h3, h4, h5, h6, h7, h8⟩ := h
      dsimp only at h1 hs h2 h3 h4 h5 h6 h7 h8
      subst h1
      simp_all [normV]
  · rintro ⟨h1, h2, h3, hs, h4, h5, h6, h7, h8, h9, h10⟩
    dsimp only at h1 h2 hs h4 h5 h6 h7 h8 h9 h10
    have hk : kind = 1 ∨ kind = 2 ∨ kind = 3 ∨ kind = 4 := by omega
    unfold MayV
    rcases hk with rfl | rfl | rfl | rfl <;> simp [normV] at h3 <;> simp_all

--PLAINHI
set_option maxRecDepth 100000 in
set_option maxHeartbeats 4000000 in
theorem rmayv_any (r : VV) (hr : r.ok) (w : World) : Calls Try.prog 51 #[vqv r] w fun e w' => e = .returned (.bool (decide (MayV r))) ∧ Below w.heap.size w w' := by
  have hn := mayV_norm r
  obtain ⟨N, hN⟩ : ∃ N, w.heap.size = N := ⟨_, rfl⟩
  rw [hN]
  have HE := Kept.mk (fun w => ev_eql r (normV r) hr (by
    unfold normV
    have n0 : Bytes [] := by intro x hx; simp at hx
    split
    · exact ⟨n0, n0⟩
    · split
      · exact ⟨hr.1, n0⟩
      · split
        · exact ⟨n0, hr.2⟩
        · exact ⟨n0, n0⟩) w)
  obtain ⟨D, hD⟩ : ∃ D, decide (MayV r) = D := ⟨_, rfl⟩
  rw [hD]
  have HD := Kept.mk hD
  obtain ⟨kind, src, dst, asset, amount, id, due, hash, sec⟩ := r
  unfold vqv
  dsimp only at hn ⊢
  have HN := Kept.mk hn
  clear hr hn hD
  go_enter Try.func51, Try.ntmps51
  go_upto_block 0 with (fail)
  have X1 : Kept (Blk ((w.alloc (.cells #[.int .i64 kind, .int .i64 src, .int .i64 dst, .int .i64 asset, .int .i64 amount, .int .i64 id, .int .i64 due, .string (strOfNums hash), .string (strOfNums sec)] 76)).alloc (.cells #[.int .i64 kind, .int .i64 0, .int .i64 0, .int .i64 0, .int .i64 0, .int .i64 0, .int .i64 0, .string ⟨#[]⟩, .string ⟨#[]⟩] 76)) N 76 #[.int .i64 kind, .int .i64 src, .int .i64 dst, .int .i64 asset, .int .i64 amount, .int .i64 id, .int .i64 due, .string (strOfNums hash), .string (strOfNums sec)]) := ⟨(Blk.new_at w _ _ N hN.symm).alloc _⟩
  have X2 : Kept (Blk ((w.alloc (.cells #[.int .i64 kind, .int .i64 src, .int .i64 dst, .int .i64 asset, .int .i64 amount, .int .i64 id, .int .i64 due, .string (strOfNums hash), .string (strOfNums sec)] 76)).alloc (.cells #[.int .i64 kind, .int .i64 0, .int .i64 0, .int .i64 0, .int .i64 0, .int .i64 0, .int .i64 0, .string ⟨#[]⟩, .string ⟨#[]⟩] 76)) (N + 1) 76 #[.int .i64 kind, .int .i64 0, .int .i64 0, .int .i64 0, .int .i64 0, .int .i64 0, .int .i64 0, .string ⟨#[]⟩, .string ⟨#[]⟩]) := ⟨Blk.new_at _ _ _ (N + 1) (by simp [hN])⟩
  have B : Kept (Below N w ((w.alloc (.cells #[.int .i64 kind, .int .i64 src, .int .i64 dst, .int .i64 asset, .int .i64 amount, .int .i64 id, .int .i64 due, .string (strOfNums hash), .string (strOfNums sec)] 76)).alloc (.cells #[.int .i64 kind, .int .i64 0, .int .i64 0, .int .i64 0, .int .i64 0, .int .i64 0, .int .i64 0, .string ⟨#[]⟩, .string ⟨#[]⟩] 76))) := ⟨((Below.refl _ _).alloc (by omega) _).alloc (by simp; omega) _⟩
  generalize ((w.alloc (.cells #[.int .i64 kind, .int .i64 src, .int .i64 dst, .int .i64 asset, .int .i64 amount, .int .i64 id, .int .i64 due, .string (strOfNums hash), .string (strOfNums sec)] 76)).alloc (.cells #[.int .i64 kind, .int .i64 0, .int .i64 0, .int .i64 0, .int .i64 0, .int .i64 0, .int .i64 0, .string ⟨#[]⟩, .string ⟨#[]⟩] 76)) = w1 at *
  go_cut [9] from 10 to 119 (fun _ wx => Kept (1 ≤ kind ∧ kind ≤ 4) ∧ Kept (Blk wx N 76 #[.int .i64 kind, .int .i64 src, .int .i64 dst, .int .i64 asset, .int .i64 amount, .int .i64 id, .int .i64 due, .string (strOfNums hash), .string (strOfNums sec)]) ∧ Kept (Blk wx (N + 1) 76 (vvC (normV ⟨kind, src, dst, asset, amount, id, due, hash, sec⟩)).toArray) ∧ Kept (Below N w wx))
  case first =>
    by_cases hk : kind = 1
    · subst hk
      have x0 := X1.out.cell 0
      have x1 := X1.out.cell 1; have y1 := X2.out.cell 1; have z1 := X2.out.frozen 1
      have x2 := X1.out.cell 2; have y2 := X2.out.cell 2; have z2 := X2.out.frozen 2
      have x3 := X1.out.cell 3; have y3 := X2.out.cell 3; have z3 := X2.out.frozen 3
      have x4 := X1.out.cell 4; have y4 := X2.out.cell 4; have z4 := X2.out.frozen 4
      go_upto_region 5 with (fail)
      have CS : ∀ {u : World}, Blk u N 76 #[.int .i64 1, .int .i64 src, .int .i64 dst, .int .i64 asset, .int .i64 amount, .int .i64 id, .int .i64 due, .string (strOfNums hash), .string (strOfNums sec)] → u.cell? ⟨N, 1, none⟩ = some (.int .i64 src) ∧ u.cell? ⟨N, 2, none⟩ = some (.int .i64 dst) ∧ u.cell? ⟨N, 3, none⟩ = some (.int .i64 asset) ∧ u.cell? ⟨N, 4, none⟩ = some (.int .i64 amount) := fun h => ⟨h.cell 1, h.cell 2, h.cell 3, h.cell 4⟩
      refine wp_region_noPanic ?_
      refine wp_region_held_drew (S := fun w' : World => w'.cell? ⟨N, 1, none⟩ = some (.int .i64 src) ∧ w'.cell? ⟨N, 2, none⟩ = some (.int .i64 dst) ∧ w'.cell? ⟨N, 3, none⟩ = some (.int .i64 asset) ∧ w'.cell? ⟨N, 4, none⟩ = some (.int .i64 amount)) (by kernel_rfl) (CS X1.out.drew) (fun _ => ?_)
      replace X1 := Kept.mk X1.out.drew; replace X2 := Kept.mk X2.out.drew; replace B := Kept.mk B.out.drew
      clear x1 y1 z1 x2 y2 z2 x3 y3 z3 x4 y4 z4 x0
      generalize w1.drew = w2 at *
      refine wpAnyH_take (i := 0) (oi := ?o80) (v := ?v80) ?hi80 (by kernel_rfl) (by kernel_rfl) (by kernel_rfl) ?hq80 (Or.inl ⟨?hw80, ?hy80⟩) (by assumption) ?r80
      case hi80 => (simp only [List.getElem?_toArray]; exact rfl)
      case hq80 => exact fun _ _ _ h => h
      case hw80 => rfl
      case hy80 => (intro w hSw; (try dsimp only at hSw); go_simp; try exact rfl)
      simp only [Act.put, List.setIfInBounds_toArray, List.set_cons_zero, List.set_cons_succ]
      refine wpAnyH_take (i := 1) (oi := ?o81) (v := ?v81) ?hi81 (by kernel_rfl) (by kernel_rfl) (by kernel_rfl) ?hq81 (Or.inl ⟨?hw81, ?hy81⟩) (by assumption) ?r81
      case hi81 => (simp only [List.getElem?_toArray]; exact rfl)
      case hq81 => exact fun _ _ _ h => h
      case hw81 => rfl
      case hy81 => (intro w hSw; (try dsimp only at hSw); go_simp; try exact rfl)
      simp only [Act.put, List.setIfInBounds_toArray, List.set_cons_zero, List.set_cons_succ]
      refine wpAnyH_take (i := 2) (oi := ?o82) (v := ?v82) ?hi82 (by kernel_rfl) (by kernel_rfl) (by kernel_rfl) ?hq82 (Or.inl ⟨?hw82, ?hy82⟩) (by assumption) ?r82
      case hi82 => (simp only [List.getElem?_toArray]; exact rfl)
      case hq82 => exact fun _ _ _ h => h
      case hw82 => rfl
      case hy82 => (intro w hSw; (try dsimp only at hSw); go_simp; try exact rfl)
      simp only [Act.put, List.setIfInBounds_toArray, List.set_cons_zero, List.set_cons_succ]
      refine wpAnyH_take (i := 3) (oi := ?o83) (v := ?v83) ?hi83 (by kernel_rfl) (by kernel_rfl) (by kernel_rfl) ?hq83 (Or.inl ⟨?hw83, ?hy83⟩) (by assumption) ?r83
      case hi83 => (simp only [List.getElem?_toArray]; exact rfl)
      case hq83 => exact fun _ _ _ h => h
      case hw83 => rfl
      case hy83 => (intro w hSw; (try dsimp only at hSw); go_simp; try exact rfl)
      simp only [Act.put, List.setIfInBounds_toArray, List.set_cons_zero, List.set_cons_succ]
      refine wpAnyH_take (i := 4) (oi := ?o84) (v := ?v84) ?hi84 (by kernel_rfl) (by kernel_rfl) (by kernel_rfl) ?hq84 (Or.inl ⟨?hw84, ?hy84⟩) (by assumption) ?r84
      case hi84 => (simp only [List.getElem?_toArray]; exact rfl)
      case hq84 => exact fun _ _ _ h => h
      case hw84 => rfl
      case hy84 => (intro w hSw; (try dsimp only at hSw); go_simp; try exact rfl)
      simp only [Act.put, List.setIfInBounds_toArray, List.set_cons_zero, List.set_cons_succ]
      refine wpAnyH_take (i := 5) (oi := ?o85) (v := ?v85) ?hi85 (by kernel_rfl) (by kernel_rfl) (by kernel_rfl) ?hq85 (Or.inl ⟨?hw85, ?hy85⟩) (by assumption) ?r85
      case hi85 => (simp only [List.getElem?_toArray]; exact rfl)
      case hq85 => exact fun _ _ _ h => h
      case hw85 => rfl
      case hy85 => (intro w hSw; (try dsimp only at hSw); go_simp; try exact rfl)
      simp only [Act.put, List.setIfInBounds_toArray, List.set_cons_zero, List.set_cons_succ]
      refine wpAnyH_take (i := 6) (oi := ?o86) (v := ?v86) ?hi86 (by kernel_rfl) (by kernel_rfl) (by kernel_rfl) ?hq86 (Or.inl ⟨?hw86, ?hy86⟩) (by assumption) ?r86
      case hi86 => (simp only [List.getElem?_toArray]; exact rfl)
      case hq86 => exact fun _ _ _ h => h
      case hw86 => rfl
      case hy86 => (intro w hSw; (try dsimp only at hSw); go_simp; try exact rfl)
      simp only [Act.put, List.setIfInBounds_toArray, List.set_cons_zero, List.set_cons_succ]
      refine wpAnyH_take (i := 7) (oi := ?o87) (v := ?v87) ?hi87 (by kernel_rfl) (by kernel_rfl) (by kernel_rfl) ?hq87 (Or.inl ⟨?hw87, ?hy87⟩) (by assumption) ?r87
      case hi87 => (simp only [List.getElem?_toArray]; exact rfl)
      case hq87 => exact fun _ _ _ h => h
      case hw87 => rfl
      case hy87 => (intro w hSw; (try dsimp only at hSw); go_simp; try exact rfl)
      simp only [Act.put, List.setIfInBounds_toArray, List.set_cons_zero, List.set_cons_succ]
      refine wpAnyH_take (i := 8) (oi := ?o88) (v := ?v88) ?hi88 (by kernel_rfl) (by kernel_rfl) (by kernel_rfl) ?hq88 (Or.inl ⟨?hw88, ?hy88⟩) (by assumption) ?r88
      case hi88 => (simp only [List.getElem?_toArray]; exact rfl)
      case hq88 => exact fun _ _ _ h => h
      case hw88 => rfl
      case hy88 => (intro w hSw; (try dsimp only at hSw); go_simp; try exact rfl)
      simp only [Act.put, List.setIfInBounds_toArray, List.set_cons_zero, List.set_cons_succ]
      have y1 := X2.out.cell 1; have z1 := X2.out.frozen 1
      refine wpAnyH_ready (rs := [9]) (by kernel_rfl) (by simp) ?_
      refine AllReadyH.cons (o := ?o119) ?hi119 (fun K hK => ?_) AllReadyH.nil
      case hi119 => (simp only [List.getElem?_toArray]; exact rfl)
      go_simp
      have X3 : Kept (Blk (w2.setCell ⟨N + 1, 1, none⟩ (.int .i64 src)) N 76 #[.int .i64 1, .int .i64 src, .int .i64 dst, .int .i64 asset, .int .i64 amount, .int .i64 id, .int .i64 due, .string (strOfNums hash), .string (strOfNums sec)]) := ⟨X1.out.far (by simp) _⟩
      refine hK.out _ _ (CS X3.out) (fun _ => ?_)
      clear hK K y1 z1
      try simp only [Act.put, List.setIfInBounds_toArray, List.set_cons_zero, List.set_cons_succ]
      replace X2 : Kept (Blk (w2.setCell ⟨N + 1, 1, none⟩ (.int .i64 src)) (N + 1) 76 #[.int .i64 1, .int .i64 src, .int .i64 0, .int .i64 0, .int .i64 0, .int .i64 0, .int .i64 0, .string ⟨#[]⟩, .string ⟨#[]⟩]) := ⟨X2.out.set_ 1 _⟩
      replace B := Kept.mk (B.out.setCell (p := ⟨N + 1, 1, none⟩) (by simp) (.int .i64 src))
      generalize w2.setCell ⟨N + 1, 1, none⟩ (.int .i64 src) = w3 at *
      replace X1 := X3; clear X3
      refine wpAnyH_take (i := 10) (oi := ?o89) (v := ?v89) ?hi89 (by kernel_rfl) (by kernel_rfl) (by kernel_rfl) ?hq89 (Or.inl ⟨?hw89, ?hy89⟩) (by assumption) ?r89
      case hi89 => (simp only [List.getElem?_toArray]; exact rfl)
      case hq89 => exact fun _ _ _ h => h
      case hw89 => rfl
      case hy89 => (intro w hSw; (try dsimp only at hSw); go_simp; try exact rfl)
      simp only [Act.put, List.setIfInBounds_toArray, List.set_cons_zero, List.set_cons_succ]
      have y2 := X2.out.cell 2; have z2 := X2.out.frozen 2
      refine wpAnyH_ready (rs := [11]) (by kernel_rfl) (by simp) ?_
      refine AllReadyH.cons (o := ?o120) ?hi120 (fun K hK => ?_) AllReadyH.nil
      case hi120 => (simp only [List.getElem?_toArray]; exact rfl)
      go_simp
      have X3 : Kept (Blk (w3.setCell ⟨N + 1, 2, none⟩ (.int .i64 dst)) N 76 #[.int .i64 1, .int .i64 src, .int .i64 dst, .int .i64 asset, .int .i64 amount, .int .i64 id, .int .i64 due, .string (strOfNums hash), .string (strOfNums sec)]) := ⟨X1.out.far (by simp) _⟩
      refine hK.out _ _ (CS X3.out) (fun _ => ?_)
      clear hK K y2 z2
      try simp only [Act.put, List.setIfInBounds_toArray, List.set_cons_zero, List.set_cons_succ]
      replace X2 : Kept (Blk (w3.setCell ⟨N + 1, 2, none⟩ (.int .i64 dst)) (N + 1) 76 #[.int .i64 1, .int .i64 src, .int .i64 dst, .int .i64 0, .int .i64 0, .int .i64 0, .int .i64 0, .string ⟨#[]⟩, .string ⟨#[]⟩]) := ⟨X2.out.set_ 2 _⟩
      replace B := Kept.mk (B.out.setCell (p := ⟨N + 1, 2, none⟩) (by simp) (.int .i64 dst))
      generalize w3.setCell ⟨N + 1, 2, none⟩ (.int .i64 dst) = w4 at *
      replace X1 := X3; clear X3
      refine wpAnyH_take (i := 12) (oi := ?o90) (v := ?v90) ?hi90 (by kernel_rfl) (by kernel_rfl) (by kernel_rfl) ?hq90 (Or.inl ⟨?hw90, ?hy90⟩) (by assumption) ?r90
      case hi90 => (simp only [List.getElem?_toArray]; exact rfl)
      case hq90 => exact fun _ _ _ h => h
      case hw90 => rfl
      case hy90 => (intro w hSw; (try dsimp only at hSw); go_simp; try exact rfl)
      simp only [Act.put, List.setIfInBounds_toArray, List.set_cons_zero, List.set_cons_succ]
      have y3 := X2.out.cell 3; have z3 := X2.out.frozen 3
      refine wpAnyH_ready (rs := [13]) (by kernel_rfl) (by simp) ?_
      refine AllReadyH.cons (o := ?o121) ?hi121 (fun K hK => ?_) AllReadyH.nil
      case hi121 => (simp only [List.getElem?_toArray]; exact rfl)
      go_simp
      have X3 : Kept (Blk (w4.setCell ⟨N + 1, 3, none⟩ (.int .i64 asset)) N 76 #[.int .i64 1, .int .i64 src, .int .i64 dst, .int .i64 asset, .int .i64 amount, .int .i64 id, .int .i64 due, .string (strOfNums hash), .string (strOfNums sec)]) := ⟨X1.out.far (by simp) _⟩
      refine hK.out _ _ (CS X3.out) (fun _ => ?_)
      clear hK K y3 z3
      try simp only [Act.put, List.setIfInBounds_toArray, List.set_cons_zero, List.set_cons_succ]
      replace X2 : Kept (Blk (w4.setCell ⟨N + 1, 3, none⟩ (.int .i64 asset)) (N + 1) 76 #[.int .i64 1, .int .i64 src, .int .i64 dst, .int .i64 asset, .int .i64 0, .int .i64 0, .int .i64 0, .string ⟨#[]⟩, .string ⟨#[]⟩]) := ⟨X2.out.set_ 3 _⟩
      replace B := Kept.mk (B.out.setCell (p := ⟨N + 1, 3, none⟩) (by simp) (.int .i64 asset))
      generalize w4.setCell ⟨N + 1, 3, none⟩ (.int .i64 asset) = w5 at *
      replace X1 := X3; clear X3
      refine wpAnyH_take (i := 14) (oi := ?o91) (v := ?v91) ?hi91 (by kernel_rfl) (by kernel_rfl) (by kernel_rfl) ?hq91 (Or.inl ⟨?hw91, ?hy91⟩) (by assumption) ?r91
      case hi91 => (simp only [List.getElem?_toArray]; exact rfl)
      case hq91 => exact fun _ _ _ h => h
      case hw91 => rfl
      case hy91 => (intro w hSw; (try dsimp only at hSw); go_simp; try exact rfl)
      simp only [Act.put, List.setIfInBounds_toArray, List.set_cons_zero, List.set_cons_succ]
      have y4 := X2.out.cell 4; have z4 := X2.out.frozen 4
      refine wpAnyH_ready (rs := [15]) (by kernel_rfl) (by simp) ?_
      refine AllReadyH.cons (o := ?o122) ?hi122 (fun K hK => ?_) AllReadyH.nil
      case hi122 => (simp only [List.getElem?_toArray]; exact rfl)
      go_simp
      have X3 : Kept (Blk (w5.setCell ⟨N + 1, 4, none⟩ (.int .i64 amount)) N 76 #[.int .i64 1, .int .i64 src, .int .i64 dst, .int .i64 asset, .int .i64 amount, .int .i64 id, .int .i64 due, .string (strOfNums hash), .string (strOfNums sec)]) := ⟨X1.out.far (by simp) _⟩
      refine hK.out _ _ (CS X3.out) (fun _ => ?_)
      clear hK K y4 z4
      try simp only [Act.put, List.setIfInBounds_toArray, List.set_cons_zero, List.set_cons_succ]
      replace X2 : Kept (Blk (w5.setCell ⟨N + 1, 4, none⟩ (.int .i64 amount)) (N + 1) 76 #[.int .i64 1, .int .i64 src, .int .i64 dst, .int .i64 asset, .int .i64 amount, .int .i64 0, .int .i64 0, .string ⟨#[]⟩, .string ⟨#[]⟩]) := ⟨X2.out.set_ 4 _⟩
      replace B := Kept.mk (B.out.setCell (p := ⟨N + 1, 4, none⟩) (by simp) (.int .i64 amount))
      generalize w5.setCell ⟨N + 1, 4, none⟩ (.int .i64 amount) = w6 at *
      replace X1 := X3; clear X3
      refine wpAnyH_done (by kernel_rfl) ?_ _
      refine NoPanic.normal ?_
      go_wp2
      go_meet
      case rel => exact ⟨⟨by omega, by omega⟩, X1, ⟨X2.out⟩, B⟩
    · have hd1 : (kind == 1) = false := beq_eq_false_iff_ne.2 hk
      by_cases hk : kind = 2
      · subst hk
        have x0 := X1.out.cell 0
        have x1 := X1.out.cell 1; have y1 := X2.out.cell 1; have z1 := X2.out.frozen 1
        have x2 := X1.out.cell 2; have y2 := X2.out.cell 2; have z2 := X2.out.frozen 2
        have x3 := X1.out.cell 3; have y3 := X2.out.cell 3; have z3 := X2.out.frozen 3
        have x4 := X1.out.cell 4; have y4 := X2.out.cell 4; have z4 := X2.out.frozen 4
        have x5 := X1.out.cell 5; have y5 := X2.out.cell 5; have z5 := X2.out.frozen 5
        have x7 := X1.out.cell 7; have y7 := X2.out.cell 7; have z7 := X2.out.frozen 7
        have x6 := X1.out.cell 6; have y6 := X2.out.cell 6; have z6 := X2.out.frozen 6
        go_upto_region 7 with (fail)
        have CS : ∀ {u : World}, Blk u N 76 #[.int .i64 2, .int .i64 src, .int .i64 dst, .int .i64 asset, .int .i64 amount, .int .i64 id, .int .i64 due, .string (strOfNums hash), .string (strOfNums sec)] → u.cell? ⟨N, 1, none⟩ = some (.int .i64 src) ∧ u.cell? ⟨N, 2, none⟩ = some (.int .i64 dst) ∧ u.cell? ⟨N, 3, none⟩ = some (.int .i64 asset) ∧ u.cell? ⟨N, 4, none⟩ = some (.int .i64 amount) ∧ u.cell? ⟨N, 5, none⟩ = some (.int .i64 id) ∧ u.cell? ⟨N, 7, none⟩ = some (.string (strOfNums hash)) ∧ u.cell? ⟨N, 6, none⟩ = some (.int .i64 due) := fun h => ⟨h.cell 1, h.cell 2, h.cell 3, h.cell 4, h.cell 5, h.cell 7, h.cell 6⟩
        refine wp_region_noPanic ?_
        refine wp_region_held_drew (S := fun w' : World => w'.cell? ⟨N, 1, none⟩ = some (.int .i64 src) ∧ w'.cell? ⟨N, 2, none⟩ = some (.int .i64 dst) ∧ w'.cell? ⟨N, 3, none⟩ = some (.int .i64 asset) ∧ w'.cell? ⟨N, 4, none⟩ = some (.int .i64 amount) ∧ w'.cell? ⟨N, 5, none⟩ = some (.int .i64 id) ∧ w'.cell? ⟨N, 7, none⟩ = some (.string (strOfNums hash)) ∧ w'.cell? ⟨N, 6, none⟩ = some (.int .i64 due)) (by kernel_rfl) (CS X1.out.drew) (fun _ => ?_)
        replace X1 := Kept.mk X1.out.drew; replace X2 := Kept.mk X2.out.drew; replace B := Kept.mk B.out.drew
        clear x1 y1 z1 x2 y2 z2 x3 y3 z3 x4 y4 z4 x5 y5 z5 x7 y7 z7 x6 y6 z6 x0
        generalize w1.drew = w2 at *
        refine wpAnyH_take (i := 0) (oi := ?o92) (v := ?v92) ?hi92 (by kernel_rfl) (by kernel_rfl) (by kernel_rfl) ?hq92 (Or.inl ⟨?hw92, ?hy92⟩) (by assumption) ?r92
        case hi92 => (simp only [List.getElem?_toArray]; exact rfl)
        case hq92 => exact fun _ _ _ h => h
        case hw92 => rfl
        case hy92 => (intro w hSw; (try dsimp only at hSw); go_simp; try exact rfl)
        simp only [Act.put, List.setIfInBounds_toArray, List.set_cons_zero, List.set_cons_succ]
        refine wpAnyH_take (i := 1) (oi := ?o93) (v := ?v93) ?hi93 (by kernel_rfl) (by kernel_rfl) (by kernel_rfl) ?hq93 (Or.inl ⟨?hw93, ?hy93⟩) (by assumption) ?r93
        case hi93 => (simp only [List.getElem?_toArray]; exact rfl)
        case hq93 => exact fun _ _ _ h => h
        case hw93 => rfl
        case hy93 => (intro w hSw; (try dsimp only at hSw); go_simp; try exact rfl)
        simp only [Act.put, List.setIfInBounds_toArray, List.set_cons_zero, List.set_cons_succ]
        refine wpAnyH_take (i := 2) (oi := ?o94) (v := ?v94) ?hi94 (by kernel_rfl) (by kernel_rfl) (by kernel_rfl) ?hq94 (Or.inl ⟨?hw94, ?hy94⟩) (by assumption) ?r94
        case hi94 => (simp only [List.getElem?_toArray]; exact rfl)
        case hq94 => exact fun _ _ _ h => h
        case hw94 => rfl
        case hy94 => (intro w hSw; (try dsimp only at hSw); go_simp; try exact rfl)
        simp only [Act.put, List.setIfInBounds_toArray, List.set_cons_zero, List.set_cons_succ]
        refine wpAnyH_take (i := 3) (oi := ?o95) (v := ?v95) ?hi95 (by kernel_rfl) (by kernel_rfl) (by kernel_rfl) ?hq95 (Or.inl ⟨?hw95, ?hy95⟩) (by assumption) ?r95
        case hi95 => (simp only [List.getElem?_toArray]; exact rfl)
        case hq95 => exact fun _ _ _ h => h
        case hw95 => rfl
        case hy95 => (intro w hSw; (try dsimp only at hSw); go_simp; try exact rfl)
        simp only [Act.put, List.setIfInBounds_toArray, List.set_cons_zero, List.set_cons_succ]
        refine wpAnyH_take (i := 4) (oi := ?o96) (v := ?v96) ?hi96 (by kernel_rfl) (by kernel_rfl) (by kernel_rfl) ?hq96 (Or.inl ⟨?hw96, ?hy96⟩) (by assumption) ?r96
        case hi96 => (simp only [List.getElem?_toArray]; exact rfl)
        case hq96 => exact fun _ _ _ h => h
        case hw96 => rfl
        case hy96 => (intro w hSw; (try dsimp only at hSw); go_simp; try exact rfl)
        simp only [Act.put, List.setIfInBounds_toArray, List.set_cons_zero, List.set_cons_succ]
        refine wpAnyH_take (i := 5) (oi := ?o97) (v := ?v97) ?hi97 (by kernel_rfl) (by kernel_rfl) (by kernel_rfl) ?hq97 (Or.inl ⟨?hw97, ?hy97⟩) (by assumption) ?r97
        case hi97 => (simp only [List.getElem?_toArray]; exact rfl)
        case hq97 => exact fun _ _ _ h => h
        case hw97 => rfl
        case hy97 => (intro w hSw; (try dsimp only at hSw); go_simp; try exact rfl)
        simp only [Act.put, List.setIfInBounds_toArray, List.set_cons_zero, List.set_cons_succ]
        refine wpAnyH_take (i := 6) (oi := ?o98) (v := ?v98) ?hi98 (by kernel_rfl) (by kernel_rfl) (by kernel_rfl) ?hq98 (Or.inl ⟨?hw98, ?hy98⟩) (by assumption) ?r98
        case hi98 => (simp only [List.getElem?_toArray]; exact rfl)
        case hq98 => exact fun _ _ _ h => h
        case hw98 => rfl
        case hy98 => (intro w hSw; (try dsimp only at hSw); go_simp; try exact rfl)
        simp only [Act.put, List.setIfInBounds_toArray, List.set_cons_zero, List.set_cons_succ]
        refine wpAnyH_take (i := 7) (oi := ?o99) (v := ?v99) ?hi99 (by kernel_rfl) (by kernel_rfl) (by kernel_rfl) ?hq99 (Or.inl ⟨?hw99, ?hy99⟩) (by assumption) ?r99
        case hi99 => (simp only [List.getElem?_toArray]; exact rfl)
        case hq99 => exact fun _ _ _ h => h
        case hw99 => rfl
        case hy99 => (intro w hSw; (try dsimp only at hSw); go_simp; try exact rfl)
        simp only [Act.put, List.setIfInBounds_toArray, List.set_cons_zero, List.set_cons_succ]
        refine wpAnyH_take (i := 8) (oi := ?o100) (v := ?v100) ?hi100 (by kernel_rfl) (by kernel_rfl) (by kernel_rfl) ?hq100 (Or.inl ⟨?hw100, ?hy100⟩) (by assumption) ?r100
        case hi100 => (simp only [List.getElem?_toArray]; exact rfl)
        case hq100 => exact fun _ _ _ h => h
        case hw100 => rfl
        case hy100 => (intro w hSw; (try dsimp only at hSw); go_simp; try exact rfl)
        simp only [Act.put, List.setIfInBounds_toArray, List.set_cons_zero, List.set_cons_succ]
        refine wpAnyH_take (i := 9) (oi := ?o101) (v := ?v101) ?hi101 (by kernel_rfl) (by kernel_rfl) (by kernel_rfl) ?hq101 (Or.inl ⟨?hw101, ?hy101⟩) (by assumption) ?r101
        case hi101 => (simp only [List.getElem?_toArray]; exact rfl)
        case hq101 => exact fun _ _ _ h => h
        case hw101 => rfl
        case hy101 => (intro w hSw; (try dsimp only at hSw); go_simp; try exact rfl)
        simp only [Act.put, List.setIfInBounds_toArray, List.set_cons_zero, List.set_cons_succ]
        refine wpAnyH_take (i := 10) (oi := ?o102) (v := ?v102) ?hi102 (by kernel_rfl) (by kernel_rfl) (by kernel_rfl) ?hq102 (Or.inl ⟨?hw102, ?hy102⟩) (by assumption) ?r102
        case hi102 => (simp only [List.getElem?_toArray]; exact rfl)
        case hq102 => exact fun _ _ _ h => h
        case hw102 => rfl
        case hy102 => (intro w hSw; (try dsimp only at hSw); go_simp; try exact rfl)
        simp only [Act.put, List.setIfInBounds_toArray, List.set_cons_zero, List.set_cons_succ]
        refine wpAnyH_take (i := 11) (oi := ?o103) (v := ?v103) ?hi103 (by kernel_rfl) (by kernel_rfl) (by kernel_rfl) ?hq103 (Or.inl ⟨?hw103, ?hy103⟩) (by assumption) ?r103
        case hi103 => (simp only [List.getElem?_toArray]; exact rfl)
        case hq103 => exact fun _ _ _ h => h
        case hw103 => rfl
        case hy103 => (intro w hSw; (try dsimp only at hSw); go_simp; try exact rfl)
        simp only [Act.put, List.setIfInBounds_toArray, List.set_cons_zero, List.set_cons_succ]
        refine wpAnyH_take (i := 12) (oi := ?o104) (v := ?v104) ?hi104 (by kernel_rfl) (by kernel_rfl) (by kernel_rfl) ?hq104 (Or.inl ⟨?hw104, ?hy104⟩) (by assumption) ?r104
        case hi104 => (simp only [List.getElem?_toArray]; exact rfl)
        case hq104 => exact fun _ _ _ h => h
        case hw104 => rfl
        case hy104 => (intro w hSw; (try dsimp only at hSw); go_simp; try exact rfl)
        simp only [Act.put, List.setIfInBounds_toArray, List.set_cons_zero, List.set_cons_succ]
        refine wpAnyH_take (i := 13) (oi := ?o105) (v := ?v105) ?hi105 (by kernel_rfl) (by kernel_rfl) (by kernel_rfl) ?hq105 (Or.inl ⟨?hw105, ?hy105⟩) (by assumption) ?r105
        case hi105 => (simp only [List.getElem?_toArray]; exact rfl)
        case hq105 => exact fun _ _ _ h => h
        case hw105 => rfl
        case hy105 => (intro w hSw; (try dsimp only at hSw); go_simp; try exact rfl)
        simp only [Act.put, List.setIfInBounds_toArray, List.set_cons_zero, List.set_cons_succ]
        refine wpAnyH_take (i := 14) (oi := ?o106) (v := ?v106) ?hi106 (by kernel_rfl) (by kernel_rfl) (by kernel_rfl) ?hq106 (Or.inl ⟨?hw106, ?hy106⟩) (by assumption) ?r106
        case hi106 => (simp only [List.getElem?_toArray]; exact rfl)
        case hq106 => exact fun _ _ _ h => h
        case hw106 => rfl
        case hy106 => (intro w hSw; (try dsimp only at hSw); go_simp; try exact rfl)
        simp only [Act.put, List.setIfInBounds_toArray, List.set_cons_zero, List.set_cons_succ]
        have y1 := X2.out.cell 1; have z1 := X2.out.frozen 1
        refine wpAnyH_ready (rs := [15]) (by kernel_rfl) (by simp) ?_
        refine AllReadyH.cons (o := ?o123) ?hi123 (fun K hK => ?_) AllReadyH.nil
        case hi123 => (simp only [List.getElem?_toArray]; exact rfl)
        go_simp
        have X3 : Kept (Blk (w2.setCell ⟨N + 1, 1, none⟩ (.int .i64 src)) N 76 #[.int .i64 2, .int .i64 src, .int .i64 dst, .int .i64 asset, .int .i64 amount, .int .i64 id, .int .i64 due, .string (strOfNums hash), .string (strOfNums sec)]) := ⟨X1.out.far (by simp) _⟩
        refine hK.out _ _ (CS X3.out) (fun _ => ?_)
        clear hK K y1 z1
        try simp only [Act.put, List.setIfInBounds_toArray, List.set_cons_zero, List.set_cons_succ]
        replace X2 : Kept (Blk (w2.setCell ⟨N + 1, 1, none⟩ (.int .i64 src)) (N + 1) 76 #[.int .i64 2, .int .i64 src, .int .i64 0, .int .i64 0, .int .i64 0, .int .i64 0, .int .i64 0, .string ⟨#[]⟩, .string ⟨#[]⟩]) := ⟨X2.out.set_ 1 _⟩
        replace B := Kept.mk (B.out.setCell (p := ⟨N + 1, 1, none⟩) (by simp) (.int .i64 src))
        generalize w2.setCell ⟨N + 1, 1, none⟩ (.int .i64 src) = w3 at *
        replace X1 := X3; clear X3
        refine wpAnyH_take (i := 16) (oi := ?o107) (v := ?v107) ?hi107 (by kernel_rfl) (by kernel_rfl) (by kernel_rfl) ?hq107 (Or.inl ⟨?hw107, ?hy107⟩) (by assumption) ?r107
        case hi107 => (simp only [List.getElem?_toArray]; exact rfl)
        case hq107 => exact fun _ _ _ h => h
        case hw107 => rfl
        case hy107 => (intro w hSw; (try dsimp only at hSw); go_simp; try exact rfl)
        simp only [Act.put, List.setIfInBounds_toArray, List.set_cons_zero, List.set_cons_succ]
        have y2 := X2.out.cell 2; have z2 := X2.out.frozen 2
        refine wpAnyH_ready (rs := [17]) (by kernel_rfl) (by simp) ?_
        refine AllReadyH.cons (o := ?o124) ?hi124 (fun K hK => ?_) AllReadyH.nil
        case hi124 => (simp only [List.getElem?_toArray]; exact rfl)
        go_simp
        have X3 : Kept (Blk (w3.setCell ⟨N + 1, 2, none⟩ (.int .i64 dst)) N 76 #[.int .i64 2, .int .i64 src, .int .i64 dst, .int .i64 asset, .int .i64 amount, .int .i64 id, .int .i64 due, .string (strOfNums hash), .string (strOfNums sec)]) := ⟨X1.out.far (by simp) _⟩
        refine hK.out _ _ (CS X3.out) (fun _ => ?_)
        clear hK K y2 z2
        try simp only [Act.put, List.setIfInBounds_toArray, List.set_cons_zero, List.set_cons_succ]
        replace X2 : Kept (Blk (w3.setCell ⟨N + 1, 2, none⟩ (.int .i64 dst)) (N + 1) 76 #[.int .i64 2, .int .i64 src, .int .i64 dst, .int .i64 0, .int .i64 0, .int .i64 0, .int .i64 0, .string ⟨#[]⟩, .string ⟨#[]⟩]) := ⟨X2.out.set_ 2 _⟩
        replace B := Kept.mk (B.out.setCell (p := ⟨N + 1, 2, none⟩) (by simp) (.int .i64 dst))
        generalize w3.setCell ⟨N + 1, 2, none⟩ (.int .i64 dst) = w4 at *
        replace X1 := X3; clear X3
        refine wpAnyH_take (i := 18) (oi := ?o108) (v := ?v108) ?hi108 (by kernel_rfl) (by kernel_rfl) (by kernel_rfl) ?hq108 (Or.inl ⟨?hw108, ?hy108⟩) (by assumption) ?r108
        case hi108 => (simp only [List.getElem?_toArray]; exact rfl)
        case hq108 => exact fun _ _ _ h => h
        case hw108 => rfl
        case hy108 => (intro w hSw; (try dsimp only at hSw); go_simp; try exact rfl)
        simp only [Act.put, List.setIfInBounds_toArray, List.set_cons_zero, List.set_cons_succ]
        have y3 := X2.out.cell 3; have z3 := X2.out.frozen 3
        refine wpAnyH_ready (rs := [19]) (by kernel_rfl) (by simp) ?_
        refine AllReadyH.cons (o := ?o125) ?hi125 (fun K hK => ?_) AllReadyH.nil
        case hi125 => (simp only [List.getElem?_toArray]; exact rfl)
        go_simp
        have X3 : Kept (Blk (w4.setCell ⟨N + 1, 3, none⟩ (.int .i64 asset)) N 76 #[.int .i64 2, .int .i64 src, .int .i64 dst, .int .i64 asset, .int .i64 amount, .int .i64 id, .int .i64 due, .string (strOfNums hash), .string (strOfNums sec)]) := ⟨X1.out.far (by simp) _⟩
        refine hK.out _ _ (CS X3.out) (fun _ => ?_)
        clear hK K y3 z3
        try simp only [Act.put, List.setIfInBounds_toArray, List.set_cons_zero, List.set_cons_succ]
        replace X2 : Kept (Blk (w4.setCell ⟨N + 1, 3, none⟩ (.int .i64 asset)) (N + 1) 76 #[.int .i64 2, .int .i64 src, .int .i64 dst, .int .i64 asset, .int .i64 0, .int .i64 0, .int .i64 0, .string ⟨#[]⟩, .string ⟨#[]⟩]) := ⟨X2.out.set_ 3 _⟩
        replace B := Kept.mk (B.out.setCell (p := ⟨N + 1, 3, none⟩) (by simp) (.int .i64 asset))
        generalize w4.setCell ⟨N + 1, 3, none⟩ (.int .i64 asset) = w5 at *
        replace X1 := X3; clear X3
        refine wpAnyH_take (i := 20) (oi := ?o109) (v := ?v109) ?hi109 (by kernel_rfl) (by kernel_rfl) (by kernel_rfl) ?hq109 (Or.inl ⟨?hw109, ?hy109⟩) (by assumption) ?r109
        case hi109 => (simp only [List.getElem?_toArray]; exact rfl)
        case hq109 => exact fun _ _ _ h => h
        case hw109 => rfl
        case hy109 => (intro w hSw; (try dsimp only at hSw); go_simp; try exact rfl)
        simp only [Act.put, List.setIfInBounds_toArray, List.set_cons_zero, List.set_cons_succ]
        have y4 := X2.out.cell 4; have z4 := X2.out.frozen 4
        refine wpAnyH_ready (rs := [21]) (by kernel_rfl) (by simp) ?_
        refine AllReadyH.cons (o := ?o126) ?hi126 (fun K hK => ?_) AllReadyH.nil
        case hi126 => (simp only [List.getElem?_toArray]; exact rfl)
        go_simp
        have X3 : Kept (Blk (w5.setCell ⟨N + 1, 4, none⟩ (.int .i64 amount)) N 76 #[.int .i64 2, .int .i64 src, .int .i64 dst, .int .i64 asset, .int .i64 amount, .int .i64 id, .int .i64 due, .string (strOfNums hash), .string (strOfNums sec)]) := ⟨X1.out.far (by simp) _⟩
        refine hK.out _ _ (CS X3.out) (fun _ => ?_)
        clear hK K y4 z4
        try simp only [Act.put, List.setIfInBounds_toArray, List.set_cons_zero, List.set_cons_succ]
        replace X2 : Kept (Blk (w5.setCell ⟨N + 1, 4, none⟩ (.int .i64 amount)) (N + 1) 76 #[.int .i64 2, .int .i64 src, .int .i64 dst, .int .i64 asset, .int .i64 amount, .int .i64 0, .int .i64 0, .string ⟨#[]⟩, .string ⟨#[]⟩]) := ⟨X2.out.set_ 4 _⟩
        replace B := Kept.mk (B.out.setCell (p := ⟨N + 1, 4, none⟩) (by simp) (.int .i64 amount))
        generalize w5.setCell ⟨N + 1, 4, none⟩ (.int .i64 amount) = w6 at *
        replace X1 := X3; clear X3
        refine wpAnyH_take (i := 22) (oi := ?o110) (v := ?v110) ?hi110 (by kernel_rfl) (by kernel_rfl) (by kernel_rfl) ?hq110 (Or.inl ⟨?hw110, ?hy110⟩) (by assumption) ?r110
        case hi110 => (simp only [List.getElem?_toArray]; exact rfl)
        case hq110 => exact fun _ _ _ h => h
        case hw110 => rfl
        case hy110 => (intro w hSw; (try dsimp only at hSw); go_simp; try exact rfl)
        simp only [Act.put, List.setIfInBounds_toArray, List.set_cons_zero, List.set_cons_succ]
        have y5 := X2.out.cell 5; have z5 := X2.out.frozen 5
        refine wpAnyH_ready (rs := [23]) (by kernel_rfl) (by simp) ?_
        refine AllReadyH.cons (o := ?o127) ?hi127 (fun K hK => ?_) AllReadyH.nil
        case hi127 => (simp only [List.getElem?_toArray]; exact rfl)
        go_simp
        have X3 : Kept (Blk (w6.setCell ⟨N + 1, 5, none⟩ (.int .i64 id)) N 76 #[.int .i64 2, .int .i64 src, .int .i64 dst, .int .i64 asset, .int .i64 amount, .int .i64 id, .int .i64 due, .string (strOfNums hash), .string (strOfNums sec)]) := ⟨X1.out.far (by simp) _⟩
        refine hK.out _ _ (CS X3.out) (fun _ => ?_)
        clear hK K y5 z5
        try simp only [Act.put, List.setIfInBounds_toArray, List.set_cons_zero, List.set_cons_succ]
        replace X2 : Kept (Blk (w6.setCell ⟨N + 1, 5, none⟩ (.int .i64 id)) (N + 1) 76 #[.int .i64 2, .int .i64 src, .int .i64 dst, .int .i64 asset, .int .i64 amount, .int .i64 id, .int .i64 0, .string ⟨#[]⟩, .string ⟨#[]⟩]) := ⟨X2.out.set_ 5 _⟩
        replace B := Kept.mk (B.out.setCell (p := ⟨N + 1, 5, none⟩) (by simp) (.int .i64 id))
        generalize w6.setCell ⟨N + 1, 5, none⟩ (.int .i64 id) = w7 at *
        replace X1 := X3; clear X3
        refine wpAnyH_take (i := 24) (oi := ?o111) (v := ?v111) ?hi111 (by kernel_rfl) (by kernel_rfl) (by kernel_rfl) ?hq111 (Or.inl ⟨?hw111, ?hy111⟩) (by assumption) ?r111
        case hi111 => (simp only [List.getElem?_toArray]; exact rfl)
        case hq111 => exact fun _ _ _ h => h
        case hw111 => rfl
        case hy111 => (intro w hSw; (try dsimp only at hSw); go_simp; try exact rfl)
        simp only [Act.put, List.setIfInBounds_toArray, List.set_cons_zero, List.set_cons_succ]
        have y7 := X2.out.cell 7; have z7 := X2.out.frozen 7
        refine wpAnyH_ready (rs := [25]) (by kernel_rfl) (by simp) ?_
        refine AllReadyH.cons (o := ?o128) ?hi128 (fun K hK => ?_) AllReadyH.nil
        case hi128 => (simp only [List.getElem?_toArray]; exact rfl)
        go_simp
        have X3 : Kept (Blk (w7.setCell ⟨N + 1, 7, none⟩ (.string (strOfNums hash))) N 76 #[.int .i64 2, .int .i64 src, .int .i64 dst, .int .i64 asset, .int .i64 amount, .int .i64 id, .int .i64 due, .string (strOfNums hash), .string (strOfNums sec)]) := ⟨X1.out.far (by simp) _⟩
        refine hK.out _ _ (CS X3.out) (fun _ => ?_)
        clear hK K y7 z7
        try simp only [Act.put, List.setIfInBounds_toArray, List.set_cons_zero, List.set_cons_succ]
        replace X2 : Kept (Blk (w7.setCell ⟨N + 1, 7, none⟩ (.string (strOfNums hash))) (N + 1) 76 #[.int .i64 2, .int .i64 src, .int .i64 dst, .int .i64 asset, .int .i64 amount, .int .i64 id, .int .i64 0, .string (strOfNums hash), .string ⟨#[]⟩]) := ⟨X2.out.set_ 7 _⟩
        replace B := Kept.mk (B.out.setCell (p := ⟨N + 1, 7, none⟩) (by simp) (.string (strOfNums hash)))
        generalize w7.setCell ⟨N + 1, 7, none⟩ (.string (strOfNums hash)) = w8 at *
        replace X1 := X3; clear X3
        refine wpAnyH_take (i := 26) (oi := ?o112) (v := ?v112) ?hi112 (by kernel_rfl) (by kernel_rfl) (by kernel_rfl) ?hq112 (Or.inl ⟨?hw112, ?hy112⟩) (by assumption) ?r112
        case hi112 => (simp only [List.getElem?_toArray]; exact rfl)
        case hq112 => exact fun _ _ _ h => h
        case hw112 => rfl
        case hy112 => (intro w hSw; (try dsimp only at hSw); go_simp; try exact rfl)
        simp only [Act.put, List.setIfInBounds_toArray, List.set_cons_zero, List.set_cons_succ]
        have y6 := X2.out.cell 6; have z6 := X2.out.frozen 6
        refine wpAnyH_ready (rs := [27]) (by kernel_rfl) (by simp) ?_
        refine AllReadyH.cons (o := ?o129) ?hi129 (fun K hK => ?_) AllReadyH.nil
        case hi129 => (simp only [List.getElem?_toArray]; exact rfl)
        go_simp
        have X3 : Kept (Blk (w8.setCell ⟨N + 1, 6, none⟩ (.int .i64 due)) N 76 #[.int .i64 2, .int .i64 src, .int .i64 dst, .int .i64 asset, .int .i64 amount, .int .i64 id, .int .i64 due, .string (strOfNums hash), .string (strOfNums sec)]) := ⟨X1.out.far (by simp) _⟩
        refine hK.out _ _ (CS X3.out) (fun _ => ?_)
        clear hK K y6 z6
        try simp only [Act.put, List.setIfInBounds_toArray, List.set_cons_zero, List.set_cons_succ]
        replace X2 : Kept (Blk (w8.setCell ⟨N + 1, 6, none⟩ (.int .i64 due)) (N + 1) 76 #[.int .i64 2, .int .i64 src, .int .i64 dst, .int .i64 asset, .int .i64 amount, .int .i64 id, .int .i64 due, .string (strOfNums hash), .string ⟨#[]⟩]) := ⟨X2.out.set_ 6 _⟩
        replace B := Kept.mk (B.out.setCell (p := ⟨N + 1, 6, none⟩) (by simp) (.int .i64 due))
        generalize w8.setCell ⟨N + 1, 6, none⟩ (.int .i64 due) = w9 at *
        replace X1 := X3; clear X3
        refine wpAnyH_done (by kernel_rfl) ?_ _
        refine NoPanic.normal ?_
        go_wp2
        go_meet
        case rel => exact ⟨⟨by omega, by omega⟩, X1, ⟨X2.out⟩, B⟩
      · have hd2 : (kind == 2) = false := beq_eq_false_iff_ne.2 hk
        by_cases hk : kind = 3
        · subst hk
          have x0 := X1.out.cell 0
          have x5 := X1.out.cell 5; have y5 := X2.out.cell 5; have z5 := X2.out.frozen 5
          have x8 := X1.out.cell 8; have y8 := X2.out.cell 8; have z8 := X2.out.frozen 8
          go_upto_region 9 with (fail)
          have CS : ∀ {u : World}, Blk u N 76 #[.int .i64 3, .int .i64 src, .int .i64 dst, .int .i64 asset, .int .i64 amount, .int .i64 id, .int .i64 due, .string (strOfNums hash), .string (strOfNums sec)] → u.cell? ⟨N, 5, none⟩ = some (.int .i64 id) ∧ u.cell? ⟨N, 8, none⟩ = some (.string (strOfNums sec)) := fun h => ⟨h.cell 5, h.cell 8⟩
          refine wp_region_noPanic ?_
          refine wp_region_held_drew (S := fun w' : World => w'.cell? ⟨N, 5, none⟩ = some (.int .i64 id) ∧ w'.cell? ⟨N, 8, none⟩ = some (.string (strOfNums sec))) (by kernel_rfl) (CS X1.out.drew) (fun _ => ?_)
          replace X1 := Kept.mk X1.out.drew; replace X2 := Kept.mk X2.out.drew; replace B := Kept.mk B.out.drew
          clear x5 y5 z5 x8 y8 z8 x0
          generalize w1.drew = w2 at *
          refine wpAnyH_take (i := 0) (oi := ?o113) (v := ?v113) ?hi113 (by kernel_rfl) (by kernel_rfl) (by kernel_rfl) ?hq113 (Or.inl ⟨?hw113, ?hy113⟩) (by assumption) ?r113
          case hi113 => (simp only [List.getElem?_toArray]; exact rfl)
          case hq113 => exact fun _ _ _ h => h
          case hw113 => rfl
          case hy113 => (intro w hSw; (try dsimp only at hSw); go_simp; try exact rfl)
          simp only [Act.put, List.setIfInBounds_toArray, List.set_cons_zero, List.set_cons_succ]
          refine wpAnyH_take (i := 1) (oi := ?o114) (v := ?v114) ?hi114 (by kernel_rfl) (by kernel_rfl) (by kernel_rfl) ?hq114 (Or.inl ⟨?hw114, ?hy114⟩) (by assumption) ?r114
          case hi114 => (simp only [List.getElem?_toArray]; exact rfl)
          case hq114 => exact fun _ _ _ h => h
          case hw114 => rfl
          case hy114 => (intro w hSw; (try dsimp only at hSw); go_simp; try exact rfl)
          simp only [Act.put, List.setIfInBounds_toArray, List.set_cons_zero, List.set_cons_succ]
          refine wpAnyH_take (i := 2) (oi := ?o115) (v := ?v115) ?hi115 (by kernel_rfl) (by kernel_rfl) (by kernel_rfl) ?hq115 (Or.inl ⟨?hw115, ?hy115⟩) (by assumption) ?r115
          case hi115 => (simp only [List.getElem?_toArray]; exact rfl)
          case hq115 => exact fun _ _ _ h => h
          case hw115 => rfl
          case hy115 => (intro w hSw; (try dsimp only at hSw); go_simp; try exact rfl)
          simp only [Act.put, List.setIfInBounds_toArray, List.set_cons_zero, List.set_cons_succ]
          refine wpAnyH_take (i := 3) (oi := ?o116) (v := ?v116) ?hi116 (by kernel_rfl) (by kernel_rfl) (by kernel_rfl) ?hq116 (Or.inl ⟨?hw116, ?hy116⟩) (by assumption) ?r116
          case hi116 => (simp only [List.getElem?_toArray]; exact rfl)
          case hq116 => exact fun _ _ _ h => h
          case hw116 => rfl
          case hy116 => (intro w hSw; (try dsimp only at hSw); go_simp; try exact rfl)
          simp only [Act.put, List.setIfInBounds_toArray, List.set_cons_zero, List.set_cons_succ]
          refine wpAnyH_take (i := 4) (oi := ?o117) (v := ?v117) ?hi117 (by kernel_rfl) (by kernel_rfl) (by kernel_rfl) ?hq117 (Or.inl ⟨?hw117, ?hy117⟩) (by assumption) ?r117
          case hi117 => (simp only [List.getElem?_toArray]; exact rfl)
          case hq117 => exact fun _ _ _ h => h
          case hw117 => rfl
          case hy117 => (intro w hSw; (try dsimp only at hSw); go_simp; try exact rfl)
          simp only [Act.put, List.setIfInBounds_toArray, List.set_cons_zero, List.set_cons_succ]
          have y5 := X2.out.cell 5; have z5 := X2.out.frozen 5
          refine wpAnyH_ready (rs := [5]) (by kernel_rfl) (by simp) ?_
          refine AllReadyH.cons (o := ?o130) ?hi130 (fun K hK => ?_) AllReadyH.nil
          case hi130 => (simp only [List.getElem?_toArray]; exact rfl)
          go_simp
          have X3 : Kept (Blk (w2.setCell ⟨N + 1, 5, none⟩ (.int .i64 id)) N 76 #[.int .i64 3, .int .i64 src, .int .i64 dst, .int .i64 asset, .int .i64 amount, .int .i64 id, .int .i64 due, .string (strOfNums hash), .string (strOfNums sec)]) := ⟨X1.out.far (by simp) _⟩
          refine hK.out _ _ (CS X3.out) (fun _ => ?_)
          clear hK K y5 z5
          try simp only [Act.put, List.setIfInBounds_toArray, List.set_cons_zero, List.set_cons_succ]
          replace X2 : Kept (Blk (w2.setCell ⟨N + 1, 5, none⟩ (.int .i64 id)) (N + 1) 76 #[.int .i64 3, .int .i64 0, .int .i64 0, .int .i64 0, .int .i64 0, .int .i64 id, .int .i64 0, .string ⟨#[]⟩, .string ⟨#[]⟩]) := ⟨X2.out.set_ 5 _⟩
          replace B := Kept.mk (B.out.setCell (p := ⟨N + 1, 5, none⟩) (by simp) (.int .i64 id))
          generalize w2.setCell ⟨N + 1, 5, none⟩ (.int .i64 id) = w3 at *
          replace X1 := X3; clear X3
          refine wpAnyH_take (i := 6) (oi := ?o118) (v := ?v118) ?hi118 (by kernel_rfl) (by kernel_rfl) (by kernel_rfl) ?hq118 (Or.inl ⟨?hw118, ?hy118⟩) (by assumption) ?r118
          case hi118 => (simp only [List.getElem?_toArray]; exact rfl)
          case hq118 => exact fun _ _ _ h => h
          case hw118 => rfl
          case hy118 => (intro w hSw; (try dsimp only at hSw); go_simp; try exact rfl)
          simp only [Act.put, List.setIfInBounds_toArray, List.set_cons_zero, List.set_cons_succ]
          have y8 := X2.out.cell 8; have z8 := X2.out.frozen 8
          refine wpAnyH_ready (rs := [7]) (by kernel_rfl) (by simp) ?_
          refine AllReadyH.cons (o := ?o131) ?hi131 (fun K hK => ?_) AllReadyH.nil
          case hi131 => (simp only [List.getElem?_toArray]; exact rfl)
          go_simp
          have X3 : Kept (Blk (w3.setCell ⟨N + 1, 8, none⟩ (.string (strOfNums sec))) N 76 #[.int .i64 3, .int .i64 src, .int .i64 dst, .int .i64 asset, .int .i64 amount, .int .i64 id, .int .i64 due, .string (strOfNums hash), .string (strOfNums sec)]) := ⟨X1.out.far (by simp) _⟩
          refine hK.out _ _ (CS X3.out) (fun _ => ?_)
          clear hK K y8 z8
          try simp only [Act.put, List.setIfInBounds_toArray, List.set_cons_zero, List.set_cons_succ]
          replace X2 : Kept (Blk (w3.setCell ⟨N + 1, 8, none⟩ (.string (strOfNums sec))) (N + 1) 76 #[.int .i64 3, .int .i64 0, .int .i64 0, .int .i64 0, .int .i64 0, .int .i64 id, .int .i64 0, .string ⟨#[]⟩, .string (strOfNums sec)]) := ⟨X2.out.set_ 8 _⟩
          replace B := Kept.mk (B.out.setCell (p := ⟨N + 1, 8, none⟩) (by simp) (.string (strOfNums sec)))
          generalize w3.setCell ⟨N + 1, 8, none⟩ (.string (strOfNums sec)) = w4 at *
          replace X1 := X3; clear X3
          refine wpAnyH_done (by kernel_rfl) ?_ _
          refine NoPanic.normal ?_
          go_wp2
          go_meet
          case rel => exact ⟨⟨by omega, by omega⟩, X1, ⟨X2.out⟩, B⟩
        · have hd3 : (kind == 3) = false := beq_eq_false_iff_ne.2 hk
          by_cases hk4 : kind = 4
          · subst hk4
            have x5 := X1.out.cell 5; have y5 := X2.out.cell 5; have z5 := X2.out.frozen 5
            go_wp2
            go_meet
            case rel => exact ⟨⟨by omega, by omega⟩, ⟨X1.out.far (p := ⟨N + 1, 5, none⟩) (by simp) _⟩, ⟨X2.out.set_ 5 _⟩, ⟨B.out.setCell (p := ⟨N + 1, 5, none⟩) (by simp) _⟩⟩
          · have hd4 : (kind == 4) = false := beq_eq_false_iff_ne.2 hk4
            rename_i hk1 hk2
            obtain rfl : false = D := by
              rw [← HD.out]
              exact (decide_eq_false (fun h => by have := HN.out.1 h; omega)).symm
            go_wp2
            go_ret
            exact ⟨rfl, B.out⟩
  case rest =>
    clear X1 X2 B
    obtain ⟨K1, X1, X2, B⟩ := hcut
    generalize wc = w2 at *
    obtain ⟨n0, n1, n2, n3, n4, n5, n6, n7, n8, hm⟩ : ∃ n0 n1 n2 n3 n4 n5 n6 n7 n8, normV ⟨kind, src, dst, asset, amount, id, due, hash, sec⟩ = ⟨n0, n1, n2, n3, n4, n5, n6, n7, n8⟩ := ⟨_, _, _, _, _, _, _, _, _, rfl⟩
    rw [hm] at HE X2
    have HE2 := HE.out
    unfold vqv at HE2
    dsimp only at HE2
    replace X2 : Kept (Blk w2 (N + 1) 76 #[.int .i64 n0, .int .i64 n1, .int .i64 n2, .int .i64 n3, .int .i64 n4, .int .i64 n5, .int .i64 n6, .string (strOfNums n7), .string (strOfNums n8)]) := ⟨X2.out⟩
    obtain ⟨q, hq⟩ : ∃ q, sameV ⟨kind, src, dst, asset, amount, id, due, hash, sec⟩ ⟨n0, n1, n2, n3, n4, n5, n6, n7, n8⟩ = q := ⟨_, rfl⟩
    rw [hq] at HE2
    have HQ := Kept.mk hq
    have HM := Kept.mk hm
    clear HE hq hm
    have csrc := Kept.mk (fun w => rbyte8_any src w)
    have cdst := Kept.mk (fun w => rbyte8_any dst w)
    have casset := Kept.mk (fun w => rbyte8_any asset w)
    have cA := Kept.mk (fun w => ramount_any amount w)
    have cT := Kept.mk (fun w => rtick_any due w)
    have x0 := X1.out.cell 0; have y0 := X2.out.cell 0
    have x1 := X1.out.cell 1; have y1 := X2.out.cell 1
    have x2 := X1.out.cell 2; have y2 := X2.out.cell 2
    have x3 := X1.out.cell 3; have y3 := X2.out.cell 3
    have x4 := X1.out.cell 4; have y4 := X2.out.cell 4
    have x5 := X1.out.cell 5; have y5 := X2.out.cell 5
    have x6 := X1.out.cell 6; have y6 := X2.out.cell 6
    have x7 := X1.out.cell 7; have y7 := X2.out.cell 7
    have x8 := X1.out.cell 8; have y8 := X2.out.cell 8
    clear X1 X2
    cases q with
    | false =>
      obtain rfl : false = D := by
        rw [← HD.out]
        exact (decide_eq_false (fun h => by replace h := HN.out.1 h; replace h := h.2.2.1; rw [HM.out] at h; rw [h] at HQ; have := sameV_iff.2 (rfl : (⟨n0, n1, n2, n3, n4, n5, n6, n7, n8⟩ : VV) = _); rw [HQ.out] at this; cases this)).symm
      go_wp2_with (first | (go_at_call 50; (with_reducible refine (csrc.out _).mono ?_); rintro e w' ⟨rfl, rfl⟩) | (go_at_call 50; (with_reducible refine (cdst.out _).mono ?_); rintro e w' ⟨rfl, rfl⟩) | (go_at_call 50; (with_reducible refine (casset.out _).mono ?_); rintro e w' ⟨rfl, rfl⟩) | (go_at_call 69; (with_reducible refine (cA.out _).mono ?_); rintro e w' ⟨rfl, rfl⟩) | (go_at_call 49; (with_reducible refine (cT.out _).mono ?_); rintro e w' ⟨rfl, rfl⟩))
      go_ret
      exact ⟨rfl, B.out⟩
    | true =>
      cases hbsrc : b8B src with
      | false =>
        rw [hbsrc] at csrc
        obtain rfl : false = D := by
          rw [← HD.out]
          exact (decide_eq_false (fun h => by replace h := HN.out.1 h; replace h := h.2.2.2.1; exact (of_decide_eq_false hbsrc) h)).symm
        go_wp2_with (first | (go_at_call 50; (with_reducible refine (csrc.out _).mono ?_); rintro e w' ⟨rfl, rfl⟩) | (go_at_call 50; (with_reducible refine (cdst.out _).mono ?_); rintro e w' ⟨rfl, rfl⟩) | (go_at_call 50; (with_reducible refine (casset.out _).mono ?_); rintro e w' ⟨rfl, rfl⟩) | (go_at_call 69; (with_reducible refine (cA.out _).mono ?_); rintro e w' ⟨rfl, rfl⟩) | (go_at_call 49; (with_reducible refine (cT.out _).mono ?_); rintro e w' ⟨rfl, rfl⟩))
        go_ret
        exact ⟨rfl, B.out⟩
      | true =>
        rw [hbsrc] at csrc
        cases hbdst : b8B dst with
        | false =>
          rw [hbdst] at cdst
          obtain rfl : false = D := by
            rw [← HD.out]
            exact (decide_eq_false (fun h => by replace h := HN.out.1 h; replace h := h.2.2.2.2.1; exact (of_decide_eq_false hbdst) h)).symm
          go_wp2_with (first | (go_at_call 50; (with_reducible refine (csrc.out _).mono ?_); rintro e w' ⟨rfl, rfl⟩) | (go_at_call 50; (with_reducible refine (cdst.out _).mono ?_); rintro e w' ⟨rfl, rfl⟩) | (go_at_call 50; (with_reducible refine (casset.out _).mono ?_); rintro e w' ⟨rfl, rfl⟩) | (go_at_call 69; (with_reducible refine (cA.out _).mono ?_); rintro e w' ⟨rfl, rfl⟩) | (go_at_call 49; (with_reducible refine (cT.out _).mono ?_); rintro e w' ⟨rfl, rfl⟩))
          go_ret
          exact ⟨rfl, B.out⟩
        | true =>
          rw [hbdst] at cdst
          cases hbasset : b8B asset with
          | false =>
            rw [hbasset] at casset
            obtain rfl : false = D := by
              rw [← HD.out]
              exact (decide_eq_false (fun h => by replace h := HN.out.1 h; replace h := h.2.2.2.2.2.1; exact (of_decide_eq_false hbasset) h)).symm
            go_wp2_with (first | (go_at_call 50; (with_reducible refine (csrc.out _).mono ?_); rintro e w' ⟨rfl, rfl⟩) | (go_at_call 50; (with_reducible refine (cdst.out _).mono ?_); rintro e w' ⟨rfl, rfl⟩) | (go_at_call 50; (with_reducible refine (casset.out _).mono ?_); rintro e w' ⟨rfl, rfl⟩) | (go_at_call 69; (with_reducible refine (cA.out _).mono ?_); rintro e w' ⟨rfl, rfl⟩) | (go_at_call 49; (with_reducible refine (cT.out _).mono ?_); rintro e w' ⟨rfl, rfl⟩))
            go_ret
            exact ⟨rfl, B.out⟩
          | true =>
            rw [hbasset] at casset
            cases hbA : amtB amount with
            | false =>
              rw [hbA] at cA
              obtain rfl : false = D := by
                rw [← HD.out]
                exact (decide_eq_false (fun h => by replace h := HN.out.1 h; replace h := h.2.2.2.2.2.2.1; exact (of_decide_eq_false hbA) h)).symm
              go_wp2_with (first | (go_at_call 50; (with_reducible refine (csrc.out _).mono ?_); rintro e w' ⟨rfl, rfl⟩) | (go_at_call 50; (with_reducible refine (cdst.out _).mono ?_); rintro e w' ⟨rfl, rfl⟩) | (go_at_call 50; (with_reducible refine (casset.out _).mono ?_); rintro e w' ⟨rfl, rfl⟩) | (go_at_call 69; (with_reducible refine (cA.out _).mono ?_); rintro e w' ⟨rfl, rfl⟩) | (go_at_call 49; (with_reducible refine (cT.out _).mono ?_); rintro e w' ⟨rfl, rfl⟩))
              go_ret
              exact ⟨rfl, B.out⟩
            | true =>
              rw [hbA] at cA
              by_cases hi0 : 0 ≤ id
              · skip
                by_cases hi1 : id ≤ 65535
                · skip
                  cases hbT : tickB due with
                  | false =>
                    rw [hbT] at cT
                    obtain rfl : false = D := by
                      rw [← HD.out]
                      exact (decide_eq_false (fun h => by replace h := HN.out.1 h; replace h := h.2.2.2.2.2.2.2.2.1; exact (of_decide_eq_false hbT) h)).symm
                    go_wp2_with (first | (go_at_call 50; (with_reducible refine (csrc.out _).mono ?_); rintro e w' ⟨rfl, rfl⟩) | (go_at_call 50; (with_reducible refine (cdst.out _).mono ?_); rintro e w' ⟨rfl, rfl⟩) | (go_at_call 50; (with_reducible refine (casset.out _).mono ?_); rintro e w' ⟨rfl, rfl⟩) | (go_at_call 69; (with_reducible refine (cA.out _).mono ?_); rintro e w' ⟨rfl, rfl⟩) | (go_at_call 49; (with_reducible refine (cT.out _).mono ?_); rintro e w' ⟨rfl, rfl⟩))
                    go_ret
                    exact ⟨rfl, B.out⟩
                  | true =>
                    rw [hbT] at cT
                    by_cases h2 : kind = 2
                    · subst h2
                      by_cases hl : hash.length = 32
                      · have hL : (strOfNums hash).size = 32 := by rw [strOfNums_size]; exact hl
                        obtain rfl : true = D := by
                          rw [← HD.out]
                          refine (decide_eq_true (HN.out.2 ⟨by have := K1.out; omega, by have := K1.out; omega, ?_, of_decide_eq_true hbsrc, of_decide_eq_true hbdst, of_decide_eq_true hbasset, of_decide_eq_true hbA, ⟨hi0, hi1⟩, of_decide_eq_true hbT, fun _ => hl, fun h => by omega⟩)).symm
                          rw [HM.out]; exact sameV_iff.1 HQ.out
                        go_wp2_with (first | (go_at_call 50; (with_reducible refine (csrc.out _).mono ?_); rintro e w' ⟨rfl, rfl⟩) | (go_at_call 50; (with_reducible refine (cdst.out _).mono ?_); rintro e w' ⟨rfl, rfl⟩) | (go_at_call 50; (with_reducible refine (casset.out _).mono ?_); rintro e w' ⟨rfl, rfl⟩) | (go_at_call 69; (with_reducible refine (cA.out _).mono ?_); rintro e w' ⟨rfl, rfl⟩) | (go_at_call 49; (with_reducible refine (cT.out _).mono ?_); rintro e w' ⟨rfl, rfl⟩))
                        go_ret
                        exact ⟨rfl, B.out⟩
                      · obtain ⟨l, hL⟩ : ∃ l, (strOfNums hash).size = l := ⟨_, rfl⟩
                        have hL2 : l ≠ 32 := by rw [← hL, strOfNums_size]; exact hl
                        have hL3 : ((l : Int) == 32) = false := beq_eq_false_iff_ne.2 (by omega)
                        obtain rfl : false = D := by
                          rw [← HD.out]
                          exact (decide_eq_false (fun h => by replace h := HN.out.1 h; replace h := h.2.2.2.2.2.2.2.2.2.1; exact hl (h rfl))).symm
                        go_wp2_with (first | (go_at_call 50; (with_reducible refine (csrc.out _).mono ?_); rintro e w' ⟨rfl, rfl⟩) | (go_at_call 50; (with_reducible refine (cdst.out _).mono ?_); rintro e w' ⟨rfl, rfl⟩) | (go_at_call 50; (with_reducible refine (casset.out _).mono ?_); rintro e w' ⟨rfl, rfl⟩) | (go_at_call 69; (with_reducible refine (cA.out _).mono ?_); rintro e w' ⟨rfl, rfl⟩) | (go_at_call 49; (with_reducible refine (cT.out _).mono ?_); rintro e w' ⟨rfl, rfl⟩))
                        go_ret
                        exact ⟨rfl, B.out⟩
                    · have hd2 : (kind == 2) = false := beq_eq_false_iff_ne.2 h2
                      by_cases h3 : kind = 3
                      · subst h3
                        by_cases hl : sec.length = 32
                        · have hL : (strOfNums sec).size = 32 := by rw [strOfNums_size]; exact hl
                          obtain rfl : true = D := by
                            rw [← HD.out]
                            refine (decide_eq_true (HN.out.2 ⟨by have := K1.out; omega, by have := K1.out; omega, ?_, of_decide_eq_true hbsrc, of_decide_eq_true hbdst, of_decide_eq_true hbasset, of_decide_eq_true hbA, ⟨hi0, hi1⟩, of_decide_eq_true hbT, fun h => by omega, fun _ => hl⟩)).symm
                            rw [HM.out]; exact sameV_iff.1 HQ.out
                          go_wp2_with (first | (go_at_call 50; (with_reducible refine (csrc.out _).mono ?_); rintro e w' ⟨rfl, rfl⟩) | (go_at_call 50; (with_reducible refine (cdst.out _).mono ?_); rintro e w' ⟨rfl, rfl⟩) | (go_at_call 50; (with_reducible refine (casset.out _).mono ?_); rintro e w' ⟨rfl, rfl⟩) | (go_at_call 69; (with_reducible refine (cA.out _).mono ?_); rintro e w' ⟨rfl, rfl⟩) | (go_at_call 49; (with_reducible refine (cT.out _).mono ?_); rintro e w' ⟨rfl, rfl⟩))
                          go_ret
                          exact ⟨rfl, B.out⟩
                        · obtain ⟨l, hL⟩ : ∃ l, (strOfNums sec).size = l := ⟨_, rfl⟩
                          have hL2 : l ≠ 32 := by rw [← hL, strOfNums_size]; exact hl
                          have hL3 : ((l : Int) == 32) = false := beq_eq_false_iff_ne.2 (by omega)
                          obtain rfl : false = D := by
                            rw [← HD.out]
                            exact (decide_eq_false (fun h => by replace h := HN.out.1 h; replace h := h.2.2.2.2.2.2.2.2.2.2; exact hl (h rfl))).symm
                          go_wp2_with (first | (go_at_call 50; (with_reducible refine (csrc.out _).mono ?_); rintro e w' ⟨rfl, rfl⟩) | (go_at_call 50; (with_reducible refine (cdst.out _).mono ?_); rintro e w' ⟨rfl, rfl⟩) | (go_at_call 50; (with_reducible refine (casset.out _).mono ?_); rintro e w' ⟨rfl, rfl⟩) | (go_at_call 69; (with_reducible refine (cA.out _).mono ?_); rintro e w' ⟨rfl, rfl⟩) | (go_at_call 49; (with_reducible refine (cT.out _).mono ?_); rintro e w' ⟨rfl, rfl⟩))
                          go_ret
                          exact ⟨rfl, B.out⟩
                      · have hd3 : (kind == 3) = false := beq_eq_false_iff_ne.2 h3
                        obtain rfl : true = D := by
                          rw [← HD.out]
                          refine (decide_eq_true (HN.out.2 ⟨by have := K1.out; omega, by have := K1.out; omega, ?_, of_decide_eq_true hbsrc, of_decide_eq_true hbdst, of_decide_eq_true hbasset, of_decide_eq_true hbA, ⟨hi0, hi1⟩, of_decide_eq_true hbT, fun h => absurd h h2, fun h => absurd h h3⟩)).symm
                          rw [HM.out]; exact sameV_iff.1 HQ.out
                        go_wp2_with (first | (go_at_call 50; (with_reducible refine (csrc.out _).mono ?_); rintro e w' ⟨rfl, rfl⟩) | (go_at_call 50; (with_reducible refine (cdst.out _).mono ?_); rintro e w' ⟨rfl, rfl⟩) | (go_at_call 50; (with_reducible refine (casset.out _).mono ?_); rintro e w' ⟨rfl, rfl⟩) | (go_at_call 69; (with_reducible refine (cA.out _).mono ?_); rintro e w' ⟨rfl, rfl⟩) | (go_at_call 49; (with_reducible refine (cT.out _).mono ?_); rintro e w' ⟨rfl, rfl⟩))
                        go_ret
                        exact ⟨rfl, B.out⟩
                · skip
                  obtain rfl : false = D := by
                    rw [← HD.out]
                    exact (decide_eq_false (fun h => by replace h := HN.out.1 h; replace h := h.2.2.2.2.2.2.2.1; exact hi1 h.2)).symm
                  go_wp2_with (first | (go_at_call 50; (with_reducible refine (csrc.out _).mono ?_); rintro e w' ⟨rfl, rfl⟩) | (go_at_call 50; (with_reducible refine (cdst.out _).mono ?_); rintro e w' ⟨rfl, rfl⟩) | (go_at_call 50; (with_reducible refine (casset.out _).mono ?_); rintro e w' ⟨rfl, rfl⟩) | (go_at_call 69; (with_reducible refine (cA.out _).mono ?_); rintro e w' ⟨rfl, rfl⟩) | (go_at_call 49; (with_reducible refine (cT.out _).mono ?_); rintro e w' ⟨rfl, rfl⟩))
                  go_ret
                  exact ⟨rfl, B.out⟩
              · skip
                obtain rfl : false = D := by
                  rw [← HD.out]
                  exact (decide_eq_false (fun h => by replace h := HN.out.1 h; replace h := h.2.2.2.2.2.2.2.1; exact hi0 h.1)).symm
                go_wp2_with (first | (go_at_call 50; (with_reducible refine (csrc.out _).mono ?_); rintro e w' ⟨rfl, rfl⟩) | (go_at_call 50; (with_reducible refine (cdst.out _).mono ?_); rintro e w' ⟨rfl, rfl⟩) | (go_at_call 50; (with_reducible refine (casset.out _).mono ?_); rintro e w' ⟨rfl, rfl⟩) | (go_at_call 69; (with_reducible refine (cA.out _).mono ?_); rintro e w' ⟨rfl, rfl⟩) | (go_at_call 49; (with_reducible refine (cT.out _).mono ?_); rintro e w' ⟨rfl, rfl⟩))
                go_ret
                exact ⟨rfl, B.out⟩
end Go.Proofs.Ytcafffnkkjnpbaa.Req
