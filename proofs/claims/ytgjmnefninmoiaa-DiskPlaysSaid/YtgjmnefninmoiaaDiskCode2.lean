/-
  Package disk: Read, Sync.
-/
import Derived.Test.YtgjmnefninmoiaaDiskCode
namespace Go.Proofs.Ytgjmnefninmoiaa.Disk
open Go.RowKit Go.Proofs.Ytgjmnefninmoiaa.Sha

/-- many cells at once, loaded or stored, by the run's own equation -/
theorem wpList_loadAt {P : Program} {ops : Array Oper} {rest : List Oper} {o : Oper} {a : Act} {w : World} {Q : Exit → Act → World → Prop} (hgd : o.guard = none) (ty : TypeId) (x : Operand) (ho : o.op = .load ty x) (p v : Value) (hx : a.eval x = p)
    (hr : (Instr.loadAt ty p).run P w = .ok v w) (h : wpList P ops Q rest (a.put o.dst v) w) : wpList P ops Q (o :: rest) a w :=
  wpList_plain hgd fun _ hK => by
    unfold Oper.wp execOp
    simp only [ho, hx, Sem.run_bind, hr, Result.andThen_ok]
    exact hK _ _ h
theorem wpList_storeAt {P : Program} {ops : Array Oper} {rest : List Oper} {o : Oper} {a : Act} {w w' : World} {Q : Exit → Act → World → Prop} (hgd : o.guard = none) (ty : TypeId) (x y : Operand) (ho : o.op = .store ty x y) (p v : Value) (hx : a.eval x = p) (hy : a.eval y = v)
    (hr : (Instr.storeAt ty p v).run P w = .ok () w') (h : wpList P ops Q rest (a.put o.dst undef) w') : wpList P ops Q (o :: rest) a w :=
  wpList_plain hgd fun _ hK => by
    unfold Oper.wp execOp
    simp only [ho, hx, hy, Sem.run_bind, hr, Result.andThen_ok]
    exact hK _ _ h
theorem wpStill_loadAt {P : Program} {ops : Array Oper} {rest : List Oper} {o : Oper} {a : Act} {w : World} {Q : Act → Prop} (hgd : o.guard = none) (ty : TypeId) (x : Operand) (ho : o.op = .load ty x) (p v : Value) (hx : a.eval x = p)
    (hr : (Instr.loadAt ty p).run P w = .ok v w) (h : wpStill P ops w Q rest (a.put o.dst v)) : wpStill P ops w Q (o :: rest) a := by
  unfold wpStill
  rw [if_pos (by simp [Region.wanted, hgd])]
  unfold Oper.still execOp
  simp only [ho, hx, Sem.run_bind, hr, Result.andThen_ok]
  exact ⟨rfl, h⟩
theorem hasB_no {n : Nat} {s : DS} (h : WF n s) (i : Int) : hasB n i = !(decide (noSector s i)) := by
  have hn := h.now
  by_cases h1 : noSector s i
  · rw [decide_eq_true h1]
    unfold noSector at h1
    simp only [hasB, Bool.not_true, decide_eq_false_iff_not]
    omega
  · rw [decide_eq_false h1]
    unfold noSector at h1
    simp only [hasB, Bool.not_false, decide_eq_true_eq]
    omega
theorem idx_of {n : Nat} {s : DS} (h : WF n s) {i : Int} (h1 : ¬ noSector s i) : ∃ j : Nat, i = j ∧ j < n := by
  have hn := h.now
  unfold noSector at h1
  exact ⟨i.toNat, by omega, by omega⟩
set_option maxRecDepth 100000 in
set_option maxHeartbeats 1000000 in
theorem cread_any {w : World} {F : List Nat} {d n : Nat} {s : DS} (i : Int) (h : Dk w F d n s) : Calls Try.prog 15 #[.pointer (some ⟨d, 0, none⟩), .int .i64 i] w (ReadPost (fun w' F' => Dk w' F' d n s) w F (readD s i)) := by
  have C1 := Kept.mk (cdown_any h)
  have C2 := Kept.mk (chas_any i h)
  have D := Kept.mk h
  have hno : ∀ c : Int, ReadPost (fun w' F' => Dk w' F' d n s) w F (c, []) (.returned (.tuple #[.slice none 0 0, .int .i64 c])) w := fun c => ⟨none, 0, F, rfl, Rd.nil_, .inl rfl, by simp, by omega, h, Fp.refl _ _⟩
  have NO := Kept.mk hno
  have hwf := Kept.mk h.1
  clear h hno
  cases hd : s.down with
  | true =>
    rw [hd] at C1
    have e1 : readD s i = (13, []) := by unfold readD; rw [if_pos hd]
    rw [e1]
    clear C2 e1 hd
    go_enter Try.func15, Try.ntmps15
    go_wp2_with fail
    refine C1.out.mono ?_
    rintro e w' ⟨rfl, rfl⟩
    go_wp2
    go_ret2
    exact NO.out 13
  | false =>
    rw [hd] at C1
    rw [hasB_no hwf.out] at C2
    by_cases hs : noSector s i
    · have e1 : readD s i = (1, []) := by unfold readD; rw [if_neg (by rw [hd]; decide), if_pos hs]
      rw [e1]
      rw [decide_eq_true hs] at C2
      clear e1 hd hs
      go_enter Try.func15, Try.ntmps15
      go_wp2_with fail
      refine C1.out.mono ?_
      rintro e w' ⟨rfl, rfl⟩
      go_wp2_with fail
      refine C2.out.mono ?_
      rintro e w' ⟨rfl, rfl⟩
      go_wp2
      go_ret2
      exact NO.out 1
    · have e1 : readD s i = (0, rowOf s.now i.toNat) := by unfold readD; rw [if_neg (by rw [hd]; decide), if_neg hs]
      rw [e1]
      rw [decide_eq_false hs] at C2
      obtain ⟨j, rfl, hj⟩ := idx_of hwf.out hs
      have hj' : (j : Int) < n := by omega
      rw [Int.toNat_natCast]
      have hsec := (hwf.out.secs j hj).1
      have L64 := Kept.mk hsec.1
      have LB := Kept.mk hsec.2
      obtain ⟨h0, gw, cw, gm, f, h1, h2, h3, h4, hF⟩ := D.out
      have c0 := (h1.cell 0).trans (dk_0 _ _ _ _)
      have hl := h2.load j (by rw [h0.now]; exact hj) hsec.1
      clear e1 hd hs h0 h1 h2 h3 h4 hF hsec NO
      generalize rowOf s.now j = x at *
      go_enter Try.func15, Try.ntmps15
      go_wp2_with fail
      refine C1.out.mono ?_
      rintro e w' ⟨rfl, rfl⟩
      go_wp2_with fail
      refine C2.out.mono ?_
      rintro e w' ⟨rfl, rfl⟩
      go_upto_region 6 with (first | ((with_reducible refine sel 19 ?_); refine wpList_loadAt rfl 65 (.tmp 18) rfl _ _ rfl hl ?_) | ((with_reducible refine selS 65 (.tmp 6) (.tmp 19) ?_); refine wpList_store_row rfl 65 (.tmp 6) (.tmp 19) rfl w.heap.size (arr .u8 x) rfl rfl 65 _ (Blk.new _ _ _) (by rw [arr_size, L64.out]; kernel_rfl) (by rw [arr_size, L64.out]; rfl) (all_oneCell_toArray (ints_one _ _)) ?_; refine wp_gen (fun w' => Kept (Blk w' w.heap.size 65 (arr .u8 x)) ∧ Kept (Below w.heap.size w w')) ⟨⟨?_⟩, ⟨?_⟩⟩ (fun w1 hw1 => ?_)))
      case refine_1 => exact (Blk.new w _ _).row _
      case refine_2 => exact below_setRow ((Below.refl _ _).alloc (Nat.le_refl _) _) (Nat.le_refl _) _
      obtain ⟨k1, b1⟩ := hw1
      go_wp2
      go_ret2
      refine ⟨some ⟨w.heap.size, 0, none⟩, 64, F, by simp only [L64.out]; rfl, ?_, .inr ⟨_, 0, rfl, Nat.le_refl _, ?_, fun k _ => ?_⟩, by simp only [L64.out]; omega, by omega, D.out.keep (barOf b1.out []) (fun _ _ => by simp), barOf b1.out _, fun k hk => .inl hk⟩
      · simp only [L64.out]; exact Rd.blk k1.out LB.out L64.out
      · intro hm; have := D.out.lts _ hm; omega
      · exact k1.out.frozen _
/-- the map is empty now: what is pending lasts, or it fell back -/
theorem Dk.clear {w w' : World} {F : List Nat} {d n : Nat} {s t : DS} {gw cw gm : Nat} {f : Int} (hF : F = d :: gw :: gm :: []) (h1 : Blk w d 62 #[.slice (some ⟨gw, 0, none⟩) n cw, .map (some gm), .int .i64 f, .int .u32 (u01 t.down)]) (h2 : Sx w gw t.now) (h3 : Mp w gm s.pend s.last) (hw : WF n t)
    (e2 : t.pend = []) (k : Mp w' gm [] t.last) (hf : (if f < -1 then -1 else f) = t.fuse) (b : Bar [gm] w w') : Dk w' F d n t ∧ Fp F F w w' := by
  subst hF
  have n1 : gm ≠ d := h3.ne h1
  have n2 : gm ≠ gw := by obtain ⟨cs', k', -⟩ := h2; exact h3.ne k'
  refine ⟨⟨hw, gw, cw, gm, f, h1.bar b (by simpa using n1.symm), h2.bar b (by simpa using n2.symm), by rw [e2]; exact k, hf, rfl⟩, b.mono (by simp), fun k hk => .inl hk⟩
set_option maxRecDepth 100000 in
set_option maxHeartbeats 1000000 in
theorem csync_any {w : World} {F : List Nat} {d n : Nat} {s : DS} (h : Dk w F d n s) : Calls Try.prog 18 #[.pointer (some ⟨d, 0, none⟩)] w (StepPost (fun w' F' s' => Dk w' F' d n s') w F (syncD s)) := by
  have C1 := Kept.mk (cdown_any h)
  have C2 := Kept.mk (cburn_any h)
  have D := Kept.mk h
  have hwf := Kept.mk h.1
  clear h
  cases hd : s.down with
  | true =>
    rw [hd] at C1
    have e1 : syncD s = (13, s) := by unfold syncD; rw [if_pos hd]
    rw [e1]
    clear C2 e1 hd
    go_enter Try.func18, Try.ntmps18
    go_wp2_with fail
    refine C1.out.mono ?_
    rintro e w' ⟨rfl, rfl⟩
    go_wp2
    go_ret
    exact ⟨rfl, F, D.out, Fp.refl _ _⟩
  | false =>
    rw [hd] at C1
    by_cases hb : (burnD s).1 = true
    · have e1 : syncD s = (13, (burnD s).2) := by unfold syncD; rw [if_neg (by rw [hd]; decide), if_pos hb]
      rw [e1]
      unfold BurnPost at C2
      rw [hb] at C2
      clear e1 hb hd
      go_enter Try.func18, Try.ntmps18
      go_wp2_with fail
      refine C1.out.mono ?_
      rintro e w' ⟨rfl, rfl⟩
      go_wp2_with fail
      refine C2.out.mono ?_
      rintro e w1 ⟨rfl, dk, fp⟩
      have R := Kept.mk (show StepPost (fun w' F' s' => Dk w' F' d n s') w F (13, (burnD s).2) (.returned (.int .i64 13)) w1 from ⟨rfl, F, dk, fp⟩)
      clear dk fp
      go_wp2
      go_ret
      exact R.out
    · have hb' : (burnD s).1 = false := by simpa using hb
      have e1 : syncD s = (0, keptD (burnD s).2) := by unfold syncD; rw [if_neg (by rw [hd]; decide), if_neg hb]
      rw [e1]
      unfold BurnPost at C2
      rw [hb'] at C2
      clear e1 hb hb' hd
      go_enter Try.func18, Try.ntmps18
      go_wp2_with fail
      refine C1.out.mono ?_
      rintro e w' ⟨rfl, rfl⟩
      go_wp2_with fail
      refine C2.out.mono ?_
      rintro e w1 ⟨rfl, dk, fp⟩
      obtain ⟨h0, gw, cw, gm, f, h1, h2, h3, h4, hF⟩ := dk
      obtain ⟨w2, hcl, k, b⟩ := h3.clear (burnD s).2.now
      have c1 := (h1.cell 1).trans (dk_1 _ _ _ _)
      have R : Kept (StepPost (fun w' F' s' => Dk w' F' d n s') w F (0, keptD (burnD s).2) (.returned (.int .i64 0)) w2) := by
        obtain ⟨p, q⟩ := Dk.clear (t := keptD (burnD s).2) hF h1 h2 h3 (wf_kept h0) rfl k h4 b
        exact ⟨rfl, F, p, fp.trans q⟩
      clear h0 h1 h2 h3 h4 hF k b fp
      go_wp2
      go_ret
      exact R.out
end Go.Proofs.Ytgjmnefninmoiaa.Disk
