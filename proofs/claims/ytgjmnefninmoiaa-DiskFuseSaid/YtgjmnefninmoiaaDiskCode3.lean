/-
  Package disk: Write.
-/
import Derived.Test.YtgjmnefninmoiaaDiskCode2
import Derived.StillTailTactics
import Derived.Laws.Cover3
namespace Go.Proofs.Ytgjmnefninmoiaa.Disk
open Go.RowKit Go.Proofs.Ytgjmnefninmoiaa.Sha

theorem ins_here {i : Nat} : ∀ {p : List Nat}, p.Pairwise (· < ·) → i ∈ p → ins i p = p
  | [], _, h => by simp at h
  | k :: l, hr, h => by
    rw [List.pairwise_cons] at hr
    unfold ins
    by_cases hk : k < i
    · rw [if_pos hk, ins_here hr.2 ((List.mem_cons.1 h).resolve_left (by omega))]
    · rw [if_neg hk]
      by_cases he : k = i
      · rw [if_pos he]
      · rcases List.mem_cons.1 h with h1 | h1
        · exact absurd h1.symm he
        · have := hr.1 i h1; omega
theorem cpend_len {n : Nat} {s : DS} (h : WF n s) : s.pend.length ≤ n := by
  have h1 := h.rise
  have h2 := h.pend
  generalize s.pend = l at *
  clear h
  have : ∀ (l : List Nat) (a : Nat), l.Pairwise (· < ·) → (∀ i ∈ l, a ≤ i ∧ i < n) → l.length + a ≤ n ∨ l = [] := by
    intro l
    induction l with
    | nil => intro a _ _; exact .inr rfl
    | cons x l ih =>
      intro a hp hb
      rw [List.pairwise_cons] at hp
      have hx := hb x (by simp)
      rcases ih (x + 1) hp.2 (fun i hi => ⟨hp.1 i hi, (hb i (by simp [hi])).2⟩) with h3 | h3
      · left; simp; omega
      · subst h3; left; simp; omega
  rcases this l 0 h1 (fun i hi => ⟨Nat.zero_le _, h2 i hi⟩) with h3 | h3
  · omega
  · subst h3; simp
/-- sector i is pending, too; it is not written yet -/
def pendD (s : DS) (i : Nat) : DS := { s with pend := ins i s.pend }
theorem wf_pend {n : Nat} {s : DS} (h : WF n s) (i : Nat) (hi : i < n) : WF n (pendD s i) :=
  ⟨h.n1, h.n2, h.now, h.last, h.secs, fun j hj => by
    rcases (ins_mem i j s.pend).1 hj with h1 | h1
    · omega
    · exact h.pend j h1, ins_rise i _ h.rise, fun j hj hn => h.same j hj (fun hm => hn ((ins_mem i j s.pend).2 (.inr hm))), h.fuse⟩
/-- the row's sector is written -/
theorem Dk.put {w w' : World} {F : List Nat} {d n : Nat} {s : DS} {gw cw gm : Nat} {f : Int} {j : Nat} {xs : List Int} (hF : F = d :: gw :: gm :: []) (h1 : Blk w d 62 #[.slice (some ⟨gw, 0, none⟩) n cw, .map (some gm), .int .i64 f, .int .u32 (u01 s.down)]) (h3 : Mp w gm (ins j s.pend) s.last) (h2 : Sx w gw s.now)
    (hw : WF n (putD s j xs)) (k : Sx w' gw (s.now.set j xs)) (hf : (if f < -1 then -1 else f) = s.fuse) (b : Bar [gw] w w') : Dk w' F d n (putD s j xs) ∧ Fp F F w w' := by
  subst hF
  have n1 : gw ≠ d := by obtain ⟨cs', k', -⟩ := h2; exact blk_ne k' h1 (by decide)
  have n2 : gm ≠ gw := by obtain ⟨cs', k', -⟩ := h2; exact h3.ne k'
  exact ⟨⟨hw, gw, cw, gm, f, h1.bar b (by simpa using n1.symm), k, h3.bar b (by simpa using n2), hf, rfl⟩, b.mono (by simp), fun k hk => .inl hk⟩
/-- one more is pending -/
theorem Dk.more {w w' : World} {F : List Nat} {d n : Nat} {s : DS} {gw cw gm : Nat} {f : Int} {j : Nat} (hF : F = d :: gw :: gm :: []) (h1 : Blk w d 62 #[.slice (some ⟨gw, 0, none⟩) n cw, .map (some gm), .int .i64 f, .int .u32 (u01 s.down)]) (h2 : Sx w gw s.now) (h3 : Mp w gm s.pend s.last)
    (hw : WF n (pendD s j)) (k : Mp w' gm (ins j s.pend) s.last) (hf : (if f < -1 then -1 else f) = s.fuse) (b : Bar [gm] w w') : Dk w' F d n (pendD s j) ∧ Fp F F w w' := by
  subst hF
  have n1 : gm ≠ d := h3.ne h1
  have n2 : gm ≠ gw := by obtain ⟨cs', k', -⟩ := h2; exact h3.ne k'
  exact ⟨⟨hw, gw, cw, gm, f, h1.bar b (by simpa using n1.symm), h2.bar b (by simpa using n2.symm), k, hf, rfl⟩, b.mono (by simp), fun k hk => .inl hk⟩
theorem Dk.drew {w : World} {F : List Nat} {d n : Nat} {s : DS} (h : Dk w F d n s) : Dk w.drew F d n s := h.keep (G := []) (Bar.refl [] w).drew (fun _ _ => by simp)
theorem rd_load {w : World} {A : Option Addr} {xs : List Int} (r : Rd w A 64 xs) : ∃ b o, A = some ⟨b, o, none⟩ ∧ (Instr.loadAt 65 (.pointer (some ⟨b, o, none⟩))).run Try.prog w = .ok (.agg (arr .u8 xs)) w := by
  obtain ⟨h1, -, h0 | ⟨b, o, rfl, hc⟩⟩ := r
  · omega
  · refine ⟨b, o, rfl, run_loadAt_mid w b o 65 (ints .u8 xs) _ (fun j v hj => ?_) Try.underlying65 rfl (by rw [info_sec, ints_len, h1])⟩
    have hjl : j < xs.length := by have := (List.getElem?_eq_some_iff.1 hj).1; rwa [ints_len] at this
    rw [Sha.ints_at _ _ _ hjl] at hj
    rw [← hj]
    exact hc j (by omega)
set_option maxRecDepth 100000 in
set_option maxHeartbeats 2000000 in
theorem cwrite_any {w : World} {F : List Nat} {d n : Nat} {s : DS} (i : Int) {A : Option Addr} {l c : Nat} {xs : List Int} (h : Dk w F d n s) (r : Rd w A l xs) (hO : Off A l F) :
    Calls Try.prog 12 #[.pointer (some ⟨d, 0, none⟩), .int .i64 i, .slice A l c] w (StepPost (fun w' F' s' => Dk w' F' d n s') w F (writeD s i xs)) := by
  have C1 := Kept.mk (cdown_any h)
  have C2 := Kept.mk (chas_any i h)
  have C3 := Kept.mk (cburn_any h)
  have D := Kept.mk h
  have hwf := Kept.mk h.1
  have R := Kept.mk r
  have OF := Kept.mk hO
  have hxl := r.1
  have SAME : Kept (∀ e : Int, StepPost (fun w' F' s' => Dk w' F' d n s') w F (e, s) (.returned (.int .i64 e)) w) := ⟨fun e => ⟨rfl, F, h, Fp.refl _ _⟩⟩
  clear h r hO
  cases hd : s.down with
  | true =>
    rw [hd] at C1
    have e1 : writeD s i xs = (13, s) := by unfold writeD; rw [if_pos hd]
    rw [e1]
    clear C2 C3 e1 hd
    go_enter Try.func12, Try.ntmps12
    go_wp2_with fail
    refine C1.out.mono ?_
    rintro e w' ⟨rfl, rfl⟩
    go_wp2
    go_ret
    exact SAME.out 13
  | false =>
    rw [hd] at C1
    rw [hasB_no hwf.out] at C2
    by_cases hs : noSector s i
    · have e1 : writeD s i xs = (1, s) := by unfold writeD; rw [if_neg (by rw [hd]; decide), if_pos hs]
      rw [e1]
      rw [decide_eq_true hs] at C2
      clear C3 e1 hd hs
      go_enter Try.func12, Try.ntmps12
      go_wp2_with fail
      refine C1.out.mono ?_
      rintro e w' ⟨rfl, rfl⟩
      go_wp2_with fail
      refine C2.out.mono ?_
      rintro e w' ⟨rfl, rfl⟩
      go_wp2
      go_ret
      exact SAME.out 1
    · rw [decide_eq_false hs] at C2
      by_cases h6 : l = 64
      · subst h6
        by_cases hb : (burnD s).1 = true
        · have e1 : writeD s i xs = (13, (burnD s).2) := by unfold writeD; rw [if_neg (by rw [hd]; decide), if_neg hs, if_neg (by omega), if_pos hb]
          rw [e1]
          unfold BurnPost at C3
          rw [hb] at C3
          clear e1 hb hd hs
          go_enter Try.func12, Try.ntmps12
          go_wp2_with fail
          refine C1.out.mono ?_
          rintro e w' ⟨rfl, rfl⟩
          go_wp2_with fail
          refine C2.out.mono ?_
          rintro e w' ⟨rfl, rfl⟩
          go_wp2_with fail
          refine C3.out.mono ?_
          rintro e w1 ⟨rfl, dk, fp⟩
          have RR := Kept.mk (show StepPost (fun w' F' s' => Dk w' F' d n s') w F (13, (burnD s).2) (.returned (.int .i64 13)) w1 from ⟨rfl, F, dk, fp⟩)
          clear dk fp
          go_wp2
          go_ret
          exact RR.out
        · have hb' : (burnD s).1 = false := by simpa using hb
          have e1 : writeD s i xs = (0, putD (burnD s).2 i.toNat xs) := by unfold writeD; rw [if_neg (by rw [hd]; decide), if_neg hs, if_neg (by omega), if_neg hb]
          rw [e1]
          unfold BurnPost at C3
          rw [hb'] at C3
          obtain ⟨j, rfl, hj⟩ := idx_of hwf.out hs
          have hj' : (j : Int) < n := by omega
          have hn2 := hwf.out.n2
          rw [Int.toNat_natCast]
          clear e1 hb hb' hd hs hwf SAME
          generalize (burnD s).2 = t at *
          go_enter Try.func12, Try.ntmps12
          go_wp2_with fail
          refine C1.out.mono ?_
          rintro e w' ⟨rfl, rfl⟩
          go_wp2_with fail
          refine C2.out.mono ?_
          rintro e w' ⟨rfl, rfl⟩
          go_wp2_with fail
          refine C3.out.mono ?_
          rintro e w1 ⟨rfl, dk, fp⟩
          clear C1 C2 C3 D
          replace OF := Kept.mk (OF.out.step R.out fp)
          replace R := Kept.mk (R.out.far fp.1 (by rcases OF.out with h | h; exact .inl h; exact .inr h))
          have FP := Kept.mk fp
          have WT := Kept.mk dk.1
          have D := Kept.mk dk
          clear dk fp
          obtain ⟨h0, gw, cw, gm, f, h1, h2, h3, h4, hF⟩ := D.out
          obtain ⟨ys, y64, hlook⟩ := h3.look j (by omega) (WT.out.secs j hj).2.1
          have Y64 := Kept.mk y64
          have c1 := (h1.cell 1).trans (dk_1 _ _ _ _)
          clear h0 h1 h2 h3 h4 hF y64
          by_cases hp : j ∈ t.pend
          · rw [decide_eq_true hp] at hlook
            go_upto_region 10 with ((with_reducible refine selS 65 (.tmp 7) (.tmp 28) ?_); refine wpList_store_row rfl 65 (.tmp 7) (.tmp 28) rfl w1.heap.size (arr .u8 ys) rfl rfl 65 _ (Blk.new _ _ _) (by rw [arr_size, Y64.out]; kernel_rfl) (by rw [arr_size, Y64.out]; rfl) (all_oneCell_toArray (ints_one _ _)) ?_; refine wp_gen (fun w' => Kept (Below w1.heap.size w1 w')) ⟨?_⟩ (fun w2 b2 => ?_))
            case refine_1 => exact below_setRow ((Below.refl _ _).alloc (Nat.le_refl _) _) (Nat.le_refl _) _
            have D2 := Kept.mk (D.out.keep (barOf b2.out []) (fun _ _ => by simp))
            have R2 := Kept.mk (R.out.below b2.out)
            have FP2 := Kept.mk (FP.out.trans (⟨barOf b2.out _, fun k hk => .inl hk⟩ : Fp F F w1 w2))
            clear b2 hlook c1 D R FP
            have D3 : Kept (Dk w2 F d n (pendD t j)) := ⟨by
              rw [show pendD t j = t by unfold pendD; rw [ins_here WT.out.rise hp]]; exact D2.out⟩
            have R3 := R2
            have FP3 := FP2
            clear D2 R2 FP2 hp
            go_wp2
            obtain ⟨-, gw, cw, gm, f, h1, h2, h3, h4, hF⟩ := D3.out.drew
            have c0 := (h1.cell 0).trans (dk_0 _ _ _ _)
            obtain ⟨w4, hst, k4, b4⟩ := h2.store j (by rw [show (pendD t j).now = t.now from rfl, WT.out.now]; exact hj) xs hxl
            have RES : Kept (StepPost (fun w' F' s' => Dk w' F' d n s') w F (0, putD t j xs) (.returned (.int .i64 0)) w4) := by
              obtain ⟨p, q⟩ := Dk.put (s := t) hF h1 h3 h2 (wf_put WT.out j xs hj ⟨hxl, R3.out.2.1⟩) k4 h4 b4
              exact ⟨rfl, F, p, (FP3.out.trans ⟨(Bar.refl F _).drew, fun k hk => .inl hk⟩).trans q⟩
            obtain ⟨sb, so, rfl, hl⟩ := rd_load R3.out.drew
            have harr := run_arrayAt (P := Try.prog) w2.drew 65 5 64 (some ⟨sb, so, none⟩) 64 c Try.underlying65 (Nat.le_refl _)
            clear h1 h2 h3 h4 hF k4 b4
            refine wp_region_still_tail 9 (by kernel_rfl) (by kernel_rfl) ?_
            simp only [List.take_succ_cons, List.take_zero, List.drop_succ_cons, List.drop_zero]
            iterate 7 still_step
            refine wpStill_loadAt rfl 65 (.tmp 50) rfl _ _ rfl hl ?_
            still_step
            refine wpStill_nil ?_
            change wpList _ _ _ _ _ w2.drew
            go_wp2_with ((with_reducible refine selS 65 (.tmp 52) (.tmp 51) ?_); refine wpList_storeAt rfl 65 (.tmp 52) (.tmp 51) rfl _ _ rfl rfl hst ?_)
            go_ret
            exact RES.out
          · rw [decide_eq_false hp] at hlook
            go_upto_region 10 with ((with_reducible refine selS 65 (.tmp 7) (.tmp 28) ?_); refine wpList_store_row rfl 65 (.tmp 7) (.tmp 28) rfl w1.heap.size (arr .u8 ys) rfl rfl 65 _ (Blk.new _ _ _) (by rw [arr_size, Y64.out]; kernel_rfl) (by rw [arr_size, Y64.out]; rfl) (all_oneCell_toArray (ints_one _ _)) ?_; refine wp_gen (fun w' => Kept (Below w1.heap.size w1 w')) ⟨?_⟩ (fun w2 b2 => ?_))
            case refine_1 => exact below_setRow ((Below.refl _ _).alloc (Nat.le_refl _) _) (Nat.le_refl _) _
            have D2 := Kept.mk (D.out.keep (barOf b2.out []) (fun _ _ => by simp))
            have R2 := Kept.mk (R.out.below b2.out)
            have FP2 := Kept.mk (FP.out.trans (⟨barOf b2.out _, fun k hk => .inl hk⟩ : Fp F F w1 w2))
            clear b2 hlook c1 D R FP
            obtain ⟨-, gw, cw, gm, f, h1, h2, h3, h4, hF⟩ := D2.out.drew
            have c0 := (h1.cell 0).trans (dk_0 _ _ _ _)
            have c1 := (h1.cell 1).trans (dk_1 _ _ _ _)
            have hl := h2.load j (by rw [WT.out.now]; exact hj) (WT.out.secs j hj).1.1
            obtain ⟨w3, hput, k3, b3⟩ := h3.put j (by omega) hp WT.out.rise (by have := cpend_len WT.out; omega) (rowOf t.now j) (WT.out.same j hj hp).symm
            have M := Dk.more hF h1 h2 h3 (wf_pend WT.out j hj) k3 h4 b3
            have D3 := Kept.mk M.1
            have R3 := Kept.mk (R2.out.drew.far M.2.1 (by rcases OF.out with h | h; exact .inl h; exact .inr h))
            have FP3 := Kept.mk ((FP2.out.trans (⟨(Bar.refl F _).drew, fun k hk => .inl hk⟩ : Fp F F w2 w2.drew)).trans M.2)
            clear h1 h2 h3 h4 hF k3 b3 M D2 R2 FP2 hp
            go_wp2
            refine wp_region_still_tail 12 (by kernel_rfl) (by kernel_rfl) ?_
            simp only [List.take_succ_cons, List.take_zero, List.drop_succ_cons, List.drop_zero]
            iterate 11 still_step
            refine wpStill_loadAt rfl 65 (.tmp 42) rfl _ _ rfl hl ?_
            refine wpStill_nil ?_
            change wpList _ _ _ _ _ w2.drew
            clear hl
            go_wp2
            obtain ⟨-, gw, cw, gm, f, h1, h2, h3, h4, hF⟩ := D3.out.drew
            have c0 := (h1.cell 0).trans (dk_0 _ _ _ _)
            obtain ⟨w4, hst, k4, b4⟩ := h2.store j (by rw [show (pendD t j).now = t.now from rfl, WT.out.now]; exact hj) xs hxl
            have RES : Kept (StepPost (fun w' F' s' => Dk w' F' d n s') w F (0, putD t j xs) (.returned (.int .i64 0)) w4) := by
              obtain ⟨p, q⟩ := Dk.put (s := t) hF h1 h3 h2 (wf_put WT.out j xs hj ⟨hxl, R3.out.2.1⟩) k4 h4 b4
              exact ⟨rfl, F, p, (FP3.out.trans ⟨(Bar.refl F _).drew, fun k hk => .inl hk⟩).trans q⟩
            obtain ⟨sb, so, rfl, hl⟩ := rd_load R3.out.drew
            have harr := run_arrayAt (P := Try.prog) w3.drew 65 5 64 (some ⟨sb, so, none⟩) 64 c Try.underlying65 (Nat.le_refl _)
            clear h1 h2 h3 h4 hF k4 b4
            refine wp_region_still_tail 9 (by kernel_rfl) (by kernel_rfl) ?_
            simp only [List.take_succ_cons, List.take_zero, List.drop_succ_cons, List.drop_zero]
            iterate 7 still_step
            refine wpStill_loadAt rfl 65 (.tmp 50) rfl _ _ rfl hl ?_
            still_step
            refine wpStill_nil ?_
            change wpList _ _ _ _ _ w3.drew
            go_wp2_with ((with_reducible refine selS 65 (.tmp 52) (.tmp 51) ?_); refine wpList_storeAt rfl 65 (.tmp 52) (.tmp 51) rfl _ _ rfl rfl hst ?_)
            go_ret
            exact RES.out
      · have e1 : writeD s i xs = (2, s) := by unfold writeD; rw [if_neg (by rw [hd]; decide), if_neg hs, if_pos (by omega)]
        rw [e1]
        have h6' : ¬ (l : Int) = 64 := by omega
        clear C3 e1 hd hs h6
        go_enter Try.func12, Try.ntmps12
        go_wp2_with fail
        refine C1.out.mono ?_
        rintro e w' ⟨rfl, rfl⟩
        go_wp2_with fail
        refine C2.out.mono ?_
        rintro e w' ⟨rfl, rfl⟩
        go_wp2
        go_ret
        exact SAME.out 2
end Go.Proofs.Ytgjmnefninmoiaa.Disk
