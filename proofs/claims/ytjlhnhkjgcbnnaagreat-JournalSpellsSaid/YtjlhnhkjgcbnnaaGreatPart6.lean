/-
  Parts laid together: JLay JournalFace DiskLen JSmall JActSpec JLaySy Lists JRecords Last JAppend.
-/
import Derived.Test.YtjlhnhkjgcbnnaaGreatPart5
import Derived.Test.YtjlhnhkjgcbnnaaGreatPart2
import Derived.Deep.RegionHeld3
import Derived.Test.YtjlhnhkjgcbnnaaGreatPart4
import Derived.Test.YtjlhnhkjgcbnnaaGreatPart3
import Derived.OrdersHeld
import Derived.Test.YtjlhnhkjgcbnnaaGreatPart1
import Derived.Deep.AppendLies

/-
  The landed journal: lay.
-/





namespace Go.Proofs.YtjlhnhkjgcbnnaaGreat.Journal
open Go.RowKit Go.Proofs.YtjlhnhkjgcbnnaaGreat.Sha Go.Proofs.YtjlhnhkjgcbnnaaGreat.Disk Go.Proofs.YtjlhnhkjgcbnnaaGreat.Frame

/-- what of lay lies in memory, besides the text -/
def LW (w : World) (F : List Nat) (t d j n : Nat) (cs : Array Value) (s : DS) (W : World) : Prop := ∃ F', Tab W t ∧ Dk W F' d n s ∧ Blk W j 87 cs ∧ Fp (t :: j :: F) (t :: j :: F') w W ∧ t ∉ F' ∧ j ∉ F'
section
variable {w W W' : World} {F : List Nat} {t d j n : Nat} {cs : Array Value} {s : DS}
theorem LW.below (h : LW w F t d j n cs s W) (b : Below W.heap.size W W') : LW w F t d j n cs s W' := by
  obtain ⟨F', h1, h2, h3, h4, h5, h6⟩ := h
  exact ⟨F', ftab_below h1 b (ftab_lt h1), h2.keep (barOf b []) (fun _ _ => by simp), h3.below b h3.lt, ⟨h4.1.trans (barOf b []) (by simp), h4.2⟩, h5, h6⟩
theorem LW.set (h : LW w F t d j n cs s W) (h3 : t ≠ j) (i : Nat) (v : Value) : LW w F t d j n (cs.setIfInBounds i v) s (W.setCell ⟨j, i, none⟩ v) := by
  obtain ⟨F', h1, h2, h3', h4, h5, h6⟩ := h
  have hb : Bar [j] W (W.setCell ⟨j, i, none⟩ v) := (Bar.refl _ _).setCell (by simp) _
  exact ⟨F', ftab_bar h1 hb (by simpa using h3), h2.keep hb (fun k hk => by simp; rintro rfl; exact h6 hk), h3'.set_ i v, ⟨h4.1.trans hb (by simp), h4.2⟩, h5, h6⟩
theorem LW.tab (h : LW w F t d j n cs s W) (h3 : t ≠ j) (b : Bar [t] W W') (k : Tab W' t) : LW w F t d j n cs s W' := by
  obtain ⟨F', h1, h2, h3', h4, h5, h6⟩ := h
  exact ⟨F', k, h2.keep b (fun k hk => by simp; rintro rfl; exact h5 hk), h3'.bar b (by simpa using h3.symm), ⟨h4.1.trans b (by simp), h4.2⟩, h5, h6⟩
theorem LW.down (h : LW w F t d j n cs s W) : Calls Tryz.prog 23 #[.pointer (some ⟨d, 0, none⟩)] W fun e w' => e = .returned (.bool s.down) ∧ W = w' := by
  obtain ⟨F', h1, h2, -⟩ := h
  exact cdown_any h2
theorem LW.end_ {c : Bool → Array Value} {b : Bool} {l e : Int} (h : LW w F t d j n (c b) s W) : CLayPost w F t d j n c ((l, e), s, b) (.returned (.tuple #[.int .i64 l, .int .i64 e])) W := ⟨rfl, h⟩
theorem LW.mk0 (ht : Tab w t) (h : Dk w F d n s) (hj : Blk w j 87 cs) (h1 : t ∉ F) (h2 : j ∉ F) : LW w F t d j n cs s w := ⟨F, ht, h, hj, Fp.refl _ _, h1, h2⟩
theorem LW.cell (h : LW w F t d j n cs s W) (i : Nat) : W.cell? ⟨j, i, none⟩ = cs[i]? := by
  obtain ⟨F', -, -, h3, -⟩ := h
  exact h3.cell i
theorem LW.frozen (h : LW w F t d j n cs s W) (i : Nat) : W.frozen? ⟨j, i, none⟩ = false := by
  obtain ⟨F', -, -, h3, -⟩ := h
  exact h3.frozen i

theorem fp_con (x : Nat) {F F' : List Nat} (h : Fp F F' w W) : Fp (x :: F) (x :: F') w W :=
  ⟨h.1.mono (fun k hk => .inl (by simp [hk])), fun k hk => by
    rcases List.mem_cons.1 hk with rfl | hk
    · exact .inl (by simp)
    · rcases h.2 k hk with e | e
      · exact .inl (by simp [e])
      · exact .inr e⟩
end
set_option maxRecDepth 100000 in
set_option maxHeartbeats 2000000 in
theorem clay_down {w : World} {F : List Nat} {t d j n : Nat} {s : DS} {f : FV} {fr gen : Int} {has : Bool} {Ap : Option Addr} {mp cp : Nat} {vr : Value} {room : Int} {dead : Bool} {A : Option Addr} {l c : Nat} (home rm : Int) (h3 : t ≠ j) (hq : LW w F t d j n (jc t d fr gen has Ap mp cp vr room dead) s w) (hd : dead = true ∨ s.down = true) :
    Calls Tryz.prog 38 #[.pointer (some ⟨j, 0, none⟩), frv f A l c, .int .i64 home, .int .i64 rm] w (CLayPost w F t d j n (jc t d fr gen has Ap mp cp vr room) ((0, 13), s, true)) := by
  have q1 := hq.below ((Below.refl _ w).alloc (Nat.le_refl _) (.cells #[.int .i64 f.kind, .int .i64 f.gen, .int .i64 f.seq, .slice A l c] 56))
  have x8 : (w.alloc (.cells #[.int .i64 f.kind, .int .i64 f.gen, .int .i64 f.seq, .slice A l c] 56)).cell? ⟨j, 8, none⟩ = some (.bool dead) := q1.cell 8
  have z8 := q1.frozen 8
  have x1 : (w.alloc (.cells #[.int .i64 f.kind, .int .i64 f.gen, .int .i64 f.seq, .slice A l c] 56)).cell? ⟨j, 1, none⟩ = some (.pointer (some ⟨d, 0, none⟩)) := q1.cell 1
  have q2 := q1.set h3 8 (.bool true)
  have PG := Kept.mk (LW.end_ (c := jc t d fr gen has Ap mp cp vr room) (b := true) (l := 0) (e := 13) q2)
  have Q1 := Kept.mk q1
  clear q1 q2 hq
  unfold frv
  cases dead with
  | true =>
    clear hd
    go_enter Tryz.func38, Tryz.ntmps38
    go_wp2
    go_ret2
    exact PG.out
  | false =>
    have hd' : s.down = true := by simpa using hd
    have cD := Kept.mk Q1.out.down
    rw [hd'] at cD
    clear hd hd'
    go_enter Tryz.func38, Tryz.ntmps38
    go_wp2_with fail
    refine cD.out.mono ?_
    rintro e w' ⟨rfl, rfl⟩
    go_wp2
    go_ret2
    exact PG.out
set_option maxRecDepth 100000 in
set_option maxHeartbeats 2000000 in
theorem clay_up (api : FrameApi) {w : World} {F : List Nat} {t d j n : Nat} {s : DS} {f : FV} {fr gen : Int} {has : Bool} {Ap : Option Addr} {mp cp : Nat} {vr : Value} {room : Int} {A : Option Addr} {l c : Nat} (home rm : Nat) (h3 : t ≠ j) (hq : LW w F t d j n (jc t d fr gen has Ap mp cp vr room false) s w) (hd : s.down = false)
    (hr : Rd w A l f.body) (hO : Off A l (t :: j :: F)) (hc : l ≤ c) (hcm : c ≤ maxLen) (hl9 : l ≤ 100000) (hh9 : home ≤ 90000) (hrm : rm ≤ 90000) :
    Calls Tryz.prog 38 #[.pointer (some ⟨j, 0, none⟩), frv f A l c, .int .i64 (home : Nat), .int .i64 (rm : Nat)] w (CLayPost w F t d j n (jc t d fr gen has Ap mp cp vr room) (layC s false f home rm)) := by
  obtain ⟨N, hN⟩ : ∃ N, w.heap.size = N := ⟨_, rfl⟩
  have b1 : Below w.heap.size w (w.alloc (.cells #[.int .i64 f.kind, .int .i64 f.gen, .int .i64 f.seq, .slice A l c] 56)) := (Below.refl _ w).alloc (Nat.le_refl _) _
  have q1 := hq.below b1
  have hjN : j < N := by rw [← hN]; obtain ⟨F', -, -, k, -⟩ := hq; exact k.lt
  have htN : t < N := by rw [← hN]; obtain ⟨F', k, -⟩ := hq; exact ftab_lt k
  have x8 : (w.alloc (.cells #[.int .i64 f.kind, .int .i64 f.gen, .int .i64 f.seq, .slice A l c] 56)).cell? ⟨j, 8, none⟩ = some (.bool false) := q1.cell 8
  have z8 := q1.frozen 8
  have x1 : (w.alloc (.cells #[.int .i64 f.kind, .int .i64 f.gen, .int .i64 f.seq, .slice A l c] 56)).cell? ⟨j, 1, none⟩ = some (.pointer (some ⟨d, 0, none⟩)) := q1.cell 1
  have Q2 := Kept.mk (q1.set h3 8 (.bool false))
  have cD := Kept.mk q1.down
  rw [hd] at cD
  have hj8 : Bar [j] (w.alloc (.cells #[.int .i64 f.kind, .int .i64 f.gen, .int .i64 f.seq, .slice A l c] 56)) ((w.alloc (.cells #[.int .i64 f.kind, .int .i64 f.gen, .int .i64 f.seq, .slice A l c] 56)).setCell ⟨j, 8, none⟩ (.bool false)) := (Bar.refl _ _).setCell (by simp) _
  have FB := Kept.mk ((Blk.new_at w 56 #[.int .i64 f.kind, .int .i64 f.gen, .int .i64 f.seq, .slice A l c] N hN.symm).bar hj8 (by simp; omega))
  have hOj : Off A l [j] := by
    rcases hO with h | ⟨g, o, e, hg⟩
    · exact .inl h
    · exact .inr ⟨g, o, e, fun hm => hg (by simp at hm; simp [hm])⟩
  have HR := Kept.mk ((hr.below b1).far hj8 hOj)
  have hOt : Off A l [t] := by
    rcases hO with h | ⟨g, o, e, hg⟩
    · exact .inl h
    · exact .inr ⟨g, o, e, fun hm => hg (by simp at hm; simp [hm])⟩
  have HO := Kept.mk hOt
  have HR9 : Kept (f.body.length ≤ 100000) := ⟨by rw [hr.1]; exact hl9⟩
  clear hq b1 q1 hj8 hOj hOt hr hO
  unfold frv
  go_enter Tryz.func38, Tryz.ntmps38
  go_wp2_with fail
  refine cD.out.mono ?_
  rintro e w' ⟨rfl, rfl⟩
  clear cD
  generalize (w.alloc (.cells #[.int .i64 f.kind, .int .i64 f.gen, .int .i64 f.seq, .slice A l c] 56)) = w1 at *
  go_upto_region 4 with (fail)
  clear x8 z8 x1
  generalize (w1.setCell ⟨j, 8, none⟩ (.bool false)) = w2 at *
  have hcs : (jc t d fr gen has Ap mp cp vr room false).setIfInBounds 8 (.bool false) = jc t d fr gen has Ap mp cp vr room false := rfl
  rw [hcs] at Q2
  have Q3 : Kept (LW w F t d j n (jc t d fr gen has Ap mp cp vr room false) s w2.drew) := ⟨Q2.out.below (Below.refl _ _).drew⟩
  have FB3 : Kept (Blk w2.drew N 56 #[.int .i64 f.kind, .int .i64 f.gen, .int .i64 f.seq, .slice A l c]) := ⟨FB.out.drew⟩
  have HR3 : Kept (Rd w2.drew A l f.body) := ⟨HR.out.drew⟩
  have y0 : w2.drew.cell? ⟨j, 0, none⟩ = some (.pointer (some ⟨t, 0, none⟩)) := Q3.out.cell 0
  have f0 : w2.drew.cell? ⟨N, 0, none⟩ = some (.int .i64 f.kind) := FB3.out.cell 0
  have f1 : w2.drew.cell? ⟨N, 1, none⟩ = some (.int .i64 f.gen) := FB3.out.cell 1
  have f2 : w2.drew.cell? ⟨N, 2, none⟩ = some (.int .i64 f.seq) := FB3.out.cell 2
  have f3 : w2.drew.cell? ⟨N, 3, none⟩ = some (.slice A l c) := FB3.out.cell 3
  clear Q2 FB HR hcs
  refine wp_region_noPanic ?_
  refine wp_region_held_drew (S := fun w' : World => w'.cell? ⟨j, 0, none⟩ = some (.pointer (some ⟨t, 0, none⟩)) ∧ w'.cell? ⟨N, 0, none⟩ = some (.int .i64 f.kind) ∧ w'.cell? ⟨N, 1, none⟩ = some (.int .i64 f.gen) ∧ w'.cell? ⟨N, 2, none⟩ = some (.int .i64 f.seq) ∧ w'.cell? ⟨N, 3, none⟩ = some (.slice A l c)) (by kernel_rfl) ⟨y0, f0, f1, f2, f3⟩ (fun hHeld => ?_)
  clear y0 f0 f1 f2 f3
  generalize w2.drew = w3 at *
  refine wpAnyH_take (i := 0) (oi := ?o12) (v := ?v12) ?hi12 (by kernel_rfl) (by kernel_rfl) (by kernel_rfl) ?hq12 (Or.inl ⟨?hw12, ?hy12⟩) (by assumption) ?r12
  case hi12 => (simp only [List.getElem?_toArray, List.getElem?_cons_zero]; exact rfl)
  case hq12 => exact fun _ _ _ h => h
  case hw12 => rfl
  case hy12 => (intro w hSw; (try dsimp only at hSw); go_simp; try exact rfl)
  simp only [Act.put, List.setIfInBounds_toArray, List.set_cons_zero, List.set_cons_succ]
  refine wpAnyH_take (i := 1) (oi := ?o13) (v := ?v13) ?hi13 (by kernel_rfl) (by kernel_rfl) (by kernel_rfl) ?hq13 (Or.inl ⟨?hw13, ?hy13⟩) (by assumption) ?r13
  case hi13 => (simp only [List.getElem?_toArray, List.getElem?_cons_succ, List.getElem?_cons_zero]; exact rfl)
  case hq13 => exact fun _ _ _ h => h
  case hw13 => rfl
  case hy13 => (intro w hSw; (try dsimp only at hSw); go_simp; try exact rfl)
  simp only [Act.put, List.setIfInBounds_toArray, List.set_cons_zero, List.set_cons_succ]
  refine wpAnyH_take (i := 2) (oi := ?o14) (v := ?v14) ?hi14 (by kernel_rfl) (by kernel_rfl) (by kernel_rfl) ?hq14 (Or.inl ⟨?hw14, ?hy14⟩) (by assumption) ?r14
  case hi14 => (simp only [List.getElem?_toArray, List.getElem?_cons_succ, List.getElem?_cons_zero]; exact rfl)
  case hq14 => exact fun _ _ _ h => h
  case hw14 => rfl
  case hy14 => (intro w hSw; (try dsimp only at hSw); go_simp; try exact rfl)
  simp only [Act.put, List.setIfInBounds_toArray, List.set_cons_zero, List.set_cons_succ]
  refine wpAnyH_take (i := 3) (oi := ?o15) (v := ?v15) ?hi15 (by kernel_rfl) (by kernel_rfl) (by kernel_rfl) ?hq15 (Or.inl ⟨?hw15, ?hy15⟩) (by assumption) ?r15
  case hi15 => (simp only [List.getElem?_toArray, List.getElem?_cons_succ, List.getElem?_cons_zero]; exact rfl)
  case hq15 => exact fun _ _ _ h => h
  case hw15 => rfl
  case hy15 => (intro w hSw; (try dsimp only at hSw); go_simp; try exact rfl)
  simp only [Act.put, List.setIfInBounds_toArray, List.set_cons_zero, List.set_cons_succ]
  refine wpAnyH_take (i := 4) (oi := ?o16) (v := ?v16) ?hi16 (by kernel_rfl) (by kernel_rfl) (by kernel_rfl) ?hq16 (Or.inl ⟨?hw16, ?hy16⟩) (by assumption) ?r16
  case hi16 => (simp only [List.getElem?_toArray, List.getElem?_cons_succ, List.getElem?_cons_zero]; exact rfl)
  case hq16 => exact fun _ _ _ h => h
  case hw16 => rfl
  case hy16 => (intro w hSw; (try dsimp only at hSw); go_simp; try exact rfl)
  simp only [Act.put, List.setIfInBounds_toArray, List.set_cons_zero, List.set_cons_succ]
  refine wpAnyH_ready (rs := [5]) (by kernel_rfl) (by simp) ?_
  refine AllReadyH.cons (o := ?o22) ?hi22 (fun K hK => ?_) AllReadyH.nil
  case hi22 => (simp only [List.getElem?_toArray, List.getElem?_cons_succ, List.getElem?_cons_zero]; exact rfl)
  go_simp
  go_at_call 60
  refine (api.put (f := f) (by obtain ⟨F', k, -⟩ := Q3.out; exact k) HR3.out hc hcm hl9 HO.out).mono ?_
  rintro x w4 ⟨A4, n4, c4, rfl, hn4, hcm4, r4, o4, t4, b4⟩
  have Q4 := Kept.mk (Q3.out.tab h3 b4 t4)
  have U4 : Kept (∃ F3, Tab w4 t ∧ Dk w4 F3 d n s ∧ Blk w4 j 87 (jc t d fr gen has Ap mp cp vr room false) ∧ Fp (t :: j :: F) (t :: j :: F3) w w4 ∧ t ∉ F3 ∧ j ∉ F3 ∧ Off A4 n4 F3) := ⟨by
    obtain ⟨F3, k1, k2, k3, k4, k5, k6⟩ := Q3.out
    exact ⟨F3, t4, k2.keep b4 (fun k hk => by simp; rintro rfl; exact k5 hk), k3.bar b4 (by simpa using h3.symm), ⟨k4.1.trans b4 (by simp), k4.2⟩, k5, k6, o4 _ k2.lts⟩⟩
  have FB4 := FB3.out.bar b4 (by simp; omega)
  have R4 := Kept.mk r4
  have hs34 : w3.heap.size ≤ w4.heap.size := b4.size
  refine hK.out _ _ ⟨Q4.out.cell 0, FB4.cell 0, FB4.cell 1, FB4.cell 2, FB4.cell 3⟩ (fun _ => ?_)
  clear hK K hHeld FB4 r4 b4 t4 HR3 FB3
  try simp only [Act.put, List.setIfInBounds_toArray, List.set_cons_zero, List.set_cons_succ]
  refine wpAnyH_take (i := 6) (oi := ?o17) (v := ?v17) ?hi17 (by kernel_rfl) (by kernel_rfl) (by kernel_rfl) ?hq17 (Or.inl ⟨?hw17, ?hy17⟩) (by assumption) ?r17
  case hi17 => (simp only [List.getElem?_toArray, List.getElem?_cons_succ, List.getElem?_cons_zero]; exact rfl)
  case hq17 => exact fun _ _ _ h => h
  case hw17 => rfl
  case hy17 => (intro w hSw; (try dsimp only at hSw); go_simp; try exact rfl)
  simp only [Act.put, List.setIfInBounds_toArray, List.set_cons_zero, List.set_cons_succ]
  refine wpAnyH_take (i := 7) (oi := ?o18) (v := ?v18) ?hi18 (by kernel_rfl) (by kernel_rfl) (by kernel_rfl) ?hq18 (Or.inl ⟨?hw18, ?hy18⟩) (by assumption) ?r18
  case hi18 => (simp only [List.getElem?_toArray, List.getElem?_cons_succ, List.getElem?_cons_zero]; exact rfl)
  case hq18 => exact fun _ _ _ h => h
  case hw18 => rfl
  case hy18 => (intro w hSw; (try dsimp only at hSw); go_simp; try exact rfl)
  simp only [Act.put, List.setIfInBounds_toArray, List.set_cons_zero, List.set_cons_succ]
  refine wpAnyH_take (i := 8) (oi := ?o19) (v := ?v19) ?hi19 (by kernel_rfl) (by kernel_rfl) (by kernel_rfl) ?hq19 (Or.inl ⟨?hw19, ?hy19⟩) (by assumption) ?r19
  case hi19 => (simp only [List.getElem?_toArray, List.getElem?_cons_succ, List.getElem?_cons_zero]; exact rfl)
  case hq19 => exact fun _ _ _ h => h
  case hw19 => rfl
  case hy19 => (intro w hSw; (try dsimp only at hSw); go_simp; try exact rfl)
  simp only [Act.put, List.setIfInBounds_toArray, List.set_cons_zero, List.set_cons_succ]
  refine wpAnyH_take (i := 9) (oi := ?o20) (v := ?v20) ?hi20 (by kernel_rfl) (by kernel_rfl) (by kernel_rfl) ?hq20 (Or.inl ⟨?hw20, ?hy20⟩) (by assumption) ?r20
  case hi20 => (simp only [List.getElem?_toArray, List.getElem?_cons_succ, List.getElem?_cons_zero]; exact rfl)
  case hq20 => exact fun _ _ _ h => h
  case hw20 => rfl
  case hy20 => (intro w hSw; (try dsimp only at hSw); go_simp; try exact rfl)
  simp only [Act.put, List.setIfInBounds_toArray, List.set_cons_zero, List.set_cons_succ]
  refine wpAnyH_take (i := 10) (oi := ?o21) (v := ?v21) ?hi21 (by kernel_rfl) (by kernel_rfl) (by kernel_rfl) ?hq21 (Or.inl ⟨?hw21, ?hy21⟩) (by assumption) ?r21
  case hi21 => (simp only [List.getElem?_toArray, List.getElem?_cons_succ, List.getElem?_cons_zero]; exact rfl)
  case hq21 => exact fun _ _ _ h => h
  case hw21 => rfl
  case hy21 => (intro w hSw; (try dsimp only at hSw); go_simp; try exact rfl)
  simp only [Act.put, List.setIfInBounds_toArray, List.set_cons_zero, List.set_cons_succ]
  refine wpAnyH_done (by kernel_rfl) ?_ _
  refine NoPanic.normal ?_
  obtain ⟨pe, pb, hpe⟩ : ∃ pe pb, putF f = (pe, pb) := ⟨_, _, rfl⟩
  have HLC : Kept (layC s false f home rm = if pe = 1 then ((0, 12), s, false) else if pe ≠ 0 then ((0, pe), s, false) else if rm < pb.length / 64 then ((0, 12), s, false) else if (layJ s home pb).1 = 0 then (((rm : Int) - (pb.length / 64 : Nat), 0), (layJ s home pb).2, false) else ((0, (layJ s home pb).1), (layJ s home pb).2, true)) := ⟨by
    unfold layC
    rw [if_neg (by rw [hd]; decide), hpe]⟩
  rw [hpe] at R4 ⊢
  have hlay : Kept (pe = 0 → pb.length = 64 * kF f.body) := ⟨fun h => by
    have h1 : errF f = 0 := by have := congrArg Prod.fst hpe; simp only [putF] at this; rw [this, h]
    have h2 := put_ok h1
    rw [hpe] at h2
    have h3 : pb = laid (textF f) := congrArg Prod.snd h2
    rw [h3]
    exact put_len f⟩
  have hkp := kF_pos f.body
  have hkm : kF f.body ≤ 4000 := by unfold kF; have := HR9.out; omega
  clear hpe Q3 hd
  generalize kF f.body = k at *
  simp only at R4 ⊢
  have FIN : Kept (∀ e w' l b s', layC s false f home rm = ((l, e), s', b) → LW w F t d j n (jc t d fr gen has Ap mp cp vr room b) s' w' → CLayPost w F t d j n (jc t d fr gen has Ap mp cp vr room) (layC s false f home rm) (.returned (.tuple #[.int .i64 l, .int .i64 e])) w') := ⟨fun e w' l b s' h1 h2 => by rw [h1]; exact LW.end_ h2⟩
  generalize layC s false f home rm = R at *
  by_cases p1 : pe = 1
  · subst p1
    have PG := Kept.mk (FIN.out _ _ _ _ _ HLC.out Q4.out)
    clear U4 FIN HLC hlay
    go_wp2
    go_ret2
    exact PG.out
  · by_cases p0 : pe = 0
    · subst p0
      have h4 := hlay.out rfl
      have hn4' : n4 = 64 * k := by rw [← R4.out.1]; exact h4
      subst hn4'
      have hq : Int.tdiv ((64 * k : Nat) : Int) 64 = (k : Int) := by rw [Int.tdiv_eq_ediv_of_nonneg (by omega)]; omega
      have hkd : pb.length / 64 = k := by omega
      have HL2 : Kept (R = if rm < k then ((0, 12), s, false) else if (layJ s home pb).1 = 0 then (((rm : Int) - k, 0), (layJ s home pb).2, false) else ((0, (layJ s home pb).1), (layJ s home pb).2, true)) := ⟨by
        rw [HLC.out, if_neg p1, if_neg (by simp), hkd]⟩
      clear HLC hlay h4 hkd
      have hW1 : wrap64 ((rm : Int) - (k : Int)) = (rm : Int) - k := by unfold wrap64; omega
      by_cases hlt : rm < k
      · have hlt' : (rm : Int) - k < 0 := by omega
        have PG := Kept.mk (FIN.out _ _ _ _ _ (by rw [HL2.out, if_pos hlt]) Q4.out)
        clear U4 FIN HL2 Q4
        go_wp2
        go_ret2
        exact PG.out
      · have hlt' : ¬ (rm : Int) - k < 0 := by omega
        have HL3 : Kept (R = if (layJ s home pb).1 = 0 then (((rm : Int) - k, 0), (layJ s home pb).2, false) else ((0, (layJ s home pb).1), (layJ s home pb).2, true)) := ⟨by rw [HL2.out, if_neg hlt]⟩
        obtain ⟨k', rfl⟩ : ∃ k', k = k' + 1 := ⟨k - 1, by omega⟩
        obtain ⟨F3, t4, dk4, hb4, fp4, nt, nj, off4⟩ := U4.out
        obtain ⟨g, o, rfl, hg⟩ := off4.resolve_left (by omega)
        have cs := Kept.mk (jstore_any dk4 home k' c4 g o (by omega) hh9 R4.out hn4 hg)
        obtain ⟨re, s5, hre⟩ : ∃ re s5, layJ s home pb = (re, s5) := ⟨_, _, rfl⟩
        rw [hre] at cs HL3
        have NX : Kept (∀ w5 F5, Dk w5 F5 d n s5 → Fp F3 F5 w4 w5 → LW w F t d j n (jc t d fr gen has Ap mp cp vr room false) s5 w5) := ⟨fun w5 F5 dk5 fp5 => by
          have nin : ∀ x, x ∉ F3 → x < w4.heap.size → x ∉ F5 := fun x hx hl hm => by
            rcases fp5.2 x hm with e | e
            · exact hx e
            · omega
          exact ⟨F5, ftab_bar t4 fp5.1 nt, dk5, hb4.bar fp5.1 nj, fp4.trans (fp_con t (fp_con j fp5)), nin t nt (ftab_lt t4), nin j nj hb4.lt⟩⟩
        have y1 : w4.cell? ⟨j, 1, none⟩ = some (.pointer (some ⟨d, 0, none⟩)) := hb4.cell 1
        clear t4 dk4 hb4 fp4 nt nj off4 U4 Q4 R4 HL2 hre
        by_cases h0 : re = 0
        · subst h0
          have HL4 : Kept (R = (((rm : Int) - (k' + 1 : Nat), 0), s5, false)) := ⟨by rw [HL3.out, if_pos rfl]⟩
          clear HL3
          go_wp2_with fail
          refine cs.out.mono ?_
          rintro e w5 ⟨rfl, F5, dk5, fp5⟩
          have PG := Kept.mk (FIN.out _ _ _ _ _ HL4.out (NX.out w5 F5 dk5 fp5))
          clear dk5 fp5 NX cs FIN HL4
          go_wp2
          go_ret2
          exact PG.out
        · have HL4 : Kept (R = ((0, re), s5, true)) := ⟨by rw [HL3.out, if_neg h0]⟩
          clear HL3
          go_wp2_with fail
          refine cs.out.mono ?_
          rintro e w5 ⟨rfl, F5, dk5, fp5⟩
          have Q5 := NX.out w5 F5 dk5 fp5
          have PG := Kept.mk (FIN.out _ _ _ _ _ HL4.out (Q5.set h3 8 (.bool true)))
          have y8 : w5.cell? ⟨j, 8, none⟩ = some (.bool false) := Q5.cell 8
          have z8 := Q5.frozen 8
          clear dk5 fp5 NX cs FIN HL4 Q5
          go_wp2
          go_ret2
          exact PG.out
    · have HL2 : Kept (R = ((0, pe), s, false)) := ⟨by rw [HLC.out, if_neg p1, if_pos p0]⟩
      have PG := Kept.mk (FIN.out _ _ _ _ _ HL2.out Q4.out)
      clear U4 FIN HLC hlay HL2 Q4
      go_wp2
      go_ret2
      exact PG.out
/-- lay, whole -/
theorem clay_any (api : FrameApi) {w : World} {F : List Nat} {t d j n : Nat} {s : DS} {f : FV} {fr gen : Int} {has : Bool} {Ap : Option Addr} {mp cp : Nat} {vr : Value} {room : Int} {dead : Bool} {A : Option Addr} {l c : Nat} (home rm : Nat) (h3 : t ≠ j) (hq : LW w F t d j n (jc t d fr gen has Ap mp cp vr room dead) s w)
    (hr : Rd w A l f.body) (hO : Off A l (t :: j :: F)) (hc : l ≤ c) (hcm : c ≤ maxLen) (hl9 : l ≤ 100000) (hh9 : home ≤ 90000) (hrm : rm ≤ 90000) :
    Calls Tryz.prog 38 #[.pointer (some ⟨j, 0, none⟩), frv f A l c, .int .i64 (home : Nat), .int .i64 (rm : Nat)] w (CLayPost w F t d j n (jc t d fr gen has Ap mp cp vr room) (layC s dead f home rm)) := by
  by_cases hd : dead = true ∨ s.down = true
  · have e : layC s dead f home rm = ((0, 13), s, true) := by unfold layC; rw [if_pos hd]
    rw [e]
    exact clay_down _ _ h3 hq hd
  · obtain rfl : dead = false := by simpa using fun h => hd (.inl h)
    exact clay_up api home rm h3 hq (by simpa using fun h => hd (.inr h)) hr hO hc hcm hl9 hh9 hrm
end Go.Proofs.YtjlhnhkjgcbnnaaGreat.Journal

/-
  What package journal does, whatever it looks like inside: its calls as contracts over a predicate of its own; the journal, its disk and its table together.
-/




namespace Go.Proofs.YtjlhnhkjgcbnnaaGreat.Journal
open Go.RowKit Go.Proofs.YtjlhnhkjgcbnnaaGreat.Sha Go.Proofs.YtjlhnhkjgcbnnaaGreat.Disk Go.Proofs.YtjlhnhkjgcbnnaaGreat.Frame

/-- a disk and a table, apart -/
def Sd (w : World) (H : List Nat) (t d n : Nat) (s : DS) : Prop := ∃ F, Tab w t ∧ Dk w F d n s ∧ t ∉ F ∧ H = t :: F
section
variable (Jk : World → List Nat → Nat → Nat → Nat → Nat → JV → Prop)
/-- and a journal over them -/
def Sy (w : World) (H : List Nat) (t d j n : Nat) (s : DS) (v : JV) : Prop := ∃ F G, Tab w t ∧ Dk w F d n s ∧ Jk w G j t d n v ∧ t ∉ F ∧ t ∉ G ∧ Disj F G ∧ H = t :: (F ++ G)
/-- what holds of the predicate of package journal -/
structure JournalBase : Prop where
  lts : ∀ {w G j t d n v}, Jk w G j t d n v → ∀ k ∈ G, k < w.heap.size
  keep : ∀ {w w' G K j t d n v}, Jk w G j t d n v → Bar K w w' → Disj G K → Jk w' G j t d n v
end
variable {Jk : World → List Nat → Nat → Nat → Nat → Nat → JV → Prop}
theorem Sd.lts {w : World} {H : List Nat} {t d n : Nat} {s : DS} (h : Sd w H t d n s) : ∀ k ∈ H, k < w.heap.size := by
  obtain ⟨F, h1, h2, -, rfl⟩ := h
  intro k hk
  rcases List.mem_cons.1 hk with rfl | hk
  · exact ftab_lt h1
  · exact h2.lts k hk
theorem Sd.keep {w w' : World} {H K : List Nat} {t d n : Nat} {s : DS} (h : Sd w H t d n s) (b : Bar K w w') (j : Disj H K) : Sd w' H t d n s := by
  obtain ⟨F, h1, h2, h3, rfl⟩ := h
  exact ⟨F, ftab_bar h1 b (j t (by simp)), h2.keep b (fun k hk => j k (by simp [hk])), h3, rfl⟩
theorem Sy.lts (B : JournalBase Jk) {w : World} {H : List Nat} {t d j n : Nat} {s : DS} {v : JV} (h : Sy Jk w H t d j n s v) : ∀ k ∈ H, k < w.heap.size := by
  obtain ⟨F, G, h1, h2, h3, -, -, -, rfl⟩ := h
  intro k hk
  rcases List.mem_cons.1 hk with rfl | hk
  · exact ftab_lt h1
  · rcases List.mem_append.1 hk with hk | hk
    · exact h2.lts k hk
    · exact B.lts h3 k hk
theorem Sy.keep (B : JournalBase Jk) {w w' : World} {H K : List Nat} {t d j n : Nat} {s : DS} {v : JV} (h : Sy Jk w H t d j n s v) (b : Bar K w w') (q : Disj H K) : Sy Jk w' H t d j n s v := by
  obtain ⟨F, G, h1, h2, h3, h4, h5, h6, rfl⟩ := h
  exact ⟨F, G, ftab_bar h1 b (q t (by simp)), h2.keep b (fun k hk => q k (by simp [hk])), B.keep h3 b (fun k hk => q k (by simp [hk])), h4, h5, h6, rfl⟩
theorem Sy.below (B : JournalBase Jk) {w w' : World} {H : List Nat} {t d j n : Nat} {s : DS} {v : JV} (h : Kept (Sy Jk w H t d j n s v)) (b : Below w.heap.size w w') : Kept (Sy Jk w' H t d j n s v) := ⟨h.out.keep B (barOf b []) (fun _ _ => by simp)⟩
/-- the journal is let go -/
theorem Sy.sd {w : World} {H : List Nat} {t d j n : Nat} {s : DS} {v : JV} (h : Sy Jk w H t d j n s v) : ∃ H', Sd w H' t d n s ∧ ∀ k ∈ H', k ∈ H := by
  obtain ⟨F, G, h1, h2, -, h4, -, -, rfl⟩ := h
  refine ⟨t :: F, ⟨F, h1, h2, h4, rfl⟩, fun k hk => ?_⟩
  rcases List.mem_cons.1 hk with e | hk
  · simp [e]
  · simp [hk]
/-- a call of the disk's alone -/
theorem Sy.disk (B : JournalBase Jk) {w w' : World} {H : List Nat} {t d j n : Nat} {s s' : DS} {v : JV} (h : Sy Jk w H t d j n s v) (hd : ∀ F0, Dk w F0 d n s → ∃ F1, Dk w' F1 d n s' ∧ Fp F0 F1 w w') : ∃ H', Sy Jk w' H' t d j n s' v ∧ Fp H H' w w' := by
  obtain ⟨F0, G, h1, h2, h3, h4, h5, h6, rfl⟩ := h
  obtain ⟨F1, k1, k2⟩ := hd F0 h2
  have hG : Disj F1 G := h6.step k2 (B.lts h3)
  have ht1 : t ∉ F1 := fun hm => by
    rcases k2.2 t hm with e | e
    · exact h4 e
    · have := ftab_lt h1; omega
  refine ⟨t :: (F1 ++ G), ⟨F1, G, ftab_bar h1 k2.1 h4, k1, B.keep h3 k2.1 h6.symm, ht1, h5, hG, rfl⟩, k2.1.mono (fun x hx => .inl (by simp [hx])), fun k hk => ?_⟩
  rcases List.mem_cons.1 hk with e | hk
  · exact .inl (by simp [e])
  · rcases List.mem_append.1 hk with hk | hk
    · rcases k2.2 k hk with e | e
      · exact .inl (by simp [e])
      · exact .inr e
    · exact .inl (by simp [hk])
/-- what the calls leave behind -/
def OpenPost (Jk : World → List Nat → Nat → Nat → Nat → Nat → JV → Prop) (w : World) (H : List Nat) (t d n : Nat) (s : DS) (e : Ending) (w' : World) : Prop := ∃ j H', e = .returned (.pointer (some ⟨j, 0, none⟩)) ∧ Sy Jk w' H' t d j n s (openJ s) ∧ Fp H H' w w'
def ActPost (Jk : World → List Nat → Nat → Nat → Nat → Nat → JV → Prop) (w : World) (H : List Nat) (t d j n : Nat) (r : Int × DS × JV) (e : Ending) (w' : World) : Prop := e = .returned (.int .i64 r.1) ∧ ∃ H', Sy Jk w' H' t d j n r.2.1 r.2.2 ∧ Fp H H' w w'
def PictPost (w : World) (v : JV) (e : Ending) (w' : World) : Prop := ∃ A n c, e = .returned (.tuple #[.slice A n c, .bool v.has]) ∧ n ≤ c ∧ c ≤ 9223372036854775807 ∧ Rd w' A n v.pict ∧ Below w.heap.size w w'
def RecsPost (w : World) (v : JV) (e : Ending) (w' : World) : Prop := ∃ A c, e = .returned (.slice A v.recs.length c) ∧ v.recs.length ≤ c ∧ c ≤ 9223372036854775807 ∧ Rws w' A v.recs.length (rowOf v.recs) ∧ Below w.heap.size w w' ∧ ∀ (F : List Nat) (W : World), (∀ k ∈ F, k < w.heap.size) → Bar F w' W → Rws W A v.recs.length (rowOf v.recs)
end Go.Proofs.YtjlhnhkjgcbnnaaGreat.Journal

/-
  Package disk: Len.
-/

namespace Go.Proofs.YtjlhnhkjgcbnnaaGreat.Disk
open Go.RowKit Go.Proofs.YtjlhnhkjgcbnnaaGreat.Sha

theorem clen_any {w : World} {F : List Nat} {d n : Nat} {s : DS} (h : Dk w F d n s) : Calls Tryz.prog 54 #[.pointer (some ⟨d, 0, none⟩)] w fun e w' => e = .returned (.int .i64 (n : Nat)) ∧ w = w' := by
  obtain ⟨h0, gw, cw, gm, f, h1, h2, h3, h4, rfl⟩ := h
  have c0 := (h1.cell 0).trans (dk_0 _ _ _ _)
  clear h0 h1 h2 h3 h4
  go_enter Tryz.func54, Tryz.ntmps54
  go_wp2
  go_ret
  exact ⟨rfl, rfl⟩
end Go.Proofs.YtjlhnhkjgcbnnaaGreat.Disk

/-
  The landed journal: sectors, Gen, Room, Picture.
-/





namespace Go.Proofs.YtjlhnhkjgcbnnaaGreat.Journal
open Go.RowKit Go.Proofs.YtjlhnhkjgcbnnaaGreat.Sha Go.Proofs.YtjlhnhkjgcbnnaaGreat.Disk Go.Proofs.YtjlhnhkjgcbnnaaGreat.Frame

theorem csectors_j {w : World} {F : List Nat} {d j n : Nat} {s : DS} (h : Dk w F d n s) (hj : w.cell? ⟨j, 1, none⟩ = some (.pointer (some ⟨d, 0, none⟩))) :
    Calls Tryz.prog 32 #[.pointer (some ⟨j, 0, none⟩)] w fun e w' => e = .returned (.int .i64 ((n / 2 : Nat) : Int)) ∧ w = w' := by
  have hn8 := h.1.n2
  have cL := Kept.mk (clen_any h)
  have hq : Int.tdiv (n : Int) 2 = ((n / 2 : Nat) : Int) := by rw [Int.tdiv_eq_ediv_of_nonneg (by omega)]; omega
  obtain ⟨M, hM⟩ : ∃ M, n / 2 = M := ⟨_, rfl⟩
  have hM9 : M ≤ 4096 := by omega
  rw [hM] at hq ⊢
  have hW : wrap64 (M : Int) = (M : Int) := by unfold wrap64; omega
  clear h hM hn8
  go_enter Tryz.func32, Tryz.ntmps32
  go_wp2_with fail
  refine cL.out.mono ?_
  rintro e w' ⟨rfl, rfl⟩
  clear cL
  go_wp2
  go_ret
  exact ⟨rfl, rfl⟩
theorem cgen_j {w : World} {G : List Nat} {j t d n : Nat} {v : JV} (h : Cj w G j t d n v) :
    Calls Tryz.prog 29 #[.pointer (some ⟨j, 0, none⟩)] w fun e w' => e = .returned (.int .i64 v.gen) ∧ Below w.heap.size w w' := by
  obtain ⟨A, m, c, vr, rm, K, h1, -⟩ := h
  have x3 : w.cell? ⟨j, 3, none⟩ = some (.int .i64 v.gen) := h1.cell 3
  clear h1
  go_enter Tryz.func29, Tryz.ntmps29
  go_wp2
  go_ret
  exact ⟨rfl, Below.refl _ _⟩
theorem croom_j {w : World} {G : List Nat} {j t d n : Nat} {s : DS} {v : JV} (hwf : WF n s) (h : Cj w G j t d n v) (hd : v.dead = false) :
    Calls Tryz.prog 30 #[.pointer (some ⟨j, 0, none⟩)] w fun e w' => e = .returned (.int .i64 (roomJ s v)) ∧ Below w.heap.size w w' := by
  obtain ⟨A, m, c, vr, rm, K, h1, -, -, -, -, -, -, -, -, -, -, h9⟩ := h
  have hr : roomJ s v = (rm : Int) := by
    have := h9 hd
    have := wf_hn hwf
    unfold roomJ
    omega
  rw [hr]
  have x7 : w.cell? ⟨j, 7, none⟩ = some (.int .i64 (rm : Int)) := h1.cell 7
  clear h1 h9 hr hd hwf
  go_enter Tryz.func30, Tryz.ntmps30
  go_wp2
  go_ret
  exact ⟨rfl, Below.refl _ _⟩
set_option maxRecDepth 100000 in
set_option maxHeartbeats 1000000 in
theorem cpict_j {w : World} {G : List Nat} {j t d n : Nat} {v : JV} (h : Cj w G j t d n v) :
    Calls Tryz.prog 28 #[.pointer (some ⟨j, 0, none⟩)] w (PictPost w v) := by
  have hl := h.ok.pict
  obtain ⟨A, m, c, vr, rm, K, h1, -, -, r, -⟩ := h
  have x5 : w.cell? ⟨j, 5, none⟩ = some (.slice A m c) := h1.cell 5
  have x4 : w.cell? ⟨j, 4, none⟩ = some (.bool v.has) := h1.cell 4
  have hm := r.1
  have CL := Kept.mk (clone_any A m c v.pict w.drew r.drew (by omega))
  have HR := Kept.mk r
  have jl : j < w.heap.size := h1.lt
  clear h1 r
  go_enter Tryz.func28, Tryz.ntmps28
  go_upto_region 1 with (fail)
  refine wp_region_noPanic ?_
  refine wp_region_held_drew (S := fun w' : World => w'.cell? ⟨j, 5, none⟩ = some (.slice A m c) ∧ w'.cell? ⟨j, 4, none⟩ = some (.bool v.has)) (by kernel_rfl) ⟨x5, x4⟩ (fun hHeld => ?_)
  clear x5 x4
  refine wpAnyH_take (i := 0) (oi := ?o23) (v := ?v23) ?hi23 (by kernel_rfl) (by kernel_rfl) (by kernel_rfl) ?hq23 (Or.inl ⟨?hw23, ?hy23⟩) (by assumption) ?r23
  case hi23 => (simp only [List.getElem?_toArray, List.getElem?_cons_zero]; exact rfl)
  case hq23 => exact fun _ _ _ h => h
  case hw23 => rfl
  case hy23 => (intro w hSw; (try dsimp only at hSw); go_simp; try exact rfl)
  simp only [Act.put, List.setIfInBounds_toArray, List.set_cons_zero, List.set_cons_succ]
  refine wpAnyH_take (i := 1) (oi := ?o24) (v := ?v24) ?hi24 (by kernel_rfl) (by kernel_rfl) (by kernel_rfl) ?hq24 (Or.inl ⟨?hw24, ?hy24⟩) (by assumption) ?r24
  case hi24 => (simp only [List.getElem?_toArray, List.getElem?_cons_succ, List.getElem?_cons_zero]; exact rfl)
  case hq24 => exact fun _ _ _ h => h
  case hw24 => rfl
  case hy24 => (intro w hSw; (try dsimp only at hSw); go_simp; try exact rfl)
  simp only [Act.put, List.setIfInBounds_toArray, List.set_cons_zero, List.set_cons_succ]
  refine wpAnyH_take (i := 2) (oi := ?o25) (v := ?v25) ?hi25 (by kernel_rfl) (by kernel_rfl) (by kernel_rfl) ?hq25 (Or.inl ⟨?hw25, ?hy25⟩) (by assumption) ?r25
  case hi25 => (simp only [List.getElem?_toArray, List.getElem?_cons_succ, List.getElem?_cons_zero]; exact rfl)
  case hq25 => exact fun _ _ _ h => h
  case hw25 => rfl
  case hy25 => (intro w hSw; (try dsimp only at hSw); go_simp; try exact rfl)
  simp only [Act.put, List.setIfInBounds_toArray, List.set_cons_zero, List.set_cons_succ]
  refine wpAnyH_take (i := 3) (oi := ?o26) (v := ?v26) ?hi26 (by kernel_rfl) (by kernel_rfl) (by kernel_rfl) ?hq26 (Or.inl ⟨?hw26, ?hy26⟩) (by assumption) ?r26
  case hi26 => (simp only [List.getElem?_toArray, List.getElem?_cons_succ, List.getElem?_cons_zero]; exact rfl)
  case hq26 => exact fun _ _ _ h => h
  case hw26 => rfl
  case hy26 => (intro w hSw; (try dsimp only at hSw); go_simp; try exact rfl)
  simp only [Act.put, List.setIfInBounds_toArray, List.set_cons_zero, List.set_cons_succ]
  refine wpAnyH_take (i := 4) (oi := ?o27) (v := ?v27) ?hi27 (by kernel_rfl) (by kernel_rfl) (by kernel_rfl) ?hq27 (Or.inl ⟨?hw27, ?hy27⟩) (by assumption) ?r27
  case hi27 => (simp only [List.getElem?_toArray, List.getElem?_cons_succ, List.getElem?_cons_zero]; exact rfl)
  case hq27 => exact fun _ _ _ h => h
  case hw27 => rfl
  case hy27 => (intro w hSw; (try dsimp only at hSw); go_simp; try exact rfl)
  simp only [Act.put, List.setIfInBounds_toArray, List.set_cons_zero, List.set_cons_succ]
  refine wpAnyH_take (i := 6) (oi := ?o28) (v := ?v28) ?hi28 (by kernel_rfl) (by kernel_rfl) (by kernel_rfl) ?hq28 (Or.inl ⟨?hw28, ?hy28⟩) (by assumption) ?r28
  case hi28 => (simp only [List.getElem?_toArray, List.getElem?_cons_succ, List.getElem?_cons_zero]; exact rfl)
  case hq28 => exact fun _ _ _ h => h
  case hw28 => rfl
  case hy28 => (intro w hSw; (try dsimp only at hSw); go_simp; try exact rfl)
  simp only [Act.put, List.setIfInBounds_toArray, List.set_cons_zero, List.set_cons_succ]
  refine wpAnyH_take (i := 7) (oi := ?o29) (v := ?v29) ?hi29 (by kernel_rfl) (by kernel_rfl) (by kernel_rfl) ?hq29 (Or.inl ⟨?hw29, ?hy29⟩) (by assumption) ?r29
  case hi29 => (simp only [List.getElem?_toArray, List.getElem?_cons_succ, List.getElem?_cons_zero]; exact rfl)
  case hq29 => exact fun _ _ _ h => h
  case hw29 => rfl
  case hy29 => (intro w hSw; (try dsimp only at hSw); go_simp; try exact rfl)
  simp only [Act.put, List.setIfInBounds_toArray, List.set_cons_zero, List.set_cons_succ]
  refine wpAnyH_take (i := 8) (oi := ?o30) (v := ?v30) ?hi30 (by kernel_rfl) (by kernel_rfl) (by kernel_rfl) ?hq30 (Or.inl ⟨?hw30, ?hy30⟩) (by assumption) ?r30
  case hi30 => (simp only [List.getElem?_toArray, List.getElem?_cons_succ, List.getElem?_cons_zero]; exact rfl)
  case hq30 => exact fun _ _ _ h => h
  case hw30 => rfl
  case hy30 => (intro w hSw; (try dsimp only at hSw); go_simp; try exact rfl)
  simp only [Act.put, List.setIfInBounds_toArray, List.set_cons_zero, List.set_cons_succ]
  refine wpAnyH_take (i := 9) (oi := ?o31) (v := ?v31) ?hi31 (by kernel_rfl) (by kernel_rfl) (by kernel_rfl) ?hq31 (Or.inl ⟨?hw31, ?hy31⟩) (by assumption) ?r31
  case hi31 => (simp only [List.getElem?_toArray, List.getElem?_cons_succ, List.getElem?_cons_zero]; exact rfl)
  case hq31 => exact fun _ _ _ h => h
  case hw31 => rfl
  case hy31 => (intro w hSw; (try dsimp only at hSw); go_simp; try exact rfl)
  simp only [Act.put, List.setIfInBounds_toArray, List.set_cons_zero, List.set_cons_succ]
  refine wpAnyH_take (i := 10) (oi := ?o32) (v := ?v32) ?hi32 (by kernel_rfl) (by kernel_rfl) (by kernel_rfl) ?hq32 (Or.inl ⟨?hw32, ?hy32⟩) (by assumption) ?r32
  case hi32 => (simp only [List.getElem?_toArray, List.getElem?_cons_succ, List.getElem?_cons_zero]; exact rfl)
  case hq32 => exact fun _ _ _ h => h
  case hw32 => rfl
  case hy32 => (intro w hSw; (try dsimp only at hSw); go_simp; try exact rfl)
  simp only [Act.put, List.setIfInBounds_toArray, List.set_cons_zero, List.set_cons_succ]
  refine wpAnyH_ready (rs := [5]) (by kernel_rfl) (by simp) ?_
  refine AllReadyH.cons (o := ?o35) ?hi35 (fun K hK => ?_) AllReadyH.nil
  case hi35 => (simp only [List.getElem?_toArray, List.getElem?_cons_succ, List.getElem?_cons_zero]; exact rfl)
  go_simp
  go_at_call 39
  refine CL.out.mono ?_
  rintro e w1 ⟨vp, rfl, own, bel⟩
  have y5 : w1.cell? ⟨j, 5, none⟩ = some (.slice A m c) := (bel.cell (p := ⟨j, 5, none⟩) jl).trans hHeld.1
  have y4 : w1.cell? ⟨j, 4, none⟩ = some (.bool v.has) := (bel.cell (p := ⟨j, 4, none⟩) jl).trans hHeld.2
  refine hK.out _ _ ⟨y5, y4⟩ (fun _ => ?_)
  obtain ⟨A1, c1, rfl, k1, k2, k3⟩ := own_rd own HR.out.2.1
  have PG := Kept.mk (show PictPost w v (.returned (.tuple #[.slice A1 m c1, .bool v.has])) w1 from ⟨A1, m, c1, rfl, k1, k2, k3, (Below.refl _ _).drew.trans (show Below w.heap.size w.drew w1 from bel)⟩)
  clear hK K hHeld own bel k1 k2 k3 y5 y4
  try simp only [Act.put, List.setIfInBounds_toArray, List.set_cons_zero, List.set_cons_succ]
  refine wpAnyH_take (i := 11) (oi := ?o33) (v := ?v33) ?hi33 (by kernel_rfl) (by kernel_rfl) (by kernel_rfl) ?hq33 (Or.inl ⟨?hw33, ?hy33⟩) (by assumption) ?r33
  case hi33 => (simp only [List.getElem?_toArray, List.getElem?_cons_succ, List.getElem?_cons_zero]; exact rfl)
  case hq33 => exact fun _ _ _ h => h
  case hw33 => rfl
  case hy33 => (intro w hSw; (try dsimp only at hSw); go_simp; try exact rfl)
  simp only [Act.put, List.setIfInBounds_toArray, List.set_cons_zero, List.set_cons_succ]
  refine wpAnyH_take (i := 12) (oi := ?o34) (v := ?v34) ?hi34 (by kernel_rfl) (by kernel_rfl) (by kernel_rfl) ?hq34 (Or.inl ⟨?hw34, ?hy34⟩) (by assumption) ?r34
  case hi34 => (simp only [List.getElem?_toArray, List.getElem?_cons_succ, List.getElem?_cons_zero]; exact rfl)
  case hq34 => exact fun _ _ _ h => h
  case hw34 => rfl
  case hy34 => (intro w hSw; (try dsimp only at hSw); go_simp; try exact rfl)
  simp only [Act.put, List.setIfInBounds_toArray, List.set_cons_zero, List.set_cons_succ]
  refine wpAnyH_done (by kernel_rfl) ?_ _
  refine NoPanic.normal ?_
  go_wp2
  go_ret2
  exact PG.out
end Go.Proofs.YtjlhnhkjgcbnnaaGreat.Journal

/-
  The landed journal, of values alone: what Append and Compact make of lay.
-/

namespace Go.Proofs.YtjlhnhkjgcbnnaaGreat.Journal
open Go.RowKit Go.Proofs.YtjlhnhkjgcbnnaaGreat.Sha Go.Proofs.YtjlhnhkjgcbnnaaGreat.Disk Go.Proofs.YtjlhnhkjgcbnnaaGreat.Frame

theorem recF_fits {n : Nat} {v : JV} (h : COk n v) (hn : n ≤ 8192) (b : List Int) : errF (recF v b) = if 60000 < b.length then 3 else 0 := by
  have h1 := h.gen
  have h2 := h.seq
  have h3 := h.recs
  have h4 := h.pos
  unfold errF recF
  simp only
  by_cases hb : 60000 < b.length
  · rw [if_pos hb, if_pos hb]
  · rw [if_neg hb, if_neg hb, if_pos]
    refine ⟨?_, ?_, ?_⟩ <;> (unfold Wire.fits; simp; try omega)
section
variable {s : DS} {dead : Bool} {f : FV} {home rm : Nat}
theorem layC_dead (h : dead = true ∨ s.down = true) : layC s dead f home rm = ((0, 13), s, true) := by unfold layC; rw [if_pos h]
theorem layC_long (h : ¬ (dead = true ∨ s.down = true)) (he : errF f = 3) : layC s dead f home rm = ((0, 3), s, false) := by
  have hp : putF f = (3, []) := by unfold putF; rw [he]; rfl
  unfold layC
  rw [if_neg h, hp]
  rfl
theorem layC_range (h : ¬ (dead = true ∨ s.down = true)) (he : errF f = 1) : layC s dead f home rm = ((0, 12), s, false) := by
  have hp : putF f = (1, []) := by unfold putF; rw [he]; rfl
  unfold layC
  rw [if_neg h, hp]
  rfl
theorem layC_fits (h : ¬ (dead = true ∨ s.down = true)) (he : errF f = 0) : layC s dead f home rm = if rm < kF f.body then ((0, 12), s, false) else if (layJ s home (laid (textF f))).1 = 0 then (((rm : Int) - kF f.body, 0), (layJ s home (laid (textF f))).2, false) else ((0, (layJ s home (laid (textF f))).1), (layJ s home (laid (textF f))).2, true) := by
  have hp := put_ok he
  have hl := put_len f
  have hk : (laid (textF f)).length / 64 = kF f.body := by rw [hl]; omega
  unfold layC
  rw [if_neg h, hp]
  simp only [hk]
  rfl
end
/-- what Append answers -/
def actA (v : JV) (b : List Int) (r : (Int × Int) × DS × Bool) : Int × DS × JV := if r.1.2 = 0 then (0, r.2.1, { v with recs := v.recs ++ [b], pos := v.pos + kF b, seq := v.seq + 1 }) else (r.1.2, r.2.1, { v with dead := r.2.2 })
theorem actA_no {v : JV} {b : List Int} {l e : Int} {s : DS} {c : Bool} (h : e ≠ 0) : actA v b ((l, e), s, c) = (e, s, { v with dead := c }) := by unfold actA; rw [if_neg h]
theorem append_code {n : Nat} {s : DS} {v : JV} {b : List Int} {rm : Nat} (hwf : WF n s) (ok : COk n v) (hr : v.dead = false → rm + v.pos = n / 2) :
    appendJ s v b = actA v b (layC s v.dead (recF v b) (v.half * (n / 2) + n / 2 - rm) rm) ∧ ((layC s v.dead (recF v b) (v.half * (n / 2) + n / 2 - rm) rm).1.2 = 0 → v.dead = false ∧ (layC s v.dead (recF v b) (v.half * (n / 2) + n / 2 - rm) rm).2.2 = false ∧ b.length ≤ 60000 ∧ kF b ≤ rm ∧ (layC s v.dead (recF v b) (v.half * (n / 2) + n / 2 - rm) rm).1.1 = (rm : Int) - kF b) := by
  have hn8 := hwf.n2
  have hhn := wf_hn hwf
  have he := recF_fits ok hn8 b
  unfold appendJ
  by_cases hd : v.dead = true ∨ s.down = true
  · rw [if_pos hd, layC_dead hd]
    exact ⟨(actA_no (by decide)).symm, fun h => absurd h (by simp)⟩
  · rw [if_neg hd]
    have hdf : v.dead = false := by simpa using fun h => hd (.inl h)
    have hv : v = { v with dead := false } := by rw [← hdf]
    have hpos := hr hdf
    by_cases hb : 60000 < b.length
    · rw [if_pos hb] at he
      have hp : putF (recF v b) = (3, []) := by unfold putF; rw [he]; rfl
      rw [layC_long hd he, hp, if_pos (by simp), actA_no (by decide), ← hv]
      exact ⟨rfl, fun h => absurd h (by simp)⟩
    · rw [if_neg hb] at he
      have hp := put_ok he
      have hl := put_len (recF v b)
      have hk : (laid (textF (recF v b))).length / 64 = kF b := by rw [hl]; show 64 * kF b / 64 = _; omega
      have hroom : roomJ s v = (rm : Int) := by unfold roomJ; omega
      rw [layC_fits hd he, hp, if_neg (by simp)]
      simp only [hk, hroom]
      rw [show (recF v b).body = b from rfl]
      by_cases hlt : rm < kF b
      · rw [if_pos (show (rm : Int) < (kF b : Nat) by omega), if_pos hlt, actA_no (by decide), ← hv]
        exact ⟨rfl, fun h => absurd h (by simp)⟩
      · rw [if_neg (show ¬ (rm : Int) < (kF b : Nat) by omega), if_neg hlt, show v.half * hn s + v.pos = v.half * (n / 2) + n / 2 - rm by rw [hhn]; omega]
        generalize layJ s (v.half * (n / 2) + n / 2 - rm) (laid (textF (recF v b))) = r
        by_cases h0 : r.1 = 0
        · rw [if_pos h0, if_pos h0]
          exact ⟨by unfold actA; rw [if_pos rfl], fun _ => ⟨hdf, rfl, by omega, by omega, rfl⟩⟩
        · rw [if_neg h0, if_neg h0, actA_no h0]
          exact ⟨rfl, fun h => absurd h h0⟩
/-- what Compact answers -/
def actC (v : JV) (b : List Int) (r : (Int × Int) × DS × Bool) : Int × DS × JV := if r.1.2 = 0 then (0, r.2.1, ⟨1 - v.half, v.gen + 1, true, b, [], kF b, 1, v.dead⟩) else (r.1.2, r.2.1, { v with dead := r.2.2 })
theorem actC_no {v : JV} {b : List Int} {l e : Int} {s : DS} {c : Bool} (h : e ≠ 0) : actC v b ((l, e), s, c) = (e, s, { v with dead := c }) := by unfold actC; rw [if_neg h]
theorem pictF_fits {n : Nat} {v : JV} (h : COk n v) (b : List Int) : errF (pictF v b) = if 60000 < b.length then 3 else if v.gen = 4294967295 then 1 else 0 := by
  have h1 := h.gen
  unfold errF pictF
  simp only
  by_cases hb : 60000 < b.length
  · rw [if_pos hb, if_pos hb]
  · rw [if_neg hb, if_neg hb]
    by_cases hg : v.gen = 4294967295
    · rw [if_pos hg, if_neg]
      unfold Wire.fits
      simp
      omega
    · rw [if_neg hg, if_pos]
      refine ⟨?_, ?_, ?_⟩ <;> (unfold Wire.fits; simp; try omega)
theorem compact_code {n : Nat} {s : DS} {v : JV} {b : List Int} (hwf : WF n s) (ok : COk n v) :
    compactJ s v b = actC v b (layC s v.dead (pictF v b) ((1 - v.half) * (n / 2)) (n / 2)) ∧ ((layC s v.dead (pictF v b) ((1 - v.half) * (n / 2)) (n / 2)).1.2 = 0 → v.dead = false ∧ (layC s v.dead (pictF v b) ((1 - v.half) * (n / 2)) (n / 2)).2.2 = false ∧ b.length ≤ 60000 ∧ v.gen + 1 ≤ 4294967295 ∧ kF b ≤ n / 2 ∧ (layC s v.dead (pictF v b) ((1 - v.half) * (n / 2)) (n / 2)).1.1 = ((n / 2 : Nat) : Int) - kF b) := by
  have hn8 := hwf.n2
  have hhn := wf_hn hwf
  have he := pictF_fits ok b
  have hg0 := ok.gen
  unfold compactJ
  by_cases hd : v.dead = true ∨ s.down = true
  · rw [if_pos hd, layC_dead hd]
    exact ⟨(actC_no (by decide)).symm, fun h => absurd h (by simp)⟩
  · rw [if_neg hd]
    have hdf : v.dead = false := by simpa using fun h => hd (.inl h)
    have hv : v = { v with dead := false } := by rw [← hdf]
    by_cases hb : 60000 < b.length
    · rw [if_pos hb] at he
      rw [layC_long hd he, if_pos hb, actC_no (by decide), ← hv]
      exact ⟨rfl, fun h => absurd h (by simp)⟩
    · rw [if_neg hb] at he ⊢
      by_cases hg : v.gen = 4294967295
      · rw [if_pos hg] at he
        have hp : putF (pictF v b) = (1, []) := by unfold putF; rw [he]; rfl
        rw [layC_range hd he, hp, if_pos (.inl (by simp)), actC_no (by decide), ← hv]
        exact ⟨rfl, fun h => absurd h (by simp)⟩
      · rw [if_neg hg] at he
        have hp := put_ok he
        have hl := put_len (pictF v b)
        have hk : (laid (textF (pictF v b))).length / 64 = kF b := by rw [hl]; show 64 * kF b / 64 = _; omega
        rw [layC_fits hd he, hp]
        simp only [hk, hhn]
        rw [show (pictF v b).body = b from rfl]
        by_cases hlt : n / 2 < kF b
        · rw [if_pos (.inr hlt), if_pos hlt, actC_no (by decide), ← hv]
          exact ⟨rfl, fun h => absurd h (by simp)⟩
        · rw [if_neg (by rintro (h | h); exact h rfl; exact hlt h), if_neg hlt]
          generalize layJ s ((1 - v.half) * (n / 2)) (laid (textF (pictF v b))) = r
          by_cases h0 : r.1 = 0
          · rw [if_pos h0, if_pos h0]
            exact ⟨by unfold actC; rw [if_pos rfl], fun _ => ⟨hdf, rfl, by omega, by omega, by omega, rfl⟩⟩
          · rw [if_neg h0, if_neg h0, actC_no h0]
            exact ⟨rfl, fun h => absurd h h0⟩
end Go.Proofs.YtjlhnhkjgcbnnaaGreat.Journal

/-
  The landed journal: lay, beside its disk and its table.
-/



namespace Go.Proofs.YtjlhnhkjgcbnnaaGreat.Journal
open Go.RowKit Go.Proofs.YtjlhnhkjgcbnnaaGreat.Sha Go.Proofs.YtjlhnhkjgcbnnaaGreat.Disk Go.Proofs.YtjlhnhkjgcbnnaaGreat.Frame

theorem cj_base : JournalBase Cj where
  lts h := h.lts
  keep h b q := h.keep b q
theorem layC_flag {s : DS} {dead : Bool} {f : FV} {home rm : Nat} (h : (layC s dead f home rm).2.2 = false) : dead = false := by
  cases dead with
  | false => rfl
  | true => rw [layC_dead (.inl rfl)] at h; cases h
theorem lay_sy (api : FrameApi) {w : World} {H : List Nat} {t d j n : Nat} {s : DS} {v : JV} {f : FV} {A : Option Addr} {l c : Nat} (home rm : Nat) (sy : Sy Cj w H t d j n s v) (hr : Rd w A l f.body) (hO : Off A l H) (hc : l ≤ c) (hcm : c ≤ maxLen) (hl9 : l ≤ 100000) (hh9 : home ≤ 90000) (hrm : rm ≤ 90000) :
    Calls Tryz.prog 38 #[.pointer (some ⟨j, 0, none⟩), frv f A l c, .int .i64 (home : Nat), .int .i64 (rm : Nat)] w fun e w' =>
      e = .returned (.tuple #[.int .i64 (layC s v.dead f home rm).1.1, .int .i64 (layC s v.dead f home rm).1.2]) ∧ ∃ H', Sy Cj w' H' t d j n (layC s v.dead f home rm).2.1 { v with dead := (layC s v.dead f home rm).2.2 } ∧ Fp H H' w w' := by
  obtain ⟨F, G, h1, h2, ⟨A0, m, c0, vr, rm0, K, k1, k2, k3, k4, k5, k6, k7, k8, rfl, k9, k10, k11⟩, h4, h5, h6, rfl⟩ := sy
  have hj : j ∉ F := fun hm => h6 j hm (by simp)
  have htj : t ≠ j := fun e => h5 (by simp [e])
  have hO2 : Off A l (t :: j :: F) := by
    rcases hO with h | ⟨g, o, e, hg⟩
    · exact .inl h
    · exact .inr ⟨g, o, e, fun hm => hg (by simp at hm ⊢; rcases hm with h | h | h <;> simp [h])⟩
  refine (clay_any api (s := s) home rm htj (LW.mk0 h1 h2 k1 h4 hj) hr hO2 hc hcm hl9 hh9 hrm).mono ?_
  rintro e w' ⟨rfl, F', t1, t2, t3, t4, t5, t6⟩
  have dK : Disj K (t :: j :: F) := fun k hk hm => by
    simp only [List.mem_cons] at hm
    rcases hm with rfl | rfl | hm
    · exact h5 (by simp [hk])
    · exact k8 hk
    · exact h6 k hm (by simp [hk])
  have hlt : ∀ k ∈ (t :: j :: F), k < w.heap.size := fun k hk => by
    simp only [List.mem_cons] at hk
    rcases hk with rfl | rfl | hk
    · exact ftab_lt h1
    · exact k1.lt
    · exact h2.lts k hk
  have dK' : ∀ k ∈ F', k ∉ K := fun k hk hm => by
    rcases t4.2 k (by simp [hk]) with e | e
    · exact dK k hm e
    · have := k7 k hm; omega
  refine ⟨rfl, t :: (F' ++ j :: K), ⟨F', j :: K, t1, t2, ⟨A0, m, c0, vr, rm0, K, t3, k2, k3, k4.far t4.1 (k5.1.off dK), k5, k6.keep t4.1 dK, fun k hk => Nat.lt_of_lt_of_le (k7 k hk) t4.1.size, k8, rfl, ⟨k9.half, k9.gen, k9.seq, k9.pos, k9.recs, k9.pict, k9.bods⟩, k10, fun h => k11 (layC_flag h)⟩, t5, h5, fun k hk hm => ?_, rfl⟩, t4.1.mono (fun k hk => .inl ?_), fun k hk => ?_⟩
  · simp only [List.mem_cons] at hm
    rcases hm with rfl | hm
    · exact t6 hk
    · exact dK' k hk hm
  · simp only [List.mem_cons, List.mem_append] at hk ⊢
    rcases hk with h | h | h <;> simp [h]
  · simp only [List.mem_cons, List.mem_append] at hk
    rcases hk with h | h | h | h
    · exact .inl (by simp [h])
    · rcases t4.2 k (by simp [h]) with e | e
      · simp only [List.mem_cons] at e
        exact .inl (by rcases e with e | e | e <;> simp [e])
      · exact .inr e
    · exact .inl (by simp [h])
    · exact .inl (by simp [h])
end Go.Proofs.YtjlhnhkjgcbnnaaGreat.Journal

/-
  The document's own comparison of rows of texts.
-/


namespace Go.Proofs.YtjlhnhkjgcbnnaaGreat.Sha
open Go.RowKit

/-- are the first n alike? -/
def likeB (n m : Nat) (X Y : Nat → List Int) : Bool := decide (n = m ∧ ∀ i, i < n → X i = Y i)
theorem Rws.row {w : World} {A : Option Addr} {n : Nat} {X : Nat → List Int} (h : Rws w A n X) (i : Nat) (hi : i < n) : ∃ b o a l c, A = some ⟨b, o, none⟩ ∧ w.cell? ⟨b, o + i, none⟩ = some (.slice a l c) ∧ Rd w a l (X i) := by
  rcases h with h | ⟨b, o, rfl, hc⟩
  · omega
  · obtain ⟨a, l, c, h1, -, -, h4⟩ := hc i hi
    exact ⟨b, o, a, l, c, rfl, h1, h4⟩
set_option maxRecDepth 100000 in
set_option maxHeartbeats 1000000 in
theorem lists_any (A B : Option Addr) (n m c d : Nat) (X Y : Nat → List Int) (w : World) (ha : Rws w A n X) (hb : Rws w B m Y) (hn : n ≤ 9223372036854775807) :
    Calls Tryz.prog 27 #[.slice A n c, .slice B m d] w fun e w' => e = .returned (.bool (likeB n m X Y)) ∧ Below w.heap.size w w' := by
  by_cases hnm : n = m
  · subst hnm
    have HA := Kept.mk ha; have HB := Kept.mk hb
    have HL : Kept (∀ k, k < n → X k ≠ Y k → likeB n n X Y = false) := ⟨fun k hk hne => by
      unfold likeB; rw [decide_eq_false_iff_not]; rintro ⟨-, h⟩; exact hne (h k hk)⟩
    have HT : Kept ((∀ i, i < n → X i = Y i) → likeB n n X Y = true) := ⟨fun h => by
      unfold likeB; rw [decide_eq_true_eq]; exact ⟨rfl, h⟩⟩
    generalize likeB n n X Y = L at *
    clear ha hb
    go_enter Tryz.func27, Tryz.ntmps27
    go_wp2
    go_loopw [5] (fun j wr => ∃ k : Nat, k ≤ n ∧ j = .int .i64 (k : Nat) ∧ Kept (∀ i, i < k → X i = Y i) ∧ Kept (Below w.heap.size w wr)) (fun j _ => n - (Go.RowKit.intOf j).toNat)
    case atStart => exact ⟨0, by omega, rfl, ⟨fun i hi => absurd hi (Nat.not_lt_zero _)⟩, ⟨Below.refl _ _⟩⟩
    case round =>
      obtain ⟨k, hk, rfl, HE, BW⟩ := hrel
      by_cases hkn : k < n
      · have hkn' : (k : Int) < n := by omega
        obtain ⟨b1, o1, a1, l1, c1, rfl, x1, r1⟩ := (HA.out.below BW.out).row k hkn
        obtain ⟨b2, o2, a2, l2, c2, rfl, x2, r2⟩ := (HB.out.below BW.out).row k hkn
        have v1 := fun q => conv_same (cap := c1) (r1.below (below_drewN (Below.refl wr.heap.size wr) q))
        have v2 := fun q => conv_same (cap := c2) (r2.below (below_drewN (Below.refl wr.heap.size wr) q))
        by_cases hxy : X k = Y k
        · have HE2 : Kept (∀ i, i < k + 1 → X i = Y i) := ⟨fun i hi => by
            by_cases h : i < k
            · exact HE.out i h
            · rw [show i = k by omega]; exact hxy⟩
          rw [hxy] at v1
          generalize strOfNums (Y k) = S at *
          clear HE r1 r2
          go_wp2
          go_quiet (fail)
          have B2 : Kept (Below w.heap.size w (wr.drewN nq)) := ⟨below_drewN BW.out _⟩
          go_wp2
          go_roundw
          case rel => exact ⟨k + 1, by omega, by go_num, HE2, B2⟩
          case measure => simp [Go.RowKit.intOf]; omega
        · have hL := HL.out k hkn hxy
          subst hL
          have hne : ((strOfNums (X k)).toList == (strOfNums (Y k)).toList) = false := by
            rw [beq_eq_false_iff_ne]
            exact fun he => hxy (strOfNums_inj r1.2.1 r2.2.1 he)
          generalize strOfNums (X k) = S1 at *
          generalize strOfNums (Y k) = S2 at *
          clear HE r1 r2 hxy HL HT
          go_wp2
          go_quiet (fail)
          have B2 : Kept (Below w.heap.size w (wr.drewN nq)) := ⟨below_drewN BW.out _⟩
          go_wp2
          go_ret
          exact ⟨rfl, B2.out⟩
      · have hkn' : ¬ (k : Int) < n := by omega
        obtain rfl : k = n := by omega
        have hL := HT.out HE.out
        subst hL
        go_wp2
        go_ret
        exact ⟨rfl, BW.out⟩
  · have hL : likeB n m X Y = false := by unfold likeB; rw [decide_eq_false_iff_not]; exact fun h => hnm h.1
    rw [hL]
    have hnm' : ¬ (n : Int) = m := by omega
    clear hL ha hb
    go_enter Tryz.func27, Tryz.ntmps27
    go_wp2
    go_ret
    exact ⟨rfl, Below.refl _ _⟩
end Go.Proofs.YtjlhnhkjgcbnnaaGreat.Sha

/-
  The landed journal: Records.
-/


namespace Go.Proofs.YtjlhnhkjgcbnnaaGreat.Journal
open Go.RowKit Go.Proofs.YtjlhnhkjgcbnnaaGreat.Sha Go.Proofs.YtjlhnhkjgcbnnaaGreat.Disk Go.Proofs.YtjlhnhkjgcbnnaaGreat.Frame

theorem info_row : (Tryz.prog.info? 38).map (fun i => (i.zero, i.size, i.bytes)) = some (some (.slice none 0 0), 1, 24) := by kernel_rfl
theorem make_rows (w : World) (n : Nat) (hn : n ≤ 100000) : ∃ w', (Instr.makeSlice 57 (.int .i64 (n : Int)) (.int .i64 (n : Int))).run Tryz.prog w = .ok (.slice (some ⟨w.heap.size, 0, none⟩) n n) w' ∧ Blk w' w.heap.size 38 (List.replicate n (Value.slice none 0 0)).toArray ∧ Below w.heap.size w w' := by
  obtain ⟨iu, hi, hz0, hz1, hz2⟩ := info_parts info_row
  obtain ⟨w', hm, own, gr⟩ := run_makeSlice_full (P := Tryz.prog) w w.heap.size 57 38 iu _ 1 Tryz.underlying57 hi hz0 hz1 .i64 .i64 n (by omega) (by rw [hz2]; omega) (by unfold maxLen; omega) (Nat.le_refl _)
  refine ⟨w', hm, ?_, ⟨gr.os, gr.tape, gr.output, gr.size, fun k hk => gr.block k hk (by simp)⟩⟩
  have e : (madeCells (Value.slice none 0 0).cells (n * 1)).toList = List.replicate n (Value.slice none 0 0) := by
    rw [show (Value.slice none 0 0).cells = #[.slice none 0 0] from rfl, toList_madeCells_one, Nat.mul_one]
  rw [e] at own
  rcases own.2 with ⟨h0, -⟩ | ⟨g, cap, cur, hv, -, hh, h1, -, hs, ht⟩
  · cases h0
  · have hv2 : w.heap.size = g ∧ n = cap := by
      have := hv
      simp only [Value.slice.injEq, Option.some.injEq, Addr.mk.injEq] at this
      omega
    obtain ⟨hg, rfl⟩ := hv2
    rw [hg]
    have : cur = (List.replicate n (Value.slice none 0 0)).toArray := by
      apply Array.toList_inj.1
      rw [List.take_of_length_le (by simp; omega)] at ht
      rw [ht]
    rw [← this]
    exact hh
def lenI : Value → Int | .int _ q => q | _ => 0
/-- the first k are there -/
def Rk (w : World) (N k n : Nat) (L : List (List Int)) : Prop := ∃ cs : Array Value, cs.size = n ∧ Blk w N 38 cs ∧ ∀ i, i < k → ∃ a l c, cs[i]? = some (.slice a l c) ∧ l ≤ c ∧ c ≤ 9223372036854775807 ∧ Rd w a l (rowOf L i) ∧ Off a l [N] ∧ ∀ F : List Nat, (∀ q ∈ F, q < N) → Off a l F
theorem rk_step {w w1 : World} {N k n : Nat} {L : List (List Int)} (h : Rk w N k n L) (b : Below w.heap.size w w1) {v : Value} {l : Nat} (hk : k < n) (hl : (rowOf L k).length = l) (hb : Bytes (rowOf L k)) (own : w1.ownsRow w.heap.size 5 1 v l (ints .u8 (rowOf L k))) :
    ∃ A1 c1, v = .slice A1 l c1 ∧ ((∃ u, w1.cell? ⟨N, k, none⟩ = some u) ∧ w1.frozen? ⟨N, k, none⟩ = false) ∧ Rk (w1.setCell ⟨N, k, none⟩ (.slice A1 l c1)) N (k + 1) n L := by
  obtain ⟨cs, h1, h2, h3⟩ := h
  have h2' := h2.below b h2.lt
  obtain ⟨A1, c1, rfl, k1, k2, k3⟩ := own_rd own hb
  have hbar : Bar [N] w1 (w1.setCell ⟨N, k, none⟩ (.slice A1 l c1)) := (Bar.refl _ _).setCell (by simp) _
  have off1 : Off A1 l [N] := own_off own (fun q hq hm => by
    have := (own.lt q (by simpa using hq)).1
    have := h2.lt
    simp at hm
    omega)
  refine ⟨A1, c1, rfl, ⟨⟨cs[k]'(by omega), by rw [h2'.cell]; simp [h1, hk]⟩, h2'.frozen k⟩, cs.setIfInBounds k (.slice A1 l c1), by simp [h1], h2'.set_ k _, fun i hi => ?_⟩
  by_cases hik : i = k
  · subst hik
    exact ⟨A1, l, c1, by simp [h1, hk], k1, k2, k3.far hbar off1, off1, fun F hF => own_off own (fun q hq hm => by
      have := (own.lt q (by simpa using hq)).1
      have := h2.lt
      have := hF q hm
      omega)⟩
  · obtain ⟨a, l', c', e1, e2, e3, e4, e5, e6⟩ := h3 i (by omega)
    exact ⟨a, l', c', by rw [Array.getElem?_setIfInBounds_ne (fun e => hik e.symm)]; exact e1, e2, e3, (e4.below b).far hbar e5, e5, e6⟩
theorem rk_rws {w : World} {N n : Nat} {L : List (List Int)} (h : Rk w N n n L) : Rws w (some ⟨N, 0, none⟩) n (rowOf L) := by
  obtain ⟨cs, h1, h2, h3⟩ := h
  refine .inr ⟨N, 0, rfl, fun r hr => ?_⟩
  obtain ⟨a, l, c, e1, e2, e3, e4, -⟩ := h3 r hr
  exact ⟨a, l, c, by rw [Nat.zero_add, h2.cell, e1], e2, e3, e4⟩
theorem rk_new {w W : World} {N n : Nat} {L : List (List Int)} {F : List Nat} (h : Rk w N n n L) (hF : ∀ q ∈ F, q < N) (b : Bar F w W) : Rws W (some ⟨N, 0, none⟩) n (rowOf L) := by
  obtain ⟨cs, h1, h2, h3⟩ := h
  have h2' := h2.bar b (fun hm => by have := hF N hm; omega)
  refine .inr ⟨N, 0, rfl, fun r hr => ?_⟩
  obtain ⟨a, l, c, e1, e2, e3, e4, -, e6⟩ := h3 r hr
  exact ⟨a, l, c, by rw [Nat.zero_add, h2'.cell, e1], e2, e3, e4.far b (e6 F hF)⟩
set_option maxRecDepth 100000 in
set_option maxHeartbeats 1000000 in
theorem crecs_j {w : World} {G : List Nat} {j t d n : Nat} {v : JV} (h : Cj w G j t d n v) (hn8 : n ≤ 8192) :
    Calls Tryz.prog 26 #[.pointer (some ⟨j, 0, none⟩)] w (RecsPost w v) := by
  obtain ⟨N, hN⟩ : ∃ N, w.heap.size = N := ⟨_, rfl⟩
  have ok := h.ok
  obtain ⟨A, m, c, vr, rm, K, h1, -, -, -, -, og, -⟩ := h
  obtain ⟨Ar, cr, rfl, k1, k2, rws⟩ := og.rws
  have x6 : w.cell? ⟨j, 6, none⟩ = some (.slice Ar v.recs.length cr) := h1.cell 6
  have jl : j < N := by rw [← hN]; exact h1.lt
  have hl : v.recs.length ≤ 4096 := by have := ok.recs; have := ok.pos; omega
  have hbod : Kept (∀ i, (rowOf v.recs i).length ≤ 60000) := ⟨fun i => by
    unfold rowOf
    rw [List.getD_eq_getElem?_getD]
    cases hq : v.recs[i]? with
    | none => simp
    | some b => exact ok.bods b (List.mem_of_getElem? hq)⟩
  obtain ⟨w1, hmk, bk, bel⟩ := make_rows w v.recs.length (by omega)
  rw [hN] at hmk bk bel
  have HR := Kept.mk rws
  have HA : Kept (Rk w1 N 0 v.recs.length v.recs) := ⟨_, by simp, bk, fun i hi => by omega⟩
  have HB := Kept.mk bel
  have x6' : w1.cell? ⟨j, 6, none⟩ = some (.slice Ar v.recs.length cr) := (bel.cell (p := ⟨j, 6, none⟩) jl).trans x6
  have POST : Kept (∀ w', Rk w' N v.recs.length v.recs.length v.recs → Below N w w' → RecsPost w v (.returned (.slice (some ⟨N, 0, none⟩) v.recs.length v.recs.length)) w') := ⟨fun w' a b => ⟨_, _, rfl, Nat.le_refl _, by omega, rk_rws a, by rw [hN]; exact b, fun F W hF hb => rk_new a (by rw [← hN]; exact hF) hb⟩⟩
  have hjN := jl
  clear og h1 rws bk bel ok jl
  go_enter Tryz.func26, Tryz.ntmps26
  go_wp2
  go_loopw [4, 5, 19] (fun _i _b i wr => ∃ k : Nat, k ≤ v.recs.length ∧ i = .int .i64 (k : Nat) ∧ Kept (Rk wr N k v.recs.length v.recs) ∧ Kept (Below N w wr)) (fun _ _ i _ => v.recs.length - (lenI i).toNat)
  case atStart => exact ⟨0, by omega, rfl, HA, HB⟩
  case round =>
    clear HA HB hmk x6 x6'
    obtain ⟨k, hk, rfl, RK, BW⟩ := hrel
    by_cases hkq : k < v.recs.length
    · have hkq' : (k : Int) < (v.recs.length : Nat) := by omega
      obtain ⟨b1, o1, a1, l1, c1, rfl, y1, r1⟩ := (HR.out.below (by rw [hN]; exact BW.out)).row k hkq
      have CL := Kept.mk (clone_any a1 l1 c1 _ wr r1 (by have := hbod.out k; unfold rowOf at this; have := r1.1; omega))
      have R1 := Kept.mk r1
      have hl1 := Kept.mk r1.1
      clear r1
      have LT : Kept (N < wr.heap.size) := ⟨by obtain ⟨cs, -, h2, -⟩ := RK.out; exact h2.lt⟩
      go_wp2_with fail
      refine CL.out.mono ?_
      rintro e w3 ⟨u, rfl, own, bel⟩
      obtain ⟨A1, c3, rfl, ⟨⟨u3, x3⟩, z3⟩, RK2⟩ := rk_step RK.out bel hkq hl1.out R1.out.2.1 own
      have RK3 := Kept.mk RK2
      have BW3 : Kept (Below N w (w3.setCell ⟨N, k, none⟩ (.slice A1 l1 c3))) := ⟨(BW.out.trans (bel.mono (by have := LT.out; omega))).setCell (p := ⟨N, k, none⟩) (Nat.le_refl _) _⟩
      clear own bel RK2 RK BW CL R1
      go_wp2
      go_roundw
      case rel => exact ⟨k + 1, by omega, by go_num, RK3, BW3⟩
      case measure => simp only [lenI]; omega
    · have hkq' : ¬ (k : Int) < (v.recs.length : Nat) := by omega
      obtain rfl : k = v.recs.length := by omega
      have PG := Kept.mk (POST.out _ RK.out BW.out)
      clear POST
      go_wp2
      go_ret
      exact PG.out
end Go.Proofs.YtjlhnhkjgcbnnaaGreat.Journal

/-
  A region that draws its order, whose last operation writes what others have read: a condition S on the world holds behind every operation but that one. No program in sight; for any seat.
-/



namespace Go.Proofs.YtjlhnhkjgcbnnaaGreat.Sha
open Go

section
variable {P : Program} {ops : Array Oper} {Q : Exit → Act → World → Prop} {md : Region.Mode} {S : World → Prop} {st : Nat}

/-- whatever order is picked from here on, S holds behind every operation but number st -/
def wpAnyU (P : Program) (md : Region.Mode) (ops : Array Oper) (Q : Exit → Act → World → Prop) (S : World → Prop) (st : Nat) : Nat → Array Bool → Act → World → Prop
  | 0, listed, a, w => Region.ready md ops listed = [] ∧ Q .normal a w
  | fuel + 1, listed, a, w =>
    (Region.ready md ops listed = [] → Q .normal a w) ∧
    ∀ i ∈ Region.ready md ops listed, wpOp P ops Q i (fun a' w' => (i ≠ st → S w') ∧ wpAnyU P md ops Q S st fuel (listed.setIfInBounds i true) a' w') a w
theorem wpAny_of_U : ∀ (fuel : Nat) (listed : Array Bool) (a : Act) (w : World), wpAnyU P md ops Q S st fuel listed a w → wpAny P md ops Q fuel listed a w
  | 0, _, _, _, h => h
  | fuel + 1, _, _, _, h => ⟨h.1, fun i hi => wpOp_mono (fun a' w' h' => wpAny_of_U fuel _ a' w' h'.2) (h.2 i hi)⟩
/-- number st waits for number i -/
def waitsFor (md : Region.Mode) (ops : Array Oper) (st i : Nat) : Bool := match ops[st]? with
  | some o => o.after.any fun e => Region.binds md e && e.on == i
  | none => false
theorem wpAnyU_first {i : Nat} {oi : Oper} {v : Value} (hi : ops[i]? = some oi) (hsel : ∀ (j : Nat) (o : Oper) cs b, ops[j]? = some o → o.op ≠ .select cs b)
    (hQ : ∀ c a w, Q (.panic c) (a.put oi.dst v) w → Q (.panic c) a w) (hst : waitsFor md ops st i = true) :
    ∀ (fuel : Nat) (listed : Array Bool) (a : Act) (w : World),
      (∀ j oj, ops[j]? = some oj → j ≠ i → listed.getD j true = false → (∀ e ∈ oj.after, Region.binds md e = true → e.on ≠ i) → oi.apart ops oj = true) →
      i ∈ Region.ready md ops listed → YieldsIf P ops S oi v a → S w →
      wpAnyU P md ops Q S st fuel (listed.setIfInBounds i true) (a.put oi.dst v) w → wpAnyU P md ops Q S st (fuel + 1) listed a w := by
  intro fuel
  induction fuel with
  | zero =>
    intro listed a w _ hr hy hS H
    refine ⟨fun h => (by rw [h] at hr; cases hr), fun j hj => ?_⟩
    by_cases hji : j = i
    · subst hji; exact hy.wpOp hi hS ⟨fun _ => hS, H⟩
    · have := ready_mono hj hji
      rw [H.1] at this
      cases this
  | succ fuel ih =>
    intro listed a w hfree hr hy hS H
    refine ⟨fun h => (by rw [h] at hr; cases hr), fun j hj => ?_⟩
    by_cases hji : j = i
    · subst hji; exact hy.wpOp hi hS ⟨fun _ => hS, H⟩
    · have h1 := H.2 j (ready_mono hj hji)
      obtain ⟨hjun, oj, hoj, hall⟩ := mem_ready.1 hj
      have hnot : ∀ e ∈ oj.after, Region.binds md e = true → e.on ≠ i := fun e he hb heq => by
        have h1 := hall e he hb
        have h0 := (mem_ready.1 hr).1
        rw [heq] at h1
        rcases Nat.lt_or_ge i listed.size with h' | h'
        · simp [h'] at h0 h1; rw [h0] at h1; cases h1
        · simp [Array.getElem?_eq_none h'] at h1
      have hjst : j ≠ st := by
        rintro rfl
        unfold waitsFor at hst
        rw [hoj] at hst
        simp only [Array.any_eq_true'] at hst
        obtain ⟨e, he, hb⟩ := hst
        rw [Bool.and_eq_true, beq_iff_eq] at hb
        exact hnot e he hb.1 hb.2
      have h2 := Go.wpOp_putIf hoj (hfree j oj hoj hji hjun hnot) (fun cs b => hsel i oi cs b hi) (fun cs b => hsel j oj cs b hoj) hQ hy h1
      have hfree' : ∀ k ok, ops[k]? = some ok → k ≠ i → (listed.setIfInBounds j true).getD k true = false →
          (∀ e ∈ ok.after, Region.binds md e = true → e.on ≠ i) → oi.apart ops ok = true := fun k ok hk hki hun hno => by
        refine hfree k ok hk hki ?_ hno
        by_cases hjk : j = k
        · subst hjk; exact hjun
        · rw [getD_set_ne true hjk] at hun; exact hun
      refine wpOp_mono (fun a' w' h3 => ⟨h3.2.1, ih (listed.setIfInBounds j true) a' w' hfree' (ready_mono hr (Ne.symm hji)) h3.1 (h3.2.1 hjst) ?_⟩) h2
      rw [Array.setIfInBounds_comm _ _ hji]
      exact h3.2.2
/-- number i is taken first -/
theorem wpAnyU_take {i : Nat} {oi : Oper} {v : Value} {fuel : Nat} {listed : Array Bool} {a : Act} {w : World} (hi : ops[i]? = some oi)
    (hs : Region.noSelect ops = true) (hf : Region.free md ops listed i = true) (hr : (Region.ready md ops listed).contains i = true) (hst : waitsFor md ops st i = true)
    (hQ : ∀ c a w, Q (.panic c) (a.put oi.dst v) w → Q (.panic c) a w) (hy : YieldsIf P ops S oi v a) (hS : S w)
    (h : wpAnyU P md ops Q S st fuel (listed.setIfInBounds i true) (a.put oi.dst v) w) : wpAnyU P md ops Q S st (fuel + 1) listed a w :=
  wpAnyU_first hi (Region.noSelect_spec hs) hQ hst fuel listed a w (Region.free_spec hi hf) (by simpa using hr) hy hS h
def AllReadyU (P : Program) (md : Region.Mode) (ops : Array Oper) (Q : Exit → Act → World → Prop) (S : World → Prop) (st : Nat) (fuel : Nat) (listed : Array Bool) (a : Act) (w : World) (rs : List Nat) : Prop :=
  ∀ i ∈ rs, wpOp P ops Q i (fun a' w' => (i ≠ st → S w') ∧ wpAnyU P md ops Q S st fuel (listed.setIfInBounds i true) a' w') a w
theorem AllReadyU.nil {fuel : Nat} {listed : Array Bool} {a : Act} {w : World} : AllReadyU P md ops Q S st fuel listed a w [] := fun _ h => by cases h
theorem AllReadyU.cons {fuel : Nat} {listed : Array Bool} {a : Act} {w : World} {i : Nat} {o : Oper} {rs : List Nat} (ho : ops[i]? = some o)
    (h : ∀ K' : Act → World → Prop, Shut (∀ a w, (i ≠ st → S w) → ((i ≠ st → S w) → wpAnyU P md ops Q S st fuel (listed.setIfInBounds i true) a w) → K' a w) → if Region.wanted o (yielded ops a.tmps) = true then Oper.wp P o a w K' Q else K' (a.put o.dst undef) w)
    (hs : AllReadyU P md ops Q S st fuel listed a w rs) : AllReadyU P md ops Q S st fuel listed a w (i :: rs) := fun j hj => by
  rcases List.mem_cons.1 hj with rfl | hj
  · exact wpOp_step ho (fun K' hK => h K' (fun a w hS hW => hK a w ⟨hS, hW hS⟩))
  · exact hs j hj
theorem wpAnyU_ready {rs : List Nat} {fuel : Nat} {listed : Array Bool} {a : Act} {w : World} (hr : Region.ready md ops listed = rs) (hne : rs ≠ [])
    (h : AllReadyU P md ops Q S st fuel listed a w rs) : wpAnyU P md ops Q S st (fuel + 1) listed a w := ⟨fun h0 => absurd (hr ▸ h0) hne, hr ▸ h⟩
theorem wpAnyU_done {listed : Array Bool} {a : Act} {w : World} (hr : Region.ready md ops listed = []) (h : Q .normal a w) :
    ∀ fuel, wpAnyU P md ops Q S st fuel listed a w
  | 0 => ⟨hr, h⟩
  | _ + 1 => ⟨fun _ => h, by rw [hr]; simp⟩
theorem wp_region_U {id : Nat} {a : Act} {w : World} (st : Nat) (hm : P.follows .mixedOrders = true) (hS : S w.drew)
    (h : S w.drew → wpAnyU P .any ops Q S st ops.size (Array.replicate ops.size false) a w.drew) : (Code.region id ops true).wp P Q a w :=
  wp_region_any hm (wpAny_of_U _ _ _ _ (h hS))
end
end Go.Proofs.YtjlhnhkjgcbnnaaGreat.Sha

/-
  The landed journal: Append.
-/





namespace Go.Proofs.YtjlhnhkjgcbnnaaGreat.Journal
open Go.RowKit Go.Proofs.YtjlhnhkjgcbnnaaGreat.Sha Go.Proofs.YtjlhnhkjgcbnnaaGreat.Disk Go.Proofs.YtjlhnhkjgcbnnaaGreat.Frame

/-- what of a journal's cells is read -/
theorem sy_cells {w : World} {H : List Nat} {t d j n : Nat} {s : DS} {v : JV} (h : Sy Cj w H t d j n s v) : ∃ Ar cr rm, w.cell? ⟨j, 2, none⟩ = some (.int .i64 ((v.half * (n / 2) : Nat) : Int)) ∧ w.cell? ⟨j, 3, none⟩ = some (.int .i64 v.gen) ∧ w.cell? ⟨j, 6, none⟩ = some (.slice Ar v.recs.length cr) ∧ w.cell? ⟨j, 7, none⟩ = some (.int .i64 ((rm : Nat) : Int)) ∧
    COk n v ∧ rm ≤ n / 2 ∧ (v.dead = false → rm + v.pos = n / 2) ∧ j ∈ H ∧ WF n s ∧ w.cell? ⟨j, 1, none⟩ = some (.pointer (some ⟨d, 0, none⟩)) := by
  obtain ⟨F, G, h1, h2, ⟨A0, m, c0, vr, rm, K, k1, -, -, -, -, k6, -, -, rfl, k9, k10, k11⟩, -, -, -, rfl⟩ := h
  obtain ⟨Ar, cr, rfl⟩ := k6.shape
  exact ⟨Ar, cr, rm, k1.cell 2, k1.cell 3, k1.cell 6, k1.cell 7, k9, k10, k11, by simp, h2.1, k1.cell 1⟩
theorem csectors_sy {w : World} {H : List Nat} {t d j n : Nat} {s : DS} {v : JV} (h : Sy Cj w H t d j n s v) : Calls Tryz.prog 32 #[.pointer (some ⟨j, 0, none⟩)] w fun e w' => e = .returned (.int .i64 ((n / 2 : Nat) : Int)) ∧ w = w' := by
  obtain ⟨F, G, h1, h2, ⟨A0, m, c0, vr, rm, K, k1, -⟩, -⟩ := h
  exact csectors_j h2 (k1.cell 1)

/-- the journal's parts, where it stands -/
theorem cy_parts {w : World} {H : List Nat} {t d j n : Nat} {s : DS} {v : JV} (h : Sy Cj w H t d j n s v) : ∃ F K A m c vr rm, Tab w t ∧ Dk w F d n s ∧ Blk w j 87 (jc t d ((v.half * (n / 2) : Nat) : Int) v.gen v.has A m c vr ((rm : Nat) : Int) v.dead) ∧ m ≤ c ∧ c ≤ 9223372036854775807 ∧ Rd w A m v.pict ∧ In A m K ∧ Off A m vr.ownBlock.toList ∧ Og w 38 vr v.recs K ∧
    (∀ k ∈ K, k < w.heap.size) ∧ j ∉ K ∧ t ∉ F ∧ t ∉ j :: K ∧ Disj F (j :: K) ∧ H = t :: (F ++ j :: K) ∧ COk n v ∧ rm ≤ n / 2 ∧ (v.dead = false → rm + v.pos = n / 2) := by
  obtain ⟨F, G, h1, h2, ⟨A, m, c, vr, rm, K, k1, k2, k3, k4, k5, k6, k7, k8, rfl, k9, k10, k11⟩, h4, h5, h6, rfl⟩ := h
  exact ⟨F, K, A, m, c, vr, rm, h1, h2, k1, k2, k3, k4, k5.1, k5.2, k6, k7, k8, h4, h5, h6, rfl, k9, k10, k11⟩
/-- parts make a journal -/
theorem cy_mk {w0 w : World} {H F K : List Nat} {t d j n rm : Nat} {s : DS} {v : JV} {A : Option Addr} {m c : Nat} {vr : Value} (h1 : Tab w t) (h2 : Dk w F d n s) (k1 : Blk w j 87 (jc t d ((v.half * (n / 2) : Nat) : Int) v.gen v.has A m c vr ((rm : Nat) : Int) v.dead)) (k2 : m ≤ c) (k3 : c ≤ 9223372036854775807) (k4 : Rd w A m v.pict) (k5 : In A m K) (k5' : Off A m vr.ownBlock.toList) (k6 : Og w 38 vr v.recs K)
    (k7 : ∀ k ∈ K, k < w.heap.size) (k8 : j ∉ K) (h4 : t ∉ F) (h5 : t ∉ j :: K) (h6 : Disj F (j :: K)) (k9 : COk n v) (k10 : rm ≤ n / 2) (k11 : v.dead = false → rm + v.pos = n / 2) (fp : Fp H (t :: (F ++ j :: K)) w0 w) {e : Int} : ActPost Cj w0 H t d j n (e, s, v) (.returned (.int .i64 e)) w :=
  ⟨rfl, t :: (F ++ j :: K), ⟨F, j :: K, h1, h2, ⟨A, m, c, vr, rm, K, k1, k2, k3, k4, ⟨k5, k5'⟩, k6, k7, k8, rfl, k9, k10, k11⟩, h4, h5, h6, rfl⟩, fp⟩
theorem set1_far {F : List Nat} {x : Nat} (h : x ∉ F) : Disj F [x] := fun k hk hm => by rw [List.mem_singleton] at hm; subst hm; exact h hk
theorem mem_con {k j : Nat} {K : List Nat} (h : k ∈ K) : k ∈ j :: K := List.mem_cons_of_mem _ h
/-- one more record, counted -/
theorem cy_more {w0 w : World} {H F K : List Nat} {t d j n : Nat} {s : DS} {v : JV} {A : Option Addr} {m c : Nat} {vr : Value} {L : List (List Int)} {rm0 : Int} (h1 : Tab w t) (h2 : Dk w F d n s) (k1 : Blk w j 87 (jc t d ((v.half * (n / 2) : Nat) : Int) v.gen v.has A m c vr rm0 v.dead)) (k2 : m ≤ c) (k3 : c ≤ 9223372036854775807) (k4 : Rd w A m v.pict) (k5 : In A m K) (k5' : Off A m vr.ownBlock.toList) (k6 : Og w 38 vr L K)
    (k7 : ∀ k ∈ K, k < w.heap.size) (k8 : j ∉ K) (h4 : t ∉ F) (h5 : t ∉ j :: K) (h6 : Disj F (j :: K)) (fp : Fp H (t :: (F ++ j :: K)) w0 w) (hjH : j ∈ H) (pos' rm' : Nat) (seq' : Int) (k9 : COk n { v with recs := L, pos := pos', seq := seq' }) (k10 : rm' ≤ n / 2) (k11 : v.dead = false → rm' + pos' = n / 2) :
    ActPost Cj w0 H t d j n (0, s, { v with recs := L, pos := pos', seq := seq' }) (.returned (.int .i64 0)) (w.setCell ⟨j, 7, none⟩ (.int .i64 (rm' : Nat))) := by
  have hb : Bar [j] w (w.setCell ⟨j, 7, none⟩ (.int .i64 (rm' : Nat))) := (Bar.refl [j] w).setCell (by simp) _
  have htj : t ≠ j := fun e => h5 (by simp [e])
  exact cy_mk (v := { v with recs := L, pos := pos', seq := seq' }) (ftab_bar h1 hb (by simpa using htj)) (h2.keep hb (set1_far (fun hm => h6 j hm (by simp)))) (k1.set_ 7 _) k2 k3 (k4.far hb (k5.off (set1_far k8))) k5 k5' (k6.keep hb (set1_far k8)) (fun k hk => Nat.lt_of_lt_of_le (k7 k hk) hb.size) k8 h4 h5 h6 k9 k10 k11
    ⟨fp.1.trans hb (fun k hk => by rw [List.mem_singleton] at hk; subst hk; exact .inl hjH), fp.2⟩

set_option maxRecDepth 100000 in
set_option maxHeartbeats 4000000 in
theorem cappend_j (api : FrameApi) {w : World} {H : List Nat} {t d j n : Nat} {s : DS} {v : JV} {A : Option Addr} {l c : Nat} {b : List Int} (sy : Sy Cj w H t d j n s v) (hr : Rd w A l b) (hO : Off A l H) (hc : l ≤ c) (hcm : c ≤ maxLen) (hl9 : l ≤ 100000) :
    Calls Tryz.prog 12 #[.pointer (some ⟨j, 0, none⟩), .slice A l c] w (ActPost Cj w H t d j n (appendJ s v b)) := by
  obtain ⟨N, hN⟩ : ∃ N, w.heap.size = N := ⟨_, rfl⟩
  obtain ⟨Ar, cr, rm, x2, x3, x6, x7, ok, hrm, hrp, hjH, hwf, -⟩ := sy_cells sy
  have hjN : j < N := by rw [← hN]; exact sy.lts cj_base j hjH
  have HLT : Kept (∀ k ∈ H, k < N) := ⟨fun k hk => by rw [← hN]; exact sy.lts cj_base k hk⟩
  have hn8 := hwf.n2
  obtain ⟨M, hM⟩ : ∃ M, n / 2 = M := ⟨_, rfl⟩
  have hM9 : M ≤ 4096 := by omega
  have hrl : v.recs.length ≤ 4096 := by have := ok.recs; have := ok.pos; omega
  have hseq := ok.seq
  have hW1 : IntKind.i64.wrap ((v.recs.length : Int) + 1) = v.seq := by simp only [IntKind.wrap_i64]; omega
  have AC := Kept.mk (append_code (b := b) hwf ok hrp)
  have OK := Kept.mk ok
  have HRP := Kept.mk hrp
  have hhb : v.half * M ≤ 4096 := by rcases ok.half with e | e <;> rw [e] <;> omega
  rw [hM] at x2 AC HRP hrm
  obtain ⟨hb, hhbe⟩ : ∃ hb, v.half * M = hb := ⟨_, rfl⟩
  rw [hhbe] at x2 AC hhb
  have SY := Kept.mk sy
  have HR := Kept.mk hr
  have HO := Kept.mk hO
  have HBE : Kept (v.half * M = hb ∧ n / 2 = M) := ⟨hhbe, hM⟩
  clear sy hr hO hwf ok hseq hrp hhbe hM
  go_enter Tryz.func12, Tryz.ntmps12
  go_upto_region 1 with (fail)
  have SY1 := Kept.mk (SY.out.keep cj_base (barOf (Below.refl w.heap.size w).drew []) (fun _ _ => by simp))
  have HR1 := Kept.mk HR.out.drew
  have hN1 : w.drew.heap.size = N := hN
  have B1 : Kept (Below w.heap.size w w.drew) := ⟨(Below.refl _ _).drew⟩
  have y3 : w.drew.cell? ⟨j, 3, none⟩ = some (.int .i64 v.gen) := x3
  have y6 : w.drew.cell? ⟨j, 6, none⟩ = some (.slice Ar v.recs.length cr) := x6
  have X27 := Kept.mk (And.intro x2 x7)
  clear x2 x3 x6 x7
  refine wp_region_noPanic ?_
  refine wp_region_held_drew (S := fun w' : World => w'.cell? ⟨j, 3, none⟩ = some (.int .i64 v.gen) ∧ w'.cell? ⟨j, 6, none⟩ = some (.slice Ar v.recs.length cr)) (by kernel_rfl) ⟨y3, y6⟩ (fun hHeld => ?_)
  generalize w.drew = w1 at *
  refine wpAnyH_take (i := 0) (oi := ?o36) (v := ?v36) ?hi36 (by kernel_rfl) (by kernel_rfl) (by kernel_rfl) ?hq36 (Or.inl ⟨?hw36, ?hy36⟩) (by assumption) ?r36
  case hi36 => (simp only [List.getElem?_toArray, List.getElem?_cons_zero]; exact rfl)
  case hq36 => exact fun _ _ _ h => h
  case hw36 => rfl
  case hy36 => (intro w hSw; (try dsimp only at hSw); go_simp; try exact rfl)
  simp only [Act.put, List.setIfInBounds_toArray, List.set_cons_zero, List.set_cons_succ]
  refine wpAnyH_take (i := 1) (oi := ?o37) (v := ?v37) ?hi37 (by kernel_rfl) (by kernel_rfl) (by kernel_rfl) ?hq37 (Or.inl ⟨?hw37, ?hy37⟩) (by assumption) ?r37
  case hi37 => (simp only [List.getElem?_toArray, List.getElem?_cons_succ, List.getElem?_cons_zero]; exact rfl)
  case hq37 => exact fun _ _ _ h => h
  case hw37 => rfl
  case hy37 => (intro w hSw; (try dsimp only at hSw); go_simp; try exact rfl)
  simp only [Act.put, List.setIfInBounds_toArray, List.set_cons_zero, List.set_cons_succ]
  refine wpAnyH_take (i := 2) (oi := ?o38) (v := ?v38) ?hi38 (by kernel_rfl) (by kernel_rfl) (by kernel_rfl) ?hq38 (Or.inl ⟨?hw38, ?hy38⟩) (by assumption) ?r38
  case hi38 => (simp only [List.getElem?_toArray, List.getElem?_cons_succ, List.getElem?_cons_zero]; exact rfl)
  case hq38 => exact fun _ _ _ h => h
  case hw38 => rfl
  case hy38 => (intro w hSw; (try dsimp only at hSw); go_simp; try exact rfl)
  simp only [Act.put, List.setIfInBounds_toArray, List.set_cons_zero, List.set_cons_succ]
  refine wpAnyH_take (i := 3) (oi := ?o39) (v := ?v39) ?hi39 (by kernel_rfl) (by kernel_rfl) (by kernel_rfl) ?hq39 (Or.inl ⟨?hw39, ?hy39⟩) (by assumption) ?r39
  case hi39 => (simp only [List.getElem?_toArray, List.getElem?_cons_succ, List.getElem?_cons_zero]; exact rfl)
  case hq39 => exact fun _ _ _ h => h
  case hw39 => rfl
  case hy39 => (intro w hSw; (try dsimp only at hSw); go_simp; try exact rfl)
  simp only [Act.put, List.setIfInBounds_toArray, List.set_cons_zero, List.set_cons_succ]
  refine wpAnyH_take (i := 4) (oi := ?o40) (v := ?v40) ?hi40 (by kernel_rfl) (by kernel_rfl) (by kernel_rfl) ?hq40 (Or.inl ⟨?hw40, ?hy40⟩) (by assumption) ?r40
  case hi40 => (simp only [List.getElem?_toArray, List.getElem?_cons_succ, List.getElem?_cons_zero]; exact rfl)
  case hq40 => exact fun _ _ _ h => h
  case hw40 => rfl
  case hy40 => (intro w hSw; (try dsimp only at hSw); go_simp; try exact rfl)
  simp only [Act.put, List.setIfInBounds_toArray, List.set_cons_zero, List.set_cons_succ]
  refine wpAnyH_take (i := 5) (oi := ?o41) (v := ?v41) ?hi41 (by kernel_rfl) (by kernel_rfl) (by kernel_rfl) ?hq41 (Or.inl ⟨?hw41, ?hy41⟩) (by assumption) ?r41
  case hi41 => (simp only [List.getElem?_toArray, List.getElem?_cons_succ, List.getElem?_cons_zero]; exact rfl)
  case hq41 => exact fun _ _ _ h => h
  case hw41 => rfl
  case hy41 => (intro w hSw; (try dsimp only at hSw); go_simp; try exact rfl)
  simp only [Act.put, List.setIfInBounds_toArray, List.set_cons_zero, List.set_cons_succ]
  refine wpAnyH_take (i := 6) (oi := ?o42) (v := ?v42) ?hi42 (by kernel_rfl) (by kernel_rfl) (by kernel_rfl) ?hq42 (Or.inl ⟨?hw42, ?hy42⟩) (by assumption) ?r42
  case hi42 => (simp only [List.getElem?_toArray, List.getElem?_cons_succ, List.getElem?_cons_zero]; exact rfl)
  case hq42 => exact fun _ _ _ h => h
  case hw42 => rfl
  case hy42 => (intro w hSw; (try dsimp only at hSw); go_simp; try exact rfl)
  simp only [Act.put, List.setIfInBounds_toArray, List.set_cons_zero, List.set_cons_succ]
  refine wpAnyH_take (i := 7) (oi := ?o43) (v := ?v43) ?hi43 (by kernel_rfl) (by kernel_rfl) (by kernel_rfl) ?hq43 (Or.inl ⟨?hw43, ?hy43⟩) (by assumption) ?r43
  case hi43 => (simp only [List.getElem?_toArray, List.getElem?_cons_succ, List.getElem?_cons_zero]; exact rfl)
  case hq43 => exact fun _ _ _ h => h
  case hw43 => rfl
  case hy43 => (intro w hSw; (try dsimp only at hSw); go_simp; try exact rfl)
  simp only [Act.put, List.setIfInBounds_toArray, List.set_cons_zero, List.set_cons_succ]
  refine wpAnyH_take (i := 8) (oi := ?o44) (v := ?v44) ?hi44 (by kernel_rfl) (by kernel_rfl) (by kernel_rfl) ?hq44 (Or.inl ⟨?hw44, ?hy44⟩) (by assumption) ?r44
  case hi44 => (simp only [List.getElem?_toArray, List.getElem?_cons_succ, List.getElem?_cons_zero]; exact rfl)
  case hq44 => exact fun _ _ _ h => h
  case hw44 => rfl
  case hy44 => (intro w hSw; (try dsimp only at hSw); go_simp; try exact rfl)
  simp only [Act.put, List.setIfInBounds_toArray, List.set_cons_zero, List.set_cons_succ]
  refine wpAnyH_take (i := 9) (oi := ?o45) (v := ?v45) ?hi45 (by kernel_rfl) (by kernel_rfl) (by kernel_rfl) ?hq45 (Or.inl ⟨?hw45, ?hy45⟩) (by assumption) ?r45
  case hi45 => (simp only [List.getElem?_toArray, List.getElem?_cons_succ, List.getElem?_cons_zero]; exact rfl)
  case hq45 => exact fun _ _ _ h => h
  case hw45 => rfl
  case hy45 => (intro w hSw; (try dsimp only at hSw); go_simp; try exact rfl)
  simp only [Act.put, List.setIfInBounds_toArray, List.set_cons_zero, List.set_cons_succ]
  refine wpAnyH_take (i := 10) (oi := ?o46) (v := ?v46) ?hi46 (by kernel_rfl) (by kernel_rfl) (by kernel_rfl) ?hq46 (Or.inl ⟨?hw46, ?hy46⟩) (by assumption) ?r46
  case hi46 => (simp only [List.getElem?_toArray, List.getElem?_cons_succ, List.getElem?_cons_zero]; exact rfl)
  case hq46 => exact fun _ _ _ h => h
  case hw46 => rfl
  case hy46 => (intro w hSw; (try dsimp only at hSw); go_simp; try exact rfl)
  simp only [Act.put, List.setIfInBounds_toArray, List.set_cons_zero, List.set_cons_succ]
  refine wpAnyH_take (i := 11) (oi := ?o47) (v := ?v47) ?hi47 (by kernel_rfl) (by kernel_rfl) (by kernel_rfl) ?hq47 (Or.inl ⟨?hw47, ?hy47⟩) (by assumption) ?r47
  case hi47 => (simp only [List.getElem?_toArray, List.getElem?_cons_succ, List.getElem?_cons_zero]; exact rfl)
  case hq47 => exact fun _ _ _ h => h
  case hw47 => rfl
  case hy47 => (intro w hSw; (try dsimp only at hSw); go_simp; try exact rfl)
  simp only [Act.put, List.setIfInBounds_toArray, List.set_cons_zero, List.set_cons_succ]
  refine wpAnyH_take (i := 12) (oi := ?o48) (v := ?v48) ?hi48 (by kernel_rfl) (by kernel_rfl) (by kernel_rfl) ?hq48 (Or.inl ⟨?hw48, ?hy48⟩) (by assumption) ?r48
  case hi48 => (simp only [List.getElem?_toArray, List.getElem?_cons_succ, List.getElem?_cons_zero]; exact rfl)
  case hq48 => exact fun _ _ _ h => h
  case hw48 => rfl
  case hy48 => (intro w hSw; (try dsimp only at hSw); go_simp; try exact rfl)
  simp only [Act.put, List.setIfInBounds_toArray, List.set_cons_zero, List.set_cons_succ]
  refine wpAnyH_take (i := 13) (oi := ?o49) (v := ?v49) ?hi49 (by kernel_rfl) (by kernel_rfl) (by kernel_rfl) ?hq49 (Or.inl ⟨?hw49, ?hy49⟩) (by assumption) ?r49
  case hi49 => (simp only [List.getElem?_toArray, List.getElem?_cons_succ, List.getElem?_cons_zero]; exact rfl)
  case hq49 => exact fun _ _ _ h => h
  case hw49 => rfl
  case hy49 => (intro w hSw; (try dsimp only at hSw); go_simp; try exact rfl)
  simp only [Act.put, List.setIfInBounds_toArray, List.set_cons_zero, List.set_cons_succ]
  refine wpAnyH_ready (rs := [14]) (by kernel_rfl) (by simp) ?_
  refine AllReadyH.cons (o := ?o81) ?hi81 (fun K hK => ?_) AllReadyH.nil
  case hi81 => (simp only [List.getElem?_toArray, List.getElem?_cons_succ, List.getElem?_cons_zero]; exact rfl)
  go_simp
  have ba : Below w1.heap.size w1 (w1.alloc (.cells #[.int .i64 0, .int .i64 0, .int .i64 0, .slice none 0 0] 56)) := (Below.refl _ _).alloc (Nat.le_refl _) _
  have FB := Blk.new_at w1 56 #[.int .i64 0, .int .i64 0, .int .i64 0, .slice none 0 0] N hN1.symm
  have SY2 := Kept.mk (SY1.out.keep cj_base (barOf ba []) (fun _ _ => by simp))
  have HR2 := Kept.mk (HR1.out.below ba)
  have B2 := Kept.mk (B1.out.trans (ba.mono (by rw [hN1, ← hN]; exact Nat.le_refl _)))
  have z3 : (w1.alloc (.cells #[.int .i64 0, .int .i64 0, .int .i64 0, .slice none 0 0] 56)).cell? ⟨j, 3, none⟩ = some (.int .i64 v.gen) := (ba.cell (p := ⟨j, 3, none⟩) (by rw [hN1]; exact hjN)).trans y3
  have z6 : (w1.alloc (.cells #[.int .i64 0, .int .i64 0, .int .i64 0, .slice none 0 0] 56)).cell? ⟨j, 6, none⟩ = some (.slice Ar v.recs.length cr) := (ba.cell (p := ⟨j, 6, none⟩) (by rw [hN1]; exact hjN)).trans y6
  refine hK.out _ _ ⟨z3, z6⟩ (fun _ => ?_)
  clear hK K SY1 HR1 B1 ba hHeld y3 y6
  try simp only [Act.put, List.setIfInBounds_toArray, List.set_cons_zero, List.set_cons_succ]
  generalize (w1.alloc (.cells #[.int .i64 0, .int .i64 0, .int .i64 0, .slice none 0 0] 56)) = w2 at *
  have P4 := put4 FB (.int .i64 2) (.int .i64 v.gen) (.int .i64 v.seq) (.slice A l c)
  have f0 := FB.cell 0; have f1 := FB.cell 1; have f2 := FB.cell 2; have f3 := FB.cell 3
  have g0 := FB.frozen 0; have g1 := FB.frozen 1; have g2 := FB.frozen 2; have g3 := FB.frozen 3
  refine wpAnyH_ready (rs := [15]) (by kernel_rfl) (by simp) ?_
  refine AllReadyH.cons (o := ?o82) ?hi82 (fun K hK => ?_) AllReadyH.nil
  case hi82 => (simp only [List.getElem?_toArray, List.getElem?_cons_succ, List.getElem?_cons_zero]; exact rfl)
  go_simp
  have dN : Disj H [N] := fun k hk hm => by rw [List.mem_singleton] at hm; have := HLT.out k hk; omega
  have SY3 := Kept.mk (SY2.out.keep cj_base P4.2 dN)
  have oN : Off A l [N] := HR.out.off (fun k hk => by rw [List.mem_singleton] at hk; omega)
  have HR3 := Kept.mk (HR2.out.far P4.2 oN)
  have B3 := Kept.mk (B2.out.trans (P4.2.below (by have := B2.out.size; omega) (fun k hk => by rw [List.mem_singleton] at hk; omega)))
  have FB3 := Kept.mk P4.1
  have z3' := (World.cell?_of_block (a := ⟨j, 3, none⟩) (P4.2.block j (by have := B2.out.size; omega) (by simp; omega))).trans z3
  have z6' := (World.cell?_of_block (a := ⟨j, 6, none⟩) (P4.2.block j (by have := B2.out.size; omega) (by simp; omega))).trans z6
  refine hK.out _ _ ⟨z3', z6'⟩ (fun _ => ?_)
  clear hK K SY2 HR2 B2 FB P4 dN oN z3 z6 z3' z6' f0 f1 f2 f3 g0 g1 g2 g3
  try simp only [Act.put]
  refine wpAnyH_done (by kernel_rfl) ?_ _
  refine NoPanic.normal ?_
  generalize ((((w2.setCell ⟨N, 0, none⟩ (.int .i64 2)).setCell ⟨N, 1, none⟩ (.int .i64 v.gen)).setCell ⟨N, 2, none⟩ (.int .i64 v.seq)).setCell ⟨N, 3, none⟩ (.slice A l c)) = w3 at *
  have x7 : w3.cell? ⟨j, 7, none⟩ = some (.int .i64 (rm : Nat)) := (B3.out.cell (p := ⟨j, 7, none⟩) (by rw [hN]; exact hjN)).trans X27.out.2
  go_upto_region 3 with (fail)
  clear x7
  have SY4 := Kept.mk (SY3.out.keep cj_base (barOf (Below.refl w3.heap.size w3).drew []) (fun _ _ => by simp))
  have HR4 := Kept.mk HR3.out.drew
  have B4 := Kept.mk B3.out.drew
  have FB4 := Kept.mk FB3.out.drew
  have x2 : w3.drew.cell? ⟨j, 2, none⟩ = some (.int .i64 (hb : Nat)) := (B4.out.cell (p := ⟨j, 2, none⟩) (by rw [hN]; exact hjN)).trans X27.out.1
  have W1 : IntKind.i64.wrap ((hb : Int) + (M : Int)) = ((hb + M : Nat) : Int) := by simp only [IntKind.wrap_i64]; omega
  have W2 : IntKind.i64.wrap ((hb : Int) + (M : Int) - (rm : Int)) = ((hb + M - rm : Nat) : Int) := by simp only [IntKind.wrap_i64]; omega
  clear SY3 HR3 B3 FB3 X27
  refine wp_region_noPanic ?_
  refine wp_region_held_drew (S := fun w' : World => w'.cell? ⟨N, 0, none⟩ = some (.int .i64 2) ∧ w'.cell? ⟨N, 1, none⟩ = some (.int .i64 v.gen) ∧ w'.cell? ⟨N, 2, none⟩ = some (.int .i64 v.seq) ∧ w'.cell? ⟨N, 3, none⟩ = some (.slice A l c) ∧ w'.cell? ⟨j, 2, none⟩ = some (.int .i64 (hb : Nat))) (by kernel_rfl) ⟨FB4.out.cell 0, FB4.out.cell 1, FB4.out.cell 2, FB4.out.cell 3, x2⟩ (fun hHeld => ?_)
  generalize w3.drew = w4 at *
  have CS := Kept.mk (csectors_sy SY4.out)
  rw [HBE.out.2] at CS
  refine wpAnyH_take (i := 0) (oi := ?o50) (v := ?v50) ?hi50 (by kernel_rfl) (by kernel_rfl) (by kernel_rfl) ?hq50 (Or.inl ⟨?hw50, ?hy50⟩) (by assumption) ?r50
  case hi50 => (simp only [List.getElem?_toArray, List.getElem?_cons_zero]; exact rfl)
  case hq50 => exact fun _ _ _ h => h
  case hw50 => rfl
  case hy50 => (intro w hSw; (try dsimp only at hSw); go_simp; try exact rfl)
  simp only [Act.put, List.setIfInBounds_toArray, List.set_cons_zero, List.set_cons_succ]
  refine wpAnyH_take (i := 1) (oi := ?o51) (v := ?v51) ?hi51 (by kernel_rfl) (by kernel_rfl) (by kernel_rfl) ?hq51 (Or.inl ⟨?hw51, ?hy51⟩) (by assumption) ?r51
  case hi51 => (simp only [List.getElem?_toArray, List.getElem?_cons_succ, List.getElem?_cons_zero]; exact rfl)
  case hq51 => exact fun _ _ _ h => h
  case hw51 => rfl
  case hy51 => (intro w hSw; (try dsimp only at hSw); go_simp; try exact rfl)
  simp only [Act.put, List.setIfInBounds_toArray, List.set_cons_zero, List.set_cons_succ]
  refine wpAnyH_take (i := 2) (oi := ?o52) (v := ?v52) ?hi52 (by kernel_rfl) (by kernel_rfl) (by kernel_rfl) ?hq52 (Or.inl ⟨?hw52, ?hy52⟩) (by assumption) ?r52
  case hi52 => (simp only [List.getElem?_toArray, List.getElem?_cons_succ, List.getElem?_cons_zero]; exact rfl)
  case hq52 => exact fun _ _ _ h => h
  case hw52 => rfl
  case hy52 => (intro w hSw; (try dsimp only at hSw); go_simp; try exact rfl)
  simp only [Act.put, List.setIfInBounds_toArray, List.set_cons_zero, List.set_cons_succ]
  refine wpAnyH_take (i := 3) (oi := ?o53) (v := ?v53) ?hi53 (by kernel_rfl) (by kernel_rfl) (by kernel_rfl) ?hq53 (Or.inl ⟨?hw53, ?hy53⟩) (by assumption) ?r53
  case hi53 => (simp only [List.getElem?_toArray, List.getElem?_cons_succ, List.getElem?_cons_zero]; exact rfl)
  case hq53 => exact fun _ _ _ h => h
  case hw53 => rfl
  case hy53 => (intro w hSw; (try dsimp only at hSw); go_simp; try exact rfl)
  simp only [Act.put, List.setIfInBounds_toArray, List.set_cons_zero, List.set_cons_succ]
  refine wpAnyH_take (i := 4) (oi := ?o54) (v := ?v54) ?hi54 (by kernel_rfl) (by kernel_rfl) (by kernel_rfl) ?hq54 (Or.inl ⟨?hw54, ?hy54⟩) (by assumption) ?r54
  case hi54 => (simp only [List.getElem?_toArray, List.getElem?_cons_succ, List.getElem?_cons_zero]; exact rfl)
  case hq54 => exact fun _ _ _ h => h
  case hw54 => rfl
  case hy54 => (intro w hSw; (try dsimp only at hSw); go_simp; try exact rfl)
  simp only [Act.put, List.setIfInBounds_toArray, List.set_cons_zero, List.set_cons_succ]
  refine wpAnyH_take (i := 5) (oi := ?o55) (v := ?v55) ?hi55 (by kernel_rfl) (by kernel_rfl) (by kernel_rfl) ?hq55 (Or.inl ⟨?hw55, ?hy55⟩) (by assumption) ?r55
  case hi55 => (simp only [List.getElem?_toArray, List.getElem?_cons_succ, List.getElem?_cons_zero]; exact rfl)
  case hq55 => exact fun _ _ _ h => h
  case hw55 => rfl
  case hy55 => (intro w hSw; (try dsimp only at hSw); go_simp; try exact rfl)
  simp only [Act.put, List.setIfInBounds_toArray, List.set_cons_zero, List.set_cons_succ]
  refine wpAnyH_take (i := 6) (oi := ?o56) (v := ?v56) ?hi56 (by kernel_rfl) (by kernel_rfl) (by kernel_rfl) ?hq56 (Or.inl ⟨?hw56, ?hy56⟩) (by assumption) ?r56
  case hi56 => (simp only [List.getElem?_toArray, List.getElem?_cons_succ, List.getElem?_cons_zero]; exact rfl)
  case hq56 => exact fun _ _ _ h => h
  case hw56 => rfl
  case hy56 => (intro w hSw; (try dsimp only at hSw); go_simp; try exact rfl)
  simp only [Act.put, List.setIfInBounds_toArray, List.set_cons_zero, List.set_cons_succ]
  refine wpAnyH_take (i := 7) (oi := ?o57) (v := ?v57) ?hi57 (by kernel_rfl) (by kernel_rfl) (by kernel_rfl) ?hq57 (Or.inl ⟨?hw57, ?hy57⟩) (by assumption) ?r57
  case hi57 => (simp only [List.getElem?_toArray, List.getElem?_cons_succ, List.getElem?_cons_zero]; exact rfl)
  case hq57 => exact fun _ _ _ h => h
  case hw57 => rfl
  case hy57 => (intro w hSw; (try dsimp only at hSw); go_simp; try exact rfl)
  simp only [Act.put, List.setIfInBounds_toArray, List.set_cons_zero, List.set_cons_succ]
  refine wpAnyH_take (i := 10) (oi := ?o58) (v := ?v58) ?hi58 (by kernel_rfl) (by kernel_rfl) (by kernel_rfl) ?hq58 (Or.inl ⟨?hw58, ?hy58⟩) (by assumption) ?r58
  case hi58 => (simp only [List.getElem?_toArray, List.getElem?_cons_succ, List.getElem?_cons_zero]; exact rfl)
  case hq58 => exact fun _ _ _ h => h
  case hw58 => rfl
  case hy58 => (intro w hSw; (try dsimp only at hSw); go_simp; try exact rfl)
  simp only [Act.put, List.setIfInBounds_toArray, List.set_cons_zero, List.set_cons_succ]
  refine wpAnyH_take (i := 12) (oi := ?o59) (v := ?v59) ?hi59 (by kernel_rfl) (by kernel_rfl) (by kernel_rfl) ?hq59 (Or.inl ⟨?hw59, ?hy59⟩) (by assumption) ?r59
  case hi59 => (simp only [List.getElem?_toArray, List.getElem?_cons_succ, List.getElem?_cons_zero]; exact rfl)
  case hq59 => exact fun _ _ _ h => h
  case hw59 => rfl
  case hy59 => (intro w hSw; (try dsimp only at hSw); go_simp; try exact rfl)
  simp only [Act.put, List.setIfInBounds_toArray, List.set_cons_zero, List.set_cons_succ]
  refine wpAnyH_ready (rs := [8]) (by kernel_rfl) (by simp) ?_
  refine AllReadyH.cons (o := ?o83) ?hi83 (fun K hK => ?_) AllReadyH.nil
  case hi83 => (simp only [List.getElem?_toArray, List.getElem?_cons_succ, List.getElem?_cons_zero]; exact rfl)
  go_simp
  go_at_call 32
  refine CS.out.mono ?_
  rintro e w' ⟨rfl, rfl⟩
  refine hK.out _ _ hHeld (fun _ => ?_)
  clear hK K CS
  try simp only [Act.put, List.setIfInBounds_toArray, List.set_cons_zero, List.set_cons_succ]
  refine wpAnyH_take (i := 9) (oi := ?o60) (v := ?v60) ?hi60 (by kernel_rfl) (by kernel_rfl) (by kernel_rfl) ?hq60 (Or.inl ⟨?hw60, ?hy60⟩) (by assumption) ?r60
  case hi60 => (simp only [List.getElem?_toArray, List.getElem?_cons_succ, List.getElem?_cons_zero]; exact rfl)
  case hq60 => exact fun _ _ _ h => h
  case hw60 => rfl
  case hy60 => (intro w hSw; (try dsimp only at hSw); go_simp; try exact rfl)
  simp only [Act.put, List.setIfInBounds_toArray, List.set_cons_zero, List.set_cons_succ]
  refine wpAnyH_take (i := 11) (oi := ?o61) (v := ?v61) ?hi61 (by kernel_rfl) (by kernel_rfl) (by kernel_rfl) ?hq61 (Or.inl ⟨?hw61, ?hy61⟩) (by assumption) ?r61
  case hi61 => (simp only [List.getElem?_toArray, List.getElem?_cons_succ, List.getElem?_cons_zero]; exact rfl)
  case hq61 => exact fun _ _ _ h => h
  case hw61 => rfl
  case hy61 => (intro w hSw; (try dsimp only at hSw); go_simp; try exact rfl)
  simp only [Act.put, List.setIfInBounds_toArray, List.set_cons_zero, List.set_cons_succ]
  refine wpAnyH_ready (rs := [13]) (by kernel_rfl) (by simp) ?_
  refine AllReadyH.cons (o := ?o84) ?hi84 (fun K hK => ?_) AllReadyH.nil
  case hi84 => (simp only [List.getElem?_toArray, List.getElem?_cons_succ, List.getElem?_cons_zero]; exact rfl)
  go_simp
  go_at_call 38
  refine (lay_sy api (f := recF v b) (hb + M - rm) rm SY4.out HR4.out HO.out hc hcm hl9 (by omega) (by omega)).mono ?_
  rintro e w5 ⟨rfl, H', sy5, fp5⟩
  have hN5 : N ∉ H := fun hm => by have := HLT.out N hm; omega
  have FB5 := FB4.out.bar fp5.1 hN5
  have y2 : w5.cell? ⟨j, 2, none⟩ = some (.int .i64 ((v.half * (n / 2) : Nat) : Int)) := (sy_cells sy5).choose_spec.choose_spec.choose_spec.1
  rw [HBE.out.2, HBE.out.1] at y2
  refine hK.out _ _ ⟨FB5.cell 0, FB5.cell 1, FB5.cell 2, FB5.cell 3, y2⟩ (fun _ => ?_)
  have FP5 : Kept (Fp H H' w w5) := ⟨Fp.trans (⟨barOf B4.out _, fun _ h => .inl h⟩ : Fp H H w w4) fp5⟩
  have SY5 := Kept.mk sy5
  clear hK K hHeld SY4 HR4 B4 FB4 FB5 y2 sy5 fp5 x2 W1 W2
  try simp only [Act.put, List.setIfInBounds_toArray, List.set_cons_zero, List.set_cons_succ]
  refine wpAnyH_take (i := 14) (oi := ?o62) (v := ?v62) ?hi62 (by kernel_rfl) (by kernel_rfl) (by kernel_rfl) ?hq62 (Or.inl ⟨?hw62, ?hy62⟩) (by assumption) ?r62
  case hi62 => (simp only [List.getElem?_toArray, List.getElem?_cons_succ, List.getElem?_cons_zero]; exact rfl)
  case hq62 => exact fun _ _ _ h => h
  case hw62 => rfl
  case hy62 => (intro w hSw; (try dsimp only at hSw); go_simp; try exact rfl)
  simp only [Act.put, List.setIfInBounds_toArray, List.set_cons_zero, List.set_cons_succ]
  refine wpAnyH_take (i := 15) (oi := ?o63) (v := ?v63) ?hi63 (by kernel_rfl) (by kernel_rfl) (by kernel_rfl) ?hq63 (Or.inl ⟨?hw63, ?hy63⟩) (by assumption) ?r63
  case hi63 => (simp only [List.getElem?_toArray, List.getElem?_cons_succ, List.getElem?_cons_zero]; exact rfl)
  case hq63 => exact fun _ _ _ h => h
  case hw63 => rfl
  case hy63 => (intro w hSw; (try dsimp only at hSw); go_simp; try exact rfl)
  simp only [Act.put, List.setIfInBounds_toArray, List.set_cons_zero, List.set_cons_succ]
  refine wpAnyH_take (i := 16) (oi := ?o64) (v := ?v64) ?hi64 (by kernel_rfl) (by kernel_rfl) (by kernel_rfl) ?hq64 (Or.inl ⟨?hw64, ?hy64⟩) (by assumption) ?r64
  case hi64 => (simp only [List.getElem?_toArray, List.getElem?_cons_succ, List.getElem?_cons_zero]; exact rfl)
  case hq64 => exact fun _ _ _ h => h
  case hw64 => rfl
  case hy64 => (intro w hSw; (try dsimp only at hSw); go_simp; try exact rfl)
  simp only [Act.put, List.setIfInBounds_toArray, List.set_cons_zero, List.set_cons_succ]
  refine wpAnyH_take (i := 17) (oi := ?o65) (v := ?v65) ?hi65 (by kernel_rfl) (by kernel_rfl) (by kernel_rfl) ?hq65 (Or.inl ⟨?hw65, ?hy65⟩) (by assumption) ?r65
  case hi65 => (simp only [List.getElem?_toArray, List.getElem?_cons_succ, List.getElem?_cons_zero]; exact rfl)
  case hq65 => exact fun _ _ _ h => h
  case hw65 => rfl
  case hy65 => (intro w hSw; (try dsimp only at hSw); go_simp; try exact rfl)
  simp only [Act.put, List.setIfInBounds_toArray, List.set_cons_zero, List.set_cons_succ]
  refine wpAnyH_take (i := 18) (oi := ?o66) (v := ?v66) ?hi66 (by kernel_rfl) (by kernel_rfl) (by kernel_rfl) ?hq66 (Or.inl ⟨?hw66, ?hy66⟩) (by assumption) ?r66
  case hi66 => (simp only [List.getElem?_toArray, List.getElem?_cons_succ, List.getElem?_cons_zero]; exact rfl)
  case hq66 => exact fun _ _ _ h => h
  case hw66 => rfl
  case hy66 => (intro w hSw; (try dsimp only at hSw); go_simp; try exact rfl)
  simp only [Act.put, List.setIfInBounds_toArray, List.set_cons_zero, List.set_cons_succ]
  refine wpAnyH_done (by kernel_rfl) ?_ _
  refine NoPanic.normal ?_
  generalize layC s v.dead (recF v b) (hb + M - rm) rm = R at *
  obtain ⟨⟨lf, er⟩, s5, df⟩ := R
  simp only at AC SY5 ⊢
  by_cases h0 : er = 0
  · subst h0
    obtain ⟨hdv, hdf, hb6, hkr, hlf⟩ := AC.out.2 rfl
    subst hdf hlf
    have AC1 : Kept (appendJ s v b = (0, s5, { v with recs := v.recs ++ [b], pos := v.pos + kF b, seq := v.seq + 1 })) := ⟨by rw [AC.out.1]; unfold actA; rw [if_pos rfl]⟩
    have hv : { v with dead := false } = v := by rw [← hdv]
    rw [hv] at SY5
    have hpos := HRP.out hdv
    clear AC hv SY
    obtain ⟨F, KJ, A0, m0, c0, vr, rm0, t5, d5, j5, k2, k3, p5, k5, k5', o5, kl5, k8, ntF, ntK, dFK, rfl, k9, -, -⟩ := cy_parts SY5.out
    go_upto_region 6 with (fail)
    have fd : Below w5.heap.size w5 w5.drew := (Below.refl _ _).drew
    have T6 := ftab_bar t5 (barOf fd []) (by simp)
    have D6 := d5.keep (barOf fd []) (fun _ _ => by simp)
    have J6 := j5.below fd j5.lt
    have P6 := p5.below fd
    have O6 := o5.keep (barOf fd []) (fun _ _ => by simp)
    have KL6 : ∀ k ∈ KJ, k < w5.drew.heap.size := kl5
    have FP6 : Fp H (t :: (F ++ j :: KJ)) w w5.drew := ⟨FP5.out.1.trans (barOf fd []) (by simp), FP5.out.2⟩
    have RB6 : Rd w5.drew A l b := HR.out.far FP6.1 HO.out
    obtain ⟨Av, cv, hvr⟩ := O6.shape
    subst hvr
    have hvo : ∀ g ∈ (Value.slice Av v.recs.length cv).ownBlock.toList, g ∈ KJ := O6.choose_spec.2.1
    have FL6 : ∀ k ∈ t :: F, k < w5.drew.heap.size := fun k hk => by
      rcases List.mem_cons.1 hk with rfl | hk
      · exact ftab_lt T6
      · exact D6.lts k hk
    have szw6 : w.heap.size ≤ w5.drew.heap.size := FP6.1.size
    have hjl6 : j < w5.drew.heap.size := J6.lt
    clear t5 d5 j5 p5 o5 kl5 FP5 SY5 fd
    refine wp_region_noPanic ?_
    refine wp_region_U 13 (S := fun w' : World => w'.cell? ⟨j, 6, none⟩ = some (.slice Av v.recs.length cv)) (by kernel_rfl) (J6.cell 6) (fun hS0 => ?_)
    generalize w5.drew = w6 at *
    refine wpAnyU_take (i := 0) (oi := ?o67) (v := ?v67) ?hi67 (by kernel_rfl) (by kernel_rfl) (by kernel_rfl) (by kernel_rfl) ?hq67 (Or.inl ⟨?hw67, ?hy67⟩) (by assumption) ?r67
    case hi67 => (simp only [List.getElem?_toArray, List.getElem?_cons_zero]; exact rfl)
    case hq67 => exact fun _ _ _ h => h
    case hw67 => rfl
    case hy67 => (intro w hSw; (try dsimp only at hSw); go_simp; try exact rfl)
    simp only [Act.put, List.setIfInBounds_toArray, List.set_cons_zero, List.set_cons_succ]
    refine wpAnyU_take (i := 1) (oi := ?o68) (v := ?v68) ?hi68 (by kernel_rfl) (by kernel_rfl) (by kernel_rfl) (by kernel_rfl) ?hq68 (Or.inl ⟨?hw68, ?hy68⟩) (by assumption) ?r68
    case hi68 => (simp only [List.getElem?_toArray, List.getElem?_cons_succ, List.getElem?_cons_zero]; exact rfl)
    case hq68 => exact fun _ _ _ h => h
    case hw68 => rfl
    case hy68 => (intro w hSw; (try dsimp only at hSw); go_simp; try exact rfl)
    simp only [Act.put, List.setIfInBounds_toArray, List.set_cons_zero, List.set_cons_succ]
    refine wpAnyU_take (i := 2) (oi := ?o69) (v := ?v69) ?hi69 (by kernel_rfl) (by kernel_rfl) (by kernel_rfl) (by kernel_rfl) ?hq69 (Or.inl ⟨?hw69, ?hy69⟩) (by assumption) ?r69
    case hi69 => (simp only [List.getElem?_toArray, List.getElem?_cons_succ, List.getElem?_cons_zero]; exact rfl)
    case hq69 => exact fun _ _ _ h => h
    case hw69 => rfl
    case hy69 => (intro w hSw; (try dsimp only at hSw); go_simp; try exact rfl)
    simp only [Act.put, List.setIfInBounds_toArray, List.set_cons_zero, List.set_cons_succ]
    refine wpAnyU_take (i := 3) (oi := ?o70) (v := ?v70) ?hi70 (by kernel_rfl) (by kernel_rfl) (by kernel_rfl) (by kernel_rfl) ?hq70 (Or.inl ⟨?hw70, ?hy70⟩) (by assumption) ?r70
    case hi70 => (simp only [List.getElem?_toArray, List.getElem?_cons_succ, List.getElem?_cons_zero]; exact rfl)
    case hq70 => exact fun _ _ _ h => h
    case hw70 => rfl
    case hy70 => (intro w hSw; (try dsimp only at hSw); go_simp; try exact rfl)
    simp only [Act.put, List.setIfInBounds_toArray, List.set_cons_zero, List.set_cons_succ]
    refine wpAnyU_take (i := 4) (oi := ?o71) (v := ?v71) ?hi71 (by kernel_rfl) (by kernel_rfl) (by kernel_rfl) (by kernel_rfl) ?hq71 (Or.inl ⟨?hw71, ?hy71⟩) (by assumption) ?r71
    case hi71 => (simp only [List.getElem?_toArray, List.getElem?_cons_succ, List.getElem?_cons_zero]; exact rfl)
    case hq71 => exact fun _ _ _ h => h
    case hw71 => rfl
    case hy71 => (intro w hSw; (try dsimp only at hSw); go_simp; try exact rfl)
    simp only [Act.put, List.setIfInBounds_toArray, List.set_cons_zero, List.set_cons_succ]
    refine wpAnyU_take (i := 5) (oi := ?o72) (v := ?v72) ?hi72 (by kernel_rfl) (by kernel_rfl) (by kernel_rfl) (by kernel_rfl) ?hq72 (Or.inl ⟨?hw72, ?hy72⟩) (by assumption) ?r72
    case hi72 => (simp only [List.getElem?_toArray, List.getElem?_cons_succ, List.getElem?_cons_zero]; exact rfl)
    case hq72 => exact fun _ _ _ h => h
    case hw72 => rfl
    case hy72 => (intro w hSw; (try dsimp only at hSw); go_simp; try exact rfl)
    simp only [Act.put, List.setIfInBounds_toArray, List.set_cons_zero, List.set_cons_succ]
    refine wpAnyU_take (i := 6) (oi := ?o73) (v := ?v73) ?hi73 (by kernel_rfl) (by kernel_rfl) (by kernel_rfl) (by kernel_rfl) ?hq73 (Or.inl ⟨?hw73, ?hy73⟩) (by assumption) ?r73
    case hi73 => (simp only [List.getElem?_toArray, List.getElem?_cons_succ, List.getElem?_cons_zero]; exact rfl)
    case hq73 => exact fun _ _ _ h => h
    case hw73 => rfl
    case hy73 => (intro w hSw; (try dsimp only at hSw); go_simp; try exact rfl)
    simp only [Act.put, List.setIfInBounds_toArray, List.set_cons_zero, List.set_cons_succ]
    refine wpAnyU_ready (rs := [7]) (by kernel_rfl) (by simp) ?_
    refine AllReadyU.cons (o := ?o74) ?hi74 (fun K hK => ?_) AllReadyU.nil
    case hi74 => (simp only [List.getElem?_toArray, List.getElem?_cons_succ, List.getElem?_cons_zero]; exact rfl)
    go_simp
    go_at_call 39
    refine (clone_any A l c b w6 RB6 (by omega)).mono ?_
    rintro e w7 ⟨v2, rfl, own, bel⟩
    obtain ⟨A2, c2, rfl, q1, q2, q3⟩ := own_rd own RB6.2.1
    have K3L : ∀ k ∈ (Value.slice A2 l c2).ownBlock.toList, w6.heap.size ≤ k ∧ k < w7.heap.size := fun k hk => own.lt k (by simpa using hk)
    have IN3 : In A2 l (Value.slice A2 l c2).ownBlock.toList := in_own own
    generalize (Value.slice A2 l c2).ownBlock.toList = K3 at *
    have T7 := ftab_bar T6 (barOf bel []) (by simp)
    have D7 := D6.keep (barOf bel []) (fun _ _ => by simp); have J7 := J6.below bel J6.lt; have P7 := P6.below bel; have O7 := O6.keep (barOf bel []) (fun _ _ => by simp)
    have sz7 := bel.size
    have FP7 : Fp H (t :: (F ++ j :: KJ)) w w7 := ⟨FP6.1.trans (barOf bel []) (by simp), FP6.2⟩
    refine hK.out _ _ (fun _ => J7.cell 6) (fun _ => ?_)
    clear hK K T6 D6 J6 P6 O6 FP6 RB6 own bel hS0
    try simp only [Act.put, List.setIfInBounds_toArray, List.set_cons_zero, List.set_cons_succ]
    refine wpAnyU_ready (rs := [8]) (by kernel_rfl) (by simp) ?_
    refine AllReadyU.cons (o := ?o75) ?hi75 (fun K hK => ?_) AllReadyU.nil
    case hi75 => (simp only [List.getElem?_toArray, List.getElem?_cons_succ, List.getElem?_cons_zero]; exact rfl)
    go_simp
    have ba : Below w7.heap.size w7 (w7.alloc (.cells #[.slice A2 l c2] 38)) := (Below.refl _ _).alloc (Nat.le_refl _) _
    have cB : (w7.alloc (.cells #[.slice A2 l c2] 38)).cell? ⟨w7.heap.size, 0, none⟩ = some (.slice A2 l c2) := (Blk.new w7 38 #[.slice A2 l c2]).cell 0
    have T8 := ftab_bar T7 (barOf ba []) (by simp)
    have D8 := D7.keep (barOf ba []) (fun _ _ => by simp); have J8 := J7.below ba J7.lt; have P8 := P7.below ba; have O8 := O7.keep (barOf ba []) (fun _ _ => by simp); have R8 := q3.below ba
    have sz8 := ba.size
    have FP8 : Fp H (t :: (F ++ j :: KJ)) w (w7.alloc (.cells #[.slice A2 l c2] 38)) := ⟨FP7.1.trans (barOf ba []) (by simp), FP7.2⟩
    refine hK.out _ _ (fun _ => J8.cell 6) (fun _ => ?_)
    clear hK K T7 D7 J7 P7 O7 FP7 q3 ba
    try simp only [Act.put, List.setIfInBounds_toArray, List.set_cons_zero, List.set_cons_succ]
    generalize w7.alloc (.cells #[.slice A2 l c2] 38) = w8 at *
    generalize w7.heap.size = gB at *
    refine wpAnyU_ready (rs := [9]) (by kernel_rfl) (by simp) ?_
    refine AllReadyU.cons (o := ?o80) ?hi80 (fun K hK => ?_) AllReadyU.nil
    case hi80 => (simp only [List.getElem?_toArray, List.getElem?_cons_succ, List.getElem?_cons_zero]; exact rfl)
    have hog := O8.mono (G' := KJ ++ K3) (fun k hk => by simp [hk])
    have hvF : ∀ k ∈ F, k ∉ (Value.slice Av v.recs.length cv).ownBlock.toList := fun k hk hk2 => dFK k hk (mem_con (hvo k hk2))
    have hvT : t ∉ (Value.slice Av v.recs.length cv).ownBlock.toList := fun hk => ntK (mem_con (hvo t hk))
    have hvN : j ∉ (Value.slice Av v.recs.length cv).ownBlock.toList := fun hk => k8 (hvo j hk)
    have hin3 : Off A2 l (Value.slice Av v.recs.length cv).ownBlock.toList := IN3.off (fun k hk hk2 => by have := KL6 k (hvo k hk2); have := K3L k hk; omega)
    obtain ⟨v8, w9, hrun, og9, fp9⟩ := run_append_og (P := Tryz.prog) 57 57 38 Tryz.underlying57 info_row hog gB 1 A2 l c2 b cB R8 q1 (by omega) (IN3.mono (fun k hk => by simp [hk])) hin3 (by omega)
    refine step_append_run rfl (.tmp 53) (.tmp 56) 57 57 (by rfl) _ _ (by rfl) (by rfl) v8 w9 hrun ?_
    have T9 := ftab_bar T8 fp9.1 hvT
    have J9 := J8.bar fp9.1 hvN
    have D9 := D8.keep fp9.1 (fun k hk hk2 => hvF k hk hk2)
    have P9 := P8.far fp9.1 k5'
    have OF9 := k5'.step P8 fp9
    have V9 : ∀ k ∈ v8.ownBlock.toList, k ∈ (Value.slice Av v.recs.length cv).ownBlock.toList ∨ w8.heap.size ≤ k := fp9.2
    have V9L : ∀ k ∈ v8.ownBlock.toList, k < w9.heap.size := fun k hk => (og9.choose_spec.1.lt k (by simpa using hk)).2
    have sz9 := fp9.1.size
    have B89 := fp9.1
    obtain ⟨Av8, cv8, hv8⟩ := og9.shape
    rw [List.length_append, List.length_singleton] at hv8
    subst hv8
    refine hK.out _ _ (fun _ => J9.cell 6) (fun _ => ?_)
    clear hK K
    try simp only [Act.put, List.setIfInBounds_toArray, List.set_cons_zero, List.set_cons_succ]
    refine wpAnyU_ready (rs := [10]) (by kernel_rfl) (by simp) ?_
    refine AllReadyU.cons (o := ?o76) ?hi76 (fun K hK => ?_) AllReadyU.nil
    case hi76 => (simp only [List.getElem?_toArray, List.getElem?_cons_succ, List.getElem?_cons_zero]; exact rfl)
    go_simp
    refine hK.out _ _ (fun _ => J9.cell 6) (fun _ => ?_)
    clear hK K
    try simp only [Act.put, List.setIfInBounds_toArray, List.set_cons_zero, List.set_cons_succ]
    refine wpAnyU_ready (rs := [11]) (by kernel_rfl) (by simp) ?_
    refine AllReadyU.cons (o := ?o77) ?hi77 (fun K hK => ?_) AllReadyU.nil
    case hi77 => (simp only [List.getElem?_toArray, List.getElem?_cons_succ, List.getElem?_cons_zero]; exact rfl)
    go_simp
    refine hK.out _ _ (fun _ => J9.cell 6) (fun _ => ?_)
    clear hK K
    try simp only [Act.put, List.setIfInBounds_toArray, List.set_cons_zero, List.set_cons_succ]
    refine wpAnyU_ready (rs := [12]) (by kernel_rfl) (by simp) ?_
    refine AllReadyU.cons (o := ?o78) ?hi78 (fun K hK => ?_) AllReadyU.nil
    case hi78 => (simp only [List.getElem?_toArray, List.getElem?_cons_succ, List.getElem?_cons_zero]; exact rfl)
    go_simp
    refine hK.out _ _ (fun _ => J9.cell 6) (fun _ => ?_)
    clear hK K
    try simp only [Act.put, List.setIfInBounds_toArray, List.set_cons_zero, List.set_cons_succ]
    have y6 := J9.frozen 6
    have x6 := J9.cell 6
    refine wpAnyU_ready (rs := [13]) (by kernel_rfl) (by simp) ?_
    refine AllReadyU.cons (o := ?o79) ?hi79 (fun K hK => ?_) AllReadyU.nil
    case hi79 => (simp only [List.getElem?_toArray, List.getElem?_cons_succ, List.getElem?_cons_zero]; exact rfl)
    go_simp
    refine hK.out _ _ (fun h => absurd rfl h) (fun _ => ?_)
    clear hK K
    try simp only [Act.put]
    refine wpAnyU_done (by kernel_rfl) ?_ _
    refine NoPanic.normal ?_
    obtain ⟨K', hK'⟩ : ∃ K', (Value.slice Av8 (v.recs.length + 1) cv8).ownBlock.toList ++ (KJ ++ K3) = K' := ⟨_, rfl⟩
    have hKm : ∀ k ∈ K', k ∈ KJ ∨ (w6.heap.size ≤ k ∧ k < w9.heap.size ∧ ∀ q ∈ t :: F, q ≠ k) := fun k hk => by
      rw [← hK'] at hk
      rcases List.mem_append.1 hk with hk | hk
      · rcases V9 k hk with e | e
        · exact .inl (hvo k e)
        · exact .inr ⟨by omega, V9L k hk, fun q hq e2 => by have := FL6 q hq; omega⟩
      · rcases List.mem_append.1 hk with hk | hk
        · exact .inl hk
        · have := K3L k hk
          exact .inr ⟨this.1, by omega, fun q hq e2 => by have := FL6 q hq; omega⟩
    have nxK : j ∉ K' := fun hk => by
      rcases hKm j hk with e | e
      · exact k8 e
      · omega
    have dF2 : Disj F (j :: K') := fun k hk hk2 => by
      rcases List.mem_cons.1 hk2 with rfl | hk2
      · exact dFK k hk (by simp)
      · rcases hKm k hk2 with e | e
        · exact dFK k hk (mem_con e)
        · exact e.2.2 k (by simp [hk]) rfl
    have ntK2 : t ∉ j :: K' := fun hk2 => by
      rcases List.mem_cons.1 hk2 with e | hk2
      · exact ntK (by simp [e])
      · rcases hKm t hk2 with e | e
        · exact ntK (mem_con e)
        · exact e.2.2 t (by simp) rfl
    have KL9 : ∀ k ∈ K', k < w9.heap.size := fun k hk => by
      rcases hKm k hk with e | e
      · have := KL6 k e; omega
      · exact e.2.1
    have FP9 : Fp H (t :: (F ++ j :: K')) w w9 := ⟨FP8.1.trans B89 (fun k hk => by
        have h1 := FP8.2 k (by simp [hvo k hk])
        rcases h1 with h1 | h1
        · exact .inl h1
        · exact .inr h1), fun k hk => by
      simp only [List.mem_append, List.mem_cons] at hk
      rcases hk with hk | hk | hk | hk
      · exact FP8.2 k (by simp [hk])
      · exact FP8.2 k (by simp [hk])
      · exact FP8.2 k (by simp [hk])
      · rcases hKm k hk with e | e
        · exact FP8.2 k (by simp [e])
        · exact .inr (by omega)⟩
    have IN9 : In A0 m0 K' := k5.mono (fun k hk => by rw [← hK']; simp [hk])
    rw [hK'] at og9
    have hbr : Bar [j] w9 (w9.setCell ⟨j, 6, none⟩ (Value.slice Av8 (v.recs.length + 1) cv8)) := (Bar.refl _ _).setCell (by simp) _
    have T10 := ftab_bar T9 hbr (by intro hm; rw [List.mem_singleton] at hm; exact ntK (by simp [hm]))
    have D10 := D9.keep hbr (set1_far (fun hm => dFK j hm (by simp)))
    have J10 : Blk (w9.setCell ⟨j, 6, none⟩ (Value.slice Av8 (v.recs.length + 1) cv8)) j 87 (jc t d ((v.half * (n / 2) : Nat) : Int) v.gen v.has A0 m0 c0 (Value.slice Av8 (v.recs.length + 1) cv8) ((rm0 : Nat) : Int) v.dead) := J9.set_ 6 _
    have P10 := P9.far hbr (k5.off (set1_far k8))
    have O10 := og9.keep hbr (set1_far nxK)
    have KL10 : ∀ k ∈ K', k < (w9.setCell ⟨j, 6, none⟩ (Value.slice Av8 (v.recs.length + 1) cv8)).heap.size := fun k hk => Nat.lt_of_lt_of_le (KL9 k hk) hbr.size
    have FP10 : Fp H (t :: (F ++ j :: K')) w (w9.setCell ⟨j, 6, none⟩ (Value.slice Av8 (v.recs.length + 1) cv8)) := ⟨FP9.1.trans hbr (fun k hk => by rw [List.mem_singleton] at hk; subst hk; exact .inl hjH), FP9.2⟩
    have hv9 : COk n { v with recs := v.recs ++ [b], pos := v.pos + kF b, seq := v.seq + 1 } := by
      have h1 := OK.out
      have h2 := HBE.out.2
      have h3 := kF_pos b
      refine ⟨h1.half, h1.gen, ?_, ?_, ?_, h1.pict, ?_⟩
      · show v.seq + 1 = ((v.recs ++ [b]).length : Int) + 1
        rw [List.length_append, List.length_singleton, h1.seq]; omega
      · show v.pos + kF b ≤ n / 2; omega
      · show (v.recs ++ [b]).length ≤ v.pos + kF b
        rw [List.length_append, List.length_singleton]; have := h1.recs; omega
      · intro q hq
        rcases List.mem_append.1 hq with hq | hq
        · exact h1.bods q hq
        · rw [List.mem_singleton] at hq; subst hq; exact hb6
    obtain ⟨kb, hkb⟩ : ∃ q, kF b = q := ⟨_, rfl⟩
    rw [hkb] at AC1 hv9 hkr ⊢
    have he7 : (rm : Int) - (kb : Int) = ((rm - kb : Nat) : Int) := by omega
    have PG := Kept.mk (show ActPost Cj w H t d j n (appendJ s v b) (.returned (.int .i64 0)) ((w9.setCell ⟨j, 6, none⟩ (Value.slice Av8 (v.recs.length + 1) cv8)).setCell ⟨j, 7, none⟩ (.int .i64 ((rm : Int) - (kb : Int)))) from by
      rw [AC1.out, he7]
      exact cy_more (v := v) T10 D10 J10 k2 k3 P10 IN9 OF9 O10 KL10 nxK ntF ntK2 dF2 FP10 hjH _ (rm - kb) _ hv9 (by have := HBE.out.2; omega) (fun _ => by have := HBE.out.2; omega))
    have x7 := J10.cell 7
    have y7 := J10.frozen 7
    clear hKm hK' T8 D8 J8 P8 O8 R8 FP8 B89 hrun og9 V9 V9L J9 D9 P9 T9 FP9 KL9 hbr y6 x6 hog hin3 hvF hvN hvT hvo k5 k5' cB IN3 K3L KL6 FL6 T10 D10 J10 P10 O10 KL10 FP10 hv9 nxK ntK2 dF2 IN9 OF9 dFK ntK AC1 OK HRP HBE HR HO he7
    generalize w9.setCell ⟨j, 6, none⟩ (Value.slice Av8 (v.recs.length + 1) cv8) = w10 at *
    go_wp2
    go_ret
    exact PG.out
  · have PG := Kept.mk (show ActPost Cj w H t d j n (appendJ s v b) (.returned (.int .i64 er)) w5 from by
      rw [AC.out.1]; unfold actA; rw [if_neg h0]; exact ⟨rfl, H', SY5.out, FP5.out⟩)
    clear AC SY5 FP5 SY OK HRP HO HR HLT HBE
    go_wp2
    go_ret
    exact PG.out
end Go.Proofs.YtjlhnhkjgcbnnaaGreat.Journal
