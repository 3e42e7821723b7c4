/-
  Parts laid together: JournalRLay JournalRLay2 JournalRApp.
-/
import Derived.Test.YtkbehjdglgpgjaaGreatPart27
import Derived.Test.YtkbehjdglgpgjaaGreatPart19
import Derived.Lib.QuietBelow
import Derived.Test.YtkbehjdglgpgjaaGreatPart4
import Derived.StillTailTactics
import Derived.Test.YtkbehjdglgpgjaaGreatPart25

namespace Go.Proofs.YtkbehjdglgpgjaaGreat.Journal
open Go.RowKit Go.Proofs.YtkbehjdglgpgjaaGreat.Sha Go.Proofs.YtkbehjdglgpgjaaGreat.Disk Go.Proofs.YtkbehjdglgpgjaaGreat.Frame

set_option maxRecDepth 100000 in
set_option maxHeartbeats 1000000 in
theorem rroom_any {w : World} {F : List Nat} {x y n : Nat} {s : DS} {v : JV} {A : Option Addr} {m c : Nat} {vr : Value} (h : Dr w F y n s) (j : Blk w x 88 (rjc y v A m c vr)) (hv : VOk v) :
  Calls Tryz.prog 38 #[.pointer (some ⟨x, 0, none⟩)] w fun e w' => e = .returned (.int .i64 (roomJ s v)) ∧ Below w.heap.size w w' := by
 have hn8 := h.1.n2
 have hhn := wf_hn h.1
 have hq : Int.tdiv (n : Int) 2 = ((n / 2 : Nat) : Int) := by rw [Int.tdiv_eq_ediv_of_nonneg (by omega)]; omega
 obtain ⟨M, hM⟩ : ∃ M, n / 2 = M := ⟨_, rfl⟩
 have hM9 : M ≤ 4096 := by omega
 rw [hM] at hq hhn
 have hp := hv.pos
 have cL := Kept.mk fun w (h : Dr w F y n s) => rlen_any h
 have HD := Kept.mk h
 have x0 : w.cell? ⟨x, 0, none⟩ = some (.pointer (some ⟨y, 0, none⟩)) := j.cell 0
 have x6 : w.cell? ⟨x, 6, none⟩ = some (.int .i64 (v.pos : Nat)) := j.cell 6
 have W1 : IntKind.i64.wrap ((M : Int) - (v.pos : Int)) = (M : Int) - v.pos := by simp only [IntKind.wrap_i64]; omega
 have W0 : IntKind.i64.wrap (M : Int) = (M : Int) := by simp only [IntKind.wrap_i64]; omega
 have HR : Kept (roomJ s v = (M : Int) - v.pos) := ⟨by unfold roomJ; rw [hhn]⟩
 clear h j hv hM hn8 hhn
 go_enter Tryz.func38, Tryz.ntmps38
 go_wp2
 go_quiet ((first | (go_at_call 41; exact Calls.quiet_of_same (still_of (cL.out _ HD.out)))))
 go_wp2
 go_ret
 exact ⟨by rw [HR.out]; rfl, below_drewN (Below.refl _ _) _⟩
theorem wrap_in (n : Int) (h : -9223372036854775808 ≤ n ∧ n ≤ 9223372036854775807) : wrap64 n = n := by unfold wrap64; omega
theorem fp_cons {w w' : World} {F F' : List Nat} (x : Nat) (h : Fp F F' w w') : Fp (x :: F) (x :: F') w w' :=
 ⟨h.1.mono (fun k hk => .inl (by simp [hk])), fun k hk => by
  rcases List.mem_cons.1 hk with rfl | hk
  ·exact .inl (by simp)
  ·rcases h.2 k hk with e | e
   ·exact .inl (by simp [e])
   ·exact .inr e⟩
def LQ (w0 w : World) (F : List Nat) (x y n : Nat) (cs : Array Value) (A : Option Addr) (l : Nat) (b : List Int) (s : DS) : Prop :=
 ∃ F', Dr w F' y n s ∧ Blk w x 88 cs ∧ Fp F F' w0 w ∧ Rd w A l b ∧ Off A l (x :: F') ∧ x < w0.heap.size ∧ x ∉ F
theorem LQ.nx {w0 w : World} {F F' : List Nat} {x : Nat} (hf : Fp F F' w0 w) (hx : x < w0.heap.size) (hF : x ∉ F) : x ∉ F' := fun hk => by
 rcases hf.2 x hk with e | e
 ·exact hF e
 ·omega
theorem LQ.call {w0 w w' : World} {F F1 : List Nat} {x y n : Nat} {cs : Array Value} {A : Option Addr} {l : Nat} {b : List Int} {s' : DS} (hb : Blk w x 88 cs) (hf : Fp F F1 w0 w) (hr : Rd w A l b) (ho : Off A l (x :: F1)) (hx : x < w0.heap.size) (hF : x ∉ F)
  {F2 : List Nat} (d2 : Dr w' F2 y n s') (f2 : Fp F1 F2 w w') : LQ w0 w' F x y n cs A l b s' := by
 have o1 : Off A l F1 := by
  rcases ho with h | ⟨g, o, e, hg⟩
  ·exact .inl h
  ·exact .inr ⟨g, o, e, fun h => hg (by simp [h])⟩
 exact ⟨F2, d2, hb.bar f2.1 (LQ.nx hf hx hF), hf.trans f2, hr.far f2.1 o1, ho.step hr (fp_cons x f2), hx, hF⟩
theorem LQ.drew {w0 w : World} {F : List Nat} {x y n : Nat} {cs : Array Value} {A : Option Addr} {l : Nat} {b : List Int} {s : DS} (h : LQ w0 w F x y n cs A l b s) : LQ w0 w.drew F x y n cs A l b s := by
 obtain ⟨F', h1, h2, h3, h4, h5, h6⟩ := h
 exact ⟨F', h1.below (Below.refl _ _).drew, h2.drew, ⟨h3.1.drew, h3.2⟩, h4.drew, h5, h6⟩
theorem LQ.zero {w0 w : World} {F : List Nat} {x y n : Nat} {v : JV} {A0 : Option Addr} {m c : Nat} {vr : Value} {A : Option Addr} {l : Nat} {b : List Int} {s : DS} (h : LQ w0 w F x y n (rjc y v A0 m c vr) A l b s) : w.cell? ⟨x, 0, none⟩ = some (.pointer (some ⟨y, 0, none⟩)) := by
 obtain ⟨F', h1, h2, -⟩ := h
 exact h2.cell 0
theorem LQ.len {w0 w : World} {F : List Nat} {x y n : Nat} {cs : Array Value} {A : Option Addr} {l : Nat} {b : List Int} {s : DS} (h : LQ w0 w F x y n cs A l b s) : Calls Tryz.prog 41 #[.pointer (some ⟨y, 0, none⟩)] w fun e w' => e = .returned (.int .i64 (n : Nat)) ∧ w = w' := by
 obtain ⟨F', h1, -⟩ := h
 exact rlen_any h1
theorem LQ.write {w0 w : World} {F : List Nat} {x y n : Nat} {cs : Array Value} {A : Option Addr} {l : Nat} {b : List Int} {s : DS} (h : LQ w0 w F x y n cs A l b s) (i : Int) (k : Nat) (B : Option Addr) (c : Nat) (hB : ∀ w', Rd w' A l b → Rd w' B 64 (piece b k)) (hOB : ∀ F, Off A l F → Off B 64 F) :
  Calls Tryz.prog 21 #[.pointer (some ⟨y, 0, none⟩), .int .i64 i, .slice B 64 c] w fun e w' => e = .returned (.int .i64 (writeD s i (piece b k)).1) ∧ LQ w0 w' F x y n cs A l b (writeD s i (piece b k)).2 := by
 obtain ⟨F', h1, h2, h3, h4, h5, h6, h7⟩ := h
 have o1 : Off A l F' := by
  rcases h5 with h | ⟨g, o, e, hg⟩
  ·exact .inl h
  ·exact .inr ⟨g, o, e, fun h => hg (by simp [h])⟩
 refine (rwrite_any w F' y n s i B 64 c (piece b k) h1 (hB w h4) (hOB _ o1)).mono ?_
 rintro e w' ⟨rfl, F2, d2, f2⟩
 exact ⟨rfl, LQ.call h2 h3 h4 h5 h6 h7 d2 f2⟩
theorem LQ.sync {w0 w : World} {F : List Nat} {x y n : Nat} {cs : Array Value} {A : Option Addr} {l : Nat} {b : List Int} {s : DS} (h : LQ w0 w F x y n cs A l b s) :
  Calls Tryz.prog 61 #[.pointer (some ⟨y, 0, none⟩)] w fun e w' => e = .returned (.int .i64 (syncD s).1) ∧ LQ w0 w' F x y n cs A l b (syncD s).2 := by
 obtain ⟨F', h1, h2, h3, h4, h5, h6, h7⟩ := h
 refine (rsync_any w F' y n s h1).mono ?_
 rintro e w' ⟨rfl, F2, d2, f2⟩
 exact ⟨rfl, LQ.call h2 h3 h4 h5 h6 h7 d2 f2⟩
def RLayPost (w : World) (F : List Nat) (x y n : Nat) (v : JV) (A : Option Addr) (m c : Nat) (vr : Value) (r : Int × DS) (e : Ending) (w' : World) : Prop :=
 e = .returned (.int .i64 r.1) ∧ ∃ F', Dr w' F' y n r.2 ∧ Blk w' x 88 (rjc y (if r.1 = 0 then v else deadJ v) A m c vr) ∧ Fp (x :: F) (x :: F') w w' ∧ x ∉ F'
theorem lq_dead {w0 w : World} {F : List Nat} {x y n : Nat} {v : JV} {A0 : Option Addr} {m c : Nat} {vr : Value} {A : Option Addr} {l : Nat} {b : List Int} {s : DS} (h : LQ w0 w F x y n (rjc y v A0 m c vr) A l b s) {e : Int} (he : e ≠ 0) :
  RLayPost w0 F x y n v A0 m c vr (e, s) (.returned (.int .i64 e)) (w.setCell ⟨x, 8, none⟩ (.bool true)) := by
 obtain ⟨F', h1, h2, h3, -, -, h6, h7⟩ := h
 have hb : Bar [x] w (w.setCell ⟨x, 8, none⟩ (.bool true)) := (Bar.refl _ _).setCell (by simp) _
 have hx : x ∉ F' := LQ.nx h3 h6 h7
 refine ⟨rfl, F', h1.keep hb (fun k hk hk2 => by rw [List.mem_singleton] at hk2; subst hk2; exact hx hk), ?_, ?_, hx⟩
 ·simp only
  rw [if_neg he]
  exact h2.set_ 8 _
 ·have hf := fp_cons x h3
  exact ⟨hf.1.trans hb (by intro k hk; rw [List.mem_singleton] at hk; simp [hk]), hf.2⟩
theorem lq_live {w0 w : World} {F : List Nat} {x y n : Nat} {v : JV} {A0 : Option Addr} {m c : Nat} {vr : Value} {A : Option Addr} {l : Nat} {b : List Int} {s : DS} (h : LQ w0 w F x y n (rjc y v A0 m c vr) A l b s) :
  RLayPost w0 F x y n v A0 m c vr (0, s) (.returned (.int .i64 0)) w := by
 obtain ⟨F', h1, h2, h3, -, -, h6, h7⟩ := h
 exact ⟨rfl, F', h1, by simp only; rw [if_pos trivial]; exact h2, fp_cons x h3, LQ.nx h3 h6 h7⟩
theorem LQ.eight {w0 w : World} {F : List Nat} {x y n : Nat} {v : JV} {A0 : Option Addr} {m c : Nat} {vr : Value} {A : Option Addr} {l : Nat} {b : List Int} {s : DS} (h : LQ w0 w F x y n (rjc y v A0 m c vr) A l b s) : w.cell? ⟨x, 8, none⟩ = some (.bool v.dead) ∧ w.frozen? ⟨x, 8, none⟩ = false := by
 obtain ⟨F', h1, h2, -⟩ := h
 exact ⟨h2.cell 8, h2.frozen 8⟩
end Go.Proofs.YtkbehjdglgpgjaaGreat.Journal

namespace Go.Proofs.YtkbehjdglgpgjaaGreat.Journal
open Go.RowKit Go.Proofs.YtkbehjdglgpgjaaGreat.Sha Go.Proofs.YtkbehjdglgpgjaaGreat.Disk Go.Proofs.YtkbehjdglgpgjaaGreat.Frame

set_option maxRecDepth 100000 in
set_option maxHeartbeats 4000000 in
theorem rlay_any {w : World} {F : List Nat} {x y n : Nat} {s : DS} {v : JV} {A : Option Addr} {m c : Nat} {vr : Value} (h : Dr w F y n s) (j : Blk w x 88 (rjc y v A m c vr)) (hx : x ∉ F) (half pos : Nat) (hh : half ≤ 1) (hp : pos ≤ 8192)
  {Ab : Option Addr} {nb cb : Nat} {b : List Int} (hr : Rd w Ab nb b) (hO : Off Ab nb (x :: F)) (hc : nb ≤ cb) (h64 : 64 ≤ nb) (hn9 : nb ≤ 100000) :
  Calls Tryz.prog 39 #[.pointer (some ⟨x, 0, none⟩), .int .i64 (half : Nat), .int .i64 (pos : Nat), .slice Ab nb cb] w (RLayPost w F x y n v A m c vr (layJ s (half * hn s + pos) b)) := by
 have hlen := Kept.mk hr.1
 have hn8 := h.1.n2
 have hhn := wf_hn h.1
 have hq : Int.tdiv (n : Int) 2 = ((n / 2 : Nat) : Int) := by rw [Int.tdiv_eq_ediv_of_nonneg (by omega)]; omega
 obtain ⟨M, hM⟩ : ∃ M, n / 2 = M := ⟨_, rfl⟩
 have hM9 : M ≤ 4096 := by omega
 rw [hM] at hq hhn
 rw [hhn]
 have hqb : Int.tdiv (nb : Int) 64 = ((nb / 64 : Nat) : Int) := by rw [Int.tdiv_eq_ediv_of_nonneg (by omega)]; omega
 obtain ⟨k, hk⟩ : ∃ k, nb / 64 = k := ⟨_, rfl⟩
 have hk1 : 1 ≤ k := by omega
 have hk2 : 64 * k ≤ nb := by omega
 rw [hk] at hqb
 have hkl : Kept (b.length / 64 = k) := ⟨by rw [hlen.out]; exact hk⟩
 have Q0 : Kept (LQ w w F x y n (rjc y v A m c vr) Ab nb b s) := ⟨F, h, j, Fp.refl _ _, hr, hO, j.lt, hx⟩
 obtain ⟨hb, hbe⟩ : ∃ hb, half * M = hb := ⟨_, rfl⟩
 have hb9 : hb ≤ 4096 := by rw [← hbe]; rcases (show half = 0 ∨ half = 1 by omega) with e | e <;> subst e <;> omega
 rw [hbe]
 obtain ⟨home, hhome⟩ : ∃ home, hb + pos = home := ⟨_, rfl⟩
 have hm9 : home ≤ 20000 := by omega
 rw [hhome]
 have HLJ : Kept (layJ s home b = thenJ (thenJ (thenJ (rowsJ b home (k - 1) 1 s) fun s => if 64 < nb then syncD s else (0, s)) fun s => writeD s (home : Nat) (piece b 0)) syncD) := ⟨by unfold layJ; rw [hkl.out, hlen.out]⟩
 have HPOST : Kept (∀ (r : Int × DS) e w', layJ s home b = r → RLayPost w F x y n v A m c vr r e w' → RLayPost w F x y n v A m c vr (layJ s home b) e w') := ⟨fun r e w' h1 h2 => by rw [h1]; exact h2⟩
 have hxw := Kept.mk j.lt
 obtain ⟨zh, ezh⟩ : ∃ z : Int, ((half : Nat) : Int) = z := ⟨_, rfl⟩
 obtain ⟨zM, ezM⟩ : ∃ z : Int, ((M : Nat) : Int) = z := ⟨_, rfl⟩
 obtain ⟨zb, ezb⟩ : ∃ z : Int, ((hb : Nat) : Int) = z := ⟨_, rfl⟩
 obtain ⟨zp, ezp⟩ : ∃ z : Int, ((pos : Nat) : Int) = z := ⟨_, rfl⟩
 obtain ⟨zo, ezo⟩ : ∃ z : Int, ((home : Nat) : Int) = z := ⟨_, rfl⟩
 have p1 : zh * zM = zb := by rw [← ezh, ← ezM, ← ezb, ← Int.natCast_mul, hbe]
 have p2 : zb + zp = zo := by omega
 have p3 : -9223372036854775808 ≤ zh * zM ∧ zh * zM ≤ 9223372036854775807 := by rw [p1]; omega
 have p4 : -9223372036854775808 ≤ zb + zp ∧ zb + zp ≤ 9223372036854775807 := by omega
 have p0 : -9223372036854775808 ≤ zM ∧ zM ≤ 9223372036854775807 := by omega
 have EZ := Kept.mk ezo
 rw [ezM] at hq
 rw [ezh, ezp]
 have W0 : wrap64 zM = zM := wrap_in _ p0
 have W1 : wrap64 (zh * zM) = zb := (wrap_in _ p3).trans p1
 have W2 : wrap64 (zb + zp) = zo := (wrap_in _ p4).trans p2
 clear ezh ezM ezb ezp ezo p0 p1 p2 p3 p4
 clear h j hx hr hO hM hk hbe hhome hhn hn8
 go_enter Tryz.func39, Tryz.ntmps39
 have x0 := Q0.out.zero
 go_wp2_with fail
 refine Q0.out.len.mono ?_
 rintro e w' ⟨rfl, rfl⟩
 go_wp2
 simp only [W0, W1, W2]
 clear W0 W1 W2
 obtain rfl := EZ.out
 clear EZ
 obtain ⟨R, hR⟩ : ∃ R, rowsJ b home (k - 1) 1 s = R := ⟨_, rfl⟩
 rw [hR] at HLJ
 have HRK := Kept.mk hR
 clear hR
 go_loopw [10, 11] (fun e i wr => ∃ (i' : Nat) (e' : Int) (s1 : DS), 1 ≤ i' ∧ i' ≤ k ∧ e = .int .i64 e' ∧ i = .int .i64 (i' : Nat) ∧ Kept ((e' = 0 ∧ rowsJ b home (k - i') i' s1 = R) ∨ (e' ≠ 0 ∧ (e', s1) = R)) ∧ Kept (LQ w wr F x y n (rjc y v A m c vr) Ab nb b s1)) (fun _ i _ => k - (intOf i).toNat)
 case atStart => exact ⟨1, 0, s, by omega, hk1, rfl, rfl, ⟨.inl ⟨rfl, HRK.out⟩⟩, Q0⟩
 case round =>
  clear Q0 HRK x0
  obtain ⟨i, e1, s1, hi1, hik, rfl, rfl, HQ, Q⟩ := hrel
  by_cases he : e1 = 0
  ·subst he
   have HQ2 : Kept (rowsJ b home (k - i) i s1 = R) := ⟨by rcases HQ.out with h | h; exact h.2; exact absurd rfl h.1⟩
   clear HQ
   by_cases hlt : i < k
   ·have hlt' : (i : Int) < k := by omega
    have HRS : Kept ((if (writeD s1 ((home : Int) + i) (piece b i)).1 = 0 then rowsJ b home (k - (i + 1)) (i + 1) (writeD s1 ((home : Int) + i) (piece b i)).2 else writeD s1 ((home : Int) + i) (piece b i)) = R) := ⟨by
     have h1 := HQ2.out
     rw [show k - i = (k - (i + 1)) + 1 by omega] at h1
     unfold rowsJ at h1
     rw [Int.natCast_add] at h1
     exact h1⟩
    obtain ⟨A2, hs2, r2, o2⟩ := slice_lh_all Ab nb cb hc (64 * i) (64 * i + 64) (by omega) (by omega) (64 * (i : Int)) (64 * (i : Int) + 64) (by omega) (by omega)
    rw [show 64 * i + 64 - 64 * i = 64 by omega] at hs2 r2 o2
    have R2 : Kept (∀ w', Rd w' Ab nb b → Rd w' A2 64 (piece b i)) := ⟨fun w' r => by
     have := r2 w' b r
     rw [List.drop_take, show 64 * i + 64 - 64 * i = 64 by omega] at this
     exact this⟩
    have O2 := Kept.mk o2
    have W3 : IntKind.i64.wrap (64 * (i : Int)) = 64 * i := by simp only [IntKind.wrap_i64]; omega
    have W4 : IntKind.i64.wrap (64 * (i : Int) + 64) = 64 * i + 64 := by simp only [IntKind.wrap_i64]; omega
    have W5 : IntKind.i64.wrap ((home : Int) + (i : Int)) = (home : Int) + i := by simp only [IntKind.wrap_i64]; omega
    have x0 := Q.out.zero
    clear r2 o2 HQ2
    go_upto_region 6 with (fail)
    have Q2 := Kept.mk Q.out.drew
    refine wp_region_still_tail 14 (by kernel_rfl) (by kernel_rfl) ?_
    simp only [List.take_succ_cons, List.take_zero, List.drop_succ_cons, List.drop_zero]
    repeat still_step
    refine wpStill_nil ?_
    change wpList _ _ _ _ _ wr.drew
    clear W3 W4 W5 x0 hs2 Q
    generalize wr.drew = w2 at *
    go_wp2_with fail
    refine (Q2.out.write ((home : Int) + i) i A2 (cb - 64 * i) R2.out O2.out).mono ?_
    rintro e w3 ⟨rfl, q3⟩
    have Q3 := Kept.mk q3
    clear q3 Q2 R2 O2
    generalize writeD s1 ((home : Int) + i) (piece b i) = r at *
    obtain ⟨e2, s2⟩ := r
    simp only at Q3 HRS ⊢
    go_wp2
    go_roundw
    case rel => exact ⟨i + 1, e2, s2, by omega, by omega, rfl, by go_num, ⟨by
     have h1 := HRS.out
     by_cases h : e2 = 0
     ·rw [if_pos h] at h1; exact .inl ⟨h, h1⟩
     ·rw [if_neg h] at h1; exact .inr ⟨h, h1⟩⟩, Q3⟩
    case measure => simp [intOf]; omega
   ·obtain rfl : i = k := by omega
    have hlt' : ¬ (i : Int) < i := by omega
    have H0 : Kept (R = (0, s1)) := ⟨by have h1 := HQ2.out; rw [Nat.sub_self] at h1; exact h1.symm⟩
    by_cases hbig : 64 < nb
    ·have hbig' : 64 < (nb : Int) := by omega
     have x0 := Q.out.zero
     go_wp2_with fail
     refine Q.out.sync.mono ?_
     rintro e w3 ⟨rfl, q3⟩
     have Q3 := Kept.mk q3
     clear q3 Q x0
     obtain ⟨r3, hr3⟩ : ∃ r, syncD s1 = r := ⟨_, rfl⟩
     rw [hr3] at Q3 ⊢
     obtain ⟨e3, s3⟩ := r3
     simp only at Q3 ⊢
     have H3 : Kept (thenJ (R) (fun s => if 64 < nb then syncD s else (0, s)) = (e3, s3)) := ⟨by rw [H0.out]; show (if 64 < nb then syncD s1 else (0, s1)) = _; rw [if_pos hbig, hr3]⟩
     clear hr3 H0
     by_cases hE : e3 = 0
     ·subst hE
      have x0 := Q3.out.zero
      have hs4 := slice_h_at Ab nb cb 64 (by omega) 64 rfl
      go_upto_region 10 with (fail)
      have QW := Kept.mk Q3.out.drew
      refine wp_region_still_tail 7 (by kernel_rfl) (by kernel_rfl) ?_
      simp only [List.take_succ_cons, List.take_zero, List.drop_succ_cons, List.drop_zero]
      repeat still_step
      refine wpStill_nil ?_
      change wpList _ _ _ _ _ w3.drew
      clear x0 hs4
      generalize w3.drew = w5 at *
      go_wp2_with fail
      refine (QW.out.write (home : Int) 0 Ab cb (fun w' r => by unfold piece; rw [Nat.mul_zero, List.drop_zero]; exact r.upto h64) (fun F hF => hF.imp (fun h => by omega) id)).mono ?_
      rintro e w6 ⟨rfl, q6⟩
      have Q6 := Kept.mk q6
      clear q6 QW Q3
      obtain ⟨r6, hr6⟩ : ∃ r, writeD s3 (home : Nat) (piece b 0) = r := ⟨_, rfl⟩
      rw [hr6] at Q6 ⊢
      obtain ⟨e6, s6⟩ := r6
      simp only at Q6 ⊢
      have H6 : Kept (layJ s home b = thenJ (e6, s6) syncD) := ⟨by rw [HLJ.out, H3.out]; show thenJ (writeD s3 (home : Nat) (piece b 0)) syncD = _; rw [hr6]⟩
      clear hr6
      by_cases hE : e6 = 0
      ·subst hE
       have x0 := Q6.out.zero
       go_wp2_with fail
       refine Q6.out.sync.mono ?_
       rintro e w7 ⟨rfl, q7⟩
       have Q7 := Kept.mk q7
       clear q7 Q6 x0
       obtain ⟨r7, hr7⟩ : ∃ r, syncD s6 = r := ⟨_, rfl⟩
       rw [hr7] at Q7 ⊢
       obtain ⟨e7, s7⟩ := r7
       simp only at Q7 ⊢
       have H7 : Kept (layJ s home b = (e7, s7)) := ⟨by rw [H6.out]; show syncD s6 = _; rw [hr7]⟩
       clear hr7 H6
       by_cases hE : e7 = 0
       ·subst hE
        have PG := Kept.mk (HPOST.out (0, s7) _ _ H7.out (lq_live Q7.out))
        clear HPOST HLJ HQ2 H7
        go_wp2
        go_ret
        exact PG.out
       ·skip
        have he1 : (e7 == 0) = false := by simpa using hE
        have he2 : (e7 != 0) = true := by simpa using hE
        have D8 := Q7.out.eight
        have d8 := D8.1; have z8 := D8.2
        have PG := Kept.mk (HPOST.out (e7, _) _ _ H7.out (lq_dead Q7.out hE))
        clear D8 HPOST HLJ HQ2
        go_wp2
        go_ret
        exact PG.out
      ·skip
       have he1 : (e6 == 0) = false := by simpa using hE
       have he2 : (e6 != 0) = true := by simpa using hE
       have D8 := Q6.out.eight
       have d8 := D8.1; have z8 := D8.2
       have PG := Kept.mk (HPOST.out (e6, _) _ _ (by rw [H6.out]; unfold thenJ; rw [if_neg hE]) (lq_dead Q6.out hE))
       clear D8 HPOST HLJ HQ2
       go_wp2
       go_ret
       exact PG.out
     ·skip
      have he1 : (e3 == 0) = false := by simpa using hE
      have he2 : (e3 != 0) = true := by simpa using hE
      have D8 := Q3.out.eight
      have d8 := D8.1; have z8 := D8.2
      have PG := Kept.mk (HPOST.out (e3, _) _ _ (by rw [HLJ.out, H3.out]; simp [thenJ, hE]) (lq_dead Q3.out hE))
      clear D8 HPOST HLJ HQ2
      go_wp2
      go_ret
      exact PG.out
    ·have hbig' : ¬ 64 < (nb : Int) := by omega
     have H3 : Kept (thenJ (R) (fun s => if 64 < nb then syncD s else (0, s)) = (0, s1)) := ⟨by rw [H0.out]; show (if 64 < nb then syncD s1 else (0, s1)) = _; rw [if_neg hbig]⟩
     clear H0
     have x0 := Q.out.zero
     have hs4 := slice_h_at Ab nb cb 64 (by omega) 64 rfl
     go_upto_region 10 with (fail)
     have QW := Kept.mk Q.out.drew
     refine wp_region_still_tail 7 (by kernel_rfl) (by kernel_rfl) ?_
     simp only [List.take_succ_cons, List.take_zero, List.drop_succ_cons, List.drop_zero]
     repeat still_step
     refine wpStill_nil ?_
     change wpList _ _ _ _ _ wr.drew
     clear x0 hs4
     generalize wr.drew = w5 at *
     go_wp2_with fail
     refine (QW.out.write (home : Int) 0 Ab cb (fun w' r => by unfold piece; rw [Nat.mul_zero, List.drop_zero]; exact r.upto h64) (fun F hF => hF.imp (fun h => by omega) id)).mono ?_
     rintro e w6 ⟨rfl, q6⟩
     have Q6 := Kept.mk q6
     clear q6 QW Q
     obtain ⟨r6, hr6⟩ : ∃ r, writeD s1 (home : Nat) (piece b 0) = r := ⟨_, rfl⟩
     rw [hr6] at Q6 ⊢
     obtain ⟨e6, s6⟩ := r6
     simp only at Q6 ⊢
     have H6 : Kept (layJ s home b = thenJ (e6, s6) syncD) := ⟨by rw [HLJ.out, H3.out]; show thenJ (writeD s1 (home : Nat) (piece b 0)) syncD = _; rw [hr6]⟩
     clear hr6
     by_cases hE : e6 = 0
     ·subst hE
      have x0 := Q6.out.zero
      go_wp2_with fail
      refine Q6.out.sync.mono ?_
      rintro e w7 ⟨rfl, q7⟩
      have Q7 := Kept.mk q7
      clear q7 Q6 x0
      obtain ⟨r7, hr7⟩ : ∃ r, syncD s6 = r := ⟨_, rfl⟩
      rw [hr7] at Q7 ⊢
      obtain ⟨e7, s7⟩ := r7
      simp only at Q7 ⊢
      have H7 : Kept (layJ s home b = (e7, s7)) := ⟨by rw [H6.out]; show syncD s6 = _; rw [hr7]⟩
      clear hr7 H6
      by_cases hE : e7 = 0
      ·subst hE
       have PG := Kept.mk (HPOST.out (0, s7) _ _ H7.out (lq_live Q7.out))
       clear HPOST HLJ HQ2 H7
       go_wp2
       go_ret
       exact PG.out
      ·skip
       have he1 : (e7 == 0) = false := by simpa using hE
       have he2 : (e7 != 0) = true := by simpa using hE
       have D8 := Q7.out.eight
       have d8 := D8.1; have z8 := D8.2
       have PG := Kept.mk (HPOST.out (e7, _) _ _ H7.out (lq_dead Q7.out hE))
       clear D8 HPOST HLJ HQ2
       go_wp2
       go_ret
       exact PG.out
     ·skip
      have he1 : (e6 == 0) = false := by simpa using hE
      have he2 : (e6 != 0) = true := by simpa using hE
      have D8 := Q6.out.eight
      have d8 := D8.1; have z8 := D8.2
      have PG := Kept.mk (HPOST.out (e6, _) _ _ (by rw [H6.out]; unfold thenJ; rw [if_neg hE]) (lq_dead Q6.out hE))
      clear D8 HPOST HLJ HQ2
      go_wp2
      go_ret
      exact PG.out
  ·have he2 : (e1 == 0) = false := by simpa using he
   have HQ2 : Kept ((e1, s1) = R) := ⟨by rcases HQ.out with h | h; exact absurd h.1 he; exact h.2⟩
   clear HQ
   have D8 := Q.out.eight
   have d8 := D8.1; have z8 := D8.2
   have PG := Kept.mk (HPOST.out (e1, s1) _ _ (by rw [HLJ.out, ← HQ2.out]; unfold thenJ; simp [he]) (lq_dead Q.out he))
   clear D8 HPOST HLJ
   by_cases hlt : i < k
   ·have hlt' : (i : Int) < k := by omega
    go_wp2
    go_ret
    exact PG.out
   ·have hlt' : ¬ (i : Int) < k := by omega
    go_wp2
    go_ret
    exact PG.out
end Go.Proofs.YtkbehjdglgpgjaaGreat.Journal

namespace Go.Proofs.YtkbehjdglgpgjaaGreat.Journal
open Go.RowKit Go.Proofs.YtkbehjdglgpgjaaGreat.Sha Go.Proofs.YtkbehjdglgpgjaaGreat.Disk Go.Proofs.YtkbehjdglgpgjaaGreat.Frame

def RActPost (w : World) (H : List Nat) (x y n : Nat) (r : Int × DS × JV) (e : Ending) (w' : World) : Prop := e = .returned (.int .i64 r.1) ∧ ∃ H', Ry w' H' x y n r.2.1 r.2.2 ∧ Fp H H' w w'
theorem Ry.parts {w : World} {H : List Nat} {x y n : Nat} {s : DS} {v : JV} (h : Ry w H x y n s v) : ∃ F K A m c vr, Dr w F y n s ∧ Blk w x 88 (rjc y v A m c vr) ∧ m ≤ c ∧ c ≤ 9223372036854775807 ∧ Rd w A m v.pict ∧ In A m K ∧ Off A m vr.ownBlock.toList ∧ Og w 38 vr v.recs K ∧ (∀ k ∈ K, k < w.heap.size) ∧ x ∉ K ∧ x ∉ F ∧ Disj F K ∧ H = F ++ x :: K ∧ VOk v := by
 obtain ⟨F, G, h1, ⟨A, m, c, vr, K, k1, k2, k3, k4, k5, k6, k7, k8, rfl, k9⟩, h3, rfl⟩ := h
 exact ⟨F, K, A, m, c, vr, h1, k1, k2, k3, k4, k5.1, k5.2, k6, k7, k8, fun hm => h3 x hm (by simp), fun k hk hm => h3 k hk (by simp [hm]), rfl, k9⟩
theorem ry_mk {w0 w : World} {H F K : List Nat} {x y n : Nat} {s : DS} {v : JV} {A : Option Addr} {m c : Nat} {vr : Value} (h1 : Dr w F y n s) (k1 : Blk w x 88 (rjc y v A m c vr)) (k2 : m ≤ c) (k3 : c ≤ 9223372036854775807) (k4 : Rd w A m v.pict) (k5 : In A m K) (k5' : Off A m vr.ownBlock.toList) (k6 : Og w 38 vr v.recs K)
  (k7 : ∀ k ∈ K, k < w.heap.size) (k8 : x ∉ K) (h3 : x ∉ F) (h4 : Disj F K) (k9 : VOk v) (fp : Fp H (F ++ x :: K) w0 w) {e : Int} : RActPost w0 H x y n (e, s, v) (.returned (.int .i64 e)) w :=
 ⟨rfl, F ++ x :: K, ⟨F, x :: K, h1, ⟨A, m, c, vr, K, k1, k2, k3, k4, ⟨k5, k5'⟩, k6, k7, k8, rfl, k9⟩, fun k hk hm => by
  rcases List.mem_cons.1 hm with rfl | hm
  ·exact h3 hk
  ·exact h4 k hk hm, rfl⟩, fp⟩
theorem Ry.ract {w0 w : World} {H : List Nat} {x y n : Nat} {s : DS} {v : JV} (h : Ry w H x y n s v) (b : Below w0.heap.size w0 w) {e : Int} : RActPost w0 H x y n (e, s, v) (.returned (.int .i64 e)) w := ⟨rfl, H, h, ⟨barOf b _, fun _ h => .inl h⟩⟩
theorem Ry.down {w : World} {H : List Nat} {x y n : Nat} {s : DS} {v : JV} (h : Ry w H x y n s v) : w.cell? ⟨x, 0, none⟩ = some (.pointer (some ⟨y, 0, none⟩)) ∧ w.cell? ⟨x, 8, none⟩ = some (.bool v.dead) ∧ w.frozen? ⟨x, 8, none⟩ = false ∧ w.cell? ⟨y, 4, none⟩ = some (.bool s.down) := by
 obtain ⟨F, K, A, m, c, vr, h1, k1, -⟩ := h.parts
 obtain ⟨-, gn, cn, gl, cl, vp, j1, -⟩ := h1
 exact ⟨k1.cell 0, k1.cell 8, k1.frozen 8, j1.cell 4⟩
theorem Ry.die {w : World} {H : List Nat} {x y n : Nat} {s : DS} {v : JV} (h : Ry w H x y n s v) : RActPost w H x y n (13, s, deadJ v) (.returned (.int .i64 13)) (w.setCell ⟨x, 8, none⟩ (.bool true)) := by
 obtain ⟨F, K, A, m, c, vr, h1, k1, k2, k3, k4, k5, k5', k6, k7, k8, h3, h4, rfl, k9⟩ := h.parts
 have hb : Bar [x] w (w.setCell ⟨x, 8, none⟩ (.bool true)) := (Bar.refl _ _).setCell (by simp) _
 have dK : Disj K [x] := fun k hk hm => by rw [List.mem_singleton] at hm; subst hm; exact k8 hk
 exact ry_mk (v := deadJ v) (h1.keep hb (fun k hk hm => by rw [List.mem_singleton] at hm; subst hm; exact h3 hk)) (k1.set_ 8 _) k2 k3 (k4.far hb (k5.off dK)) k5 k5' (k6.keep hb dK) (fun k hk => Nat.lt_of_lt_of_le (k7 k hk) hb.size) k8 h3 h4 k9.dead ⟨hb.mono (by intro k hk; rw [List.mem_singleton] at hk; simp [hk]), fun _ h => .inl h⟩
theorem rlay_parts {w w' : World} {F K : List Nat} {x : Nat} {v : JV} {A : Option Addr} {m : Nat} {vr : Value} (k4 : Rd w A m v.pict) (k5 : In A m K) (k6 : Og w 38 vr v.recs K) (k7 : ∀ k ∈ K, k < w.heap.size) (k8 : x ∉ K) (h3 : x ∉ F) (h4 : Disj F K)
  {F' : List Nat} (fp : Fp (x :: F) (x :: F') w w') : Rd w' A m v.pict ∧ Og w' 38 vr v.recs K ∧ (∀ k ∈ K, k < w'.heap.size) ∧ Disj F' K ∧ Fp (F ++ x :: K) (F' ++ x :: K) w w' := by
 have dK : Disj K (x :: F) := fun k hk hm => by
  rcases List.mem_cons.1 hm with rfl | hm
  ·exact k8 hk
  ·exact h4 k hm hk
 refine ⟨k4.far fp.1 (k5.off dK), k6.keep fp.1 dK, fun k hk => Nat.lt_of_lt_of_le (k7 k hk) fp.1.size, fun k hk hm => ?_, fp.1.mono (fun k hk => .inl ?_), fun k hk => ?_⟩
 ·rcases fp.2 k (by simp [hk]) with e | e
  ·exact dK k hm e
  ·have := k7 k hm; omega
 ·simp only [List.mem_cons, List.mem_append] at hk ⊢
  rcases hk with h | h <;> simp [h]
 ·simp only [List.mem_cons, List.mem_append] at hk
  rcases hk with h | h | h
  ·rcases fp.2 k (by simp [h]) with e | e
   ·simp only [List.mem_cons] at e
    exact .inl (by rcases e with e | e <;> simp [e])
   ·exact .inr e
  ·exact .inl (by simp [h])
  ·exact .inl (by simp [h])
def Pt (w : World) (F K : List Nat) (x y n : Nat) (s : DS) (v : JV) (A : Option Addr) (m c : Nat) (vr : Value) : Prop := Dr w F y n s ∧ Blk w x 88 (rjc y v A m c vr) ∧ Rd w A m v.pict ∧ Og w 38 vr v.recs K ∧ ∀ k ∈ K, k < w.heap.size
theorem Pt.below {w w' : World} {F K : List Nat} {x y n : Nat} {s : DS} {v : JV} {A : Option Addr} {m c : Nat} {vr : Value} (h : Pt w F K x y n s v A m c vr) (b : Below w.heap.size w w') : Pt w' F K x y n s v A m c vr :=
 ⟨h.1.below b, h.2.1.below b h.2.1.lt, h.2.2.1.below b, h.2.2.2.1.keep (barOf b []) (fun _ _ => by simp), fun k hk => Nat.lt_of_lt_of_le (h.2.2.2.2 k hk) b.size⟩
set_option maxRecDepth 100000 in
set_option maxHeartbeats 1000000 in
theorem rappend_down {w : World} {H : List Nat} {x y n : Nat} {s : DS} {v : JV} {A : Option Addr} {l c : Nat} {b : List Int} (sy : Ry w H x y n s v) (hd : v.dead = true ∨ s.down = true) :
    Calls Tryz.prog 12 #[.pointer (some ⟨x, 0, none⟩), .slice A l c] w (RActPost w H x y n (appendJ s v b)) := by
  have e : appendJ s v b = (13, s, deadJ v) := by unfold appendJ; rw [if_pos hd]
  rw [e]
  have PG := Kept.mk sy.die
  obtain ⟨x0, x8, z8, y4⟩ := sy.down
  clear sy e
  obtain ⟨vd, hvd⟩ : ∃ q, v.dead = q := ⟨_, rfl⟩
  rw [hvd] at x8 hd
  cases vd with
  | true =>
    clear hd
    go_enter Tryz.func12, Tryz.ntmps12
    go_wp2
    go_ret
    exact PG.out
  | false =>
    have hd' : s.down = true := by simpa using hd
    rw [hd'] at y4
    clear hd hd'
    go_enter Tryz.func12, Tryz.ntmps12
    go_wp2
    go_ret
    exact PG.out
theorem setx_far {F : List Nat} {x : Nat} (h : x ∉ F) : Disj F [x] := fun k hk hm => by rw [List.mem_singleton] at hm; subst hm; exact h hk
theorem ry_more {w0 w : World} {H F K : List Nat} {x y n : Nat} {s : DS} {v : JV} {A : Option Addr} {m c : Nat} {vr : Value} {L : List (List Int)} (h1 : Dr w F y n s) (k1 : Blk w x 88 (rjc y v A m c vr)) (k2 : m ≤ c) (k3 : c ≤ 9223372036854775807) (k4 : Rd w A m v.pict) (k5 : In A m K) (k5' : Off A m vr.ownBlock.toList) (k6 : Og w 38 vr L K)
  (k7 : ∀ k ∈ K, k < w.heap.size) (k8 : x ∉ K) (h3 : x ∉ F) (h4 : Disj F K) (fp : Fp H (F ++ x :: K) w0 w) (hxH : x ∈ H) (pos' : Nat) (seq' : Int) (k9 : VOk { v with recs := L, pos := pos', seq := seq' }) :
  RActPost w0 H x y n (0, s, { v with recs := L, pos := pos', seq := seq' }) (.returned (.int .i64 0)) ((w.setCell ⟨x, 6, none⟩ (.int .i64 (pos' : Nat))).setCell ⟨x, 7, none⟩ (.int .i64 seq')) := by
 have hb : Bar [x] w ((w.setCell ⟨x, 6, none⟩ (.int .i64 (pos' : Nat))).setCell ⟨x, 7, none⟩ (.int .i64 seq')) := ((Bar.refl [x] w).setCell (by simp) _).setCell (by simp) _
 exact ry_mk (v := { v with recs := L, pos := pos', seq := seq' }) (h1.keep hb (setx_far h3)) ((k1.set_ 6 _).set_ 7 _) k2 k3 (k4.far hb (k5.off (setx_far k8))) k5 k5' (k6.keep hb (setx_far k8)) (fun k hk => Nat.lt_of_lt_of_le (k7 k hk) hb.size) k8 h3 h4 k9
  ⟨fp.1.trans hb (fun k hk => by rw [List.mem_singleton] at hk; subst hk; exact .inl hxH), fp.2⟩
set_option maxRecDepth 100000 in
set_option maxHeartbeats 2000000 in
theorem rappend_any {w : World} {H : List Nat} {x y n : Nat} {s : DS} {v : JV} {A : Option Addr} {l c : Nat} {b : List Int} (sy : Ry w H x y n s v) (hr : Rd w A l b) (hO : Off A l H) (hl9 : l ≤ 100000) :
  Calls Tryz.prog 12 #[.pointer (some ⟨x, 0, none⟩), .slice A l c] w (RActPost w H x y n (appendJ s v b)) := by
 by_cases hd : v.dead = true ∨ s.down = true
 ·exact rappend_down sy hd
 have hdf : v.dead = false := by simpa using fun h => hd (.inl h)
 have hdn : s.down = false := by simpa using fun h => hd (.inr h)
 have AJ : Kept (appendJ s v b = if (putF (recF v b)).1 ≠ 0 then ((putF (recF v b)).1, s, v) else if roomJ s v < ((putF (recF v b)).2.length / 64 : Nat) then (12, s, v) else if (layJ s (v.half * hn s + v.pos) (putF (recF v b)).2).1 = 0 then (0, (layJ s (v.half * hn s + v.pos) (putF (recF v b)).2).2, { v with recs := v.recs ++ [b], pos := v.pos + (putF (recF v b)).2.length / 64, seq := v.seq + 1 }) else ((layJ s (v.half * hn s + v.pos) (putF (recF v b)).2).1, (layJ s (v.half * hn s + v.pos) (putF (recF v b)).2).2, deadJ v)) := ⟨by
  unfold appendJ; rw [if_neg hd]⟩
 obtain ⟨x0, x8, z8, y4⟩ := sy.down
 rw [hdf] at x8
 rw [hdn] at y4
 have hwf : WF n s := by obtain ⟨F, G, h1, -⟩ := sy; exact h1.1
 have hhn := wf_hn hwf
 have hn8 := hwf.n2
 obtain ⟨F, KJ, A0, m0, c0, vr, h1, k1, k2, k3, k4, k5, k5', k6, k7, k8, h3, h4, rfl, k9⟩ := sy.parts
 have x2 : w.drew.cell? ⟨x, 2, none⟩ = some (.int .i64 v.gen) := k1.cell 2
 have x7 : w.drew.cell? ⟨x, 7, none⟩ = some (.int .i64 v.seq) := k1.cell 7
 have xlt := k1.lt
 have PT : Kept (Pt w F KJ x y n s v A0 m0 c0 vr) := ⟨h1, k1, k4, k6, k7⟩
 have PK : Kept (m0 ≤ c0 ∧ c0 ≤ 9223372036854775807 ∧ In A0 m0 KJ ∧ Off A0 m0 vr.ownBlock.toList ∧ x ∉ KJ ∧ x ∉ F ∧ Disj F KJ ∧ VOk v) := ⟨k2, k3, k5, k5', k8, h3, h4, k9⟩
 have SY := Kept.mk sy
 have CP := Kept.mk (rput_new (recF v b) A l c w.drew (show Rd w.drew A l (recF v b).body from hr.drew))
 have HR := Kept.mk hr
 have HO := Kept.mk hO
 clear sy hr hO h1 k1 k2 k3 k4 k5 k5' k6 k7 k8 h3 h4 k9 hwf hd
 go_enter Tryz.func12, Tryz.ntmps12
 go_upto_region 4 with (fail)
 clear x0 x8 z8 y4
 refine wp_region_noPanic ?_
 refine wp_region_held_drew (S := fun w' : World => w'.cell? ⟨x, 2, none⟩ = some (.int .i64 v.gen) ∧ w'.cell? ⟨x, 7, none⟩ = some (.int .i64 v.seq)) (by kernel_rfl) ⟨x2, x7⟩ (fun _ => ?_)
 refine wpAnyH_take (i := 0) (oi := ?o322) (v := ?v322) ?hi322 (by kernel_rfl) (by kernel_rfl) (by kernel_rfl) ?hq322 (Or.inl ⟨?hw322, ?hy322⟩) (by assumption) ?r322
 case hi322 => (simp only [List.getElem?_toArray, List.getElem?_cons_zero]; exact rfl)
 case hq322 => exact fun _ _ _ h => h
 case hw322 => rfl
 case hy322 => (intro w hSw; (try dsimp only at hSw); go_simp; try exact rfl)
 simp only [Act.put, List.setIfInBounds_toArray, List.set_cons_zero, List.set_cons_succ]
 refine wpAnyH_take (i := 1) (oi := ?o323) (v := ?v323) ?hi323 (by kernel_rfl) (by kernel_rfl) (by kernel_rfl) ?hq323 (Or.inl ⟨?hw323, ?hy323⟩) (by assumption) ?r323
 case hi323 => (simp only [List.getElem?_toArray, List.getElem?_cons_succ, List.getElem?_cons_zero]; exact rfl)
 case hq323 => exact fun _ _ _ h => h
 case hw323 => rfl
 case hy323 => (intro w hSw; (try dsimp only at hSw); go_simp; try exact rfl)
 simp only [Act.put, List.setIfInBounds_toArray, List.set_cons_zero, List.set_cons_succ]
 refine wpAnyH_take (i := 2) (oi := ?o324) (v := ?v324) ?hi324 (by kernel_rfl) (by kernel_rfl) (by kernel_rfl) ?hq324 (Or.inl ⟨?hw324, ?hy324⟩) (by assumption) ?r324
 case hi324 => (simp only [List.getElem?_toArray, List.getElem?_cons_succ, List.getElem?_cons_zero]; exact rfl)
 case hq324 => exact fun _ _ _ h => h
 case hw324 => rfl
 case hy324 => (intro w hSw; (try dsimp only at hSw); go_simp; try exact rfl)
 simp only [Act.put, List.setIfInBounds_toArray, List.set_cons_zero, List.set_cons_succ]
 refine wpAnyH_take (i := 3) (oi := ?o325) (v := ?v325) ?hi325 (by kernel_rfl) (by kernel_rfl) (by kernel_rfl) ?hq325 (Or.inl ⟨?hw325, ?hy325⟩) (by assumption) ?r325
 case hi325 => (simp only [List.getElem?_toArray, List.getElem?_cons_succ, List.getElem?_cons_zero]; exact rfl)
 case hq325 => exact fun _ _ _ h => h
 case hw325 => rfl
 case hy325 => (intro w hSw; (try dsimp only at hSw); go_simp; try exact rfl)
 simp only [Act.put, List.setIfInBounds_toArray, List.set_cons_zero, List.set_cons_succ]
 refine wpAnyH_take (i := 4) (oi := ?o326) (v := ?v326) ?hi326 (by kernel_rfl) (by kernel_rfl) (by kernel_rfl) ?hq326 (Or.inl ⟨?hw326, ?hy326⟩) (by assumption) ?r326
 case hi326 => (simp only [List.getElem?_toArray, List.getElem?_cons_succ, List.getElem?_cons_zero]; exact rfl)
 case hq326 => exact fun _ _ _ h => h
 case hw326 => rfl
 case hy326 => (intro w hSw; (try dsimp only at hSw); go_simp; try exact rfl)
 simp only [Act.put, List.setIfInBounds_toArray, List.set_cons_zero, List.set_cons_succ]
 refine wpAnyH_take (i := 5) (oi := ?o327) (v := ?v327) ?hi327 (by kernel_rfl) (by kernel_rfl) (by kernel_rfl) ?hq327 (Or.inl ⟨?hw327, ?hy327⟩) (by assumption) ?r327
 case hi327 => (simp only [List.getElem?_toArray, List.getElem?_cons_succ, List.getElem?_cons_zero]; exact rfl)
 case hq327 => exact fun _ _ _ h => h
 case hw327 => rfl
 case hy327 => (intro w hSw; (try dsimp only at hSw); go_simp; try exact rfl)
 simp only [Act.put, List.setIfInBounds_toArray, List.set_cons_zero, List.set_cons_succ]
 refine wpAnyH_take (i := 6) (oi := ?o328) (v := ?v328) ?hi328 (by kernel_rfl) (by kernel_rfl) (by kernel_rfl) ?hq328 (Or.inl ⟨?hw328, ?hy328⟩) (by assumption) ?r328
 case hi328 => (simp only [List.getElem?_toArray, List.getElem?_cons_succ, List.getElem?_cons_zero]; exact rfl)
 case hq328 => exact fun _ _ _ h => h
 case hw328 => rfl
 case hy328 => (intro w hSw; (try dsimp only at hSw); go_simp; try exact rfl)
 simp only [Act.put, List.setIfInBounds_toArray, List.set_cons_zero, List.set_cons_succ]
 refine wpAnyH_take (i := 7) (oi := ?o329) (v := ?v329) ?hi329 (by kernel_rfl) (by kernel_rfl) (by kernel_rfl) ?hq329 (Or.inl ⟨?hw329, ?hy329⟩) (by assumption) ?r329
 case hi329 => (simp only [List.getElem?_toArray, List.getElem?_cons_succ, List.getElem?_cons_zero]; exact rfl)
 case hq329 => exact fun _ _ _ h => h
 case hw329 => rfl
 case hy329 => (intro w hSw; (try dsimp only at hSw); go_simp; try exact rfl)
 simp only [Act.put, List.setIfInBounds_toArray, List.set_cons_zero, List.set_cons_succ]
 refine wpAnyH_take (i := 8) (oi := ?o330) (v := ?v330) ?hi330 (by kernel_rfl) (by kernel_rfl) (by kernel_rfl) ?hq330 (Or.inl ⟨?hw330, ?hy330⟩) (by assumption) ?r330
 case hi330 => (simp only [List.getElem?_toArray, List.getElem?_cons_succ, List.getElem?_cons_zero]; exact rfl)
 case hq330 => exact fun _ _ _ h => h
 case hw330 => rfl
 case hy330 => (intro w hSw; (try dsimp only at hSw); go_simp; try exact rfl)
 simp only [Act.put, List.setIfInBounds_toArray, List.set_cons_zero, List.set_cons_succ]
 refine wpAnyH_take (i := 9) (oi := ?o331) (v := ?v331) ?hi331 (by kernel_rfl) (by kernel_rfl) (by kernel_rfl) ?hq331 (Or.inl ⟨?hw331, ?hy331⟩) (by assumption) ?r331
 case hi331 => (simp only [List.getElem?_toArray, List.getElem?_cons_succ, List.getElem?_cons_zero]; exact rfl)
 case hq331 => exact fun _ _ _ h => h
 case hw331 => rfl
 case hy331 => (intro w hSw; (try dsimp only at hSw); go_simp; try exact rfl)
 simp only [Act.put, List.setIfInBounds_toArray, List.set_cons_zero, List.set_cons_succ]
 refine wpAnyH_ready (rs := [10]) (by kernel_rfl) (by simp) ?_
 refine AllReadyH.cons (o := ?o381) ?hi381 (fun K hK => ?_) AllReadyH.nil
 case hi381 => (simp only [List.getElem?_toArray, List.getElem?_cons_succ, List.getElem?_cons_zero]; exact rfl)
 go_simp
 go_at_call 37
 refine CP.out.mono ?_
 rintro e w1 ⟨A1, n1, c1, rfl, hn1, hc1, r1, bel, off1⟩
 have b1 : Below w.heap.size w w1 := (Below.refl _ _).drew.trans (show Below w.heap.size w.drew w1 from bel)
 have y2 : w1.cell? ⟨x, 2, none⟩ = some (.int .i64 v.gen) := (bel.cell (p := ⟨x, 2, none⟩) xlt).trans x2
 have y7 : w1.cell? ⟨x, 7, none⟩ = some (.int .i64 v.seq) := (bel.cell (p := ⟨x, 7, none⟩) xlt).trans x7
 refine hK.out _ _ ⟨y2, y7⟩ (fun _ => ?_)
 have B1 := Kept.mk b1
 have R1 := Kept.mk r1
 have OF1 : Kept (Off A1 n1 (x :: F)) := ⟨off1 _ (fun k hk => by
  rcases List.mem_cons.1 hk with rfl | hk
  ·exact xlt
  ·exact PT.out.1.lts k hk)⟩
 clear hK K bel b1 x2 x7 y2 y7 r1 CP off1
 try simp only [Act.put, List.setIfInBounds_toArray, List.set_cons_zero, List.set_cons_succ]
 refine wpAnyH_take (i := 11) (oi := ?o332) (v := ?v332) ?hi332 (by kernel_rfl) (by kernel_rfl) (by kernel_rfl) ?hq332 (Or.inl ⟨?hw332, ?hy332⟩) (by assumption) ?r332
 case hi332 => (simp only [List.getElem?_toArray, List.getElem?_cons_succ, List.getElem?_cons_zero]; exact rfl)
 case hq332 => exact fun _ _ _ h => h
 case hw332 => rfl
 case hy332 => (intro w hSw; (try dsimp only at hSw); go_simp; try exact rfl)
 simp only [Act.put, List.setIfInBounds_toArray, List.set_cons_zero, List.set_cons_succ]
 refine wpAnyH_take (i := 12) (oi := ?o333) (v := ?v333) ?hi333 (by kernel_rfl) (by kernel_rfl) (by kernel_rfl) ?hq333 (Or.inl ⟨?hw333, ?hy333⟩) (by assumption) ?r333
 case hi333 => (simp only [List.getElem?_toArray, List.getElem?_cons_succ, List.getElem?_cons_zero]; exact rfl)
 case hq333 => exact fun _ _ _ h => h
 case hw333 => rfl
 case hy333 => (intro w hSw; (try dsimp only at hSw); go_simp; try exact rfl)
 simp only [Act.put, List.setIfInBounds_toArray, List.set_cons_zero, List.set_cons_succ]
 refine wpAnyH_take (i := 13) (oi := ?o334) (v := ?v334) ?hi334 (by kernel_rfl) (by kernel_rfl) (by kernel_rfl) ?hq334 (Or.inl ⟨?hw334, ?hy334⟩) (by assumption) ?r334
 case hi334 => (simp only [List.getElem?_toArray, List.getElem?_cons_succ, List.getElem?_cons_zero]; exact rfl)
 case hq334 => exact fun _ _ _ h => h
 case hw334 => rfl
 case hy334 => (intro w hSw; (try dsimp only at hSw); go_simp; try exact rfl)
 simp only [Act.put, List.setIfInBounds_toArray, List.set_cons_zero, List.set_cons_succ]
 refine wpAnyH_take (i := 14) (oi := ?o335) (v := ?v335) ?hi335 (by kernel_rfl) (by kernel_rfl) (by kernel_rfl) ?hq335 (Or.inl ⟨?hw335, ?hy335⟩) (by assumption) ?r335
 case hi335 => (simp only [List.getElem?_toArray, List.getElem?_cons_succ, List.getElem?_cons_zero]; exact rfl)
 case hq335 => exact fun _ _ _ h => h
 case hw335 => rfl
 case hy335 => (intro w hSw; (try dsimp only at hSw); go_simp; try exact rfl)
 simp only [Act.put, List.setIfInBounds_toArray, List.set_cons_zero, List.set_cons_succ]
 refine wpAnyH_take (i := 15) (oi := ?o336) (v := ?v336) ?hi336 (by kernel_rfl) (by kernel_rfl) (by kernel_rfl) ?hq336 (Or.inl ⟨?hw336, ?hy336⟩) (by assumption) ?r336
 case hi336 => (simp only [List.getElem?_toArray, List.getElem?_cons_succ, List.getElem?_cons_zero]; exact rfl)
 case hq336 => exact fun _ _ _ h => h
 case hw336 => rfl
 case hy336 => (intro w hSw; (try dsimp only at hSw); go_simp; try exact rfl)
 simp only [Act.put, List.setIfInBounds_toArray, List.set_cons_zero, List.set_cons_succ]
 refine wpAnyH_done (by kernel_rfl) ?_ _
 refine NoPanic.normal ?_
 obtain ⟨pe, pb, hpe⟩ : ∃ pe pb, putF (recF v b) = (pe, pb) := ⟨_, _, rfl⟩
 have HFIT : Kept (pe = 0 → pb.length = 64 * kF b ∧ 1 ≤ kF b ∧ kF b ≤ 953 ∧ v.seq ≤ 4294967295) := ⟨fun h => by
  have h1 : errF (recF v b) = 0 := by have := congrArg Prod.fst hpe; simp only [putF] at this; rw [this, h]
  have h2 := put_ok h1
  rw [hpe] at h2
  have h3 : pb = laid (textF (recF v b)) := congrArg Prod.snd h2
  obtain ⟨e1, -, -, e4⟩ := errF_ok h1
  have e5 : b.length ≤ 60000 := e1
  have e6 : Wire.fits v.seq 4 = true := e4
  unfold Wire.fits at e6
  simp at e6
  refine ⟨by rw [h3]; exact put_len _, kF_pos b, by unfold kF; omega, by omega⟩⟩
 rw [hpe] at AJ R1 ⊢
 simp only at AJ R1 ⊢
 clear hpe
 by_cases p0 : pe = 0
 ·subst p0
  obtain ⟨hpl, hkp, hkm, hsq⟩ := HFIT.out rfl
  have HKF : Kept (kF b = pb.length / 64) := ⟨by omega⟩
  generalize kF b = k at *
  obtain rfl : n1 = 64 * k := by rw [← R1.out.1]; exact hpl
  have hkd : pb.length / 64 = k := by omega
  have hq : Int.tdiv ((64 * k : Nat) : Int) 64 = (k : Int) := by rw [Int.tdiv_eq_ediv_of_nonneg (by omega)]; omega
  obtain ⟨hle1⟩ : Kept (64 ≤ 64 * k) := ⟨by omega⟩
  have AJ2 : Kept (appendJ s v b = if roomJ s v < (k : Nat) then (12, s, v) else if (layJ s (v.half * hn s + v.pos) pb).1 = 0 then (0, (layJ s (v.half * hn s + v.pos) pb).2, { v with recs := v.recs ++ [b], pos := v.pos + k, seq := v.seq + 1 }) else ((layJ s (v.half * hn s + v.pos) pb).1, (layJ s (v.half * hn s + v.pos) pb).2, deadJ v)) := ⟨by
   rw [AJ.out, if_neg (by simp), hkd]⟩
  have PT1 := Kept.mk (PT.out.below B1.out)
  have CR := Kept.mk (rroom_any PT1.out.1 PT1.out.2.1 PK.out.2.2.2.2.2.2.2)
  have HRM : Kept (roomJ s v = (hn s : Int) - v.pos) := ⟨rfl⟩
  obtain ⟨rm, hrm⟩ : ∃ q : Int, roomJ s v = q := ⟨_, rfl⟩
  rw [hrm] at AJ2 CR HRM
  clear AJ hpl HFIT hkd PT hrm
  go_wp2_with fail
  refine CR.out.mono ?_
  rintro e w2 ⟨rfl, b2⟩
  have B2 := Kept.mk (B1.out.trans (b2.mono B1.out.size))
  have PT2 := Kept.mk (PT1.out.below b2)
  have R2 := Kept.mk (R1.out.below b2)
  clear B1 PT1 R1 CR b2
  by_cases hlt : rm < (k : Int)
  ·have PG := Kept.mk (show RActPost w (F ++ x :: KJ) x y n (appendJ s v b) (.returned (.int .i64 12)) w2 from by
    rw [AJ2.out, if_pos hlt]; exact (SY.out.below B2.out).ract B2.out)
   clear SY AJ2 PT2 PK R2 B2 HRM HKF
   go_wp2
   go_ret
   exact PG.out
  ·obtain ⟨re, s1, hre⟩ : ∃ re s1, layJ s (v.half * hn s + v.pos) pb = (re, s1) := ⟨_, _, rfl⟩
   have HRM2 : Kept (v.pos + k ≤ hn s) := ⟨by have := HRM.out; omega⟩
   rw [hre] at AJ2
   simp only at AJ2
   have AJ3 : Kept (appendJ s v b = if re = 0 then (0, s1, { v with recs := v.recs ++ [b], pos := v.pos + k, seq := v.seq + 1 }) else (re, s1, deadJ v)) := ⟨by rw [AJ2.out, if_neg hlt]⟩
   have hlt' : ¬ rm < (k : Int) := hlt
   clear AJ2 HRM SY hlt
   go_upto_region 9 with (fail)
   have B3 := Kept.mk (B2.out.drew)
   have PT3 := Kept.mk (PT2.out.below (Below.refl _ _).drew)
   have R3 := Kept.mk (R2.out.drew)
   have x1 : w2.drew.cell? ⟨x, 1, none⟩ = some (.int .i64 (v.half : Nat)) := PT3.out.2.1.cell 1
   have x6 : w2.drew.cell? ⟨x, 6, none⟩ = some (.int .i64 (v.pos : Nat)) := PT3.out.2.1.cell 6
   clear B2 PT2 R2
   refine wp_region_noPanic ?_
   refine wp_region_held_drew (S := fun w' : World => w'.cell? ⟨x, 1, none⟩ = some (.int .i64 (v.half : Nat)) ∧ w'.cell? ⟨x, 6, none⟩ = some (.int .i64 (v.pos : Nat))) (by kernel_rfl) ⟨x1, x6⟩ (fun _ => ?_)
   clear x1 x6
   generalize w2.drew = w3 at *
   refine wpAnyH_take (i := 0) (oi := ?o337) (v := ?v337) ?hi337 (by kernel_rfl) (by kernel_rfl) (by kernel_rfl) ?hq337 (Or.inl ⟨?hw337, ?hy337⟩) (by assumption) ?r337
   case hi337 => (simp only [List.getElem?_toArray, List.getElem?_cons_zero]; exact rfl)
   case hq337 => exact fun _ _ _ h => h
   case hw337 => rfl
   case hy337 => (intro w hSw; (try dsimp only at hSw); go_simp; try exact rfl)
   simp only [Act.put, List.setIfInBounds_toArray, List.set_cons_zero, List.set_cons_succ]
   refine wpAnyH_take (i := 1) (oi := ?o338) (v := ?v338) ?hi338 (by kernel_rfl) (by kernel_rfl) (by kernel_rfl) ?hq338 (Or.inl ⟨?hw338, ?hy338⟩) (by assumption) ?r338
   case hi338 => (simp only [List.getElem?_toArray, List.getElem?_cons_succ, List.getElem?_cons_zero]; exact rfl)
   case hq338 => exact fun _ _ _ h => h
   case hw338 => rfl
   case hy338 => (intro w hSw; (try dsimp only at hSw); go_simp; try exact rfl)
   simp only [Act.put, List.setIfInBounds_toArray, List.set_cons_zero, List.set_cons_succ]
   refine wpAnyH_take (i := 2) (oi := ?o339) (v := ?v339) ?hi339 (by kernel_rfl) (by kernel_rfl) (by kernel_rfl) ?hq339 (Or.inl ⟨?hw339, ?hy339⟩) (by assumption) ?r339
   case hi339 => (simp only [List.getElem?_toArray, List.getElem?_cons_succ, List.getElem?_cons_zero]; exact rfl)
   case hq339 => exact fun _ _ _ h => h
   case hw339 => rfl
   case hy339 => (intro w hSw; (try dsimp only at hSw); go_simp; try exact rfl)
   simp only [Act.put, List.setIfInBounds_toArray, List.set_cons_zero, List.set_cons_succ]
   refine wpAnyH_take (i := 3) (oi := ?o340) (v := ?v340) ?hi340 (by kernel_rfl) (by kernel_rfl) (by kernel_rfl) ?hq340 (Or.inl ⟨?hw340, ?hy340⟩) (by assumption) ?r340
   case hi340 => (simp only [List.getElem?_toArray, List.getElem?_cons_succ, List.getElem?_cons_zero]; exact rfl)
   case hq340 => exact fun _ _ _ h => h
   case hw340 => rfl
   case hy340 => (intro w hSw; (try dsimp only at hSw); go_simp; try exact rfl)
   simp only [Act.put, List.setIfInBounds_toArray, List.set_cons_zero, List.set_cons_succ]
   refine wpAnyH_take (i := 4) (oi := ?o341) (v := ?v341) ?hi341 (by kernel_rfl) (by kernel_rfl) (by kernel_rfl) ?hq341 (Or.inl ⟨?hw341, ?hy341⟩) (by assumption) ?r341
   case hi341 => (simp only [List.getElem?_toArray, List.getElem?_cons_succ, List.getElem?_cons_zero]; exact rfl)
   case hq341 => exact fun _ _ _ h => h
   case hw341 => rfl
   case hy341 => (intro w hSw; (try dsimp only at hSw); go_simp; try exact rfl)
   simp only [Act.put, List.setIfInBounds_toArray, List.set_cons_zero, List.set_cons_succ]
   refine wpAnyH_take (i := 5) (oi := ?o342) (v := ?v342) ?hi342 (by kernel_rfl) (by kernel_rfl) (by kernel_rfl) ?hq342 (Or.inl ⟨?hw342, ?hy342⟩) (by assumption) ?r342
   case hi342 => (simp only [List.getElem?_toArray, List.getElem?_cons_succ, List.getElem?_cons_zero]; exact rfl)
   case hq342 => exact fun _ _ _ h => h
   case hw342 => rfl
   case hy342 => (intro w hSw; (try dsimp only at hSw); go_simp; try exact rfl)
   simp only [Act.put, List.setIfInBounds_toArray, List.set_cons_zero, List.set_cons_succ]
   refine wpAnyH_take (i := 6) (oi := ?o343) (v := ?v343) ?hi343 (by kernel_rfl) (by kernel_rfl) (by kernel_rfl) ?hq343 (Or.inl ⟨?hw343, ?hy343⟩) (by assumption) ?r343
   case hi343 => (simp only [List.getElem?_toArray, List.getElem?_cons_succ, List.getElem?_cons_zero]; exact rfl)
   case hq343 => exact fun _ _ _ h => h
   case hw343 => rfl
   case hy343 => (intro w hSw; (try dsimp only at hSw); go_simp; try exact rfl)
   simp only [Act.put, List.setIfInBounds_toArray, List.set_cons_zero, List.set_cons_succ]
   refine wpAnyH_take (i := 7) (oi := ?o344) (v := ?v344) ?hi344 (by kernel_rfl) (by kernel_rfl) (by kernel_rfl) ?hq344 (Or.inl ⟨?hw344, ?hy344⟩) (by assumption) ?r344
   case hi344 => (simp only [List.getElem?_toArray, List.getElem?_cons_succ, List.getElem?_cons_zero]; exact rfl)
   case hq344 => exact fun _ _ _ h => h
   case hw344 => rfl
   case hy344 => (intro w hSw; (try dsimp only at hSw); go_simp; try exact rfl)
   simp only [Act.put, List.setIfInBounds_toArray, List.set_cons_zero, List.set_cons_succ]
   refine wpAnyH_take (i := 8) (oi := ?o345) (v := ?v345) ?hi345 (by kernel_rfl) (by kernel_rfl) (by kernel_rfl) ?hq345 (Or.inl ⟨?hw345, ?hy345⟩) (by assumption) ?r345
   case hi345 => (simp only [List.getElem?_toArray, List.getElem?_cons_succ, List.getElem?_cons_zero]; exact rfl)
   case hq345 => exact fun _ _ _ h => h
   case hw345 => rfl
   case hy345 => (intro w hSw; (try dsimp only at hSw); go_simp; try exact rfl)
   simp only [Act.put, List.setIfInBounds_toArray, List.set_cons_zero, List.set_cons_succ]
   refine wpAnyH_take (i := 9) (oi := ?o346) (v := ?v346) ?hi346 (by kernel_rfl) (by kernel_rfl) (by kernel_rfl) ?hq346 (Or.inl ⟨?hw346, ?hy346⟩) (by assumption) ?r346
   case hi346 => (simp only [List.getElem?_toArray, List.getElem?_cons_succ, List.getElem?_cons_zero]; exact rfl)
   case hq346 => exact fun _ _ _ h => h
   case hw346 => rfl
   case hy346 => (intro w hSw; (try dsimp only at hSw); go_simp; try exact rfl)
   simp only [Act.put, List.setIfInBounds_toArray, List.set_cons_zero, List.set_cons_succ]
   refine wpAnyH_ready (rs := [10]) (by kernel_rfl) (by simp) ?_
   refine AllReadyH.cons (o := ?o382) ?hi382 (fun K hK => ?_) AllReadyH.nil
   case hi382 => (simp only [List.getElem?_toArray, List.getElem?_cons_succ, List.getElem?_cons_zero]; exact rfl)
   go_simp
   go_at_call 39
   have CY := rlay_any PT3.out.1 PT3.out.2.1 PK.out.2.2.2.2.2.1 v.half v.pos (by rcases PK.out.2.2.2.2.2.2.2.half with h | h <;> omega) PK.out.2.2.2.2.2.2.2.pos R3.out OF1.out hn1 hle1 (by omega)
   rw [hre] at CY
   refine CY.mono ?_
   clear CY hre
   rintro e w4 ⟨rfl, F4, d4, j4, fp4, nx4⟩
   have y1 : w4.cell? ⟨x, 1, none⟩ = some (.int .i64 (v.half : Nat)) := by have := j4.cell 1; rw [this]; split <;> rfl
   have y6 : w4.cell? ⟨x, 6, none⟩ = some (.int .i64 (v.pos : Nat)) := by have := j4.cell 6; rw [this]; split <;> rfl
   refine hK.out _ _ ⟨y1, y6⟩ (fun _ => ?_)
   have LP := Kept.mk (rlay_parts PT3.out.2.2.1 PK.out.2.2.1 PT3.out.2.2.2.1 PT3.out.2.2.2.2 PK.out.2.2.2.2.1 PK.out.2.2.2.2.2.1 PK.out.2.2.2.2.2.2.1 fp4)
   have D4 := Kept.mk d4
   have J4 := Kept.mk j4
   have NX4 := Kept.mk nx4
   have FP4 : Kept (Fp (F ++ x :: KJ) (F4 ++ x :: KJ) w w4) := ⟨Fp.trans (⟨barOf B3.out _, fun _ h => .inl h⟩ : Fp (F ++ x :: KJ) (F ++ x :: KJ) w w3) LP.out.2.2.2.2⟩
   clear hK K y1 y6 d4 j4 nx4 fp4 PT3 R3 B3
   refine wpAnyH_take (i := 11) (oi := ?o347) (v := ?v347) ?hi347 (by kernel_rfl) (by kernel_rfl) (by kernel_rfl) ?hq347 (Or.inl ⟨?hw347, ?hy347⟩) (by assumption) ?r347
   case hi347 => (simp only [List.getElem?_toArray, List.getElem?_cons_succ, List.getElem?_cons_zero]; exact rfl)
   case hq347 => exact fun _ _ _ h => h
   case hw347 => rfl
   case hy347 => (intro w hSw; (try dsimp only at hSw); go_simp; try exact rfl)
   simp only [Act.put, List.setIfInBounds_toArray, List.set_cons_zero, List.set_cons_succ]
   refine wpAnyH_done (by kernel_rfl) ?_ _
   refine NoPanic.normal ?_
   simp only at D4 J4
   by_cases h0 : re = 0
   ·subst h0
    rw [if_pos rfl] at J4 AJ3
    go_upto_region 11 with (fail)
    have D5 := D4.out.below (Below.refl _ _).drew
    have J5 := J4.out.drew
    have P5 := LP.out.1.drew
    have O5 := LP.out.2.1.keep (barOf (Below.refl w4.heap.size w4).drew []) (fun _ _ => by simp)
    have KL5 : ∀ k ∈ KJ, k < w4.drew.heap.size := LP.out.2.2.1
    have DK5 := LP.out.2.2.2.1
    have FP5 : Fp (F ++ x :: KJ) (F4 ++ x :: KJ) w w4.drew := ⟨FP4.out.1.drew, FP4.out.2⟩
    have RB5 : Rd w4.drew A l b := by
     have h1 : Bar (F ++ x :: KJ) w w4.drew := FP4.out.1.drew
     exact HR.out.far h1 HO.out
    obtain ⟨Av, cv, hvr⟩ := O5.shape
    subst hvr
    obtain ⟨k2, k3, k5, k5', k8, -, -, k9⟩ := PK.out
    have hvo : ∀ g ∈ (Value.slice Av v.recs.length cv).ownBlock.toList, g ∈ KJ := O5.choose_spec.2.1
    have nx5 := NX4.out
    have F4L5 : ∀ k ∈ F4, k < w4.drew.heap.size := D5.lts
    have szw5 : w.heap.size ≤ w4.drew.heap.size := FP5.1.size
    clear LP D4 J4 NX4 FP4 HR HO PK
    refine wp_region_noPanic ?_
    refine wp_region_U 11 (S := fun w' : World => w'.cell? ⟨x, 5, none⟩ = some (.slice Av v.recs.length cv)) (by kernel_rfl) (J5.cell 5) (fun hS0 => ?_)
    generalize w4.drew = w5 at *
    refine wpAnyU_take (i := 0) (oi := ?o348) (v := ?v348) ?hi348 (by kernel_rfl) (by kernel_rfl) (by kernel_rfl) (by kernel_rfl) ?hq348 (Or.inl ⟨?hw348, ?hy348⟩) (by assumption) ?r348
    case hi348 => (simp only [List.getElem?_toArray, List.getElem?_cons_zero]; exact rfl)
    case hq348 => exact fun _ _ _ h => h
    case hw348 => rfl
    case hy348 => (intro w hSw; (try dsimp only at hSw); go_simp; try exact rfl)
    simp only [Act.put, List.setIfInBounds_toArray, List.set_cons_zero, List.set_cons_succ]
    refine wpAnyU_take (i := 1) (oi := ?o349) (v := ?v349) ?hi349 (by kernel_rfl) (by kernel_rfl) (by kernel_rfl) (by kernel_rfl) ?hq349 (Or.inl ⟨?hw349, ?hy349⟩) (by assumption) ?r349
    case hi349 => (simp only [List.getElem?_toArray, List.getElem?_cons_succ, List.getElem?_cons_zero]; exact rfl)
    case hq349 => exact fun _ _ _ h => h
    case hw349 => rfl
    case hy349 => (intro w hSw; (try dsimp only at hSw); go_simp; try exact rfl)
    simp only [Act.put, List.setIfInBounds_toArray, List.set_cons_zero, List.set_cons_succ]
    refine wpAnyU_take (i := 2) (oi := ?o350) (v := ?v350) ?hi350 (by kernel_rfl) (by kernel_rfl) (by kernel_rfl) (by kernel_rfl) ?hq350 (Or.inl ⟨?hw350, ?hy350⟩) (by assumption) ?r350
    case hi350 => (simp only [List.getElem?_toArray, List.getElem?_cons_succ, List.getElem?_cons_zero]; exact rfl)
    case hq350 => exact fun _ _ _ h => h
    case hw350 => rfl
    case hy350 => (intro w hSw; (try dsimp only at hSw); go_simp; try exact rfl)
    simp only [Act.put, List.setIfInBounds_toArray, List.set_cons_zero, List.set_cons_succ]
    refine wpAnyU_take (i := 3) (oi := ?o351) (v := ?v351) ?hi351 (by kernel_rfl) (by kernel_rfl) (by kernel_rfl) (by kernel_rfl) ?hq351 (Or.inl ⟨?hw351, ?hy351⟩) (by assumption) ?r351
    case hi351 => (simp only [List.getElem?_toArray, List.getElem?_cons_succ, List.getElem?_cons_zero]; exact rfl)
    case hq351 => exact fun _ _ _ h => h
    case hw351 => rfl
    case hy351 => (intro w hSw; (try dsimp only at hSw); go_simp; try exact rfl)
    simp only [Act.put, List.setIfInBounds_toArray, List.set_cons_zero, List.set_cons_succ]
    refine wpAnyU_take (i := 4) (oi := ?o352) (v := ?v352) ?hi352 (by kernel_rfl) (by kernel_rfl) (by kernel_rfl) (by kernel_rfl) ?hq352 (Or.inl ⟨?hw352, ?hy352⟩) (by assumption) ?r352
    case hi352 => (simp only [List.getElem?_toArray, List.getElem?_cons_succ, List.getElem?_cons_zero]; exact rfl)
    case hq352 => exact fun _ _ _ h => h
    case hw352 => rfl
    case hy352 => (intro w hSw; (try dsimp only at hSw); go_simp; try exact rfl)
    simp only [Act.put, List.setIfInBounds_toArray, List.set_cons_zero, List.set_cons_succ]
    refine wpAnyU_take (i := 5) (oi := ?o353) (v := ?v353) ?hi353 (by kernel_rfl) (by kernel_rfl) (by kernel_rfl) (by kernel_rfl) ?hq353 (Or.inl ⟨?hw353, ?hy353⟩) (by assumption) ?r353
    case hi353 => (simp only [List.getElem?_toArray, List.getElem?_cons_succ, List.getElem?_cons_zero]; exact rfl)
    case hq353 => exact fun _ _ _ h => h
    case hw353 => rfl
    case hy353 => (intro w hSw; (try dsimp only at hSw); go_simp; try exact rfl)
    simp only [Act.put, List.setIfInBounds_toArray, List.set_cons_zero, List.set_cons_succ]
    refine wpAnyU_ready (rs := [6]) (by kernel_rfl) (by simp) ?_
    refine AllReadyU.cons (o := ?o371) ?hi371 (fun K hK => ?_) AllReadyU.nil
    case hi371 => (simp only [List.getElem?_toArray, List.getElem?_cons_succ, List.getElem?_cons_zero]; exact rfl)
    go_simp
    go_at_call 40
    refine (copy_any A l c b w5 RB5 (by omega)).mono ?_
    rintro e w6 ⟨v2, rfl, own, bel⟩
    obtain ⟨A2, c2, rfl, q1, q2, q3⟩ := own_rd own RB5.2.1
    have K3L : ∀ k ∈ (Value.slice A2 l c2).ownBlock.toList, w5.heap.size ≤ k ∧ k < w6.heap.size := fun k hk => own.lt k (by simpa using hk)
    have IN3 : In A2 l (Value.slice A2 l c2).ownBlock.toList := in_own own
    generalize (Value.slice A2 l c2).ownBlock.toList = K3 at *
    have D6 := D5.below bel; have J6 := J5.below bel J5.lt; have P6 := P5.below bel; have O6 := O5.keep (barOf bel []) (fun _ _ => by simp)
    have sz6 := bel.size
    have FP6 : Fp (F ++ x :: KJ) (F4 ++ x :: KJ) w w6 := FP5.trans ⟨barOf bel _, fun _ h => .inl h⟩
    have JL5 := J5.lt
    refine hK.out _ _ (fun _ => J6.cell 5) (fun _ => ?_)
    clear hK K D5 J5 P5 O5 FP5 RB5 own bel hS0
    try simp only [Act.put, List.setIfInBounds_toArray, List.set_cons_zero, List.set_cons_succ]
    refine wpAnyU_ready (rs := [7]) (by kernel_rfl) (by simp) ?_
    refine AllReadyU.cons (o := ?o372) ?hi372 (fun K hK => ?_) AllReadyU.nil
    case hi372 => (simp only [List.getElem?_toArray, List.getElem?_cons_succ, List.getElem?_cons_zero]; exact rfl)
    go_simp
    have ba : Below w6.heap.size w6 (w6.alloc (.cells #[.slice A2 l c2] 38)) := (Below.refl _ _).alloc (Nat.le_refl _) _
    have cB : (w6.alloc (.cells #[.slice A2 l c2] 38)).cell? ⟨w6.heap.size, 0, none⟩ = some (.slice A2 l c2) := (Blk.new w6 38 #[.slice A2 l c2]).cell 0
    have D8 := D6.below ba; have J8 := J6.below ba J6.lt; have P8 := P6.below ba; have O8 := O6.keep (barOf ba []) (fun _ _ => by simp); have R8 := q3.below ba
    have sz8 := ba.size
    have FP8 : Fp (F ++ x :: KJ) (F4 ++ x :: KJ) w (w6.alloc (.cells #[.slice A2 l c2] 38)) := FP6.trans ⟨barOf ba _, fun _ h => .inl h⟩
    refine hK.out _ _ (fun _ => J8.cell 5) (fun _ => ?_)
    clear hK K D6 J6 P6 O6 FP6 q3 ba
    try simp only [Act.put, List.setIfInBounds_toArray, List.set_cons_zero, List.set_cons_succ]
    generalize w6.alloc (.cells #[.slice A2 l c2] 38) = w8 at *
    generalize w6.heap.size = gB at *
    refine wpAnyU_ready (rs := [8]) (by kernel_rfl) (by simp) ?_
    refine AllReadyU.cons (o := ?o380) ?hi380 (fun K hK => ?_) AllReadyU.nil
    case hi380 => (simp only [List.getElem?_toArray, List.getElem?_cons_succ, List.getElem?_cons_zero]; exact rfl)
    have hog := O8.mono (G' := KJ ++ K3) (fun k hk => by simp [hk])
    have hvF : ∀ k ∈ F4, k ∉ (Value.slice Av v.recs.length cv).ownBlock.toList := fun k hk hk2 => DK5 k hk (hvo k hk2)
    have hvN : x ∉ (Value.slice Av v.recs.length cv).ownBlock.toList := fun hk => k8 (hvo x hk)
    have hin3 : Off A2 l (Value.slice Av v.recs.length cv).ownBlock.toList := IN3.off (fun k hk hk2 => by have := KL5 k (hvo k hk2); have := K3L k hk; omega)
    obtain ⟨v8, w9, hrun, og9, fp9⟩ := run_append_og (P := Tryz.prog) 55 55 38 Tryz.underlying55 info_txt hog gB 1 A2 l c2 b cB R8 q1 (by omega) (IN3.mono (fun k hk => by simp [hk])) hin3 (by have := k9.recs; have := k9.pos; omega)
    refine step_append_run rfl (.tmp 63) (.tmp 66) 55 55 (by rfl) _ _ (by rfl) (by rfl) v8 w9 hrun ?_
    have J9 := J8.bar fp9.1 hvN
    have D9 := D8.keep fp9.1 (fun k hk hk2 => hvF k hk hk2)
    have P9 := P8.far fp9.1 k5'
    have OF9 := k5'.step P8 fp9
    have V9 : ∀ k ∈ v8.ownBlock.toList, k ∈ (Value.slice Av v.recs.length cv).ownBlock.toList ∨ w8.heap.size ≤ k := fp9.2
    have V9L : ∀ k ∈ v8.ownBlock.toList, k < w9.heap.size := fun k hk => (og9.choose_spec.1.lt k (by simpa using hk)).2
    have sz9 := fp9.1.size
    have B89 := fp9.1
    obtain ⟨Av8, cv8, hv8⟩ := og9.shape
    rw [List.length_append, List.length_singleton] at hv8
    subst hv8
    refine hK.out _ _ (fun _ => J9.cell 5) (fun _ => ?_)
    clear hK K
    try simp only [Act.put, List.setIfInBounds_toArray, List.set_cons_zero, List.set_cons_succ]
    refine wpAnyU_ready (rs := [9]) (by kernel_rfl) (by simp) ?_
    refine AllReadyU.cons (o := ?o373) ?hi373 (fun K hK => ?_) AllReadyU.nil
    case hi373 => (simp only [List.getElem?_toArray, List.getElem?_cons_succ, List.getElem?_cons_zero]; exact rfl)
    go_simp
    refine hK.out _ _ (fun _ => J9.cell 5) (fun _ => ?_)
    clear hK K
    try simp only [Act.put, List.setIfInBounds_toArray, List.set_cons_zero, List.set_cons_succ]
    refine wpAnyU_ready (rs := [10]) (by kernel_rfl) (by simp) ?_
    refine AllReadyU.cons (o := ?o374) ?hi374 (fun K hK => ?_) AllReadyU.nil
    case hi374 => (simp only [List.getElem?_toArray, List.getElem?_cons_succ, List.getElem?_cons_zero]; exact rfl)
    go_simp
    refine hK.out _ _ (fun _ => J9.cell 5) (fun _ => ?_)
    clear hK K
    try simp only [Act.put, List.setIfInBounds_toArray, List.set_cons_zero, List.set_cons_succ]
    have y5 := J9.frozen 5
    have x5 := J9.cell 5
    refine wpAnyU_ready (rs := [11]) (by kernel_rfl) (by simp) ?_
    refine AllReadyU.cons (o := ?o375) ?hi375 (fun K hK => ?_) AllReadyU.nil
    case hi375 => (simp only [List.getElem?_toArray, List.getElem?_cons_succ, List.getElem?_cons_zero]; exact rfl)
    go_simp
    refine hK.out _ _ (fun h => absurd rfl h) (fun _ => ?_)
    clear hK K
    try simp only [Act.put]
    refine wpAnyU_done (by kernel_rfl) ?_ _
    refine NoPanic.normal ?_
    obtain ⟨K', hK'⟩ : ∃ K', (Value.slice Av8 (v.recs.length + 1) cv8).ownBlock.toList ++ (KJ ++ K3) = K' := ⟨_, rfl⟩
    have hKm : ∀ k ∈ K', k ∈ KJ ∨ (w5.heap.size ≤ k ∧ k < w9.heap.size ∧ ∀ q ∈ F4, q ≠ k) := fun k hk => by
     rw [← hK'] at hk
     rcases List.mem_append.1 hk with hk | hk
     ·rcases V9 k hk with e | e
      ·exact .inl (hvo k e)
      ·exact .inr ⟨by omega, V9L k hk, fun q hq e2 => by have := F4L5 q hq; omega⟩
     ·rcases List.mem_append.1 hk with hk | hk
      ·exact .inl hk
      ·have := K3L k hk
       exact .inr ⟨this.1, by omega, fun q hq e2 => by have := F4L5 q hq; omega⟩
    have nxK : x ∉ K' := fun hk => by
     rcases hKm x hk with e | e
     ·exact k8 e
     ·omega
    have dFK : Disj F4 K' := fun k hk hk2 => by
     rcases hKm k hk2 with e | e
     ·exact DK5 k hk e
     ·exact e.2.2 k hk rfl
    have FP9 : Fp (F ++ x :: KJ) (F4 ++ x :: K') w w9 := ⟨FP8.1.trans B89 (fun k hk => .inl (by simp [hvo k hk])), fun k hk => by
     simp only [List.mem_append, List.mem_cons] at hk
     rcases hk with hk | hk | hk
     ·exact FP8.2 k (by simp [hk])
     ·exact .inl (by simp [hk])
     ·rcases hKm k hk with e | e
      ·exact .inl (by simp [e])
      ·exact .inr (by omega)⟩
    have KL9 : ∀ k ∈ K', k < w9.heap.size := fun k hk => by
     rcases hKm k hk with e | e
     ·have := KL5 k e; omega
     ·exact e.2.1
    have IN9 : In A0 m0 K' := k5.mono (fun k hk => by rw [← hK']; simp [hk])
    rw [hK'] at og9
    have hb : Bar [x] w9 (w9.setCell ⟨x, 5, none⟩ (Value.slice Av8 (v.recs.length + 1) cv8)) := (Bar.refl _ _).setCell (by simp) _
    have D10 := D9.keep hb (setx_far nx5)
    have J10 : Blk (w9.setCell ⟨x, 5, none⟩ (Value.slice Av8 (v.recs.length + 1) cv8)) x 88 (rjc y v A0 m0 c0 (Value.slice Av8 (v.recs.length + 1) cv8)) := J9.set_ 5 _
    have P10 := P9.far hb (k5.off (setx_far k8))
    have O10 := og9.keep hb (setx_far nxK)
    have KL10 : ∀ k ∈ K', k < (w9.setCell ⟨x, 5, none⟩ (Value.slice Av8 (v.recs.length + 1) cv8)).heap.size := fun k hk => Nat.lt_of_lt_of_le (KL9 k hk) hb.size
    have FP10 : Fp (F ++ x :: KJ) (F4 ++ x :: K') w (w9.setCell ⟨x, 5, none⟩ (Value.slice Av8 (v.recs.length + 1) cv8)) := ⟨FP9.1.trans hb (fun k hk => by rw [List.mem_singleton] at hk; subst hk; exact .inl (by simp)), FP9.2⟩
    clear hK' hKm DK5 D8 J8 P8 O8 R8 FP8 B89 hrun og9 V9 V9L J9 D9 P9 FP9 KL9 hb y5 x5 hog hin3 hvF hvN hvo k5 k5' cB IN3 K3L KL5 F4L5
    generalize w9.setCell ⟨x, 5, none⟩ (Value.slice Av8 (v.recs.length + 1) cv8) = w10 at *
    go_upto_region 12 with (fail)
    have hv9 : VOk { v with recs := v.recs ++ [b], pos := v.pos + k, seq := v.seq + 1 } := by
     have h1 := HRM2.out
     have h3 := k9.recs
     refine ⟨k9.half, k9.gen, ?_, ?_, ?_⟩
     ·show 1 ≤ v.seq + 1 ∧ v.seq + 1 ≤ 4294967296
      have := k9.seq; omega
     ·show v.pos + k ≤ 8192; omega
     ·show (v.recs ++ [b]).length ≤ v.pos + k; rw [List.length_append, List.length_singleton]; omega
    have PG := Kept.mk (show RActPost w (F ++ x :: KJ) x y n (appendJ s v b) (.returned (.int .i64 0)) ((w10.drew.setCell ⟨x, 6, none⟩ (.int .i64 ((v.pos + k : Nat) : Int))).setCell ⟨x, 7, none⟩ (.int .i64 (v.seq + 1))) from by
     rw [AJ3.out]
     exact ry_more (D10.below (Below.refl _ _).drew) J10.drew k2 k3 P10.drew IN9 OF9 (O10.keep (barOf (Below.refl _ _).drew []) (fun _ _ => by simp)) KL10 nxK nx5 dFK ⟨FP10.1.drew, FP10.2⟩ (by simp) _ _ hv9)
    have x6 : w10.drew.cell? ⟨x, 6, none⟩ = some (.int .i64 (v.pos : Nat)) := J10.cell 6
    have x7 : w10.drew.cell? ⟨x, 7, none⟩ = some (.int .i64 v.seq) := J10.cell 7
    have y6 : w10.drew.frozen? ⟨x, 6, none⟩ = false := J10.frozen 6
    have y7 : w10.drew.frozen? ⟨x, 7, none⟩ = false := J10.frozen 7
    have J11 := J10.drew
    have hpp : v.pos ≤ 8192 := k9.pos
    have hs1 : 1 ≤ v.seq := k9.seq.1
    clear D10 J10 P10 IN9 OF9 O10 KL10 nxK nx5 dFK FP10 k9 hv9 AJ3
    have W0 : IntKind.i64.wrap (k : Int) = (k : Int) := by simp only [IntKind.wrap_i64]; omega
    have W1 : IntKind.i64.wrap ((v.pos : Int) + (k : Int)) = ((v.pos + k : Nat) : Int) := by simp only [IntKind.wrap_i64]; omega
    have W2 : IntKind.i64.wrap (v.seq + 1) = v.seq + 1 := by simp only [IntKind.wrap_i64]; omega
    refine wp_region_noPanic ?_
    refine wp_region_U 20 (S := fun w' : World => w'.cell? ⟨x, 7, none⟩ = some (.int .i64 v.seq)) (by kernel_rfl) x7 (fun hS0 => ?_)
    generalize w10.drew = w11 at *
    refine wpAnyU_take (i := 0) (oi := ?o354) (v := ?v354) ?hi354 (by kernel_rfl) (by kernel_rfl) (by kernel_rfl) (by kernel_rfl) ?hq354 (Or.inl ⟨?hw354, ?hy354⟩) (by assumption) ?r354
    case hi354 => (simp only [List.getElem?_toArray, List.getElem?_cons_zero]; exact rfl)
    case hq354 => exact fun _ _ _ h => h
    case hw354 => rfl
    case hy354 => (intro w hSw; (try dsimp only at hSw); go_simp; try exact rfl)
    simp only [Act.put, List.setIfInBounds_toArray, List.set_cons_zero, List.set_cons_succ]
    refine wpAnyU_take (i := 1) (oi := ?o355) (v := ?v355) ?hi355 (by kernel_rfl) (by kernel_rfl) (by kernel_rfl) (by kernel_rfl) ?hq355 (Or.inl ⟨?hw355, ?hy355⟩) (by assumption) ?r355
    case hi355 => (simp only [List.getElem?_toArray, List.getElem?_cons_succ, List.getElem?_cons_zero]; exact rfl)
    case hq355 => exact fun _ _ _ h => h
    case hw355 => rfl
    case hy355 => (intro w hSw; (try dsimp only at hSw); go_simp; try exact rfl)
    simp only [Act.put, List.setIfInBounds_toArray, List.set_cons_zero, List.set_cons_succ]
    refine wpAnyU_take (i := 2) (oi := ?o356) (v := ?v356) ?hi356 (by kernel_rfl) (by kernel_rfl) (by kernel_rfl) (by kernel_rfl) ?hq356 (Or.inl ⟨?hw356, ?hy356⟩) (by assumption) ?r356
    case hi356 => (simp only [List.getElem?_toArray, List.getElem?_cons_succ, List.getElem?_cons_zero]; exact rfl)
    case hq356 => exact fun _ _ _ h => h
    case hw356 => rfl
    case hy356 => (intro w hSw; (try dsimp only at hSw); go_simp; try exact rfl)
    simp only [Act.put, List.setIfInBounds_toArray, List.set_cons_zero, List.set_cons_succ]
    refine wpAnyU_take (i := 3) (oi := ?o357) (v := ?v357) ?hi357 (by kernel_rfl) (by kernel_rfl) (by kernel_rfl) (by kernel_rfl) ?hq357 (Or.inl ⟨?hw357, ?hy357⟩) (by assumption) ?r357
    case hi357 => (simp only [List.getElem?_toArray, List.getElem?_cons_succ, List.getElem?_cons_zero]; exact rfl)
    case hq357 => exact fun _ _ _ h => h
    case hw357 => rfl
    case hy357 => (intro w hSw; (try dsimp only at hSw); go_simp; try exact rfl)
    simp only [Act.put, List.setIfInBounds_toArray, List.set_cons_zero, List.set_cons_succ]
    refine wpAnyU_take (i := 4) (oi := ?o358) (v := ?v358) ?hi358 (by kernel_rfl) (by kernel_rfl) (by kernel_rfl) (by kernel_rfl) ?hq358 (Or.inl ⟨?hw358, ?hy358⟩) (by assumption) ?r358
    case hi358 => (simp only [List.getElem?_toArray, List.getElem?_cons_succ, List.getElem?_cons_zero]; exact rfl)
    case hq358 => exact fun _ _ _ h => h
    case hw358 => rfl
    case hy358 => (intro w hSw; (try dsimp only at hSw); go_simp; try exact rfl)
    simp only [Act.put, List.setIfInBounds_toArray, List.set_cons_zero, List.set_cons_succ]
    refine wpAnyU_take (i := 6) (oi := ?o359) (v := ?v359) ?hi359 (by kernel_rfl) (by kernel_rfl) (by kernel_rfl) (by kernel_rfl) ?hq359 (Or.inl ⟨?hw359, ?hy359⟩) (by assumption) ?r359
    case hi359 => (simp only [List.getElem?_toArray, List.getElem?_cons_succ, List.getElem?_cons_zero]; exact rfl)
    case hq359 => exact fun _ _ _ h => h
    case hw359 => rfl
    case hy359 => (intro w hSw; (try dsimp only at hSw); go_simp; try exact rfl)
    simp only [Act.put, List.setIfInBounds_toArray, List.set_cons_zero, List.set_cons_succ]
    refine wpAnyU_take (i := 7) (oi := ?o360) (v := ?v360) ?hi360 (by kernel_rfl) (by kernel_rfl) (by kernel_rfl) (by kernel_rfl) ?hq360 (Or.inl ⟨?hw360, ?hy360⟩) (by assumption) ?r360
    case hi360 => (simp only [List.getElem?_toArray, List.getElem?_cons_succ, List.getElem?_cons_zero]; exact rfl)
    case hq360 => exact fun _ _ _ h => h
    case hw360 => rfl
    case hy360 => (intro w hSw; (try dsimp only at hSw); go_simp; try exact rfl)
    simp only [Act.put, List.setIfInBounds_toArray, List.set_cons_zero, List.set_cons_succ]
    refine wpAnyU_take (i := 8) (oi := ?o361) (v := ?v361) ?hi361 (by kernel_rfl) (by kernel_rfl) (by kernel_rfl) (by kernel_rfl) ?hq361 (Or.inl ⟨?hw361, ?hy361⟩) (by assumption) ?r361
    case hi361 => (simp only [List.getElem?_toArray, List.getElem?_cons_succ, List.getElem?_cons_zero]; exact rfl)
    case hq361 => exact fun _ _ _ h => h
    case hw361 => rfl
    case hy361 => (intro w hSw; (try dsimp only at hSw); go_simp; try exact rfl)
    simp only [Act.put, List.setIfInBounds_toArray, List.set_cons_zero, List.set_cons_succ]
    refine wpAnyU_take (i := 10) (oi := ?o362) (v := ?v362) ?hi362 (by kernel_rfl) (by kernel_rfl) (by kernel_rfl) (by kernel_rfl) ?hq362 (Or.inl ⟨?hw362, ?hy362⟩) (by assumption) ?r362
    case hi362 => (simp only [List.getElem?_toArray, List.getElem?_cons_succ, List.getElem?_cons_zero]; exact rfl)
    case hq362 => exact fun _ _ _ h => h
    case hw362 => rfl
    case hy362 => (intro w hSw; (try dsimp only at hSw); go_simp; try exact rfl)
    simp only [Act.put, List.setIfInBounds_toArray, List.set_cons_zero, List.set_cons_succ]
    refine wpAnyU_take (i := 11) (oi := ?o363) (v := ?v363) ?hi363 (by kernel_rfl) (by kernel_rfl) (by kernel_rfl) (by kernel_rfl) ?hq363 (Or.inl ⟨?hw363, ?hy363⟩) (by assumption) ?r363
    case hi363 => (simp only [List.getElem?_toArray, List.getElem?_cons_succ, List.getElem?_cons_zero]; exact rfl)
    case hq363 => exact fun _ _ _ h => h
    case hw363 => rfl
    case hy363 => (intro w hSw; (try dsimp only at hSw); go_simp; try exact rfl)
    simp only [Act.put, List.setIfInBounds_toArray, List.set_cons_zero, List.set_cons_succ]
    refine wpAnyU_take (i := 12) (oi := ?o364) (v := ?v364) ?hi364 (by kernel_rfl) (by kernel_rfl) (by kernel_rfl) (by kernel_rfl) ?hq364 (Or.inl ⟨?hw364, ?hy364⟩) (by assumption) ?r364
    case hi364 => (simp only [List.getElem?_toArray, List.getElem?_cons_succ, List.getElem?_cons_zero]; exact rfl)
    case hq364 => exact fun _ _ _ h => h
    case hw364 => rfl
    case hy364 => (intro w hSw; (try dsimp only at hSw); go_simp; try exact rfl)
    simp only [Act.put, List.setIfInBounds_toArray, List.set_cons_zero, List.set_cons_succ]
    refine wpAnyU_take (i := 13) (oi := ?o365) (v := ?v365) ?hi365 (by kernel_rfl) (by kernel_rfl) (by kernel_rfl) (by kernel_rfl) ?hq365 (Or.inl ⟨?hw365, ?hy365⟩) (by assumption) ?r365
    case hi365 => (simp only [List.getElem?_toArray, List.getElem?_cons_succ, List.getElem?_cons_zero]; exact rfl)
    case hq365 => exact fun _ _ _ h => h
    case hw365 => rfl
    case hy365 => (intro w hSw; (try dsimp only at hSw); go_simp; try exact rfl)
    simp only [Act.put, List.setIfInBounds_toArray, List.set_cons_zero, List.set_cons_succ]
    refine wpAnyU_take (i := 14) (oi := ?o366) (v := ?v366) ?hi366 (by kernel_rfl) (by kernel_rfl) (by kernel_rfl) (by kernel_rfl) ?hq366 (Or.inl ⟨?hw366, ?hy366⟩) (by assumption) ?r366
    case hi366 => (simp only [List.getElem?_toArray, List.getElem?_cons_succ, List.getElem?_cons_zero]; exact rfl)
    case hq366 => exact fun _ _ _ h => h
    case hw366 => rfl
    case hy366 => (intro w hSw; (try dsimp only at hSw); go_simp; try exact rfl)
    simp only [Act.put, List.setIfInBounds_toArray, List.set_cons_zero, List.set_cons_succ]
    refine wpAnyU_ready (rs := [5]) (by kernel_rfl) (by simp) ?_
    refine AllReadyU.cons (o := ?o376) ?hi376 (fun K hK => ?_) AllReadyU.nil
    case hi376 => (simp only [List.getElem?_toArray, List.getElem?_cons_succ, List.getElem?_cons_zero]; exact rfl)
    go_simp
    refine hK.out _ _ (fun _ => x7) (fun _ => ?_)
    clear hK K
    try simp only [Act.put, List.setIfInBounds_toArray, List.set_cons_zero, List.set_cons_succ]
    refine wpAnyU_take (i := 9) (oi := ?o367) (v := ?v367) ?hi367 (by kernel_rfl) (by kernel_rfl) (by kernel_rfl) (by kernel_rfl) ?hq367 (Or.inl ⟨?hw367, ?hy367⟩) (by assumption) ?r367
    case hi367 => (simp only [List.getElem?_toArray, List.getElem?_cons_succ, List.getElem?_cons_zero]; exact rfl)
    case hq367 => exact fun _ _ _ h => h
    case hw367 => rfl
    case hy367 => (intro w hSw; (try dsimp only at hSw); go_simp; try exact rfl)
    simp only [Act.put, List.setIfInBounds_toArray, List.set_cons_zero, List.set_cons_succ]
    refine wpAnyU_take (i := 15) (oi := ?o368) (v := ?v368) ?hi368 (by kernel_rfl) (by kernel_rfl) (by kernel_rfl) (by kernel_rfl) ?hq368 (Or.inl ⟨?hw368, ?hy368⟩) (by assumption) ?r368
    case hi368 => (simp only [List.getElem?_toArray, List.getElem?_cons_succ, List.getElem?_cons_zero]; exact rfl)
    case hq368 => exact fun _ _ _ h => h
    case hw368 => rfl
    case hy368 => (intro w hSw; (try dsimp only at hSw); go_simp; try exact rfl)
    simp only [Act.put, List.setIfInBounds_toArray, List.set_cons_zero, List.set_cons_succ]
    refine wpAnyU_take (i := 16) (oi := ?o369) (v := ?v369) ?hi369 (by kernel_rfl) (by kernel_rfl) (by kernel_rfl) (by kernel_rfl) ?hq369 (Or.inl ⟨?hw369, ?hy369⟩) (by assumption) ?r369
    case hi369 => (simp only [List.getElem?_toArray, List.getElem?_cons_succ, List.getElem?_cons_zero]; exact rfl)
    case hq369 => exact fun _ _ _ h => h
    case hw369 => rfl
    case hy369 => (intro w hSw; (try dsimp only at hSw); go_simp; try exact rfl)
    simp only [Act.put, List.setIfInBounds_toArray, List.set_cons_zero, List.set_cons_succ]
    refine wpAnyU_ready (rs := [17]) (by kernel_rfl) (by simp) ?_
    refine AllReadyU.cons (o := ?o377) ?hi377 (fun K hK => ?_) AllReadyU.nil
    case hi377 => (simp only [List.getElem?_toArray, List.getElem?_cons_succ, List.getElem?_cons_zero]; exact rfl)
    go_simp
    have J12 := J11.set_ 6 (.int .i64 ((v.pos + k : Nat) : Int))
    have x12 : (w11.setCell ⟨x, 6, none⟩ (.int .i64 ((v.pos + k : Nat) : Int))).cell? ⟨x, 7, none⟩ = some (.int .i64 v.seq) := J12.cell 7
    refine hK.out _ _ (fun _ => x12) (fun hS12 => ?_)
    clear hK K
    try simp only [Act.put]
    refine wpAnyU_ready (rs := [18]) (by kernel_rfl) (by simp) ?_
    refine AllReadyU.cons (o := ?o378) ?hi378 (fun K hK => ?_) AllReadyU.nil
    case hi378 => (simp only [List.getElem?_toArray, List.getElem?_cons_succ, List.getElem?_cons_zero]; exact rfl)
    go_simp
    refine hK.out _ _ (fun _ => x12) (fun _ => ?_)
    clear hK K
    try simp only [Act.put, List.setIfInBounds_toArray, List.set_cons_zero, List.set_cons_succ]
    refine wpAnyU_take (i := 19) (oi := ?o370) (v := ?v370) ?hi370 (by kernel_rfl) (by kernel_rfl) (by kernel_rfl) (by kernel_rfl) ?hq370 (Or.inl ⟨?hw370, ?hy370⟩) (by assumption) ?r370
    case hi370 => (simp only [List.getElem?_toArray, List.getElem?_cons_succ, List.getElem?_cons_zero]; exact rfl)
    case hq370 => exact fun _ _ _ h => h
    case hw370 => rfl
    case hy370 => (intro w hSw; (try dsimp only at hSw); go_simp; try exact rfl)
    simp only [Act.put, List.setIfInBounds_toArray, List.set_cons_zero, List.set_cons_succ]
    refine wpAnyU_ready (rs := [20]) (by kernel_rfl) (by simp) ?_
    refine AllReadyU.cons (o := ?o379) ?hi379 (fun K hK => ?_) AllReadyU.nil
    case hi379 => (simp only [List.getElem?_toArray, List.getElem?_cons_succ, List.getElem?_cons_zero]; exact rfl)
    go_simp
    refine hK.out _ _ (fun h => absurd rfl h) (fun _ => ?_)
    clear hK K y6 y7 x6 x7 x12 J12 J11 hS12 hS0
    try simp only [Act.put]
    refine wpAnyU_done (by kernel_rfl) ?_ _
    refine NoPanic.normal ?_
    go_wp2
    go_ret
    exact PG.out
   ·rw [if_neg h0] at J4 AJ3
    have PG := Kept.mk (show RActPost w (F ++ x :: KJ) x y n (appendJ s v b) (.returned (.int .i64 re)) w4 from by
     rw [AJ3.out]
     exact ry_mk (v := deadJ v) D4.out J4.out PK.out.1 PK.out.2.1 LP.out.1 PK.out.2.2.1 PK.out.2.2.2.1 LP.out.2.1 LP.out.2.2.1 PK.out.2.2.2.2.1 NX4.out LP.out.2.2.2.1 PK.out.2.2.2.2.2.2.2.dead FP4.out)
    clear AJ3 LP D4 J4 NX4 FP4 PK HRM2 HR HO HKF
    go_wp2
    go_ret
    exact PG.out
 ·have PG := Kept.mk (show RActPost w (F ++ x :: KJ) x y n (appendJ s v b) (.returned (.int .i64 pe)) w1 from by
   rw [AJ.out, if_pos p0]; exact (SY.out.below B1.out).ract B1.out)
  clear SY AJ PT PK R1 B1 HFIT OF1
  go_wp2
  go_ret
  exact PG.out
end Go.Proofs.YtkbehjdglgpgjaaGreat.Journal
