/-
  Parts laid together: JOpen DiskNew JournalApi JCodeApi JournalSpell.
-/
import Derived.Test.YtjlhnhkjgcbnnaaGreatPart7
import Derived.Test.YtjlhnhkjgcbnnaaGreatPart5
import Derived.Test.YtjlhnhkjgcbnnaaGreatPart6
import Derived.Test.YtjlhnhkjgcbnnaaGreatPart4

/-
  The landed journal: Open.
-/

namespace Go.Proofs.YtjlhnhkjgcbnnaaGreat.Journal
open Go.RowKit Go.Proofs.YtjlhnhkjgcbnnaaGreat.Sha Go.Proofs.YtjlhnhkjgcbnnaaGreat.Disk Go.Proofs.YtjlhnhkjgcbnnaaGreat.Frame

/-- a journal of its own making -/
theorem open_mk {w0 w : World} {F K : List Nat} {t d j n rm : Nat} {s : DS} {v : JV} {A : Option Addr} {m c : Nat} {vr : Value} (h1 : Tab w t) (h2 : Dk w F d n s) (k1 : Blk w j 87 (jc t d ((v.half * (n / 2) : Nat) : Int) v.gen v.has A m c vr ((rm : Nat) : Int) v.dead)) (k2 : m ≤ c) (k3 : c ≤ 9223372036854775807) (k4 : Rd w A m v.pict) (k5 : In A m K) (k5' : Off A m vr.ownBlock.toList) (k6 : Og w 38 vr v.recs K)
    (k7 : ∀ k ∈ K, j < k ∧ k < w.heap.size) (hj : w0.heap.size ≤ j) (h4 : t ∉ F) (ht0 : t < w0.heap.size) (hF0 : ∀ k ∈ F, k < w0.heap.size) (k9 : COk n v) (k10 : rm ≤ n / 2) (k11 : v.dead = false → rm + v.pos = n / 2) (hb : Bar [t] w0 w) (hv : openJ s = v) : OpenPost Cj w0 (t :: F) t d n s (.returned (.pointer (some ⟨j, 0, none⟩))) w := by
  rw [OpenPost, hv]
  refine ⟨j, t :: (F ++ j :: K), rfl, ⟨F, j :: K, h1, h2, ⟨A, m, c, vr, rm, K, k1, k2, k3, k4, ⟨k5, k5'⟩, k6, fun k hk => (k7 k hk).2, fun hm => by have := k7 j hm; omega, rfl, k9, k10, k11⟩, h4, fun hm => ?_, fun k hk hm => ?_, rfl⟩, hb.mono (by intro k hk; rw [List.mem_singleton] at hk; simp [hk]), fun k hk => ?_⟩
  · rcases List.mem_cons.1 hm with e | hm
    · omega
    · have := k7 t hm; omega
  · have h0 := hF0 k hk
    rcases List.mem_cons.1 hm with e | hm
    · omega
    · have := k7 k hm; omega
  · simp only [List.mem_cons, List.mem_append] at hk
    rcases hk with e | e | e | e
    · exact .inl (by simp [e])
    · exact .inl (by simp [e])
    · exact .inr (by omega)
    · have := k7 k e; exact .inr (by omega)

theorem recs_same {s : DS} : ∀ (k : Nat) (v : JV), (recsJ s k v).half = v.half ∧ (recsJ s k v).gen = v.gen ∧ (recsJ s k v).has = v.has ∧ (recsJ s k v).pict = v.pict ∧ (recsJ s k v).dead = v.dead
  | 0, _ => ⟨rfl, rfl, rfl, rfl, rfl⟩
  | k + 1, v => by
    unfold recsJ
    split
    · exact recs_same k (nextJ s v)
    · exact ⟨rfl, rfl, rfl, rfl, rfl⟩
theorem cok_recs {n : Nat} {s : DS} (hwf : WF n s) : ∀ (k : Nat) (v : JV), COk n v → COk n (recsJ s k v)
  | 0, _, h => h
  | k + 1, v, h => by
    unfold recsJ
    split
    · next hm => exact cok_recs hwf k _ (cok_next h hwf hm)
    · exact h

set_option maxRecDepth 100000 in
set_option maxHeartbeats 1000000 in
theorem jopen_down {w : World} {H : List Nat} {t d n : Nat} {s : DS} (sd : Sd w H t d n s) (hd : s.down = true) :
    Calls Tryz.prog 10 #[.pointer (some ⟨t, 0, none⟩), .pointer (some ⟨d, 0, none⟩)] w (OpenPost Cj w H t d n s) := by
  obtain ⟨F, ht, hk, htF, rfl⟩ := sd
  obtain ⟨N, hN⟩ : ∃ N, w.heap.size = N := ⟨_, rfl⟩
  have htN : t < N := by rw [← hN]; exact ftab_lt ht
  have hFN : ∀ k ∈ F, k < N := fun k hm => by rw [← hN]; exact hk.lts k hm
  have ba : Below w.heap.size w (w.alloc (.cells #[.pointer (some ⟨t, 0, none⟩), .pointer (some ⟨d, 0, none⟩), .int .i64 0, .int .i64 0, .bool false, .slice none 0 0, .slice none 0 0, .int .i64 0, .bool false] 87)) := (Below.refl _ _).alloc (Nat.le_refl _) _
  have JB := Kept.mk (Blk.new_at w 87 #[.pointer (some ⟨t, 0, none⟩), .pointer (some ⟨d, 0, none⟩), .int .i64 0, .int .i64 0, .bool false, .slice none 0 0, .slice none 0 0, .int .i64 0, .bool false] N hN.symm)
  have K1 := hk.keep (barOf ba []) (fun _ _ => by simp)
  have T1 := Kept.mk (ftab_bar ht (barOf ba []) (by simp))
  have CR := Kept.mk (jread_down K1 hd)
  have D1 := Kept.mk K1
  have B1 : Kept (Bar [t] w (w.alloc (.cells #[.pointer (some ⟨t, 0, none⟩), .pointer (some ⟨d, 0, none⟩), .int .i64 0, .int .i64 0, .bool false, .slice none 0 0, .slice none 0 0, .int .i64 0, .bool false] 87))) := ⟨barOf ba _⟩
  have HO : Kept (openJ s = { noJ with dead := true }) := ⟨by unfold openJ; rw [if_pos hd]⟩
  clear ht hk ba K1 hd
  go_enter Tryz.func10, Tryz.ntmps10
  go_wp2_with fail
  refine CR.out.mono ?_
  generalize (w.alloc (.cells #[.pointer (some ⟨t, 0, none⟩), .pointer (some ⟨d, 0, none⟩), .int .i64 0, .int .i64 0, .bool false, .slice none 0 0, .slice none 0 0, .int .i64 0, .bool false] 87)) = w1 at *
  rintro e w2 ⟨rfl, b2⟩
  have JB2 := JB.out.below b2 JB.out.lt
  have y8 := JB2.frozen 8
  have x8 := JB2.cell 8
  have hs : Bar [N] w2 (w2.setCell ⟨N, 8, none⟩ (.bool true)) := (Bar.refl _ _).setCell (by simp) _
  have hjx := JB2.set_ 8 (.bool true)
  have hje : (#[Value.pointer (some ⟨t, 0, none⟩), .pointer (some ⟨d, 0, none⟩), .int .i64 0, .int .i64 0, .bool false, .slice none 0 0, .slice none 0 0, .int .i64 0, .bool false] : Array Value).setIfInBounds 8 (.bool true) = jc t d (((0 : Nat) * (n / 2) : Nat) : Int) 0 false none 0 0 (.slice none 0 0) ((0 : Nat) : Int) true := by simp [jc]
  rw [hje] at hjx
  have PG := Kept.mk (open_mk (w0 := w) (j := N) (rm := 0) (v := { noJ with dead := true }) (ftab_bar (ftab_bar T1.out (barOf b2 []) (by simp)) hs (by simp; omega)) ((D1.out.keep (barOf b2 []) (fun _ _ => by simp)).keep hs (fun k hk hm => by rw [List.mem_singleton] at hm; have := hFN k hk; omega)) hjx (Nat.le_refl 0) (by omega) Rd.nil_ (K := []) (.inl rfl) (.inl rfl) (Og.nil _ _ _) (by simp) (by omega) htF (by omega) (by rw [hN]; exact hFN) ⟨.inl rfl, by show (0 : Int) ≤ 0 ∧ (0 : Int) ≤ 4294967295; omega, rfl, Nat.zero_le _, Nat.zero_le _, by show 0 ≤ 60000; omega, fun q hq => by cases hq⟩ (by omega) (fun h => by cases h) ((B1.out.trans (barOf b2 []) (by simp)).trans hs (fun k hk => by rw [List.mem_singleton] at hk; exact .inr (by omega))) HO.out)
  clear JB JB2 T1 CR D1 B1 HO b2 hs hjx hje
  go_wp2
  go_ret
  exact PG.out

set_option maxRecDepth 100000 in
set_option maxHeartbeats 4000000 in
theorem jopen_up (api : FrameApi) {w : World} {H : List Nat} {t d n : Nat} {s : DS} (sd : Sd w H t d n s) (hd : s.down = false) :
    Calls Tryz.prog 10 #[.pointer (some ⟨t, 0, none⟩), .pointer (some ⟨d, 0, none⟩)] w (OpenPost Cj w H t d n s) := by
  obtain ⟨F, ht, hk, htF, rfl⟩ := sd
  obtain ⟨N, hN⟩ : ∃ N, w.heap.size = N := ⟨_, rfl⟩
  have htN : t < N := by rw [← hN]; exact ftab_lt ht
  have HFN : Kept (∀ k ∈ F, k < N) := ⟨fun k hm => by rw [← hN]; exact hk.lts k hm⟩
  have hwf := hk.1
  have hhn := wf_hn hwf
  have hn8 := hwf.n2
  obtain ⟨M, hM⟩ : ∃ M, n / 2 = M := ⟨_, rfl⟩
  have hM9 : M ≤ 4096 := by omega
  have hM2 : 2 * M ≤ n := by omega
  have HV := Kept.mk (all_halves hwf)
  have HW := Kept.mk hwf
  have HHM : Kept (hn s = M ∧ n / 2 = M) := ⟨by omega, hM⟩
  rw [hM] at HV
  have ba : Below w.heap.size w (w.alloc (.cells #[.pointer (some ⟨t, 0, none⟩), .pointer (some ⟨d, 0, none⟩), .int .i64 0, .int .i64 0, .bool false, .slice none 0 0, .slice none 0 0, .int .i64 0, .bool false] 87)) := (Below.refl _ _).alloc (Nat.le_refl _) _
  have JB := Kept.mk (Blk.new_at w 87 #[.pointer (some ⟨t, 0, none⟩), .pointer (some ⟨d, 0, none⟩), .int .i64 0, .int .i64 0, .bool false, .slice none 0 0, .slice none 0 0, .int .i64 0, .bool false] N hN.symm)
  have K1 := hk.keep (barOf ba []) (fun _ _ => by simp)
  have T1 := Kept.mk (ftab_bar ht (barOf ba []) (by simp))
  have CR := Kept.mk (jread_up K1 hd)
  have D1 := Kept.mk K1
  have B1 : Kept (Bar [t] w (w.alloc (.cells #[.pointer (some ⟨t, 0, none⟩), .pointer (some ⟨d, 0, none⟩), .int .i64 0, .int .i64 0, .bool false, .slice none 0 0, .slice none 0 0, .int .i64 0, .bool false] 87))) := ⟨barOf ba _⟩
  have HOP := Kept.mk (open_now hd)
  have sz1 : (w.alloc (.cells #[.pointer (some ⟨t, 0, none⟩), .pointer (some ⟨d, 0, none⟩), .int .i64 0, .int .i64 0, .bool false, .slice none 0 0, .slice none 0 0, .int .i64 0, .bool false] 87)).heap.size = N + 1 := by simp [hN]
  clear ht hk ba K1 hd hwf hhn hM
  go_enter Tryz.func10, Tryz.ntmps10
  go_wp2_with fail
  refine CR.out.mono ?_
  generalize (w.alloc (.cells #[.pointer (some ⟨t, 0, none⟩), .pointer (some ⟨d, 0, none⟩), .int .i64 0, .int .i64 0, .bool false, .slice none 0 0, .slice none 0 0, .int .i64 0, .bool false] 87)) = w1 at *
  rintro e w2 ⟨A, c, rfl, hc, hcm, r2, o2, b2⟩
  have hcm1 : maxLen = 9223372036854775807 := rfl
  have JB2 := Kept.mk (JB.out.below b2 JB.out.lt)
  have T2 := Kept.mk (ftab_bar T1.out (barOf b2 []) (by simp))
  have D2 := Kept.mk (D1.out.keep (barOf b2 []) (fun _ _ => by simp))
  have B2 := Kept.mk (B1.out.trans (barOf b2 []) (by simp))
  have R2 := Kept.mk r2
  have O2 : Kept (Off A (64 * n) [t]) := ⟨o2 [t] (fun k hk => by rw [List.mem_singleton] at hk; omega)⟩
  have O2N : Kept (Off A (64 * n) [N]) := ⟨o2 [N] (fun k hk => by rw [List.mem_singleton] at hk; omega)⟩
  have sz2 : N + 1 ≤ w2.heap.size := by have := b2.size; omega
  have CS := csectors_j D2.out (JB2.out.cell 1)
  rw [HHM.out.2] at CS
  have CS := Kept.mk CS
  clear CR JB T1 D1 B1 r2 o2 b2 sz1
  go_wp2_with fail
  refine CS.out.mono ?_
  rintro e w' ⟨rfl, rfl⟩
  clear CS
  have s1 := fun w' => slice_h_at A (64 * n) c (64 * M) (by omega) ((M : Int) * 64) (by omega) w'
  obtain ⟨A', s2, r2, o2⟩ := slice_l_all A (64 * n) c hc (64 * M) (by omega) ((M : Int) * 64) (by omega)
  have s3 := fun w' => slice_h_at A' (64 * n - 64 * M) (c - 64 * M) (64 * M) (by omega) ((M : Int) * 64) (by omega) w'
  have W1 : IntKind.i64.wrap ((M : Int) * 64) = (M : Int) * 64 := by simp only [IntKind.wrap_i64]; omega
  have RF : Kept (∀ W, Rd W A (64 * n) (allD s n) → Rd W A (64 * M) (textJ s 0 0) ∧ Rd W A' (64 * M) (textJ s 1 0)) := ⟨fun W hW => by
    have h1 := rd_head hW (64 * M) (by omega)
    have h2 := rd_head (r2 W _ hW) (64 * M) (by omega)
    rw [HV.out.1] at h1
    rw [HV.out.2] at h2
    exact ⟨h1, h2⟩⟩
  have off_head : ∀ {B : Option Addr} {x y : Nat} {G : List Nat}, x ≤ y → Off B y G → Off B x G := fun hxy h => by
    rcases h with h | h
    · exact .inl (by omega)
    · exact .inr h
  have OF : Kept (Off A (64 * M) [t] ∧ Off A' (64 * M) [t]) := ⟨off_head (by omega) O2.out, off_head (by omega) (o2 _ O2.out)⟩
  have OFX : Kept (∀ G, Off A (64 * n) G → Off A (64 * M) G ∧ Off A' (64 * M) G) := ⟨fun G hG => ⟨off_head (by omega) hG, off_head (by omega) (o2 _ hG)⟩⟩
  clear r2 o2
  go_upto_region 7 with (fail)
  go_quiet (fail)
  have bd := below_drewN (Below.refl w2.heap.size w2) nq
  have JB3 := Kept.mk (JB2.out.below bd JB2.out.lt)
  have T3 := Kept.mk (ftab_bar T2.out (barOf bd []) (by simp))
  have D3 := Kept.mk (D2.out.keep (barOf bd []) (fun _ _ => by simp))
  have B3 := Kept.mk (B2.out.trans (barOf bd []) (by simp))
  have R3 := Kept.mk (R2.out.below bd)
  have sz3 : N + 1 ≤ (w2.drewN nq).heap.size := by have := bd.size; omega
  clear JB2 T2 D2 B2 R2 bd sz2 s1 s2 s3 W1
  generalize w2.drewN nq = w3 at *
  have CB := Kept.mk ((jbegin_any api 0 T3.out (RF.out _ R3.out).1 (show 64 * M ≤ c by omega) hcm (by omega) OF.out.1).mono fun e w' h => beg_uni HW.out (.inl rfl) (RF.out _ R3.out).1 OF.out.1 (show 64 * M ≤ c by omega) hcm h)
  go_wp2_with fail
  refine CB.out.mono ?_
  rintro e w4 ⟨Ap, m, cp, A2, l2, c2, rfl, q1, q2, q3, q4, q5, q6, q7, q8, q9, q10⟩
  simp only [hvl]
  obtain ⟨v0, hv0⟩ : ∃ v, begV s 0 = v := ⟨_, rfl⟩
  obtain ⟨v1, hv1⟩ : ∃ v, begV s 1 = v := ⟨_, rfl⟩
  have BK0 := Kept.mk (beg_ok HW.out (half := 0) (.inl rfl))
  have BK1 := Kept.mk (beg_ok HW.out (half := 1) (.inr rfl))
  have HNW : Kept (nowV s = if v1.has = true ∧ (v0.has = false ∨ v0.gen < v1.gen) then v1 else v0) := ⟨by unfold nowV; rw [hv0, hv1]⟩
  rw [hv0] at BK0
  rw [hv1] at BK1
  rw [hv0] at q3 q7 ⊢
  clear hv0
  obtain ⟨K0, in0, hK0⟩ := in_new q3 q4
  obtain ⟨B0, hB0⟩ : ∃ q, w4.heap.size = q := ⟨_, rfl⟩
  have sz4 := q10.size
  have b5 : Bar [] w4 (w4.alloc (.cells #[.int .i64 0, .int .i64 v0.gen, .bool v0.has, .slice Ap m cp, .slice none 0 0, .int .i64 0] 85)) := barOf ((Below.refl _ _).alloc (Nat.le_refl _) _) []
  have b35 : Bar [t] w3 (w4.alloc (.cells #[.int .i64 0, .int .i64 v0.gen, .bool v0.has, .slice Ap m cp, .slice none 0 0, .int .i64 0] 85)) := q10.trans b5 (by simp)
  have HZ5 := Kept.mk (Blk.new_at w4 85 #[.int .i64 0, .int .i64 v0.gen, .bool v0.has, .slice Ap m cp, .slice none 0 0, .int .i64 0] B0 hB0.symm)
  have sz5 : (w4.alloc (.cells #[.int .i64 0, .int .i64 v0.gen, .bool v0.has, .slice Ap m cp, .slice none 0 0, .int .i64 0] 85)).heap.size = B0 + 1 := by simp [hB0]
  have T5 := Kept.mk (ftab_bar q9 b5 (by simp))
  have JB5 := Kept.mk (JB3.out.bar b35 (by simp; omega))
  have D5 := Kept.mk (D3.out.keep b35 (fun k hk hm => by rw [List.mem_singleton] at hm; subst hm; exact htF hk))
  have B5 := Kept.mk (B3.out.trans b35 (by simp))
  have R5 := Kept.mk (R3.out.far b35 O2.out)
  have P5 := Kept.mk (q3.far b5 (q3.off (by simp)))
  have S5 := Kept.mk (q7.far b5 (q7.off (by simp)))
  have OB0 : Kept (Off A (64 * n) [B0]) := ⟨R3.out.off (fun k hk => by rw [List.mem_singleton] at hk; omega)⟩
  have IN0 : Kept (In Ap m K0 ∧ ∀ k ∈ K0, N < k ∧ k < B0) := ⟨in0, fun k hk => by have := hK0 k hk; omega⟩
  have Q8 : Kept (∀ G, Off A (64 * n) G → Off A2 l2 G) := ⟨fun G hG => q8 G (OFX.out G hG).1⟩
  have QC : Kept (m ≤ cp ∧ cp ≤ maxLen ∧ l2 ≤ c2 ∧ c2 ≤ maxLen) := ⟨q1, q2, q5, q6⟩
  have CB2 := Kept.mk ((jbegin_any api (M : Nat) T5.out (RF.out _ R5.out).2 (show 64 * M ≤ c - 64 * M by omega) (by omega) (by omega) OF.out.2).mono fun e w' h => beg_uni HW.out (.inr rfl) (RF.out _ R5.out).2 OF.out.2 (show 64 * M ≤ c - 64 * M by omega) (by omega) h)
  clear CB in0 hK0 q1 q2 q3 q4 q5 q6 q7 q8 q9 q10 b5 b35 JB3 T3 D3 B3 R3 OF RF
  go_wp2_with fail
  refine CB2.out.mono ?_
  generalize (w4.alloc (.cells #[.int .i64 0, .int .i64 v0.gen, .bool v0.has, .slice Ap m cp, .slice none 0 0, .int .i64 0] 85)) = w5 at *
  rintro e w6 ⟨Aq, mq, cq, A3, l3, c3, rfl, q1, q2, q3, q4, q5, q6, q7, q8, q9, q10⟩
  simp only [hvl]
  rw [hv1] at q3 q7 ⊢
  clear hv1
  obtain ⟨K1, in1, hK1⟩ := in_new q3 q4
  obtain ⟨B1, hB1⟩ : ∃ q, w6.heap.size = q := ⟨_, rfl⟩
  have sz6 := q10.size
  have b7 : Bar [] w6 (w6.alloc (.cells #[.int .i64 (M : Nat), .int .i64 v1.gen, .bool v1.has, .slice Aq mq cq, .slice none 0 0, .int .i64 0] 85)) := barOf ((Below.refl _ _).alloc (Nat.le_refl _) _) []
  have b57 : Bar [t] w5 (w6.alloc (.cells #[.int .i64 (M : Nat), .int .i64 v1.gen, .bool v1.has, .slice Aq mq cq, .slice none 0 0, .int .i64 0] 85)) := q10.trans b7 (by simp)
  have HO7 := Kept.mk (Blk.new_at w6 85 #[.int .i64 (M : Nat), .int .i64 v1.gen, .bool v1.has, .slice Aq mq cq, .slice none 0 0, .int .i64 0] B1 hB1.symm)
  have T7 := Kept.mk (ftab_bar q9 b7 (by simp))
  have HZ7 := Kept.mk (HZ5.out.bar b57 (by simp; omega))
  have JB7 := Kept.mk (JB5.out.bar b57 (by simp; omega))
  have D7 := Kept.mk (D5.out.keep b57 (fun k hk hm => by rw [List.mem_singleton] at hm; subst hm; exact htF hk))
  have B7 := Kept.mk (B5.out.trans b57 (by simp))
  have P7 := Kept.mk (P5.out.far b57 (IN0.out.1.off (fun k hk hm => by rw [List.mem_singleton] at hm; have := IN0.out.2 k hk; omega)))
  have S7 := Kept.mk (S5.out.far b57 (Q8.out _ O2.out))
  have P8 := Kept.mk (q3.far b7 (q3.off (by simp)))
  have S8 := Kept.mk (q7.far b7 (q7.off (by simp)))
  have IN1 : Kept (In Aq mq K1 ∧ ∀ k ∈ K1, N < k ∧ B0 < k ∧ k < B1) := ⟨in1, fun k hk => by have := hK1 k hk; omega⟩
  have Q9 : Kept (∀ G, Off A (64 * n) G → Off A3 l3 G) := ⟨fun G hG => q8 G (OFX.out G hG).2⟩
  have QD : Kept (mq ≤ cq ∧ cq ≤ maxLen ∧ l3 ≤ c3 ∧ c3 ≤ maxLen) := ⟨q1, q2, q5, q6⟩
  have sz7 : (w6.alloc (.cells #[.int .i64 (M : Nat), .int .i64 v1.gen, .bool v1.has, .slice Aq mq cq, .slice none 0 0, .int .i64 0] 85)).heap.size = B1 + 1 := by simp [hB1]
  have hB01 : B0 < B1 := by omega
  have hNB0 : N < B0 := by omega
  clear CB2 in1 hK1 q1 q2 q3 q4 q5 q6 q7 q8 q9 q10 b7 b57 HZ5 JB5 T5 D5 B5 R5 P5 S5 sz5 OFX
  have h01 := HZ7.out.cell 1; have h02 := HZ7.out.cell 2
  have h11 := HO7.out.cell 1; have h12 := HO7.out.cell 2
  go_upto_region 10 with (fail)
  generalize (w6.alloc (.cells #[.int .i64 (M : Nat), .int .i64 v1.gen, .bool v1.has, .slice Aq mq cq, .slice none 0 0, .int .i64 0] 85)) = wb at *
  obtain ⟨p0, hp0⟩ : ∃ q, v0.has = q := ⟨_, rfl⟩
  obtain ⟨p1, hp1⟩ : ∃ q, v1.has = q := ⟨_, rfl⟩
  have h02' : wb.cell? ⟨B0, 2, none⟩ = some (.bool p0) := by rw [← hp0]; exact h02
  have h12' : wb.cell? ⟨B1, 2, none⟩ = some (.bool p1) := by rw [← hp1]; exact h12
  clear h02 h12
  have h02 := h02'; have h12 := h12'
  clear h02' h12'
  have h01' : wb.cell? ⟨B0, 1, none⟩ = some (.int .i64 v0.gen) := h01
  have h11' : wb.cell? ⟨B1, 1, none⟩ = some (.int .i64 v1.gen) := h11
  clear h01 h11
  have h01 := h01'; have h11 := h11'
  clear h01' h11'
  cases p1 with
  | false =>
    have hnow : nowV s = v0 := by rw [HNW.out, if_neg (by rw [hp1]; simp)]
    have Ta := T7
    have HBa := Kept.mk (show Blk wb B0 85 (hcs 0 v0.gen v0.has Ap m cp (.slice none 0 0) 0) from HZ7.out)
    have JBa := JB7; have Da := D7; have Ba := B7; have Pa := P7; have Sa := S7
    have sza : wb.heap.size ≤ wb.heap.size := Nat.le_refl _
    clear T7 JB7 D7 B7 P7 P8 S7 S8 HZ7 HO7
    go_upto_region 12 with (fail)
    clear h01 h02 h11 h12
    have OX : Off A2 l2 [t, B0] := Q8.out _ (off_two (F := [t]) (G := [B0]) O2.out OB0.out)
    have hhalf : v0.half = 0 := BK0.out.2.2.1
    have TXT : Rd wb A2 l2 (textJ s v0.half v0.pos) := by rw [hhalf]; exact Sa.out
    have CF := Kept.mk (jfollow_any api HW.out Ta.out HBa.out (by omega) BK0.out.2.1 BK0.out.1 TXT QC.out.2.2.1 QC.out.2.2.2 OX)
    have HNV : Kept (openJ s = recsJ s (hn s) v0) := ⟨by rw [HOP.out, hnow]⟩
    clear OX TXT HOP hnow
    go_wp2_with fail
    refine CF.out.mono ?_
    rintro e wc ⟨rfl, vr, Kr, u1, u2, u3, u4, u5⟩
    obtain ⟨e1, e2, e3, e4, e5⟩ := recs_same (s := s) (hn s) v0
    have CO := cok_recs HW.out (hn s) v0 BK0.out.1
    rw [← HNV.out] at u2 u3 e1 e2 e3 e4 e5 CO
    obtain ⟨V, hV⟩ : ∃ V, openJ s = V := ⟨_, rfl⟩
    rw [hV] at u2 u3 e1 e2 e3 e4 e5 CO
    have szc := u5.size
    have JBc := JBa.out.bar u5 (by simp; omega)
    have Pc := Pa.out.far u5 (IN0.out.1.off (fun k hk hm => by simp only [List.mem_cons, List.not_mem_nil, or_false] at hm; have := IN0.out.2 k hk; omega))
    have hKr : ∀ k ∈ Kr, B1 < k ∧ k < wc.heap.size := fun k hk => by have := u4 k hk; omega
    have hvo : ∀ g ∈ vr.ownBlock.toList, g ∈ Kr := u3.choose_spec.2.1
    have OFP : Off Ap m vr.ownBlock.toList := IN0.out.1.off (fun k hk hm => by have := hKr k (hvo k hm); have := IN0.out.2 k hk; omega)
    obtain ⟨rq, hrq⟩ : ∃ q, hn s - V.pos = q := ⟨_, rfl⟩
    rw [hrq] at u2
    have hN8 : N < wc.heap.size := JBc.lt
    have hbj : Bar [N] wc ((((((wc.setCell ⟨N, 2, none⟩ (.int .i64 0)).setCell ⟨N, 3, none⟩ (.int .i64 V.gen)).setCell ⟨N, 4, none⟩ (.bool v0.has)).setCell ⟨N, 5, none⟩ (.slice Ap m cp)).setCell ⟨N, 6, none⟩ vr).setCell ⟨N, 7, none⟩ (.int .i64 (rq : Nat))) := ((((((Bar.refl [N] wc).setCell (by simp) _).setCell (by simp) _).setCell (by simp) _).setCell (by simp) _).setCell (by simp) _).setCell (by simp) _
    have hjx := (((((JBc.set_ 2 (.int .i64 0)).set_ 3 (.int .i64 V.gen)).set_ 4 (.bool v0.has)).set_ 5 (.slice Ap m cp)).set_ 6 vr).set_ 7 (.int .i64 (rq : Nat))
    have hje : ((((((#[Value.pointer (some ⟨t, 0, none⟩), .pointer (some ⟨d, 0, none⟩), .int .i64 0, .int .i64 0, .bool false, .slice none 0 0, .slice none 0 0, .int .i64 0, .bool false] : Array Value).setIfInBounds 2 (.int .i64 0)).setIfInBounds 3 (.int .i64 V.gen)).setIfInBounds 4 (.bool v0.has)).setIfInBounds 5 (.slice Ap m cp)).setIfInBounds 6 vr).setIfInBounds 7 (.int .i64 (rq : Nat)) = jc t d ((V.half * (n / 2) : Nat) : Int) V.gen V.has Ap m cp vr ((rq : Nat) : Int) V.dead := by
      rw [e1, hhalf, e3, e5, BK0.out.2.2.2, HHM.out.2]
      simp [jc]
    rw [hje] at hjx
    have nF : ∀ k ∈ F, k ≠ N := fun k hk e => by have := HFN.out k hk; omega
    have nB : ∀ k ∈ F, k ∉ [t, B0] := fun k hk hm => by
      simp only [List.mem_cons, List.not_mem_nil, or_false] at hm
      rcases hm with e | e
      · subst e; exact htF hk
      · have := HFN.out k hk; omega
    have hpM : V.pos ≤ M := by have := CO.pos; rw [HHM.out.2] at this; exact this
    have dNP : Disj K0 [N] := fun k hk hm => by rw [List.mem_singleton] at hm; have := IN0.out.2 k hk; omega
    have dNR : Disj Kr [N] := fun k hk hm => by rw [List.mem_singleton] at hm; have := hKr k hk; omega
    have PG := Kept.mk (open_mk (w0 := w) (j := N) (K := K0 ++ Kr) (ftab_bar u1 hbj (by simp; omega)) ((Da.out.keep u5 nB).keep hbj (fun k hk hm => by rw [List.mem_singleton] at hm; exact nF k hk hm)) hjx QC.out.1 QC.out.2.1 (by rw [e4]; exact Pc.far hbj (IN0.out.1.off dNP)) (IN0.out.1.mono (fun k hk => by simp [hk])) OFP ((u3.keep hbj dNR).mono (fun k hk => by simp [hk])) (fun k hk => by
      have hs := hbj.size
      rcases List.mem_append.1 hk with hk | hk
      · have := IN0.out.2 k hk; omega
      · have := hKr k hk; omega) (by omega) htF (by omega) (by rw [hN]; exact HFN.out) CO (by have := HHM.out; omega) (fun _ => by have := HHM.out; omega) ((Ba.out.trans u5 (fun k hk => by
        simp only [List.mem_cons, List.not_mem_nil, or_false] at hk
        rcases hk with e | e
        · exact .inl (by simp [e])
        · exact .inr (by omega))).trans hbj (fun k hk => by rw [List.mem_singleton] at hk; exact .inr (by omega))) hV)
    have j2' : ∃ u, wc.cell? ⟨N, 2, none⟩ = some u := ⟨_, JBc.cell 2⟩
    have j3' : ∃ u, wc.cell? ⟨N, 3, none⟩ = some u := ⟨_, JBc.cell 3⟩
    have j4' : ∃ u, wc.cell? ⟨N, 4, none⟩ = some u := ⟨_, JBc.cell 4⟩
    have j5' : ∃ u, wc.cell? ⟨N, 5, none⟩ = some u := ⟨_, JBc.cell 5⟩
    have j6' : ∃ u, wc.cell? ⟨N, 6, none⟩ = some u := ⟨_, JBc.cell 6⟩
    have j7' : ∃ u, wc.cell? ⟨N, 7, none⟩ = some u := ⟨_, JBc.cell 7⟩
    have z2 := JBc.frozen 2; have z3 := JBc.frozen 3; have z4 := JBc.frozen 4; have z5 := JBc.frozen 5; have z6 := JBc.frozen 6; have z7 := JBc.frozen 7
    obtain ⟨Av, cv, hvr⟩ := u3.shape
    subst hvr
    have n0 : wc.cell? ⟨B0, 0, none⟩ = some (.int .i64 0) := u2.cell 0
    have n1 : wc.cell? ⟨B0, 1, none⟩ = some (.int .i64 V.gen) := u2.cell 1
    have n2 : wc.cell? ⟨B0, 2, none⟩ = some (.bool v0.has) := u2.cell 2
    have n3 : wc.cell? ⟨B0, 3, none⟩ = some (.slice Ap m cp) := u2.cell 3
    have n4 : wc.cell? ⟨B0, 4, none⟩ = some (.slice Av V.recs.length cv) := u2.cell 4
    have n5 : wc.cell? ⟨B0, 5, none⟩ = some (.int .i64 (rq : Nat)) := u2.cell 5
    clear CF u1 u2 u3 u4 u5 e1 e2 e3 e4 e5 CO hV JBc Pc hKr hvo OFP hrq hbj hjx hje nF nB hpM dNP dNR Ta HBa JBa Da Ba Pa Sa HW HHM HV O2 O2N OB0 IN0 IN1 Q8 Q9 QC QD BK0 BK1 HNW HNV HFN hhalf hp0 hp1
    obtain ⟨x2, j2⟩ := j2'; obtain ⟨x3, j3⟩ := j3'; obtain ⟨x4, j4⟩ := j4'; obtain ⟨x5, j5⟩ := j5'; obtain ⟨x6, j6⟩ := j6'; obtain ⟨x7, j7⟩ := j7'
    go_wp2
    go_ret
    exact PG.out
  | true =>
    cases p0 with
    | false =>
      have hnow : nowV s = v1 := by rw [HNW.out, if_pos ⟨hp1, .inl hp0⟩]
      have PX := put6 HZ7.out (.int .i64 (M : Nat)) (.int .i64 v1.gen) (.bool true) (.slice Aq mq cq) (.slice none 0 0) (.int .i64 0)
      have nt0 : t ∉ [B0] := by simp; omega
      have Ta := Kept.mk (ftab_bar T7.out PX.2 nt0)
      have HBa := Kept.mk (show Blk _ B0 85 (hcs (M : Nat) v1.gen true Aq mq cq (.slice none 0 0) 0) from PX.1)
      have JBa := Kept.mk (JB7.out.bar PX.2 (by simp; omega))
      have Da := Kept.mk (D7.out.keep PX.2 (fun k hk hm => by rw [List.mem_singleton] at hm; have := HFN.out k hk; omega))
      have Ba := Kept.mk (B7.out.trans PX.2 (fun k hk => by rw [List.mem_singleton] at hk; exact .inr (by omega)))
      have Pa := Kept.mk (P8.out.far PX.2 (IN1.out.1.off (fun k hk hm => by rw [List.mem_singleton] at hm; have := IN1.out.2 k hk; omega)))
      have Sa := Kept.mk (S8.out.far PX.2 (Q9.out _ OB0.out))
      have sza := PX.2.size
      have g0 := HZ7.out.frozen 0; have g1 := HZ7.out.frozen 1; have g2 := HZ7.out.frozen 2; have g3 := HZ7.out.frozen 3; have g4 := HZ7.out.frozen 4; have g5 := HZ7.out.frozen 5
      have k0 := HZ7.out.cell 0; have k1 := HZ7.out.cell 1; have k2 := HZ7.out.cell 2; have k3 := HZ7.out.cell 3; have k4 := HZ7.out.cell 4; have k5 := HZ7.out.cell 5
      have i0 := HO7.out.cell 0; have i1 := HO7.out.cell 1; have i2 : wb.cell? ⟨B1, 2, none⟩ = some (.bool true) := h12; have i3 := HO7.out.cell 3; have i4 := HO7.out.cell 4; have i5 := HO7.out.cell 5
      clear PX T7 JB7 D7 B7 P7 P8 S7 S8 HZ7 HO7
      go_upto_region 12 with (fail)
      clear h01 h02 h11 h12 g0 g1 g2 g3 g4 g5 k0 k1 k2 k3 k4 k5 i0 i1 i2 i3 i4 i5
      generalize ((((((wb.setCell ⟨B0, 0, none⟩ (.int .i64 (M : Nat))).setCell ⟨B0, 1, none⟩ (.int .i64 v1.gen)).setCell ⟨B0, 2, none⟩ (.bool true)).setCell ⟨B0, 3, none⟩ (.slice Aq mq cq)).setCell ⟨B0, 4, none⟩ (.slice none 0 0)).setCell ⟨B0, 5, none⟩ (.int .i64 0)) = wa at *
      have OX : Off A3 l3 [t, B0] := Q9.out _ (off_two (F := [t]) (G := [B0]) O2.out OB0.out)
      have hhalf : v1.half = 1 := BK1.out.2.2.1
      have TXT : Rd wa A3 l3 (textJ s v1.half v1.pos) := by rw [hhalf]; exact Sa.out
      have CF := Kept.mk (jfollow_any api HW.out Ta.out HBa.out (by omega) BK1.out.2.1 BK1.out.1 TXT QD.out.2.2.1 QD.out.2.2.2 OX)
      have HNV : Kept (openJ s = recsJ s (hn s) v1) := ⟨by rw [HOP.out, hnow]⟩
      clear OX TXT HOP hnow
      go_wp2_with fail
      refine CF.out.mono ?_
      rintro e wc ⟨rfl, vr, Kr, u1, u2, u3, u4, u5⟩
      obtain ⟨e1, e2, e3, e4, e5⟩ := recs_same (s := s) (hn s) v1
      have CO := cok_recs HW.out (hn s) v1 BK1.out.1
      rw [← HNV.out] at u2 u3 e1 e2 e3 e4 e5 CO
      obtain ⟨V, hV⟩ : ∃ V, openJ s = V := ⟨_, rfl⟩
      rw [hV] at u2 u3 e1 e2 e3 e4 e5 CO
      have szc := u5.size
      have JBc := JBa.out.bar u5 (by simp; omega)
      have Pc := Pa.out.far u5 (IN1.out.1.off (fun k hk hm => by simp only [List.mem_cons, List.not_mem_nil, or_false] at hm; have := IN1.out.2 k hk; omega))
      have hKr : ∀ k ∈ Kr, B1 < k ∧ k < wc.heap.size := fun k hk => by have := u4 k hk; omega
      have hvo : ∀ g ∈ vr.ownBlock.toList, g ∈ Kr := u3.choose_spec.2.1
      have OFP : Off Aq mq vr.ownBlock.toList := IN1.out.1.off (fun k hk hm => by have := hKr k (hvo k hm); have := IN1.out.2 k hk; omega)
      obtain ⟨rq, hrq⟩ : ∃ q, hn s - V.pos = q := ⟨_, rfl⟩
      rw [hrq] at u2
      have hN8 : N < wc.heap.size := JBc.lt
      have hbj : Bar [N] wc ((((((wc.setCell ⟨N, 2, none⟩ (.int .i64 (M : Nat))).setCell ⟨N, 3, none⟩ (.int .i64 V.gen)).setCell ⟨N, 4, none⟩ (.bool true)).setCell ⟨N, 5, none⟩ (.slice Aq mq cq)).setCell ⟨N, 6, none⟩ vr).setCell ⟨N, 7, none⟩ (.int .i64 (rq : Nat))) := ((((((Bar.refl [N] wc).setCell (by simp) _).setCell (by simp) _).setCell (by simp) _).setCell (by simp) _).setCell (by simp) _).setCell (by simp) _
      have hjx := (((((JBc.set_ 2 (.int .i64 (M : Nat))).set_ 3 (.int .i64 V.gen)).set_ 4 (.bool true)).set_ 5 (.slice Aq mq cq)).set_ 6 vr).set_ 7 (.int .i64 (rq : Nat))
      have hje : ((((((#[Value.pointer (some ⟨t, 0, none⟩), .pointer (some ⟨d, 0, none⟩), .int .i64 0, .int .i64 0, .bool false, .slice none 0 0, .slice none 0 0, .int .i64 0, .bool false] : Array Value).setIfInBounds 2 (.int .i64 (M : Nat))).setIfInBounds 3 (.int .i64 V.gen)).setIfInBounds 4 (.bool true)).setIfInBounds 5 (.slice Aq mq cq)).setIfInBounds 6 vr).setIfInBounds 7 (.int .i64 (rq : Nat)) = jc t d ((V.half * (n / 2) : Nat) : Int) V.gen V.has Aq mq cq vr ((rq : Nat) : Int) V.dead := by
        rw [e1, hhalf, e3, e5, BK1.out.2.2.2, HHM.out.2, hp1]
        simp [jc]
      rw [hje] at hjx
      have nF : ∀ k ∈ F, k ≠ N := fun k hk e => by have := HFN.out k hk; omega
      have nB : ∀ k ∈ F, k ∉ [t, B0] := fun k hk hm => by
        simp only [List.mem_cons, List.not_mem_nil, or_false] at hm
        rcases hm with e | e
        · subst e; exact htF hk
        · have := HFN.out k hk; omega
      have hpM : V.pos ≤ M := by have := CO.pos; rw [HHM.out.2] at this; exact this
      have dNP : Disj K1 [N] := fun k hk hm => by rw [List.mem_singleton] at hm; have := IN1.out.2 k hk; omega
      have dNR : Disj Kr [N] := fun k hk hm => by rw [List.mem_singleton] at hm; have := hKr k hk; omega
      have PG := Kept.mk (open_mk (w0 := w) (j := N) (K := K1 ++ Kr) (ftab_bar u1 hbj (by simp; omega)) ((Da.out.keep u5 nB).keep hbj (fun k hk hm => by rw [List.mem_singleton] at hm; exact nF k hk hm)) hjx QD.out.1 QD.out.2.1 (by rw [e4]; exact Pc.far hbj (IN1.out.1.off dNP)) (IN1.out.1.mono (fun k hk => by simp [hk])) OFP ((u3.keep hbj dNR).mono (fun k hk => by simp [hk])) (fun k hk => by
        have hs := hbj.size
        rcases List.mem_append.1 hk with hk | hk
        · have := IN1.out.2 k hk; omega
        · have := hKr k hk; omega) (by omega) htF (by omega) (by rw [hN]; exact HFN.out) CO (by have := HHM.out; omega) (fun _ => by have := HHM.out; omega) ((Ba.out.trans u5 (fun k hk => by
          simp only [List.mem_cons, List.not_mem_nil, or_false] at hk
          rcases hk with e | e
          · exact .inl (by simp [e])
          · exact .inr (by omega))).trans hbj (fun k hk => by rw [List.mem_singleton] at hk; exact .inr (by omega))) hV)
      have j2' : ∃ u, wc.cell? ⟨N, 2, none⟩ = some u := ⟨_, JBc.cell 2⟩
      have j3' : ∃ u, wc.cell? ⟨N, 3, none⟩ = some u := ⟨_, JBc.cell 3⟩
      have j4' : ∃ u, wc.cell? ⟨N, 4, none⟩ = some u := ⟨_, JBc.cell 4⟩
      have j5' : ∃ u, wc.cell? ⟨N, 5, none⟩ = some u := ⟨_, JBc.cell 5⟩
      have j6' : ∃ u, wc.cell? ⟨N, 6, none⟩ = some u := ⟨_, JBc.cell 6⟩
      have j7' : ∃ u, wc.cell? ⟨N, 7, none⟩ = some u := ⟨_, JBc.cell 7⟩
      have z2 := JBc.frozen 2; have z3 := JBc.frozen 3; have z4 := JBc.frozen 4; have z5 := JBc.frozen 5; have z6 := JBc.frozen 6; have z7 := JBc.frozen 7
      obtain ⟨Av, cv, hvr⟩ := u3.shape
      subst hvr
      have n0 : wc.cell? ⟨B0, 0, none⟩ = some (.int .i64 (M : Nat)) := u2.cell 0
      have n1 : wc.cell? ⟨B0, 1, none⟩ = some (.int .i64 V.gen) := u2.cell 1
      have n2 : wc.cell? ⟨B0, 2, none⟩ = some (.bool true) := u2.cell 2
      have n3 : wc.cell? ⟨B0, 3, none⟩ = some (.slice Aq mq cq) := u2.cell 3
      have n4 : wc.cell? ⟨B0, 4, none⟩ = some (.slice Av V.recs.length cv) := u2.cell 4
      have n5 : wc.cell? ⟨B0, 5, none⟩ = some (.int .i64 (rq : Nat)) := u2.cell 5
      clear CF u1 u2 u3 u4 u5 e1 e2 e3 e4 e5 CO hV JBc Pc hKr hvo OFP hrq hbj hjx hje nF nB hpM dNP dNR Ta HBa JBa Da Ba Pa Sa HW HHM HV O2 O2N OB0 IN0 IN1 Q8 Q9 QC QD BK0 BK1 HNW HNV HFN hhalf hp0 hp1
      obtain ⟨x2, j2⟩ := j2'; obtain ⟨x3, j3⟩ := j3'; obtain ⟨x4, j4⟩ := j4'; obtain ⟨x5, j5⟩ := j5'; obtain ⟨x6, j6⟩ := j6'; obtain ⟨x7, j7⟩ := j7'
      go_wp2
      go_ret
      exact PG.out
    | true =>
      by_cases hg : v0.gen < v1.gen
      · have hnow : nowV s = v1 := by rw [HNW.out, if_pos ⟨hp1, .inr hg⟩]
        have PX := put6 HZ7.out (.int .i64 (M : Nat)) (.int .i64 v1.gen) (.bool true) (.slice Aq mq cq) (.slice none 0 0) (.int .i64 0)
        have nt0 : t ∉ [B0] := by simp; omega
        have Ta := Kept.mk (ftab_bar T7.out PX.2 nt0)
        have HBa := Kept.mk (show Blk _ B0 85 (hcs (M : Nat) v1.gen true Aq mq cq (.slice none 0 0) 0) from PX.1)
        have JBa := Kept.mk (JB7.out.bar PX.2 (by simp; omega))
        have Da := Kept.mk (D7.out.keep PX.2 (fun k hk hm => by rw [List.mem_singleton] at hm; have := HFN.out k hk; omega))
        have Ba := Kept.mk (B7.out.trans PX.2 (fun k hk => by rw [List.mem_singleton] at hk; exact .inr (by omega)))
        have Pa := Kept.mk (P8.out.far PX.2 (IN1.out.1.off (fun k hk hm => by rw [List.mem_singleton] at hm; have := IN1.out.2 k hk; omega)))
        have Sa := Kept.mk (S8.out.far PX.2 (Q9.out _ OB0.out))
        have sza := PX.2.size
        have g0 := HZ7.out.frozen 0; have g1 := HZ7.out.frozen 1; have g2 := HZ7.out.frozen 2; have g3 := HZ7.out.frozen 3; have g4 := HZ7.out.frozen 4; have g5 := HZ7.out.frozen 5
        have k0 := HZ7.out.cell 0; have k1 := HZ7.out.cell 1; have k2 := HZ7.out.cell 2; have k3 := HZ7.out.cell 3; have k4 := HZ7.out.cell 4; have k5 := HZ7.out.cell 5
        have i0 := HO7.out.cell 0; have i1 := HO7.out.cell 1; have i2 : wb.cell? ⟨B1, 2, none⟩ = some (.bool true) := h12; have i3 := HO7.out.cell 3; have i4 := HO7.out.cell 4; have i5 := HO7.out.cell 5
        clear PX T7 JB7 D7 B7 P7 P8 S7 S8 HZ7 HO7
        go_upto_region 12 with (fail)
        clear h01 h02 h11 h12 g0 g1 g2 g3 g4 g5 k0 k1 k2 k3 k4 k5 i0 i1 i2 i3 i4 i5
        generalize ((((((wb.setCell ⟨B0, 0, none⟩ (.int .i64 (M : Nat))).setCell ⟨B0, 1, none⟩ (.int .i64 v1.gen)).setCell ⟨B0, 2, none⟩ (.bool true)).setCell ⟨B0, 3, none⟩ (.slice Aq mq cq)).setCell ⟨B0, 4, none⟩ (.slice none 0 0)).setCell ⟨B0, 5, none⟩ (.int .i64 0)) = wa at *
        have OX : Off A3 l3 [t, B0] := Q9.out _ (off_two (F := [t]) (G := [B0]) O2.out OB0.out)
        have hhalf : v1.half = 1 := BK1.out.2.2.1
        have TXT : Rd wa A3 l3 (textJ s v1.half v1.pos) := by rw [hhalf]; exact Sa.out
        have CF := Kept.mk (jfollow_any api HW.out Ta.out HBa.out (by omega) BK1.out.2.1 BK1.out.1 TXT QD.out.2.2.1 QD.out.2.2.2 OX)
        have HNV : Kept (openJ s = recsJ s (hn s) v1) := ⟨by rw [HOP.out, hnow]⟩
        clear OX TXT HOP hnow
        go_wp2_with fail
        refine CF.out.mono ?_
        rintro e wc ⟨rfl, vr, Kr, u1, u2, u3, u4, u5⟩
        obtain ⟨e1, e2, e3, e4, e5⟩ := recs_same (s := s) (hn s) v1
        have CO := cok_recs HW.out (hn s) v1 BK1.out.1
        rw [← HNV.out] at u2 u3 e1 e2 e3 e4 e5 CO
        obtain ⟨V, hV⟩ : ∃ V, openJ s = V := ⟨_, rfl⟩
        rw [hV] at u2 u3 e1 e2 e3 e4 e5 CO
        have szc := u5.size
        have JBc := JBa.out.bar u5 (by simp; omega)
        have Pc := Pa.out.far u5 (IN1.out.1.off (fun k hk hm => by simp only [List.mem_cons, List.not_mem_nil, or_false] at hm; have := IN1.out.2 k hk; omega))
        have hKr : ∀ k ∈ Kr, B1 < k ∧ k < wc.heap.size := fun k hk => by have := u4 k hk; omega
        have hvo : ∀ g ∈ vr.ownBlock.toList, g ∈ Kr := u3.choose_spec.2.1
        have OFP : Off Aq mq vr.ownBlock.toList := IN1.out.1.off (fun k hk hm => by have := hKr k (hvo k hm); have := IN1.out.2 k hk; omega)
        obtain ⟨rq, hrq⟩ : ∃ q, hn s - V.pos = q := ⟨_, rfl⟩
        rw [hrq] at u2
        have hN8 : N < wc.heap.size := JBc.lt
        have hbj : Bar [N] wc ((((((wc.setCell ⟨N, 2, none⟩ (.int .i64 (M : Nat))).setCell ⟨N, 3, none⟩ (.int .i64 V.gen)).setCell ⟨N, 4, none⟩ (.bool true)).setCell ⟨N, 5, none⟩ (.slice Aq mq cq)).setCell ⟨N, 6, none⟩ vr).setCell ⟨N, 7, none⟩ (.int .i64 (rq : Nat))) := ((((((Bar.refl [N] wc).setCell (by simp) _).setCell (by simp) _).setCell (by simp) _).setCell (by simp) _).setCell (by simp) _).setCell (by simp) _
        have hjx := (((((JBc.set_ 2 (.int .i64 (M : Nat))).set_ 3 (.int .i64 V.gen)).set_ 4 (.bool true)).set_ 5 (.slice Aq mq cq)).set_ 6 vr).set_ 7 (.int .i64 (rq : Nat))
        have hje : ((((((#[Value.pointer (some ⟨t, 0, none⟩), .pointer (some ⟨d, 0, none⟩), .int .i64 0, .int .i64 0, .bool false, .slice none 0 0, .slice none 0 0, .int .i64 0, .bool false] : Array Value).setIfInBounds 2 (.int .i64 (M : Nat))).setIfInBounds 3 (.int .i64 V.gen)).setIfInBounds 4 (.bool true)).setIfInBounds 5 (.slice Aq mq cq)).setIfInBounds 6 vr).setIfInBounds 7 (.int .i64 (rq : Nat)) = jc t d ((V.half * (n / 2) : Nat) : Int) V.gen V.has Aq mq cq vr ((rq : Nat) : Int) V.dead := by
          rw [e1, hhalf, e3, e5, BK1.out.2.2.2, HHM.out.2, hp1]
          simp [jc]
        rw [hje] at hjx
        have nF : ∀ k ∈ F, k ≠ N := fun k hk e => by have := HFN.out k hk; omega
        have nB : ∀ k ∈ F, k ∉ [t, B0] := fun k hk hm => by
          simp only [List.mem_cons, List.not_mem_nil, or_false] at hm
          rcases hm with e | e
          · subst e; exact htF hk
          · have := HFN.out k hk; omega
        have hpM : V.pos ≤ M := by have := CO.pos; rw [HHM.out.2] at this; exact this
        have dNP : Disj K1 [N] := fun k hk hm => by rw [List.mem_singleton] at hm; have := IN1.out.2 k hk; omega
        have dNR : Disj Kr [N] := fun k hk hm => by rw [List.mem_singleton] at hm; have := hKr k hk; omega
        have PG := Kept.mk (open_mk (w0 := w) (j := N) (K := K1 ++ Kr) (ftab_bar u1 hbj (by simp; omega)) ((Da.out.keep u5 nB).keep hbj (fun k hk hm => by rw [List.mem_singleton] at hm; exact nF k hk hm)) hjx QD.out.1 QD.out.2.1 (by rw [e4]; exact Pc.far hbj (IN1.out.1.off dNP)) (IN1.out.1.mono (fun k hk => by simp [hk])) OFP ((u3.keep hbj dNR).mono (fun k hk => by simp [hk])) (fun k hk => by
          have hs := hbj.size
          rcases List.mem_append.1 hk with hk | hk
          · have := IN1.out.2 k hk; omega
          · have := hKr k hk; omega) (by omega) htF (by omega) (by rw [hN]; exact HFN.out) CO (by have := HHM.out; omega) (fun _ => by have := HHM.out; omega) ((Ba.out.trans u5 (fun k hk => by
            simp only [List.mem_cons, List.not_mem_nil, or_false] at hk
            rcases hk with e | e
            · exact .inl (by simp [e])
            · exact .inr (by omega))).trans hbj (fun k hk => by rw [List.mem_singleton] at hk; exact .inr (by omega))) hV)
        have j2' : ∃ u, wc.cell? ⟨N, 2, none⟩ = some u := ⟨_, JBc.cell 2⟩
        have j3' : ∃ u, wc.cell? ⟨N, 3, none⟩ = some u := ⟨_, JBc.cell 3⟩
        have j4' : ∃ u, wc.cell? ⟨N, 4, none⟩ = some u := ⟨_, JBc.cell 4⟩
        have j5' : ∃ u, wc.cell? ⟨N, 5, none⟩ = some u := ⟨_, JBc.cell 5⟩
        have j6' : ∃ u, wc.cell? ⟨N, 6, none⟩ = some u := ⟨_, JBc.cell 6⟩
        have j7' : ∃ u, wc.cell? ⟨N, 7, none⟩ = some u := ⟨_, JBc.cell 7⟩
        have z2 := JBc.frozen 2; have z3 := JBc.frozen 3; have z4 := JBc.frozen 4; have z5 := JBc.frozen 5; have z6 := JBc.frozen 6; have z7 := JBc.frozen 7
        obtain ⟨Av, cv, hvr⟩ := u3.shape
        subst hvr
        have n0 : wc.cell? ⟨B0, 0, none⟩ = some (.int .i64 (M : Nat)) := u2.cell 0
        have n1 : wc.cell? ⟨B0, 1, none⟩ = some (.int .i64 V.gen) := u2.cell 1
        have n2 : wc.cell? ⟨B0, 2, none⟩ = some (.bool true) := u2.cell 2
        have n3 : wc.cell? ⟨B0, 3, none⟩ = some (.slice Aq mq cq) := u2.cell 3
        have n4 : wc.cell? ⟨B0, 4, none⟩ = some (.slice Av V.recs.length cv) := u2.cell 4
        have n5 : wc.cell? ⟨B0, 5, none⟩ = some (.int .i64 (rq : Nat)) := u2.cell 5
        clear CF u1 u2 u3 u4 u5 e1 e2 e3 e4 e5 CO hV JBc Pc hKr hvo OFP hrq hbj hjx hje nF nB hpM dNP dNR Ta HBa JBa Da Ba Pa Sa HW HHM HV O2 O2N OB0 IN0 IN1 Q8 Q9 QC QD BK0 BK1 HNW HNV HFN hhalf hp0 hp1
        obtain ⟨x2, j2⟩ := j2'; obtain ⟨x3, j3⟩ := j3'; obtain ⟨x4, j4⟩ := j4'; obtain ⟨x5, j5⟩ := j5'; obtain ⟨x6, j6⟩ := j6'; obtain ⟨x7, j7⟩ := j7'
        go_wp2
        go_ret
        exact PG.out
      · have hnow : nowV s = v0 := by rw [HNW.out, if_neg (by rintro ⟨-, h | h⟩; rw [hp0] at h; cases h; exact hg h)]
        have Ta := T7
        have HBa := Kept.mk (show Blk wb B0 85 (hcs 0 v0.gen v0.has Ap m cp (.slice none 0 0) 0) from HZ7.out)
        have JBa := JB7; have Da := D7; have Ba := B7; have Pa := P7; have Sa := S7
        have sza : wb.heap.size ≤ wb.heap.size := Nat.le_refl _
        clear T7 JB7 D7 B7 P7 P8 S7 S8 HZ7 HO7
        go_upto_region 12 with (fail)
        clear h01 h02 h11 h12
        have OX : Off A2 l2 [t, B0] := Q8.out _ (off_two (F := [t]) (G := [B0]) O2.out OB0.out)
        have hhalf : v0.half = 0 := BK0.out.2.2.1
        have TXT : Rd wb A2 l2 (textJ s v0.half v0.pos) := by rw [hhalf]; exact Sa.out
        have CF := Kept.mk (jfollow_any api HW.out Ta.out HBa.out (by omega) BK0.out.2.1 BK0.out.1 TXT QC.out.2.2.1 QC.out.2.2.2 OX)
        have HNV : Kept (openJ s = recsJ s (hn s) v0) := ⟨by rw [HOP.out, hnow]⟩
        clear OX TXT HOP hnow
        go_wp2_with fail
        refine CF.out.mono ?_
        rintro e wc ⟨rfl, vr, Kr, u1, u2, u3, u4, u5⟩
        obtain ⟨e1, e2, e3, e4, e5⟩ := recs_same (s := s) (hn s) v0
        have CO := cok_recs HW.out (hn s) v0 BK0.out.1
        rw [← HNV.out] at u2 u3 e1 e2 e3 e4 e5 CO
        obtain ⟨V, hV⟩ : ∃ V, openJ s = V := ⟨_, rfl⟩
        rw [hV] at u2 u3 e1 e2 e3 e4 e5 CO
        have szc := u5.size
        have JBc := JBa.out.bar u5 (by simp; omega)
        have Pc := Pa.out.far u5 (IN0.out.1.off (fun k hk hm => by simp only [List.mem_cons, List.not_mem_nil, or_false] at hm; have := IN0.out.2 k hk; omega))
        have hKr : ∀ k ∈ Kr, B1 < k ∧ k < wc.heap.size := fun k hk => by have := u4 k hk; omega
        have hvo : ∀ g ∈ vr.ownBlock.toList, g ∈ Kr := u3.choose_spec.2.1
        have OFP : Off Ap m vr.ownBlock.toList := IN0.out.1.off (fun k hk hm => by have := hKr k (hvo k hm); have := IN0.out.2 k hk; omega)
        obtain ⟨rq, hrq⟩ : ∃ q, hn s - V.pos = q := ⟨_, rfl⟩
        rw [hrq] at u2
        have hN8 : N < wc.heap.size := JBc.lt
        have hbj : Bar [N] wc ((((((wc.setCell ⟨N, 2, none⟩ (.int .i64 0)).setCell ⟨N, 3, none⟩ (.int .i64 V.gen)).setCell ⟨N, 4, none⟩ (.bool v0.has)).setCell ⟨N, 5, none⟩ (.slice Ap m cp)).setCell ⟨N, 6, none⟩ vr).setCell ⟨N, 7, none⟩ (.int .i64 (rq : Nat))) := ((((((Bar.refl [N] wc).setCell (by simp) _).setCell (by simp) _).setCell (by simp) _).setCell (by simp) _).setCell (by simp) _).setCell (by simp) _
        have hjx := (((((JBc.set_ 2 (.int .i64 0)).set_ 3 (.int .i64 V.gen)).set_ 4 (.bool v0.has)).set_ 5 (.slice Ap m cp)).set_ 6 vr).set_ 7 (.int .i64 (rq : Nat))
        have hje : ((((((#[Value.pointer (some ⟨t, 0, none⟩), .pointer (some ⟨d, 0, none⟩), .int .i64 0, .int .i64 0, .bool false, .slice none 0 0, .slice none 0 0, .int .i64 0, .bool false] : Array Value).setIfInBounds 2 (.int .i64 0)).setIfInBounds 3 (.int .i64 V.gen)).setIfInBounds 4 (.bool v0.has)).setIfInBounds 5 (.slice Ap m cp)).setIfInBounds 6 vr).setIfInBounds 7 (.int .i64 (rq : Nat)) = jc t d ((V.half * (n / 2) : Nat) : Int) V.gen V.has Ap m cp vr ((rq : Nat) : Int) V.dead := by
          rw [e1, hhalf, e3, e5, BK0.out.2.2.2, HHM.out.2]
          simp [jc]
        rw [hje] at hjx
        have nF : ∀ k ∈ F, k ≠ N := fun k hk e => by have := HFN.out k hk; omega
        have nB : ∀ k ∈ F, k ∉ [t, B0] := fun k hk hm => by
          simp only [List.mem_cons, List.not_mem_nil, or_false] at hm
          rcases hm with e | e
          · subst e; exact htF hk
          · have := HFN.out k hk; omega
        have hpM : V.pos ≤ M := by have := CO.pos; rw [HHM.out.2] at this; exact this
        have dNP : Disj K0 [N] := fun k hk hm => by rw [List.mem_singleton] at hm; have := IN0.out.2 k hk; omega
        have dNR : Disj Kr [N] := fun k hk hm => by rw [List.mem_singleton] at hm; have := hKr k hk; omega
        have PG := Kept.mk (open_mk (w0 := w) (j := N) (K := K0 ++ Kr) (ftab_bar u1 hbj (by simp; omega)) ((Da.out.keep u5 nB).keep hbj (fun k hk hm => by rw [List.mem_singleton] at hm; exact nF k hk hm)) hjx QC.out.1 QC.out.2.1 (by rw [e4]; exact Pc.far hbj (IN0.out.1.off dNP)) (IN0.out.1.mono (fun k hk => by simp [hk])) OFP ((u3.keep hbj dNR).mono (fun k hk => by simp [hk])) (fun k hk => by
          have hs := hbj.size
          rcases List.mem_append.1 hk with hk | hk
          · have := IN0.out.2 k hk; omega
          · have := hKr k hk; omega) (by omega) htF (by omega) (by rw [hN]; exact HFN.out) CO (by have := HHM.out; omega) (fun _ => by have := HHM.out; omega) ((Ba.out.trans u5 (fun k hk => by
            simp only [List.mem_cons, List.not_mem_nil, or_false] at hk
            rcases hk with e | e
            · exact .inl (by simp [e])
            · exact .inr (by omega))).trans hbj (fun k hk => by rw [List.mem_singleton] at hk; exact .inr (by omega))) hV)
        have j2' : ∃ u, wc.cell? ⟨N, 2, none⟩ = some u := ⟨_, JBc.cell 2⟩
        have j3' : ∃ u, wc.cell? ⟨N, 3, none⟩ = some u := ⟨_, JBc.cell 3⟩
        have j4' : ∃ u, wc.cell? ⟨N, 4, none⟩ = some u := ⟨_, JBc.cell 4⟩
        have j5' : ∃ u, wc.cell? ⟨N, 5, none⟩ = some u := ⟨_, JBc.cell 5⟩
        have j6' : ∃ u, wc.cell? ⟨N, 6, none⟩ = some u := ⟨_, JBc.cell 6⟩
        have j7' : ∃ u, wc.cell? ⟨N, 7, none⟩ = some u := ⟨_, JBc.cell 7⟩
        have z2 := JBc.frozen 2; have z3 := JBc.frozen 3; have z4 := JBc.frozen 4; have z5 := JBc.frozen 5; have z6 := JBc.frozen 6; have z7 := JBc.frozen 7
        obtain ⟨Av, cv, hvr⟩ := u3.shape
        subst hvr
        have n0 : wc.cell? ⟨B0, 0, none⟩ = some (.int .i64 0) := u2.cell 0
        have n1 : wc.cell? ⟨B0, 1, none⟩ = some (.int .i64 V.gen) := u2.cell 1
        have n2 : wc.cell? ⟨B0, 2, none⟩ = some (.bool v0.has) := u2.cell 2
        have n3 : wc.cell? ⟨B0, 3, none⟩ = some (.slice Ap m cp) := u2.cell 3
        have n4 : wc.cell? ⟨B0, 4, none⟩ = some (.slice Av V.recs.length cv) := u2.cell 4
        have n5 : wc.cell? ⟨B0, 5, none⟩ = some (.int .i64 (rq : Nat)) := u2.cell 5
        clear CF u1 u2 u3 u4 u5 e1 e2 e3 e4 e5 CO hV JBc Pc hKr hvo OFP hrq hbj hjx hje nF nB hpM dNP dNR Ta HBa JBa Da Ba Pa Sa HW HHM HV O2 O2N OB0 IN0 IN1 Q8 Q9 QC QD BK0 BK1 HNW HNV HFN hhalf hp0 hp1
        obtain ⟨x2, j2⟩ := j2'; obtain ⟨x3, j3⟩ := j3'; obtain ⟨x4, j4⟩ := j4'; obtain ⟨x5, j5⟩ := j5'; obtain ⟨x6, j6⟩ := j6'; obtain ⟨x7, j7⟩ := j7'
        go_wp2
        go_ret
        exact PG.out

theorem jopen_any (api : FrameApi) {w : World} {H : List Nat} {t d n : Nat} {s : DS} (sd : Sd w H t d n s) : Calls Tryz.prog 10 #[.pointer (some ⟨t, 0, none⟩), .pointer (some ⟨d, 0, none⟩)] w (OpenPost Cj w H t d n s) := by
  cases hd : s.down with
  | true => exact jopen_down sd hd
  | false => exact jopen_up api sd hd
end Go.Proofs.YtjlhnhkjgcbnnaaGreat.Journal

/-
  Package disk: New.
-/

namespace Go.Proofs.YtjlhnhkjgcbnnaaGreat.Disk
open Go.RowKit Go.Proofs.YtjlhnhkjgcbnnaaGreat.Sha

theorem cnew_bad (w : World) (n : Int) (h : ¬ (1 ≤ n ∧ n ≤ 8192)) : Calls Tryz.prog 8 #[.int .i64 n] w fun e w' => e = .returned (.tuple #[.pointer none, .int .i64 1]) ∧ w = w' := by
  by_cases h1 : n < 1
  · clear h
    go_enter Tryz.func8, Tryz.ntmps8
    go_wp2
    go_ret2
    exact ⟨rfl, rfl⟩
  · have h2 : 8192 < n := by omega
    clear h
    go_enter Tryz.func8, Tryz.ntmps8
    go_wp2
    go_ret2
    exact ⟨rfl, rfl⟩
theorem at_nought (m k : Nat) : at_ (List.replicate m 0) k = 0 := by
  by_cases h : k < m <;> simp [at_, List.getD_eq_getElem?_getD, h]
theorem made_sec (w : World) (n : Nat) (h1 : 1 ≤ n) (h2 : n ≤ 8192) : ∃ w', (Instr.makeSlice 80 (.int .i64 (n : Int)) (.int .i64 (n : Int))).run Tryz.prog w = .ok (.slice (some ⟨w.heap.size, 0, none⟩) n n) w' ∧ Sx w' w.heap.size (List.replicate n zeros64) ∧ Below w.heap.size w w' := by
  have hi0 : (Tryz.prog.info? 107).map (fun i => (i.zero, i.size, i.bytes)) = some (some (.agg (arr .u8 zeros64)), 64, 64) := by kernel_rfl
  obtain ⟨iu, hi, hz0, hz1, hz2⟩ := info_parts hi0
  obtain ⟨w', hm, own, gr⟩ := run_makeSlice_full (P := Tryz.prog) w w.heap.size 80 107 iu _ 64 Tryz.underlying80 hi hz0 hz1 .i64 .i64 n (by omega) (by rw [hz2]; omega) (by unfold maxLen; omega) (Nat.le_refl _)
  refine ⟨w', hm, ?_, ⟨gr.os, gr.tape, gr.output, gr.size, fun k hk => gr.block k hk (by simp)⟩⟩
  rcases own.2 with ⟨h0, -⟩ | ⟨g, cap, cur, hv, -, hh, h3, -, hs, ht⟩
  · cases h0
  · have hv2 : w.heap.size = g ∧ n = cap := by
      have := hv
      simp only [Value.slice.injEq, Option.some.injEq, Addr.mk.injEq] at this
      omega
    obtain ⟨hg, rfl⟩ := hv2
    rw [hg]
    refine ⟨cur, hh, fun i hi' j hj => ?_⟩
    rw [List.length_replicate] at hi'
    have hk : i * 64 + j < n * 64 := by omega
    have e1 : (cur.toList.take (n * 64))[i * 64 + j]? = some (.int .u8 0) := by
      rw [ht]
      have hsz : (Value.agg (arr .u8 zeros64)).cells = arr .u8 zeros64 := rfl
      have hs64 : (arr .u8 zeros64).size = 64 := rfl
      rw [hsz]
      unfold madeCells
      rw [Array.getElem?_toList, Array.getElem?_map, Array.getElem?_range]
      rw [if_pos hk]
      simp only [Option.map_some, hs64]
      have h6 : (i * 64 + j) % 64 < 64 := Nat.mod_lt _ (by omega)
      have := arr_at .u8 zeros64 ((i * 64 + j) % 64) (by simpa [zeros64] using h6)
      rw [getElem!_def, this]
      rw [show at_ zeros64 ((i * 64 + j) % 64) = 0 from at_nought 64 _]
    rw [List.getElem?_take_of_lt hk, Array.getElem?_toList] at e1
    rw [e1, rowOf_replicate _ _ hi', show at_ zeros64 j = 0 from at_nought 64 _]
set_option maxRecDepth 100000 in
set_option maxHeartbeats 400000 in
theorem cnew_ok (w : World) (n : Nat) (h1 : 1 ≤ n) (h2 : n ≤ 8192) : Calls Tryz.prog 8 #[.int .i64 n] w (CNewPost Dk w n) := by
  have h1' : (1 : Int) ≤ n := by omega
  have h2' : (n : Int) ≤ 8192 := by omega
  obtain ⟨w1, hmk, sx, b1⟩ := made_sec w n h1 h2
  obtain ⟨G, hG⟩ : ∃ G, w.heap.size = G := ⟨_, rfl⟩
  have hGl := sx.lt
  rw [hG] at hmk sx b1 hGl
  obtain ⟨M, hM⟩ : ∃ M, w1.heap.size = M := ⟨_, rfl⟩
  have mp : Mp (w1.alloc (.map #[] 0)) M [] (List.replicate n zeros64) := by rw [← hM]; exact mp_new _ _
  have hal : ∀ (x : World) (o : Obj), Bar [] x (x.alloc o) := fun x o => (Bar.refl [] x).alloc o
  have sx2 := sx.bar (hal w1 (.map #[] 0)) (by simp)
  have R : Kept (CNewPost Dk w n (.returned (.tuple #[.pointer (some ⟨M + 1, 0, none⟩), .int .i64 0])) ((w1.alloc (.map #[] 0)).alloc (.cells #[.slice (some ⟨G, 0, none⟩) n n, .map (some M), .int .i64 (-1), .int .u32 0] 83))) := by
    refine ⟨M + 1, _, rfl, ⟨wf_new n h1 h2, G, n, M, -1, Blk.new_at _ _ _ _ (by simp [hM]), sx2.bar (hal _ _) (by simp), mp.bar (hal _ _) (by simp), rfl, rfl⟩, ?_, fun k hk => .inr ?_⟩
    · exact barOf (by rw [hG]; exact (b1.alloc (by omega) _).alloc (by simp; omega) _) []
    · simp only [List.mem_cons, List.not_mem_nil, or_false] at hk
      rcases hk with rfl | rfl | rfl <;> omega
  clear sx sx2 mp b1 h1 h2
  have HM := Kept.mk hM
  clear hM hG hGl
  have hmm : (Instr.makeMap 81 none).run Tryz.prog w1 = .ok (.map (some w1.heap.size)) (w1.alloc (.map #[] 0)) := run_makeMap _ w1
  go_enter Tryz.func8, Tryz.ntmps8
  go_wp2
  go_ret2
  rw [HM.out]
  exact R.out
end Go.Proofs.YtjlhnhkjgcbnnaaGreat.Disk

/-
  The contracts that package journal's calls must meet; what all laws of chapter 8 begin and end with.
-/


namespace Go.Proofs.YtjlhnhkjgcbnnaaGreat.Journal
open Go.RowKit Go.Proofs.YtjlhnhkjgcbnnaaGreat.Sha Go.Proofs.YtjlhnhkjgcbnnaaGreat.Disk Go.Proofs.YtjlhnhkjgcbnnaaGreat.Frame

structure JournalApi (Jk : World → List Nat → Nat → Nat → Nat → Nat → JV → Prop) : Prop where
  base : JournalBase Jk
  open_ : ∀ {w H t d n s}, Sd w H t d n s → Calls Tryz.prog 10 #[.pointer (some ⟨t, 0, none⟩), .pointer (some ⟨d, 0, none⟩)] w (OpenPost Jk w H t d n s)
  append : ∀ {w H t d j n s v A l c b}, Sy Jk w H t d j n s v → Rd w A l b → Off A l H → l ≤ c → c ≤ 9223372036854775807 → l ≤ 100000 → Calls Tryz.prog 12 #[.pointer (some ⟨j, 0, none⟩), .slice A l c] w (ActPost Jk w H t d j n (appendJ s v b))
  compact : ∀ {w H t d j n s v A l c b}, Sy Jk w H t d j n s v → Rd w A l b → Off A l H → l ≤ c → c ≤ 9223372036854775807 → l ≤ 100000 → Calls Tryz.prog 14 #[.pointer (some ⟨j, 0, none⟩), .slice A l c] w (ActPost Jk w H t d j n (compactJ s v b))
  picture : ∀ {w H t d j n s v}, Sy Jk w H t d j n s v → Calls Tryz.prog 28 #[.pointer (some ⟨j, 0, none⟩)] w (PictPost w v)
  records : ∀ {w H t d j n s v}, Sy Jk w H t d j n s v → Calls Tryz.prog 26 #[.pointer (some ⟨j, 0, none⟩)] w (RecsPost w v)
  gen : ∀ {w H t d j n s v}, Sy Jk w H t d j n s v → Calls Tryz.prog 29 #[.pointer (some ⟨j, 0, none⟩)] w fun e w' => e = .returned (.int .i64 v.gen) ∧ Below w.heap.size w w'
  room : ∀ {w H t d j n s v}, Sy Jk w H t d j n s v → v.dead = false → Calls Tryz.prog 30 #[.pointer (some ⟨j, 0, none⟩)] w fun e w' => e = .returned (.int .i64 (roomJ s v)) ∧ Below w.heap.size w w'

theorem open_new {n : Nat} (h1 : 1 ≤ n) (h2 : n ≤ 8192) : Keeps n (newD n) noJ ∧ openJ (newD n) = noJ ∧ Calm (newD n) := by
  have k := keeps_new (wf_new n h1 h2) (fun j hj => rowOf_replicate n j hj)
  exact ⟨k, k.open_is rfl, rfl, rfl, rfl⟩
/-- a new disk, and a table beside it -/
theorem sd_new {w w1 : World} {d n : Nat} {F : List Nat} (dk : Dk w1 F d n (newD n)) (fp : Fp [] F w w1) : Sd (w1.alloc (.cells (tbl (.int .u32 0) (.int .i32 0) (.int .u32 0) 0 0) 79)) (w1.heap.size :: F) w1.heap.size d n (newD n) ∧ (∀ k ∈ w1.heap.size :: F, w.heap.size ≤ k) := by
  have hb : Bar [] w1 (w1.alloc (.cells (tbl (.int .u32 0) (.int .i32 0) (.int .u32 0) 0 0) 79)) := (Bar.refl [] w1).alloc _
  refine ⟨⟨F, .inl (Blk.new_at _ _ _ _ rfl), dk.keep hb (fun _ _ => by simp), fun hm => ?_, rfl⟩, fun k hk => ?_⟩
  · have := dk.lts _ hm; omega
  · rcases List.mem_cons.1 hk with rfl | hk
    · exact fp.1.size
    · rcases fp.2 k hk with e | e
      · simp at e
      · exact e
set_option maxRecDepth 100000 in
set_option maxHeartbeats 1000000 in
theorem jfirst_any {Jk : World → List Nat → Nat → Nat → Nat → Nat → JV → Prop} (api : JournalApi Jk) (w : World) : Calls Tryz.prog 5 #[] w (Holds w) := by
  obtain ⟨-, ON, -⟩ := open_new (n := 8) (by omega) (by omega)
  have cN := Kept.mk (cnew_ok w 8 (by omega) (by omega))
  go_enter Tryz.func5, Tryz.ntmps5
  go_wp2_with fail
  refine cN.out.mono ?_
  rintro e w1 ⟨d, F, rfl, dk, fp⟩
  obtain ⟨sd, hl⟩ := sd_new dk fp
  have B1 : Below w.heap.size w w1 := fp.1.below (Nat.le_refl _) (by simp)
  have SD := Kept.mk sd
  have HL := Kept.mk hl
  have B2 := Kept.mk (B1.alloc (by have := B1.size; omega) (.cells (tbl (.int .u32 0) (.int .i32 0) (.int .u32 0) 0 0) 79))
  clear cN dk fp sd hl B1
  go_wp2_with fail
  refine (newtable_any w1).mono ?_
  rintro e w2 ⟨rfl, rfl⟩
  generalize w1.alloc (.cells (tbl (.int .u32 0) (.int .i32 0) (.int .u32 0) 0 0) 79) = w2 at *
  have CO := Kept.mk (api.open_ SD.out)
  go_wp2_with fail
  refine CO.out.mono ?_
  rintro e w3 ⟨j, H, rfl, sy, fp⟩
  rw [ON] at sy
  have SY := Kept.mk sy
  have B3 := Kept.mk (B2.out.trans (fp.below (B := w.heap.size) HL.out B2.out.size))
  clear CO SD sy fp
  go_wp2_with fail
  refine (api.picture SY.out).mono ?_
  rintro e w4 ⟨A, n, c, rfl, -, -, -, b4⟩
  have SY4 := SY.out.keep api.base (barOf b4 []) (fun _ _ => by simp)
  have B4 := Kept.mk (B3.out.trans (b4.mono B3.out.size))
  have C5 := Kept.mk (api.records SY4)
  have KS := Kept.mk SY4
  rw [show noJ.has = false from rfl]
  clear SY B3 b4 SY4
  go_wp2_with fail
  refine C5.out.mono ?_
  rintro e w5 ⟨A5, c5, rfl, -, -, -, b5, -⟩
  have SY5 := KS.out.keep api.base (barOf b5 []) (fun _ _ => by simp)
  have B5 := Kept.mk (B4.out.trans (b5.mono B4.out.size))
  have C6 := Kept.mk (api.gen SY5)
  have KS5 := Kept.mk SY5
  rw [show noJ.recs.length = 0 from rfl]
  clear KS B4 b5 SY5 C5
  go_wp2_with fail
  refine C6.out.mono ?_
  rintro e w6 ⟨rfl, b6⟩
  have SY6 := KS5.out.keep api.base (barOf b6 []) (fun _ _ => by simp)
  have B6 := Kept.mk (B5.out.trans (b6.mono B5.out.size))
  have C7 := Kept.mk (api.room SY6 rfl)
  rw [show noJ.gen = 0 from rfl]
  clear KS5 B5 b6 SY6 C6
  go_wp2_with fail
  refine C7.out.mono ?_
  rintro e w7 ⟨rfl, b7⟩
  have B7 := Kept.mk (B6.out.trans (b7.mono B6.out.size))
  rw [show roomJ (newD 8) noJ = 4 from by decide]
  clear C7 B6 b7
  go_wp2
  go_ret
  exact ⟨rfl, B7.out⟩
end Go.Proofs.YtjlhnhkjgcbnnaaGreat.Journal

/-
  The landed journal meets its contracts.
-/



namespace Go.Proofs.YtjlhnhkjgcbnnaaGreat.Journal
open Go.RowKit Go.Proofs.YtjlhnhkjgcbnnaaGreat.Sha Go.Proofs.YtjlhnhkjgcbnnaaGreat.Disk Go.Proofs.YtjlhnhkjgcbnnaaGreat.Frame

theorem sy_cj {w : World} {H : List Nat} {t d j n : Nat} {s : DS} {v : JV} (h : Sy Cj w H t d j n s v) : WF n s ∧ ∃ G, Cj w G j t d n v := by
  obtain ⟨F, G, h1, h2, h3, -⟩ := h
  exact ⟨h2.1, G, h3⟩
theorem japi : JournalApi Cj where
  base := cj_base
  open_ sd := jopen_any Frame.api sd
  append sy hr hO hc hcm hl := cappend_j Frame.api sy hr hO hc (by unfold maxLen; exact hcm) hl
  compact sy hr hO hc hcm hl := ccompact_j Frame.api sy hr hO hc (by unfold maxLen; exact hcm) hl
  picture sy := by obtain ⟨-, G, h⟩ := sy_cj sy; exact cpict_j h
  records sy := by obtain ⟨hw, G, h⟩ := sy_cj sy; exact crecs_j h hw.n2
  gen sy := by obtain ⟨-, G, h⟩ := sy_cj sy; exact cgen_j h
  room sy hd := by obtain ⟨hw, G, h⟩ := sy_cj sy; exact croom_j hw h hd
end Go.Proofs.YtjlhnhkjgcbnnaaGreat.Journal

/-
  Chapter 8, of values alone: a record, one that may be torn, a crash, and what is there when the journal is opened; then one more.
-/

namespace Go.Proofs.YtjlhnhkjgcbnnaaGreat.Journal
open Go.Proofs.YtjlhnhkjgcbnnaaGreat.Sha Go.Proofs.YtjlhnhkjgcbnnaaGreat.Disk Go.Proofs.YtjlhnhkjgcbnnaaGreat.Frame Go.Proofs.YtjlhnhkjgcbnnaaGreat.Wire

def oneL : List Int := [111, 110, 101]
def twoL : List Int := [116, 119, 111]
def v1J : JV := plusJ noJ oneL
theorem oneL_bytes : Bytes oneL := by intro x hx; simp only [oneL, List.mem_cons, List.not_mem_nil, or_false] at hx; omega
theorem twoL_bytes : Bytes twoL := by intro x hx; simp only [twoL, List.mem_cons, List.not_mem_nil, or_false] at hx; omega
theorem recF_ok {v : JV} {b : List Int} (h1 : fits v.gen 4 = true) (h2 : fits v.seq 4 = true) (hb : b.length ≤ 60000) : errF (recF v b) = 0 := by
  unfold errF recF
  rw [if_neg (by show ¬ 60000 < b.length; omega), if_pos ⟨by show fits 2 1 = true; decide, h1, h2⟩]
theorem keeps_hn {s : DS} {v : JV} (h : Keeps 100 s v) : hn s = 50 := by rw [wf_hn h.wf]
/-- the first record -/
theorem spells_one : ∃ s, appendJ (newD 100) noJ oneL = (0, s, v1J) ∧ Keeps 100 s v1J ∧ Calm s := by
  have k : Keeps 100 (newD 100) noJ := keeps_new (wf_new 100 (by omega) (by omega)) (fun j hj => rowOf_replicate 100 j hj)
  refine (append_ok k ⟨rfl, rfl, rfl⟩ rfl oneL_bytes (recF_ok (by decide) (by decide) (by decide))).2 ?_
  rw [keeps_hn k]; decide
/-- behind the crash -/
def SpellS (c : DS) (g : Int) (long : List Int) (v : JV) : Prop := Calm c ∧ Keeps 100 c v ∧ openJ c = v ∧ ((g ≠ 0 ∧ v = v1J) ∨ v = plusJ v1J long)
theorem spells_crash {s : DS} {long : List Int} (h : Keeps 100 s v1J) (c : Calm s) (hb : Bytes long) (fu : Int) (hfu : fu ≤ 9223372036854775807) (keep : List Bool) :
    ∃ v, SpellS (crashD (appendJ (fuseD s fu) v1J long).2.1 keep) (appendJ (fuseD s fu) v1J long).1 long v := by
  obtain ⟨c1, -, h1 | h1⟩ := append_crash h c hb keep hfu
  · exact ⟨v1J, c1, h1.2, h1.2.open_is c1.down, .inl ⟨h1.1, rfl⟩⟩
  · exact ⟨plusJ v1J long, c1, h1, h1.open_is c1.down, .inr rfl⟩
/-- what is wanted -/
def wantJ (v : JV) : List (List Int) := v.recs ++ [twoL]
theorem spells_two {c : DS} {g : Int} {long : List Int} {v : JV} (h : SpellS c g long v) (hl : long.length ≤ 1500) : ∃ s, appendJ c v twoL = (0, s, plusJ v twoL) ∧ openJ s = plusJ v twoL := by
  obtain ⟨c1, k, -, hv⟩ := h
  have hk : kF long ≤ 25 := by unfold kF; omega
  have hseq : fits v.gen 4 = true ∧ fits v.seq 4 = true ∧ v.dead = false ∧ v.pos + kF twoL ≤ 50 := by
    rcases hv with ⟨-, rfl⟩ | rfl
    · decide
    · refine ⟨by show fits 0 4 = true; decide, by show fits 3 4 = true; decide, rfl, ?_⟩
      show 0 + kF oneL + kF long + kF twoL ≤ 50
      have h1 : kF oneL = 1 := by decide
      have h2 : kF twoL = 1 := by decide
      omega
  obtain ⟨s, e, k2, c2⟩ := (append_ok k c1 hseq.2.2.1 twoL_bytes (recF_ok hseq.1 hseq.2.1 (by decide))).2 (by rw [keeps_hn k]; exact hseq.2.2.2)
  refine ⟨s, e, ?_⟩
  rw [k2.open_is c2.down]
  show { plusJ v twoL with dead := false } = plusJ v twoL
  have hd := hseq.2.2.1
  unfold plusJ; rw [hd]
theorem SpellS.recs {c : DS} {g : Int} {long : List Int} {v : JV} (h : SpellS c g long v) : v.has = false ∧ ((v.recs = [oneL] ∧ g ≠ 0) ∨ v.recs = [oneL, long]) := by
  obtain ⟨-, -, -, ⟨h1, rfl⟩ | rfl⟩ := h
  · exact ⟨rfl, .inl ⟨rfl, h1⟩⟩
  · exact ⟨rfl, .inr rfl⟩
end Go.Proofs.YtjlhnhkjgcbnnaaGreat.Journal
