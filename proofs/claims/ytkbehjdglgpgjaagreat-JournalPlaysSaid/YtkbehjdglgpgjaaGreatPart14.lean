/-
  Parts laid together: DiskCrash.
-/
import Derived.Test.YtkbehjdglgpgjaaGreatPart9
import Derived.Test.YtkbehjdglgpgjaaGreatPart1
import Derived.StillTailTactics
import Derived.Test.YtkbehjdglgpgjaaGreatPart13
import Derived.Test.YtkbehjdglgpgjaaGreatPart4

namespace Go.Proofs.YtkbehjdglgpgjaaGreat.Disk
open Go.RowKit Go.Proofs.YtkbehjdglgpgjaaGreat.Sha

theorem at_nats (p : List Nat) (k : Nat) (h : k < p.length) : at_ (p.map fun (i : Nat) => (i : Int)) k = (p.getD k 0 : Nat) := by
 simp [at_, List.getD_eq_getElem?_getD, h]
structure Walk (n : Nat) (s : DS) (p : List Nat) (bs : List Bool) (Z : List (List Int) × List (List Int)) (k : Nat) (P L : List (List Int)) : Prop where
 a : P.length = n
 b : L.length = n
 secs : ∀ i, i < n → Sec (rowOf P i) ∧ Sec (rowOf L i)
 go : crashGo bs k (p.drop k) (P, L) = Z
 rest : ∀ q, k ≤ q → q < p.length → rowOf L (p.getD q 0) = rowOf s.last (p.getD q 0)
theorem getD_lt {p : List Nat} {i j : Nat} (hr : p.Pairwise (· < ·)) (hij : i < j) (hj : j < p.length) : p.getD i 0 < p.getD j 0 := by
 rw [List.pairwise_iff_getElem] at hr
 have := hr i j (by omega) hj hij
 simpa [List.getD_eq_getElem?_getD, hj, show i < p.length by omega] using this
theorem Walk.step {n : Nat} {s : DS} {p : List Nat} {bs : List Bool} {Z : List (List Int) × List (List Int)} {k : Nat} {P L : List (List Int)} (h : Walk n s p bs Z k P L) (hk : k < p.length) (hr : p.Pairwise (· < ·)) (hp : ∀ i ∈ p, i < n) :
  (bs.getD k false = true → Walk n s p bs Z (k + 1) P (L.set (p.getD k 0) (rowOf P (p.getD k 0)))) ∧ (bs.getD k false ≠ true → Walk n s p bs Z (k + 1) (P.set (p.getD k 0) (rowOf L (p.getD k 0))) L) := by
 have hin : p.getD k 0 < n := hp _ (by rw [List.getD_eq_getElem?_getD, List.getElem?_eq_getElem hk]; exact List.getElem_mem hk)
 have hdr : p.drop k = p.getD k 0 :: p.drop (k + 1) := by
  rw [List.drop_eq_getElem_cons hk]
  congr 1
  simp [hk]
 have hgo := h.go
 rw [hdr, crashGo_cons] at hgo
 generalize hi : p.getD k 0 = i at *
 constructor
 ·intro hb
  refine ⟨h.a, by simpa using h.b, fun j hj => ?_, by rw [← hgo]; unfold crash1; rw [if_pos hb], fun q hq hql => ?_⟩
  ·refine ⟨(h.secs j hj).1, ?_⟩
   rw [rowOf_set _ _ _ _ (by rw [h.b]; exact hj)]
   split
   ·rename_i e; subst e; exact (h.secs i hj).1
   ·exact (h.secs j hj).2
  ·have hlt := getD_lt hr (show k < q by omega) hql
   have hqn : p.getD q 0 < n := hp _ (by rw [List.getD_eq_getElem?_getD, List.getElem?_eq_getElem hql]; exact List.getElem_mem hql)
   rw [rowOf_set _ _ _ _ (by rw [h.b]; exact hqn), if_neg (by omega)]
   exact h.rest q (by omega) hql
 ·intro hb
  refine ⟨by simpa using h.a, h.b, fun j hj => ?_, by rw [← hgo]; unfold crash1; rw [if_neg hb], fun q hq hql => h.rest q (by omega) hql⟩
  refine ⟨?_, (h.secs j hj).2⟩
  rw [rowOf_set _ _ _ _ (by rw [h.a]; exact hj)]
  split
  ·rename_i e; subst e; exact (h.secs i hj).2
  ·exact (h.secs j hj).1
set_option maxRecDepth 100000 in
set_option maxHeartbeats 2000000 in
theorem ccrash_any {w : World} {F : List Nat} {d n : Nat} {s : DS} {A : Option Addr} {m c : Nat} {bs : List Bool} (h : Dk w F d n s) (r : Rb w A m bs) (hO : Off A m F) :
    Calls Tryz.prog 15 #[.pointer (some ⟨d, 0, none⟩), .slice A m c] w fun e w' => e = .returned (.tuple #[]) ∧ ∃ F', Dk w' F' d n (crashD s bs) ∧ Fp F F' w w' := by
  have hwf := h.1
  have WC := Kept.mk (wf_crash hwf bs)
  have hpl := cpend_len hwf
  have hn2 := hwf.n2
  have HR := Kept.mk hwf.rise
  have HP := Kept.mk hwf.pend
  obtain ⟨h0, gw, cw, gm, f, h1, h2, h3, h4, hF⟩ := h
  obtain ⟨p, hpp⟩ : ∃ p, s.pend = p := ⟨_, rfl⟩
  have W0 : Kept (Walk n s p bs (crashGo bs 0 s.pend (s.now, s.last)) 0 s.now s.last) := ⟨h0.now, h0.last, h0.secs, by rw [hpp]; rfl, fun _ _ _ => rfl⟩
  rw [hpp] at h3 hpl HR HP
  have FIN : Kept (∀ P L, Walk n s p bs (crashGo bs 0 s.pend (s.now, s.last)) p.length P L → crashD s bs = ⟨P, L, [], -1, false⟩) := ⟨fun P L hw => by
    have := hw.go
    rw [List.drop_length] at this
    unfold crashD
    rw [← this]
    rfl⟩
  generalize crashGo bs 0 s.pend (s.now, s.last) = Z at *
  have c1 := (h1.cell 1).trans (dk_1 _ _ _ _)
  obtain ⟨N, hN⟩ : ∃ N, w.heap.size = N := ⟨_, rfl⟩
  have a1 : Below N w (w.alloc (.cells #[.map (some gm)] 75)) := (Below.refl _ _).alloc (by omega) _
  have hbm : (w.alloc (.cells #[.map (some gm)] 75)).cell? ⟨N, 0, none⟩ = some (.map (some gm)) := by
    rw [(Blk.new_at w 75 #[.map (some gm)] N hN.symm).cell 0]; rfl
  have CK := Kept.mk (keys_any gm w)
  have a1b : Bar [] w (w.alloc (.cells #[.map (some gm)] 75)) := (Bar.refl [] w).alloc _
  have CS := Kept.mk (sorted_any _ gm N p s.last (h3.bar a1b (by simp)) HR.out (by omega) hbm)
  have n1 : gw ≠ d := by obtain ⟨cs', k', -⟩ := h2; exact blk_ne k' h1 (by decide)
  have n2 : gm ≠ gw := by obtain ⟨cs', k', -⟩ := h2; exact h3.ne k'
  have n3 : gm ≠ d := h3.ne h1
  have GL := Kept.mk h2.lt
  have NE := Kept.mk (And.intro n1 (And.intro n2 n3))
  have H1 := Kept.mk h1; have H2 := Kept.mk h2; have H3 := Kept.mk h3; have RB := Kept.mk r; have OF := Kept.mk hO; have HF := Kept.mk hF
  have A1 := Kept.mk a1b
  have HM := Kept.mk r.1
  have HN := Kept.mk hN
  clear h0 h1 h2 h3 h4 n1 n2 n3 r hO hF a1 hbm a1b hwf hpp hN
  go_enter Tryz.func15, Tryz.ntmps15
  go_wp2_with fail
  refine CK.out.mono ?_
  rintro e w' ⟨rfl, rfl⟩
  rw [HN.out]
  clear CK
  generalize w.alloc (.cells #[.map (some gm)] 75) = w1 at *
  go_wp2_with fail
  refine CS.out.mono ?_
  rintro e w2 ⟨v, rfl, own, b2⟩
  have B02 : Kept (Bar [] w w2) := ⟨A1.out.trans (barOf b2 []) (by simp)⟩
  obtain ⟨V, cp, rfl⟩ := own_shape own
  obtain ⟨-, -, ri⟩ := own_ri own
  have RI := Kept.mk ri
  replace H1 := Kept.mk (H1.out.bar B02.out (by simp))
  replace H2 := Kept.mk (H2.out.bar B02.out (by simp))
  replace H3 := Kept.mk (H3.out.bar B02.out (by simp))
  replace RB := Kept.mk (RB.out.bar B02.out (by simp))
  have VN : Kept (∀ o, V ≠ some ⟨gw, o, none⟩) := ⟨fun o ho => by
    subst ho
    rcases own.2 with ⟨hv, -⟩ | ⟨g, cap, cur, hv, hg, -⟩
    · cases hv
    · injection hv with hv; injection hv with hv; injection hv with hv
      have := GL.out; have := A1.out.size; omega⟩
  have AN : Kept (∀ o, m ≠ 0 → A ≠ some ⟨gw, o, none⟩) := ⟨fun o hm ho => by
    subst ho
    rcases OF.out with h | ⟨g, o', h, hg⟩
    · exact hm h
    · injection h with h; injection h with h
      subst h
      exact hg (by rw [HF.out]; simp)⟩
  clear own b2 ri CS A1
  go_wp2
  go_loopw [13] (fun j wr => ∃ (k : Nat) (P L : List (List Int)), k ≤ p.length ∧ j = .int .i64 k ∧ Kept (Walk n s p bs Z k P L) ∧ Kept (Sx wr gw P) ∧ Kept (Bar [gw] w2 wr)) (fun j _ => p.length - (Go.RowKit.intOf j).toNat)
  case atStart => exact ⟨0, s.now, s.last, by omega, rfl, W0, H2, ⟨Bar.refl _ _⟩⟩
  case round =>
    clear W0 H2
    obtain ⟨k, P, L, hk, rfl, W, SX, BW⟩ := hrel
    have BD : Kept (Bar [gw] w2 wr.drew) := ⟨BW.out.drew⟩
    by_cases hkn : k < p.length
    · have hkn' : (k : Int) < p.length := by omega
      obtain ⟨vb, vo, rfl, hv⟩ := (RI.out.bar BW.out (by simpa using .inr VN.out)).2.resolve_left (by omega)
      have xk := hv k hkn
      rw [at_nats p k hkn] at xk
      obtain ⟨i, hi⟩ : ∃ i, p.getD k 0 = i := ⟨_, rfl⟩
      rw [hi] at xk
      have him : i ∈ p := by rw [← hi, List.getD_eq_getElem?_getD, List.getElem?_eq_getElem hkn]; exact List.getElem_mem hkn
      have hin := HP.out i him
      have hin' : (i : Int) < n := by omega
      clear hv FIN
      by_cases hkm : k < m
      · have hkm' : (k : Int) < m := by omega
        obtain ⟨ab, ao, rfl, ha⟩ := (RB.out.bar BW.out (by simpa using .inr fun o => AN.out o (by omega))).2.resolve_left (by omega)
        have xb := ha k hkm
        clear ha
        cases hkeep : bs.getD k false with
        | true =>
          rw [hkeep] at xb
          have WS := Kept.mk ((W.out.step hkn HR.out HP.out).1 hkeep)
          clear W BD
          go_wp2
          go_roundw
          case rel => exact ⟨k + 1, _, _, by omega, by go_num, WS, SX, BW⟩
          case measure => simp [Go.RowKit.intOf]; omega
        | false =>
          rw [hkeep] at xb
          have WS := (W.out.step hkn HR.out HP.out).2 (by rw [hkeep]; decide)
          have hrs := W.out.rest k (Nat.le_refl _) hkn
          rw [hi] at hrs WS
          have hL64 := (W.out.secs i hin).2.1
          rw [hrs] at WS hL64
          clear hrs
          replace WS := Kept.mk WS
          have H1d := H1.out.bar BD.out (by simpa using NE.out.1.symm)
          have H3d := H3.out.bar BD.out (by simpa using NE.out.2.1)
          have c0 := (H1d.cell 0).trans (dk_0 _ _ _ _)
          have c1 := (H1d.cell 1).trans (dk_1 _ _ _ _)
          have hlk := H3d.at_ i (by omega) him
          obtain ⟨w4, hst, k4, b4⟩ := (SX.out.bar (Bar.refl [] wr).drew (by simp)).store i (by rw [W.out.a]; exact hin) (rowOf s.last i) hL64
          have K4 := Kept.mk k4
          have B4 : Kept (Bar [gw] w2 w4) := ⟨BD.out.trans b4 (by simp)⟩
          clear H1d H3d k4 b4 W SX BW BD hL64
          generalize rowOf s.last i = x at *
          go_wp2
          refine wp_region_still_tail 12 (by kernel_rfl) (by kernel_rfl) ?_
          simp only [List.take_succ_cons, List.take_zero, List.drop_succ_cons, List.drop_zero]
          repeat still_step
          refine wpStill_nil ?_
          change wpList _ _ _ _ _ wr.drew
          go_wp2_with ((with_reducible refine selS 105 (.tmp 40) (.tmp 39) ?_); refine wpList_storeAt rfl 105 (.tmp 40) (.tmp 39) rfl _ _ rfl rfl hst ?_)
          go_roundw
          case rel => exact ⟨k + 1, _, _, by omega, by go_num, WS, K4, B4⟩
          case measure => simp [Go.RowKit.intOf]; omega
      · have hkm' : ¬ (k : Int) < m := by omega
        have hkeep : bs.getD k false = false := by
          rw [List.getD_eq_getElem?_getD, List.getElem?_eq_none (by rw [HM.out]; omega)]; rfl
        have WS := (W.out.step hkn HR.out HP.out).2 (by rw [hkeep]; decide)
        have hrs := W.out.rest k (Nat.le_refl _) hkn
        rw [hi] at hrs WS
        have hL64 := (W.out.secs i hin).2.1
        rw [hrs] at WS hL64
        clear hrs
        replace WS := Kept.mk WS
        have H1d := H1.out.bar BD.out (by simpa using NE.out.1.symm)
        have H3d := H3.out.bar BD.out (by simpa using NE.out.2.1)
        have c0 := (H1d.cell 0).trans (dk_0 _ _ _ _)
        have c1 := (H1d.cell 1).trans (dk_1 _ _ _ _)
        have hlk := H3d.at_ i (by omega) him
        obtain ⟨w4, hst, k4, b4⟩ := (SX.out.bar (Bar.refl [] wr).drew (by simp)).store i (by rw [W.out.a]; exact hin) (rowOf s.last i) hL64
        have K4 := Kept.mk k4
        have B4 : Kept (Bar [gw] w2 w4) := ⟨BD.out.trans b4 (by simp)⟩
        clear H1d H3d k4 b4 W SX BW BD hL64
        generalize rowOf s.last i = x at *
        go_wp2
        refine wp_region_still_tail 12 (by kernel_rfl) (by kernel_rfl) ?_
        simp only [List.take_succ_cons, List.take_zero, List.drop_succ_cons, List.drop_zero]
        repeat still_step
        refine wpStill_nil ?_
        change wpList _ _ _ _ _ wr.drew
        go_wp2_with ((with_reducible refine selS 105 (.tmp 40) (.tmp 39) ?_); refine wpList_storeAt rfl 105 (.tmp 40) (.tmp 39) rfl _ _ rfl rfl hst ?_)
        go_roundw
        case rel => exact ⟨k + 1, _, _, by omega, by go_num, WS, K4, B4⟩
        case measure => simp [Go.RowKit.intOf]; omega
    · have hkn' : ¬ (k : Int) < p.length := by omega
      obtain rfl : k = p.length := by omega
      have HZ := FIN.out P L W.out
      have H1d := H1.out.bar BW.out (by simpa using NE.out.1.symm)
      have H3d := H3.out.bar BW.out (by simpa using NE.out.2.1)
      have c1 := (H1d.cell 1).trans (dk_1 _ _ _ _)
      obtain ⟨w3, hcl, k3, b3⟩ := H3d.clear L
      have H1e := H1d.bar b3 (by simpa using NE.out.2.2.symm)
      have SXe := SX.out.bar b3 (by simpa using NE.out.2.1.symm)
      have c2 := (H1e.cell 2).trans (dk_2 _ _ _ _)
      have z2 := H1e.frozen 2
      have H1f := H1e.set_ 2 (.int .i64 (-1))
      have b4 : Bar [d] w3 (w3.setCell ⟨d, 2, none⟩ (.int .i64 (-1))) := (Bar.refl _ _).setCell (by simp) _
      have CB := Kept.mk (bstore_any ⟨d, 3, none⟩ false _ _ (H1f.cell 3) (H1f.frozen 3))
      have RES : Kept (Dk ((w3.setCell ⟨d, 2, none⟩ (.int .i64 (-1))).drew.setCell ⟨d, 3, none⟩ (.int .u32 (u01 false))) F d n (crashD s bs) ∧ Fp F F w ((w3.setCell ⟨d, 2, none⟩ (.int .i64 (-1))).drew.setCell ⟨d, 3, none⟩ (.int .u32 (u01 false)))) := by
        have b5 : Bar [d] w3 ((w3.setCell ⟨d, 2, none⟩ (.int .i64 (-1))).drew.setCell ⟨d, 3, none⟩ (.int .u32 (u01 false))) := b4.drew.setCell (by simp) _
        have wc := WC.out
        rw [HZ] at wc ⊢
        refine ⟨⟨wc, gw, cw, gm, -1, H1f.drew.set_ 3 (.int .u32 (u01 false)), SXe.bar b5 (by simpa using NE.out.1), k3.bar b5 (by simpa using NE.out.2.2), rfl, HF.out⟩, ?_, fun k hk => .inl hk⟩
        rw [HF.out]
        exact (((B02.out.mono (l' := d :: gw :: gm :: []) (by simp)).trans BW.out (by simp)).trans b3 (by simp)).trans b5 (by simp)
      clear H1 H3 H1d H3d H1e SXe k3 b3 b4 H1f W SX BW BD WC HZ FIN NE HF OF AN VN RI RB
      go_wp2_with fail
      refine CB.out.mono ?_
      rintro e w' ⟨rfl, rfl⟩
      go_wp2
      go_end0
      exact ⟨rfl, F, RES.out⟩
end Go.Proofs.YtkbehjdglgpgjaaGreat.Disk
