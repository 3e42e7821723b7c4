/-
  The law DiskLasts, walked.
-/
import Derived.Test.YtgjmnefninmoiaaDiskReads
import Derived.Test.YtgjmnefninmoiaaDiskWant
namespace Go.Proofs.Ytgjmnefninmoiaa.Disk
open Go.RowKit Go.Proofs.Ytgjmnefninmoiaa.Sha

section
variable {Dk : World → List Nat → Nat → Nat → DS → Prop}
set_option maxRecDepth 100000 in
set_option maxHeartbeats 2000000 in
theorem lasts_walk (api : DiskApi Dk) (A : Option Addr) (lx cx : Nat) (xs : List Int) (A' : Option Addr) (ly cy : Nat) (ys : List Int) (A2 : Option Addr) (m cm : Nat) (bs : List Bool) (w : World) (hx : Rd w A lx xs) (hy : Rd w A' ly ys) (hb : Rb w A2 m bs) (hmc : m ≤ cm) (hcm : cm ≤ 9223372036854775807) :
    Calls Try.prog 4 #[.slice A lx cx, .slice A' ly cy, .slice A2 m cm] w (Holds w) := by
  have RX := Kept.mk hx
  have RY := Kept.mk hy
  have RB := Kept.mk hb
  have l64 := Kept.mk text64_len
  clear hx hy hb
  go_enter Try.func4, Try.ntmps4
  go_wp2_with fail
  refine (first_any api w).mono ?_
  rintro e w1 ⟨rfl, b1⟩
  have B := Kept.mk b1
  clear b1
  by_cases hlt : ly < lx
  · have hlt' : (ly : Int) < lx := by omega
    by_cases hall : 1 ≤ ly ∧ ly ≤ 60 ∧ m ≤ 100
    · obtain ⟨hn1, hn60, hm100⟩ := hall
      have hn1' : (1 : Int) ≤ ly := by omega
      have hn60' : (ly : Int) ≤ 60 := by omega
      have hm100' : (m : Int) ≤ 100 := by omega
      go_wp2_with fail
      refine (api.new w1 ly hn1 (by omega)).mono ?_
      rintro e w2 ⟨d, F0, rfl, dk, fp⟩
      have D : Kept (Dk w2 F0 d ly ⟨List.replicate ly zeros64, List.replicate ly zeros64, List.range 0, -1, false⟩) := ⟨dk⟩
      obtain ⟨B, L⟩ := step_fp B fp (none_least _)
      clear dk fp
      go_wp2
      go_loopw [10] (fun j wr => ∃ (k : Nat) (F : List Nat) (M : List (List Int)), k ≤ ly ∧ j = .int .i64 k ∧ M.length = ly ∧ Kept (∀ j, j < ly → rowOf M j = if j < k then textOf 64 (at_ xs j) else zeros64) ∧ Kept (Dk wr F d ly ⟨M, List.replicate ly zeros64, List.range k, -1, false⟩) ∧ Kept (Below w.heap.size w wr) ∧ Kept (∀ g ∈ F, w.heap.size ≤ g)) (fun j _ => ly - (intOf j).toNat)
      case atStart => exact ⟨0, F0, _, by omega, rfl, by simp, ⟨fun j hj => by rw [rowOf_replicate _ _ hj, if_neg (by omega)]⟩, D, B, L⟩
      case round =>
        clear D B L
        obtain ⟨k, F, M, hk, rfl, hM, HM, D, B, L⟩ := hrel
        by_cases hkn : k < ly
        · have hkn' : (k : Int) < ly := by omega
          have hkx : (k : Int) < lx := by omega
          obtain ⟨bb, oo, rfl, CX⟩ := byte_at RX k (by omega)
          obtain ⟨x, hx⟩ : ∃ x, at_ xs k = x := ⟨_, rfl⟩
          rw [hx] at CX
          have HX := Kept.mk hx
          clear hx
          have x0 := CX.out _ B
          go_wp2_with fail
          refine (text_any wr 0 0 64 x none 0 0).mono ?_
          rintro e w3 ⟨g, rfl, kg, hg, bg⟩
          obtain ⟨R, O⟩ := text_rd (F := F) 64 x kg hg (api.lts D.out)
          rw [show textLen 64 = 64 from rfl] at R O ⊢
          replace D := api.below D bg
          replace B := step_below B bg
          clear kg hg bg x0
          have hw := api.write (c := 64) k D.out R.out O.out (by omega) (by omega)
          rw [write_ok rfl rfl (by simp only; omega) (l64.out _)] at hw
          have HW := Kept.mk hw
          clear hw
          go_wp2_with fail
          refine HW.out.mono ?_
          rintro e w4 ⟨rfl, F4, dk, fp⟩
          have D4 : Kept (Dk w4 F4 d ly ⟨M.set k (textOf 64 x), List.replicate ly zeros64, List.range (k + 1), -1, false⟩) := ⟨by rw [← ins_range k]; exact dk⟩
          obtain ⟨B, L4⟩ := step_fp B fp L
          have HM2 : Kept (∀ j, j < ly → rowOf (M.set k (textOf 64 x)) j = if j < k + 1 then textOf 64 (at_ xs j) else zeros64) := ⟨fun j hj => by
            rw [rowOf_set _ _ _ _ (by omega)]
            by_cases hjk : k = j
            · subst hjk; rw [if_pos rfl, if_pos (by omega), HX.out]
            · rw [if_neg hjk, HM.out j hj]
              by_cases hj2 : j < k
              · rw [if_pos hj2, if_pos (by omega)]
              · rw [if_neg hj2, if_neg (by omega)]⟩
          clear dk fp HW R O D L HM
          go_wp2
          go_roundw
          case rel => exact ⟨k + 1, F4, M.set k (textOf 64 x), by omega, by go_num, by simpa using hM, HM2, D4, B, L4⟩
          case measure => simp [intOf]; omega
        · have hkn' : ¬ (k : Int) < ly := by omega
          obtain hkN : k = ly := by omega
          rw [hkN] at D HM
          have rN : Kept (∀ j, j < ly → rowOf M j = textOf 64 (at_ xs j)) := ⟨fun j hj => by rw [HM.out j hj, if_pos hj]⟩
          clear HM hkN
          have hp := api.pending D.out
          simp only [List.length_range] at hp
          go_wp2_with fail
          refine hp.mono ?_
          rintro e w5 ⟨rfl, b5⟩
          replace D := api.below D b5
          replace B := step_below B b5
          clear hp b5
          have hs := api.sync D.out
          rw [sync_ok rfl rfl] at hs
          go_wp2_with fail
          refine hs.mono ?_
          rintro e w6 ⟨rfl, F6, dk, fp⟩
          have D : Kept (Dk w6 F6 d ly ⟨M, M, [], -1, false⟩) := ⟨dk⟩
          obtain ⟨B, L⟩ := step_fp B fp L
          clear hs dk fp
          have hp := api.pending D.out
          simp only [List.length_nil] at hp
          go_wp2_with fail
          refine hp.mono ?_
          rintro e w7 ⟨rfl, b7⟩
          replace D := api.below D b7
          replace B := step_below B b7
          clear hp b7
          obtain ⟨w8, hmk, k8, b8⟩ := make_blk w7 ly (by omega)
          obtain ⟨V, hV⟩ : ∃ V, w7.heap.size = V := ⟨_, rfl⟩
          have hVF : Kept (V ∉ F6) := ⟨fun hm => by have := api.lts D.out V hm; omega⟩
          have hVw : w.heap.size ≤ V := by rw [← hV]; exact B.out.size
          replace D := api.below D b8
          replace B := step_below B b8
          rw [hV, ← wants_0 xs ys bs ly] at k8
          rw [hV] at hmk
          have KV := Kept.mk k8
          clear k8 b8 hV
          go_wp2
          clear hmk
          go_loopw [11, 13] (fun t j wr => ∃ (i : Nat) (F : List Nat) (Q : List (List Int)), i ≤ ly ∧ t = .int .i64 ((chg ys i).length : Nat) ∧ j = .int .i64 i ∧ Q.length = ly ∧ Kept (∀ j, j < ly → rowOf Q j = if j < i ∧ odd_ ys j = true then textOf 64 (at_ ys j) else textOf 64 (at_ xs j)) ∧ Kept (Dk wr F d ly ⟨Q, M, chg ys i, -1, false⟩) ∧ Kept (Blk wr V 5 (arr .u8 (wants xs ys bs ly i))) ∧ Kept (V ∉ F) ∧ Kept (Below w.heap.size w wr) ∧ Kept (∀ g ∈ F, w.heap.size ≤ g)) (fun _ j _ => ly - (intOf j).toNat)
          case atStart => exact ⟨0, F6, M, by omega, rfl, rfl, hM, ⟨fun j hj => by rw [rN.out j hj, if_neg (by omega)]⟩, D, KV, hVF, B, L⟩
          case round =>
            clear D B L KV hVF
            obtain ⟨i, F, Q, hi, rfl, rfl, hQ, HQ, D, KV, hVF, B, L⟩ := hrel
            have hcl := chg_len ys i
            by_cases hin : i < ly
            · have hin' : (i : Int) < ly := by omega
              have hix : (i : Int) < lx := by omega
              have hiy : (i : Int) < ly := by omega
              obtain ⟨bb, oo, rfl, CX⟩ := byte_at RX i (by omega)
              obtain ⟨b2, o2, rfl, CY⟩ := byte_at RY i (by omega)
              have hyb := RY.out.2.1.at_ i
              obtain ⟨x, hx⟩ : ∃ x, at_ xs i = x := ⟨_, rfl⟩
              obtain ⟨y, hy⟩ : ∃ y, at_ ys i = y := ⟨_, rfl⟩
              rw [hx] at CX
              rw [hy] at CY hyb
              have HX := Kept.mk hx
              have HY := Kept.mk hy
              have ha := and1_is y hyb
              clear hx hy
              have x0 := CX.out _ B
              have v0 := KV.out.at_ i (by rw [wants_len]; exact hin)
              have z0 := KV.out.frozen i
              generalize at_ (wants xs ys bs ly i) i = u at *
              have DS := Kept.mk fun v => api.stored (p := ⟨V, i, none⟩) (u := v) D hVF.out rfl
              go_upto_region 22 with (fail)
              clear x0 v0 z0
              replace D := DS.out (.int .u8 x)
              replace B : Kept (Below w.heap.size w (wr.setCell ⟨V, i, none⟩ (.int .u8 x))) := ⟨B.out.setCell hVw _⟩
              have kv := KV.out.set_ i (.int .u8 x)
              rw [arr_set] at kv
              replace KV := Kept.mk kv
              clear DS kv
              generalize wr.setCell ⟨V, i, none⟩ (.int .u8 x) = w9 at *
              have y0 := CY.out _ B
              by_cases hodd : y % 2 = 1
              · have HO : Kept (odd_ ys i = true) := ⟨by unfold odd_; rw [HY.out]; exact decide_eq_true hodd⟩
                have hbit : (bits .and .u8 y 1 == 0) = false := by rw [ha, hodd]; rfl
                have hchg : Kept (chg ys (i + 1) = chg ys i ++ [i]) := ⟨by rw [chg, if_pos HO.out]⟩
                clear ha
                go_wp2_with fail
                refine (text_any w9 0 0 64 y none 0 0).mono ?_
                rintro e w10 ⟨g, rfl, kg, hg, bg⟩
                obtain ⟨R, O⟩ := text_rd (F := F) 64 y kg hg (api.lts D.out)
                rw [show textLen 64 = 64 from rfl] at R O ⊢
                replace D := api.below D bg
                replace B := step_below B bg
                replace KV := Kept.mk (KV.out.below bg KV.out.lt)
                clear kg hg bg y0 hbit
                have hw := api.write (c := 64) i D.out R.out O.out (by omega) (by omega)
                rw [write_ok rfl rfl (by simp only; omega) (l64.out _)] at hw
                have HW := Kept.mk hw
                clear hw
                go_wp2_with fail
                refine HW.out.mono ?_
                rintro e w11 ⟨rfl, F11, dk, fp⟩
                have D11 : Kept (Dk w11 F11 d ly ⟨Q.set i (textOf 64 y), M, chg ys (i + 1), -1, false⟩) := ⟨by rw [hchg.out, ← ins_last i _ (chg_lt ys i)]; exact dk⟩
                have hV11 : Kept (V ∉ F11) := ⟨fun hm => Disj.step (F := F) (G := [V]) (fun j hj hj2 => by simp at hj2; subst hj2; exact hVF.out hj) fp (fun j hj => by simp at hj; subst hj; exact KV.out.lt) V hm (by simp)⟩
                replace KV := Kept.mk (KV.out.bar fp.1 hVF.out)
                obtain ⟨B, L11⟩ := step_fp B fp L
                have HQ2 : Kept (∀ j, j < ly → rowOf (Q.set i (textOf 64 y)) j = if j < i + 1 ∧ odd_ ys j = true then textOf 64 (at_ ys j) else textOf 64 (at_ xs j)) := ⟨fun j hj => by
                  rw [rowOf_set _ _ _ _ (by omega)]
                  by_cases hij : i = j
                  · subst hij; rw [if_pos rfl, if_pos ⟨by omega, HO.out⟩, HY.out]
                  · rw [if_neg hij, HQ.out j hj]
                    by_cases hc : j < i ∧ odd_ ys j = true
                    · rw [if_pos hc, if_pos ⟨by omega, hc.2⟩]
                    · rw [if_neg hc, if_neg (fun h => hc ⟨by omega, h.2⟩)]⟩
                clear dk fp HW R O D L HQ hVF
                have hlen : ((chg ys (i + 1)).length : Int) = ((chg ys i).length : Int) + 1 := by rw [hchg.out]; simp
                have HLN := Kept.mk hlen
                clear hlen
                obtain ⟨K, hK⟩ : ∃ K, (chg ys i).length = K := ⟨_, rfl⟩
                rw [hK] at HLN hcl ⊢
                have HK := Kept.mk hK
                clear hK
                by_cases hkm : K < m ∧ bs.getD K false = true
                · have hWV : wantOf xs ys bs i = y := by unfold wantOf; rw [if_pos ⟨HO.out, by rw [HK.out]; exact hkm.2⟩, HY.out]
                  have hkm' : (K : Int) < m := by omega
                  obtain ⟨b3, o3, rfl, hc3⟩ := (RB.out.below B.out).2.resolve_left (by omega)
                  have kb := hc3 K hkm.1
                  rw [hkm.2] at kb
                  have v1 := KV.out.at_ i (by rw [List.length_set, wants_len]; exact hin)
                  have z1 := KV.out.frozen i
                  have y1 := CY.out _ B
                  have DS := Kept.mk fun v => api.stored (p := ⟨V, i, none⟩) (u := v) D11 hV11.out rfl
                  have kv := KV.out.set_ i (.int .u8 y)
                  rw [arr_set, set_set_, wants_step xs ys bs ly i y hWV] at kv
                  have KV2 := Kept.mk kv
                  have B2 : Kept (Below w.heap.size w (w11.setCell ⟨V, i, none⟩ (.int .u8 y))) := ⟨B.out.setCell hVw _⟩
                  clear kv hc3 hWV KV
                  generalize at_ ((wants xs ys bs ly i).set i x) i = u2 at *
                  go_wp2
                  go_roundw
                  case rel => exact ⟨i + 1, F11, Q.set i (textOf 64 y), by omega, by rw [HLN.out], by go_num, by simpa using hQ, HQ2, DS.out _, KV2, hV11, B2, L11⟩
                  case measure => simp [intOf]; omega
                · have hWV : wantOf xs ys bs i = x := by unfold wantOf; rw [if_neg (fun h => hkm ⟨by
                    rcases Nat.lt_or_ge K m with hl | hl
                    · exact hl
                    · have := h.2
                      rw [HK.out, List.getD_eq_getElem?_getD, List.getElem?_eq_none (by rw [RB.out.1]; exact hl)] at this
                      simp at this, by rw [← HK.out]; exact h.2⟩), HX.out]
                  have kv := KV.out
                  rw [wants_step xs ys bs ly i x hWV] at kv
                  have KV2 := Kept.mk kv
                  clear kv hWV KV
                  by_cases hkm2 : K < m
                  · have hkm' : (K : Int) < m := by omega
                    obtain ⟨b3, o3, rfl, hc3⟩ := (RB.out.below B.out).2.resolve_left (by omega)
                    have kb := hc3 K hkm2
                    have hfalse : bs.getD K false = false := by
                      cases hh : bs.getD K false with
                      | false => rfl
                      | true => exact absurd ⟨hkm2, hh⟩ hkm
                    rw [hfalse] at kb
                    clear hc3 hfalse hkm
                    go_wp2
                    go_roundw
                    case rel => exact ⟨i + 1, F11, Q.set i (textOf 64 y), by omega, by rw [HLN.out], by go_num, by simpa using hQ, HQ2, D11, KV2, hV11, B, L11⟩
                    case measure => simp [intOf]; omega
                  · have hkm' : ¬ (K : Int) < m := by omega
                    clear hkm
                    go_wp2
                    go_roundw
                    case rel => exact ⟨i + 1, F11, Q.set i (textOf 64 y), by omega, by rw [HLN.out], by go_num, by simpa using hQ, HQ2, D11, KV2, hV11, B, L11⟩
                    case measure => simp [intOf]; omega
              · have hy0 : y % 2 = 0 := by omega
                have hE : ¬ odd_ ys i = true := by unfold odd_; rw [HY.out]; simpa using hodd
                have hbit : (bits .and .u8 y 1 == 0) = true := by rw [ha, hy0]; rfl
                have hchg : Kept (chg ys (i + 1) = chg ys i) := ⟨by rw [chg, if_neg hE]⟩
                have hWV : wantOf xs ys bs i = x := by unfold wantOf; rw [if_neg (fun h => hE h.1), HX.out]
                have kv := KV.out
                rw [wants_step xs ys bs ly i x hWV] at kv
                have KV2 := Kept.mk kv
                have HQ2 : Kept (∀ j, j < ly → rowOf Q j = if j < i + 1 ∧ odd_ ys j = true then textOf 64 (at_ ys j) else textOf 64 (at_ xs j)) := ⟨fun j hj => by
                  rw [HQ.out j hj]
                  by_cases hc : j < i ∧ odd_ ys j = true
                  · rw [if_pos hc, if_pos ⟨by omega, hc.2⟩]
                  · rw [if_neg hc, if_neg (fun h => hc ⟨by
                      rcases Nat.lt_or_ge j i with hl | hl
                      · exact hl
                      · obtain rfl : j = i := by omega
                        exact absurd h.2 hE, h.2⟩)]⟩
                have D2 : Kept (Dk w9 F d ly ⟨Q, M, chg ys (i + 1), -1, false⟩) := ⟨by rw [hchg.out]; exact D.out⟩
                clear kv hWV KV HQ ha D
                go_wp2
                go_roundw
                case rel => exact ⟨i + 1, F, Q, by omega, by rw [hchg.out], by go_num, hQ, HQ2, D2, KV2, hVF, B, L⟩
                case measure => simp [intOf]; omega
            · have hin' : ¬ (i : Int) < ly := by omega
              obtain hiN : i = ly := by omega
              rw [hiN] at D HQ KV hcl ⊢
              clear hiN
              have HQ3 : ∀ j, j < ly → rowOf Q j = if odd_ ys j = true then textOf 64 (at_ ys j) else textOf 64 (at_ xs j) := fun j hj => by
                rw [HQ.out j hj]
                by_cases hc : odd_ ys j = true
                · rw [if_pos ⟨hj, hc⟩, if_pos hc]
                · rw [if_neg (fun h => hc h.2), if_neg hc]
              obtain ⟨l1, l2, hcw⟩ := crash_want ly xs ys bs Q M hQ hM HQ3 rN.out ly (Nat.le_refl _)
              have hp := api.pending D.out
              simp only at hp
              go_wp2_with fail
              refine hp.mono ?_
              rintro e w12 ⟨rfl, b12⟩
              replace D := api.below D b12
              replace B := step_below B b12
              replace KV := Kept.mk (KV.out.below b12 KV.out.lt)
              clear hp b12 HQ HQ3
              have hr := api.crash D.out (RB.out.below B.out) (RB.out.off L.out) hmc hcm
              unfold crashD at hr
              simp only at hr
              generalize crashGo bs 0 (chg ys ly) (Q, M) = P at *
              have HR := Kept.mk hr
              have HC : Kept (∀ j, j < ly → rowOf P.1 j = textOf 64 (wantOf xs ys bs j)) := ⟨fun j hj => by rw [(hcw j hj).1, if_pos hj]⟩
              clear hr hcw
              go_wp2_with fail
              refine HR.out.mono ?_
              rintro e w13 ⟨rfl, F13, dk, fp⟩
              have hV13 : Kept (V ∉ F13) := ⟨fun hm => Disj.step (F := F) (G := [V]) (fun j hj hj2 => by simp at hj2; subst hj2; exact hVF.out hj) fp (fun j hj => by simp at hj; subst hj; exact KV.out.lt) V hm (by simp)⟩
              replace KV := Kept.mk (KV.out.bar fp.1 hVF.out)
              replace D := Kept.mk dk
              obtain ⟨B, L⟩ := step_fp B fp L
              clear dk fp HR hVF
              go_wp2
              go_loopw [14] (fun j wr => ∃ (i : Nat) (F : List Nat), i ≤ ly ∧ j = .int .i64 i ∧ Kept (Dk wr F d ly ⟨P.1, P.2, [], -1, false⟩) ∧ Kept (Blk wr V 5 (arr .u8 (wants xs ys bs ly ly))) ∧ Kept (V ∉ F) ∧ Kept (Below w.heap.size w wr) ∧ Kept (∀ g ∈ F, w.heap.size ≤ g)) (fun j _ => ly - (intOf j).toNat)
              case atStart => exact ⟨0, F13, by omega, rfl, D, KV, hV13, B, L⟩
              case round =>
                clear D B L KV hV13
                obtain ⟨i, F, hi, rfl, D, KV, hVF, B, L⟩ := hrel
                by_cases hin : i < ly
                · have hin' : (i : Int) < ly := by omega
                  have hrow := HC.out i hin
                  have v0 := KV.out.at_ i (by rw [wants_len]; exact hin)
                  rw [wants_at _ _ _ _ _ hin] at v0
                  obtain ⟨x, hx⟩ : ∃ x, wantOf xs ys bs i = x := ⟨_, rfl⟩
                  rw [hx] at hrow v0
                  have HX := Kept.mk hx
                  clear hx
                  have hr := api.read i D.out
                  rw [read_ok rfl (by simp only; omega), hrow] at hr
                  have HR := Kept.mk hr
                  clear hr v0
                  go_wp2_with fail
                  refine HR.out.mono ?_
                  rintro e w3 ⟨A3, c3, F3, rfl, r, -, -, -, dk, fp⟩
                  have R : Kept (Rd w3 A3 64 (textOf 64 x)) := ⟨by have r2 := r; simp only [text64_len] at r2; exact r2⟩
                  rw [show ((0, textOf 64 x) : Int × List Int).2.length = 64 from text64_len x]
                  have hV3 : Kept (V ∉ F3) := ⟨fun hm => Disj.step (F := F) (G := [V]) (fun j hj hj2 => by simp at hj2; subst hj2; exact hVF.out hj) fp (fun j hj => by simp at hj; subst hj; exact KV.out.lt) V hm (by simp)⟩
                  replace KV := Kept.mk (KV.out.bar fp.1 hVF.out)
                  have v0 := KV.out.at_ i (by rw [wants_len]; exact hin)
                  rw [wants_at _ _ _ _ _ hin, HX.out] at v0
                  replace D := Kept.mk dk
                  obtain ⟨B, L⟩ := step_fp B fp L
                  clear dk fp HR r hVF
                  go_wp2_with fail
                  refine (text_any w3 0 0 64 x none 0 0).mono ?_
                  rintro e w4 ⟨g, rfl, kg, hg, bg⟩
                  obtain ⟨R2, -⟩ := text_rd (F := []) 64 x kg hg (by simp)
                  rw [show textLen 64 = 64 from rfl] at R2 ⊢
                  replace R := Kept.mk (R.out.below bg)
                  replace D := api.below D bg
                  replace B := step_below B bg
                  replace KV := Kept.mk (KV.out.below bg KV.out.lt)
                  clear kg hg bg v0
                  go_wp2_with fail
                  refine (bytes_same A3 (some ⟨g, 0, none⟩) 64 64 c3 64 (textOf 64 x) w4 R.out R2.out).mono ?_
                  rintro e w5 ⟨rfl, rfl⟩
                  clear R R2
                  go_wp2
                  go_roundw
                  case rel => exact ⟨i + 1, F3, by omega, by go_num, D, KV, hV3, B, L⟩
                  case measure => simp [intOf]; omega
                · have hin' : ¬ (i : Int) < ly := by omega
                  go_wp2_with fail
                  refine (first_any api wr).mono ?_
                  rintro e w3 ⟨rfl, b3⟩
                  replace D := api.below D b3
                  replace B := step_below B b3
                  clear b3
                  have hp := api.pending D.out
                  simp only [List.length_nil] at hp
                  go_wp2_with fail
                  refine hp.mono ?_
                  rintro e w4 ⟨rfl, b4⟩
                  replace D := api.below D b4
                  replace B := step_below B b4
                  clear hp b4
                  have hp := api.down D.out
                  simp only at hp
                  go_wp2_with fail
                  refine hp.mono ?_
                  rintro e w5 ⟨rfl, b5⟩
                  replace B := step_below B b5
                  clear hp b5
                  go_wp2
                  go_ret
                  exact ⟨rfl, B.out⟩
    · by_cases h1 : ly < 1
      · have h1' : (ly : Int) < 1 := by omega
        clear hall
        go_wp2_with fail
        refine (first_any api w1).mono ?_
        rintro e w2 ⟨rfl, b2⟩
        replace B := step_below B b2
        go_wp2
        go_ret
        exact ⟨rfl, B.out⟩
      · by_cases h2 : 60 < ly
        · have h2' : 60 < (ly : Int) := by omega
          clear hall
          go_wp2_with fail
          refine (first_any api w1).mono ?_
          rintro e w2 ⟨rfl, b2⟩
          replace B := step_below B b2
          go_wp2
          go_ret
          exact ⟨rfl, B.out⟩
        · have h3' : 100 < (m : Int) := by omega
          have h4' : (1 : Int) ≤ ly := by omega
          have h5' : (ly : Int) ≤ 60 := by omega
          clear hall
          go_wp2_with fail
          refine (first_any api w1).mono ?_
          rintro e w2 ⟨rfl, b2⟩
          replace B := step_below B b2
          go_wp2
          go_ret
          exact ⟨rfl, B.out⟩
  · have hlt' : ¬ (ly : Int) < lx := by omega
    by_cases hall : 1 ≤ lx ∧ lx ≤ 60 ∧ m ≤ 100
    · obtain ⟨hn1, hn60, hm100⟩ := hall
      have hn1' : (1 : Int) ≤ lx := by omega
      have hn60' : (lx : Int) ≤ 60 := by omega
      have hm100' : (m : Int) ≤ 100 := by omega
      go_wp2_with fail
      refine (api.new w1 lx hn1 (by omega)).mono ?_
      rintro e w2 ⟨d, F0, rfl, dk, fp⟩
      have D : Kept (Dk w2 F0 d lx ⟨List.replicate lx zeros64, List.replicate lx zeros64, List.range 0, -1, false⟩) := ⟨dk⟩
      obtain ⟨B, L⟩ := step_fp B fp (none_least _)
      clear dk fp
      go_wp2
      go_loopw [10] (fun j wr => ∃ (k : Nat) (F : List Nat) (M : List (List Int)), k ≤ lx ∧ j = .int .i64 k ∧ M.length = lx ∧ Kept (∀ j, j < lx → rowOf M j = if j < k then textOf 64 (at_ xs j) else zeros64) ∧ Kept (Dk wr F d lx ⟨M, List.replicate lx zeros64, List.range k, -1, false⟩) ∧ Kept (Below w.heap.size w wr) ∧ Kept (∀ g ∈ F, w.heap.size ≤ g)) (fun j _ => lx - (intOf j).toNat)
      case atStart => exact ⟨0, F0, _, by omega, rfl, by simp, ⟨fun j hj => by rw [rowOf_replicate _ _ hj, if_neg (by omega)]⟩, D, B, L⟩
      case round =>
        clear D B L
        obtain ⟨k, F, M, hk, rfl, hM, HM, D, B, L⟩ := hrel
        by_cases hkn : k < lx
        · have hkn' : (k : Int) < lx := by omega
          have hkx : (k : Int) < lx := by omega
          obtain ⟨bb, oo, rfl, CX⟩ := byte_at RX k (by omega)
          obtain ⟨x, hx⟩ : ∃ x, at_ xs k = x := ⟨_, rfl⟩
          rw [hx] at CX
          have HX := Kept.mk hx
          clear hx
          have x0 := CX.out _ B
          go_wp2_with fail
          refine (text_any wr 0 0 64 x none 0 0).mono ?_
          rintro e w3 ⟨g, rfl, kg, hg, bg⟩
          obtain ⟨R, O⟩ := text_rd (F := F) 64 x kg hg (api.lts D.out)
          rw [show textLen 64 = 64 from rfl] at R O ⊢
          replace D := api.below D bg
          replace B := step_below B bg
          clear kg hg bg x0
          have hw := api.write (c := 64) k D.out R.out O.out (by omega) (by omega)
          rw [write_ok rfl rfl (by simp only; omega) (l64.out _)] at hw
          have HW := Kept.mk hw
          clear hw
          go_wp2_with fail
          refine HW.out.mono ?_
          rintro e w4 ⟨rfl, F4, dk, fp⟩
          have D4 : Kept (Dk w4 F4 d lx ⟨M.set k (textOf 64 x), List.replicate lx zeros64, List.range (k + 1), -1, false⟩) := ⟨by rw [← ins_range k]; exact dk⟩
          obtain ⟨B, L4⟩ := step_fp B fp L
          have HM2 : Kept (∀ j, j < lx → rowOf (M.set k (textOf 64 x)) j = if j < k + 1 then textOf 64 (at_ xs j) else zeros64) := ⟨fun j hj => by
            rw [rowOf_set _ _ _ _ (by omega)]
            by_cases hjk : k = j
            · subst hjk; rw [if_pos rfl, if_pos (by omega), HX.out]
            · rw [if_neg hjk, HM.out j hj]
              by_cases hj2 : j < k
              · rw [if_pos hj2, if_pos (by omega)]
              · rw [if_neg hj2, if_neg (by omega)]⟩
          clear dk fp HW R O D L HM
          go_wp2
          go_roundw
          case rel => exact ⟨k + 1, F4, M.set k (textOf 64 x), by omega, by go_num, by simpa using hM, HM2, D4, B, L4⟩
          case measure => simp [intOf]; omega
        · have hkn' : ¬ (k : Int) < lx := by omega
          obtain hkN : k = lx := by omega
          rw [hkN] at D HM
          have rN : Kept (∀ j, j < lx → rowOf M j = textOf 64 (at_ xs j)) := ⟨fun j hj => by rw [HM.out j hj, if_pos hj]⟩
          clear HM hkN
          have hp := api.pending D.out
          simp only [List.length_range] at hp
          go_wp2_with fail
          refine hp.mono ?_
          rintro e w5 ⟨rfl, b5⟩
          replace D := api.below D b5
          replace B := step_below B b5
          clear hp b5
          have hs := api.sync D.out
          rw [sync_ok rfl rfl] at hs
          go_wp2_with fail
          refine hs.mono ?_
          rintro e w6 ⟨rfl, F6, dk, fp⟩
          have D : Kept (Dk w6 F6 d lx ⟨M, M, [], -1, false⟩) := ⟨dk⟩
          obtain ⟨B, L⟩ := step_fp B fp L
          clear hs dk fp
          have hp := api.pending D.out
          simp only [List.length_nil] at hp
          go_wp2_with fail
          refine hp.mono ?_
          rintro e w7 ⟨rfl, b7⟩
          replace D := api.below D b7
          replace B := step_below B b7
          clear hp b7
          obtain ⟨w8, hmk, k8, b8⟩ := make_blk w7 lx (by omega)
          obtain ⟨V, hV⟩ : ∃ V, w7.heap.size = V := ⟨_, rfl⟩
          have hVF : Kept (V ∉ F6) := ⟨fun hm => by have := api.lts D.out V hm; omega⟩
          have hVw : w.heap.size ≤ V := by rw [← hV]; exact B.out.size
          replace D := api.below D b8
          replace B := step_below B b8
          rw [hV, ← wants_0 xs ys bs lx] at k8
          rw [hV] at hmk
          have KV := Kept.mk k8
          clear k8 b8 hV
          go_wp2
          clear hmk
          go_loopw [11, 13] (fun t j wr => ∃ (i : Nat) (F : List Nat) (Q : List (List Int)), i ≤ lx ∧ t = .int .i64 ((chg ys i).length : Nat) ∧ j = .int .i64 i ∧ Q.length = lx ∧ Kept (∀ j, j < lx → rowOf Q j = if j < i ∧ odd_ ys j = true then textOf 64 (at_ ys j) else textOf 64 (at_ xs j)) ∧ Kept (Dk wr F d lx ⟨Q, M, chg ys i, -1, false⟩) ∧ Kept (Blk wr V 5 (arr .u8 (wants xs ys bs lx i))) ∧ Kept (V ∉ F) ∧ Kept (Below w.heap.size w wr) ∧ Kept (∀ g ∈ F, w.heap.size ≤ g)) (fun _ j _ => lx - (intOf j).toNat)
          case atStart => exact ⟨0, F6, M, by omega, rfl, rfl, hM, ⟨fun j hj => by rw [rN.out j hj, if_neg (by omega)]⟩, D, KV, hVF, B, L⟩
          case round =>
            clear D B L KV hVF
            obtain ⟨i, F, Q, hi, rfl, rfl, hQ, HQ, D, KV, hVF, B, L⟩ := hrel
            have hcl := chg_len ys i
            by_cases hin : i < lx
            · have hin' : (i : Int) < lx := by omega
              have hix : (i : Int) < lx := by omega
              have hiy : (i : Int) < ly := by omega
              obtain ⟨bb, oo, rfl, CX⟩ := byte_at RX i (by omega)
              obtain ⟨b2, o2, rfl, CY⟩ := byte_at RY i (by omega)
              have hyb := RY.out.2.1.at_ i
              obtain ⟨x, hx⟩ : ∃ x, at_ xs i = x := ⟨_, rfl⟩
              obtain ⟨y, hy⟩ : ∃ y, at_ ys i = y := ⟨_, rfl⟩
              rw [hx] at CX
              rw [hy] at CY hyb
              have HX := Kept.mk hx
              have HY := Kept.mk hy
              have ha := and1_is y hyb
              clear hx hy
              have x0 := CX.out _ B
              have v0 := KV.out.at_ i (by rw [wants_len]; exact hin)
              have z0 := KV.out.frozen i
              generalize at_ (wants xs ys bs lx i) i = u at *
              have DS := Kept.mk fun v => api.stored (p := ⟨V, i, none⟩) (u := v) D hVF.out rfl
              go_upto_region 22 with (fail)
              clear x0 v0 z0
              replace D := DS.out (.int .u8 x)
              replace B : Kept (Below w.heap.size w (wr.setCell ⟨V, i, none⟩ (.int .u8 x))) := ⟨B.out.setCell hVw _⟩
              have kv := KV.out.set_ i (.int .u8 x)
              rw [arr_set] at kv
              replace KV := Kept.mk kv
              clear DS kv
              generalize wr.setCell ⟨V, i, none⟩ (.int .u8 x) = w9 at *
              have y0 := CY.out _ B
              by_cases hodd : y % 2 = 1
              · have HO : Kept (odd_ ys i = true) := ⟨by unfold odd_; rw [HY.out]; exact decide_eq_true hodd⟩
                have hbit : (bits .and .u8 y 1 == 0) = false := by rw [ha, hodd]; rfl
                have hchg : Kept (chg ys (i + 1) = chg ys i ++ [i]) := ⟨by rw [chg, if_pos HO.out]⟩
                clear ha
                go_wp2_with fail
                refine (text_any w9 0 0 64 y none 0 0).mono ?_
                rintro e w10 ⟨g, rfl, kg, hg, bg⟩
                obtain ⟨R, O⟩ := text_rd (F := F) 64 y kg hg (api.lts D.out)
                rw [show textLen 64 = 64 from rfl] at R O ⊢
                replace D := api.below D bg
                replace B := step_below B bg
                replace KV := Kept.mk (KV.out.below bg KV.out.lt)
                clear kg hg bg y0 hbit
                have hw := api.write (c := 64) i D.out R.out O.out (by omega) (by omega)
                rw [write_ok rfl rfl (by simp only; omega) (l64.out _)] at hw
                have HW := Kept.mk hw
                clear hw
                go_wp2_with fail
                refine HW.out.mono ?_
                rintro e w11 ⟨rfl, F11, dk, fp⟩
                have D11 : Kept (Dk w11 F11 d lx ⟨Q.set i (textOf 64 y), M, chg ys (i + 1), -1, false⟩) := ⟨by rw [hchg.out, ← ins_last i _ (chg_lt ys i)]; exact dk⟩
                have hV11 : Kept (V ∉ F11) := ⟨fun hm => Disj.step (F := F) (G := [V]) (fun j hj hj2 => by simp at hj2; subst hj2; exact hVF.out hj) fp (fun j hj => by simp at hj; subst hj; exact KV.out.lt) V hm (by simp)⟩
                replace KV := Kept.mk (KV.out.bar fp.1 hVF.out)
                obtain ⟨B, L11⟩ := step_fp B fp L
                have HQ2 : Kept (∀ j, j < lx → rowOf (Q.set i (textOf 64 y)) j = if j < i + 1 ∧ odd_ ys j = true then textOf 64 (at_ ys j) else textOf 64 (at_ xs j)) := ⟨fun j hj => by
                  rw [rowOf_set _ _ _ _ (by omega)]
                  by_cases hij : i = j
                  · subst hij; rw [if_pos rfl, if_pos ⟨by omega, HO.out⟩, HY.out]
                  · rw [if_neg hij, HQ.out j hj]
                    by_cases hc : j < i ∧ odd_ ys j = true
                    · rw [if_pos hc, if_pos ⟨by omega, hc.2⟩]
                    · rw [if_neg hc, if_neg (fun h => hc ⟨by omega, h.2⟩)]⟩
                clear dk fp HW R O D L HQ hVF
                have hlen : ((chg ys (i + 1)).length : Int) = ((chg ys i).length : Int) + 1 := by rw [hchg.out]; simp
                have HLN := Kept.mk hlen
                clear hlen
                obtain ⟨K, hK⟩ : ∃ K, (chg ys i).length = K := ⟨_, rfl⟩
                rw [hK] at HLN hcl ⊢
                have HK := Kept.mk hK
                clear hK
                by_cases hkm : K < m ∧ bs.getD K false = true
                · have hWV : wantOf xs ys bs i = y := by unfold wantOf; rw [if_pos ⟨HO.out, by rw [HK.out]; exact hkm.2⟩, HY.out]
                  have hkm' : (K : Int) < m := by omega
                  obtain ⟨b3, o3, rfl, hc3⟩ := (RB.out.below B.out).2.resolve_left (by omega)
                  have kb := hc3 K hkm.1
                  rw [hkm.2] at kb
                  have v1 := KV.out.at_ i (by rw [List.length_set, wants_len]; exact hin)
                  have z1 := KV.out.frozen i
                  have y1 := CY.out _ B
                  have DS := Kept.mk fun v => api.stored (p := ⟨V, i, none⟩) (u := v) D11 hV11.out rfl
                  have kv := KV.out.set_ i (.int .u8 y)
                  rw [arr_set, set_set_, wants_step xs ys bs lx i y hWV] at kv
                  have KV2 := Kept.mk kv
                  have B2 : Kept (Below w.heap.size w (w11.setCell ⟨V, i, none⟩ (.int .u8 y))) := ⟨B.out.setCell hVw _⟩
                  clear kv hc3 hWV KV
                  generalize at_ ((wants xs ys bs lx i).set i x) i = u2 at *
                  go_wp2
                  go_roundw
                  case rel => exact ⟨i + 1, F11, Q.set i (textOf 64 y), by omega, by rw [HLN.out], by go_num, by simpa using hQ, HQ2, DS.out _, KV2, hV11, B2, L11⟩
                  case measure => simp [intOf]; omega
                · have hWV : wantOf xs ys bs i = x := by unfold wantOf; rw [if_neg (fun h => hkm ⟨by
                    rcases Nat.lt_or_ge K m with hl | hl
                    · exact hl
                    · have := h.2
                      rw [HK.out, List.getD_eq_getElem?_getD, List.getElem?_eq_none (by rw [RB.out.1]; exact hl)] at this
                      simp at this, by rw [← HK.out]; exact h.2⟩), HX.out]
                  have kv := KV.out
                  rw [wants_step xs ys bs lx i x hWV] at kv
                  have KV2 := Kept.mk kv
                  clear kv hWV KV
                  by_cases hkm2 : K < m
                  · have hkm' : (K : Int) < m := by omega
                    obtain ⟨b3, o3, rfl, hc3⟩ := (RB.out.below B.out).2.resolve_left (by omega)
                    have kb := hc3 K hkm2
                    have hfalse : bs.getD K false = false := by
                      cases hh : bs.getD K false with
                      | false => rfl
                      | true => exact absurd ⟨hkm2, hh⟩ hkm
                    rw [hfalse] at kb
                    clear hc3 hfalse hkm
                    go_wp2
                    go_roundw
                    case rel => exact ⟨i + 1, F11, Q.set i (textOf 64 y), by omega, by rw [HLN.out], by go_num, by simpa using hQ, HQ2, D11, KV2, hV11, B, L11⟩
                    case measure => simp [intOf]; omega
                  · have hkm' : ¬ (K : Int) < m := by omega
                    clear hkm
                    go_wp2
                    go_roundw
                    case rel => exact ⟨i + 1, F11, Q.set i (textOf 64 y), by omega, by rw [HLN.out], by go_num, by simpa using hQ, HQ2, D11, KV2, hV11, B, L11⟩
                    case measure => simp [intOf]; omega
              · have hy0 : y % 2 = 0 := by omega
                have hE : ¬ odd_ ys i = true := by unfold odd_; rw [HY.out]; simpa using hodd
                have hbit : (bits .and .u8 y 1 == 0) = true := by rw [ha, hy0]; rfl
                have hchg : Kept (chg ys (i + 1) = chg ys i) := ⟨by rw [chg, if_neg hE]⟩
                have hWV : wantOf xs ys bs i = x := by unfold wantOf; rw [if_neg (fun h => hE h.1), HX.out]
                have kv := KV.out
                rw [wants_step xs ys bs lx i x hWV] at kv
                have KV2 := Kept.mk kv
                have HQ2 : Kept (∀ j, j < lx → rowOf Q j = if j < i + 1 ∧ odd_ ys j = true then textOf 64 (at_ ys j) else textOf 64 (at_ xs j)) := ⟨fun j hj => by
                  rw [HQ.out j hj]
                  by_cases hc : j < i ∧ odd_ ys j = true
                  · rw [if_pos hc, if_pos ⟨by omega, hc.2⟩]
                  · rw [if_neg hc, if_neg (fun h => hc ⟨by
                      rcases Nat.lt_or_ge j i with hl | hl
                      · exact hl
                      · obtain rfl : j = i := by omega
                        exact absurd h.2 hE, h.2⟩)]⟩
                have D2 : Kept (Dk w9 F d lx ⟨Q, M, chg ys (i + 1), -1, false⟩) := ⟨by rw [hchg.out]; exact D.out⟩
                clear kv hWV KV HQ ha D
                go_wp2
                go_roundw
                case rel => exact ⟨i + 1, F, Q, by omega, by rw [hchg.out], by go_num, hQ, HQ2, D2, KV2, hVF, B, L⟩
                case measure => simp [intOf]; omega
            · have hin' : ¬ (i : Int) < lx := by omega
              obtain hiN : i = lx := by omega
              rw [hiN] at D HQ KV hcl ⊢
              clear hiN
              have HQ3 : ∀ j, j < lx → rowOf Q j = if odd_ ys j = true then textOf 64 (at_ ys j) else textOf 64 (at_ xs j) := fun j hj => by
                rw [HQ.out j hj]
                by_cases hc : odd_ ys j = true
                · rw [if_pos ⟨hj, hc⟩, if_pos hc]
                · rw [if_neg (fun h => hc h.2), if_neg hc]
              obtain ⟨l1, l2, hcw⟩ := crash_want lx xs ys bs Q M hQ hM HQ3 rN.out lx (Nat.le_refl _)
              have hp := api.pending D.out
              simp only at hp
              go_wp2_with fail
              refine hp.mono ?_
              rintro e w12 ⟨rfl, b12⟩
              replace D := api.below D b12
              replace B := step_below B b12
              replace KV := Kept.mk (KV.out.below b12 KV.out.lt)
              clear hp b12 HQ HQ3
              have hr := api.crash D.out (RB.out.below B.out) (RB.out.off L.out) hmc hcm
              unfold crashD at hr
              simp only at hr
              generalize crashGo bs 0 (chg ys lx) (Q, M) = P at *
              have HR := Kept.mk hr
              have HC : Kept (∀ j, j < lx → rowOf P.1 j = textOf 64 (wantOf xs ys bs j)) := ⟨fun j hj => by rw [(hcw j hj).1, if_pos hj]⟩
              clear hr hcw
              go_wp2_with fail
              refine HR.out.mono ?_
              rintro e w13 ⟨rfl, F13, dk, fp⟩
              have hV13 : Kept (V ∉ F13) := ⟨fun hm => Disj.step (F := F) (G := [V]) (fun j hj hj2 => by simp at hj2; subst hj2; exact hVF.out hj) fp (fun j hj => by simp at hj; subst hj; exact KV.out.lt) V hm (by simp)⟩
              replace KV := Kept.mk (KV.out.bar fp.1 hVF.out)
              replace D := Kept.mk dk
              obtain ⟨B, L⟩ := step_fp B fp L
              clear dk fp HR hVF
              go_wp2
              go_loopw [14] (fun j wr => ∃ (i : Nat) (F : List Nat), i ≤ lx ∧ j = .int .i64 i ∧ Kept (Dk wr F d lx ⟨P.1, P.2, [], -1, false⟩) ∧ Kept (Blk wr V 5 (arr .u8 (wants xs ys bs lx lx))) ∧ Kept (V ∉ F) ∧ Kept (Below w.heap.size w wr) ∧ Kept (∀ g ∈ F, w.heap.size ≤ g)) (fun j _ => lx - (intOf j).toNat)
              case atStart => exact ⟨0, F13, by omega, rfl, D, KV, hV13, B, L⟩
              case round =>
                clear D B L KV hV13
                obtain ⟨i, F, hi, rfl, D, KV, hVF, B, L⟩ := hrel
                by_cases hin : i < lx
                · have hin' : (i : Int) < lx := by omega
                  have hrow := HC.out i hin
                  have v0 := KV.out.at_ i (by rw [wants_len]; exact hin)
                  rw [wants_at _ _ _ _ _ hin] at v0
                  obtain ⟨x, hx⟩ : ∃ x, wantOf xs ys bs i = x := ⟨_, rfl⟩
                  rw [hx] at hrow v0
                  have HX := Kept.mk hx
                  clear hx
                  have hr := api.read i D.out
                  rw [read_ok rfl (by simp only; omega), hrow] at hr
                  have HR := Kept.mk hr
                  clear hr v0
                  go_wp2_with fail
                  refine HR.out.mono ?_
                  rintro e w3 ⟨A3, c3, F3, rfl, r, -, -, -, dk, fp⟩
                  have R : Kept (Rd w3 A3 64 (textOf 64 x)) := ⟨by have r2 := r; simp only [text64_len] at r2; exact r2⟩
                  rw [show ((0, textOf 64 x) : Int × List Int).2.length = 64 from text64_len x]
                  have hV3 : Kept (V ∉ F3) := ⟨fun hm => Disj.step (F := F) (G := [V]) (fun j hj hj2 => by simp at hj2; subst hj2; exact hVF.out hj) fp (fun j hj => by simp at hj; subst hj; exact KV.out.lt) V hm (by simp)⟩
                  replace KV := Kept.mk (KV.out.bar fp.1 hVF.out)
                  have v0 := KV.out.at_ i (by rw [wants_len]; exact hin)
                  rw [wants_at _ _ _ _ _ hin, HX.out] at v0
                  replace D := Kept.mk dk
                  obtain ⟨B, L⟩ := step_fp B fp L
                  clear dk fp HR r hVF
                  go_wp2_with fail
                  refine (text_any w3 0 0 64 x none 0 0).mono ?_
                  rintro e w4 ⟨g, rfl, kg, hg, bg⟩
                  obtain ⟨R2, -⟩ := text_rd (F := []) 64 x kg hg (by simp)
                  rw [show textLen 64 = 64 from rfl] at R2 ⊢
                  replace R := Kept.mk (R.out.below bg)
                  replace D := api.below D bg
                  replace B := step_below B bg
                  replace KV := Kept.mk (KV.out.below bg KV.out.lt)
                  clear kg hg bg v0
                  go_wp2_with fail
                  refine (bytes_same A3 (some ⟨g, 0, none⟩) 64 64 c3 64 (textOf 64 x) w4 R.out R2.out).mono ?_
                  rintro e w5 ⟨rfl, rfl⟩
                  clear R R2
                  go_wp2
                  go_roundw
                  case rel => exact ⟨i + 1, F3, by omega, by go_num, D, KV, hV3, B, L⟩
                  case measure => simp [intOf]; omega
                · have hin' : ¬ (i : Int) < lx := by omega
                  go_wp2_with fail
                  refine (first_any api wr).mono ?_
                  rintro e w3 ⟨rfl, b3⟩
                  replace D := api.below D b3
                  replace B := step_below B b3
                  clear b3
                  have hp := api.pending D.out
                  simp only [List.length_nil] at hp
                  go_wp2_with fail
                  refine hp.mono ?_
                  rintro e w4 ⟨rfl, b4⟩
                  replace D := api.below D b4
                  replace B := step_below B b4
                  clear hp b4
                  have hp := api.down D.out
                  simp only at hp
                  go_wp2_with fail
                  refine hp.mono ?_
                  rintro e w5 ⟨rfl, b5⟩
                  replace B := step_below B b5
                  clear hp b5
                  go_wp2
                  go_ret
                  exact ⟨rfl, B.out⟩
    · by_cases h1 : lx < 1
      · have h1' : (lx : Int) < 1 := by omega
        clear hall
        go_wp2_with fail
        refine (first_any api w1).mono ?_
        rintro e w2 ⟨rfl, b2⟩
        replace B := step_below B b2
        go_wp2
        go_ret
        exact ⟨rfl, B.out⟩
      · by_cases h2 : 60 < lx
        · have h2' : 60 < (lx : Int) := by omega
          clear hall
          go_wp2_with fail
          refine (first_any api w1).mono ?_
          rintro e w2 ⟨rfl, b2⟩
          replace B := step_below B b2
          go_wp2
          go_ret
          exact ⟨rfl, B.out⟩
        · have h3' : 100 < (m : Int) := by omega
          have h4' : (1 : Int) ≤ lx := by omega
          have h5' : (lx : Int) ≤ 60 := by omega
          clear hall
          go_wp2_with fail
          refine (first_any api w1).mono ?_
          rintro e w2 ⟨rfl, b2⟩
          replace B := step_below B b2
          go_wp2
          go_ret
          exact ⟨rfl, B.out⟩
end
end Go.Proofs.Ytgjmnefninmoiaa.Disk
