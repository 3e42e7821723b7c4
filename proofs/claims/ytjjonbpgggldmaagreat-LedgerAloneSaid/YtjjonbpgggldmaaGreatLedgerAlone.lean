/-
  Two of them: P12.2, P12.5.
-/
import Derived.Test.YtjjonbpgggldmaaGreatPart23
import Derived.Test.YtjjonbpgggldmaaGreatPart12
import Derived.Test.YtjjonbpgggldmaaGreatPart9
import Derived.Deep.RegionHeld3
import Derived.LoopN
namespace Go.Proofs.YtjjonbpgggldmaaGreat.Ledger
open Go.RowKit Go.Proofs.YtjjonbpgggldmaaGreat.Num Go.Proofs.YtjjonbpgggldmaaGreat.Sha Go.Proofs.YtjjonbpgggldmaaGreat.Purse Go.Proofs.YtjjonbpgggldmaaGreat.Escrow Go.Proofs.YtjjonbpgggldmaaGreat.Wire Go.Proofs.YtjjonbpgggldmaaGreat.Req

section
variable {Lk : World → Nat → List Nat → Nat → LS → Prop}
--PLAINHI
set_option maxRecDepth 100000 in
set_option maxHeartbeats 8000000 in
theorem alone_walk (api : LedgerApi Lk) {w : World} {A D : Option Addr} {n c m d : Nat} {X0 : Nat → List Int} (cap : Int) {l : List OV} (hr : Rwi w A n X0) (hn : n ≤ 9223372036854775807) (ho : Ops w D m l) (hm : m ≤ 9223372036854775807) :
    Calls Tryz.prog 6 #[.agg #[.slice A n c, .int .i64 cap], .slice D m d] w (Holds w) := by
  obtain ⟨N, hN⟩ : ∃ N, w.heap.size = N := ⟨_, rfl⟩
  have b0 : Below w.heap.size w (w.alloc (.cells #[.slice A n c, .int .i64 cap] 24)) := (Below.refl _ _).alloc (Nat.le_refl _) _
  have X : Kept (Blk (w.alloc (.cells #[.slice A n c, .int .i64 cap] 24)) N 24 #[.slice A n c, .int .i64 cap]) := ⟨Blk.new_at w _ _ N hN.symm⟩
  have HR := Kept.mk hr; have HO := Kept.mk ho; have HM := Kept.mk hm; have HNN := Kept.mk hn
  have B := Kept.mk b0
  clear hr ho b0
  go_enter Tryz.func6, Tryz.ntmps6
  go_upto_region 1 with (fail)
  generalize w.alloc (.cells #[.slice A n c, .int .i64 cap] 24) = w1 at *
  have KF := Kept.mk (first_any api w1)
  unfold Holds at KF
  go_wp2_with fail
  refine KF.out.mono ?_
  rintro e w2 ⟨rfl, b⟩
  replace X := Kept.mk (X.out.below b X.out.lt); replace B := Kept.mk (B.out.trans (b.mono B.out.size))
  have KL := Kept.mk (fewl_any (c := c) (d := d) (cap := cap) (HR.out.below B.out) hn (HO.out.below B.out) hm)
  unfold Req.FewPost at KL
  clear KF b
  have x0 := X.out.cell 0; have x1 := X.out.cell 1
  go_wp2_with fail
  refine KL.out.mono ?_
  rintro e w3 ⟨q, rfl, hq, b⟩
  replace X := Kept.mk (X.out.below b X.out.lt); replace B := Kept.mk (B.out.trans (b.mono B.out.size))
  have HQ := Kept.mk hq
  clear KL b hq x0 x1
  cases q with
  | false =>
    have KF := Kept.mk (first_any api w3)
    unfold Holds at KF
    go_wp2_with fail
    refine KF.out.mono ?_
    rintro e w4 ⟨rfl, b⟩
    replace B := Kept.mk (B.out.trans (b.mono B.out.size))
    clear KF b
    go_wp2
    go_ret
    exact ⟨rfl, B.out⟩
  | true =>
    have HQ2 := Kept.mk (HQ.out rfl)
    clear HQ
    go_wp2_with fail
    refine (newtab_any _).mono ?_
    rintro e w4 ⟨t, rfl, hf, b, ht⟩
    replace X := Kept.mk (X.out.below b X.out.lt)
    have HT : Kept (w.heap.size ≤ t) := ⟨Nat.le_trans B.out.size ht⟩
    replace B := Kept.mk (B.out.trans (b.mono B.out.size))
    have KN := Kept.mk (api.new (c := c) cap (.inl hf) (HR.out.below B.out))
    have TB : Kept (Tab w4 t) := ⟨.inl hf⟩
    unfold NewLPost at KN
    clear b ht hf
    have x0 := X.out.cell 0; have x1 := X.out.cell 1
    go_wp2_with fail
    refine KN.out.mono ?_
    rintro e w5 (⟨hno, rfl, b⟩ | ⟨hc, x, F, rfl, hk, b, hF⟩)
    · have HNC := Kept.mk hno
      replace X := Kept.mk (X.out.below b X.out.lt)
      replace B := Kept.mk (B.out.trans (b.mono B.out.size))
      replace TB : Kept (Tab w5 t) := ⟨TB.out.imp (fun h => h.below b h.lt) (fun h => h.below b h.lt)⟩
      have KM := Kept.mk (api.new (c := c) cap TB.out (HR.out.below B.out))
      unfold NewLPost at KM
      clear b x0 x1 KN hno
      have x0 := X.out.cell 0; have x1 := X.out.cell 1
      have KN := KM
      clear KM
      go_wp2_with fail
      refine KN.out.mono ?_
      rintro e w6 hh
      obtain ⟨-, rfl, b⟩ := hh.resolve_right (fun q => HNC.out q.1)
      replace X := Kept.mk (X.out.below b X.out.lt)
      replace B := Kept.mk (B.out.trans (b.mono B.out.size))
      replace TB : Kept (Tab w6 t) := ⟨TB.out.imp (fun h => h.below b h.lt) (fun h => h.below b h.lt)⟩
      have KM := Kept.mk (api.new (c := c) cap TB.out (HR.out.below B.out))
      unfold NewLPost at KM
      clear b x0 x1 KN
      have x0 := X.out.cell 0; have x1 := X.out.cell 1
      have KN := KM
      clear KM
      go_wp2_with fail
      refine KN.out.mono ?_
      rintro e w7 hh
      obtain ⟨-, rfl, b⟩ := hh.resolve_right (fun q => HNC.out q.1)
      replace B := Kept.mk (B.out.trans (b.mono B.out.size))
      have KF := Kept.mk (first_any api w7)
      unfold Holds at KF
      clear b x0 x1 KN
      go_wp2_with fail
      refine KF.out.mono ?_
      rintro e w8 ⟨rfl, b⟩
      replace B := Kept.mk (B.out.trans (b.mono B.out.size))
      clear KF b
      go_wp2
      go_ret
      exact ⟨rfl, B.out⟩
    · have HC := Kept.mk hc
      have L1 := Kept.mk (api.led hk (newL_wl hc) (newL_wi n X0 cap) HT.out (fun k hm => Nat.le_trans B.out.size (hF k hm)))
      replace X := Kept.mk (X.out.below b X.out.lt)
      replace B := Kept.mk (B.out.trans (b.mono B.out.size))
      have KM := Kept.mk (api.new (c := c) cap (api.lts hk).2.2 (HR.out.below B.out))
      unfold NewLPost at KM
      clear b x0 x1 KN hk hF hc
      have x0 := X.out.cell 0; have x1 := X.out.cell 1
      go_wp2_with fail
      refine KM.out.mono ?_
      rintro e w6 hh
      obtain ⟨hc, y, G, rfl, hk, b, hG⟩ := hh.resolve_left (fun q => q.1 HC.out)
      have L2 := Kept.mk (api.led hk (newL_wl hc) (newL_wi n X0 cap) HT.out (fun k hm => Nat.le_trans B.out.size (hG k hm)))
      have D12 : Kept (Disj F G) := ⟨fun k h1 h2 => by have := L1.out.lt k (List.mem_cons_of_mem _ h1); have := hG k h2; omega⟩
      replace L1 := Kept.mk (api.ledBelow L1.out b)
      replace X := Kept.mk (X.out.below b X.out.lt)
      replace B := Kept.mk (B.out.trans (b.mono B.out.size))
      have KN := Kept.mk (api.new (c := c) cap (api.lts hk).2.2 (HR.out.below B.out))
      unfold NewLPost at KN
      clear b x0 x1 KM hk hG hc
      have x0 := X.out.cell 0; have x1 := X.out.cell 1
      go_wp2_with fail
      refine KN.out.mono ?_
      rintro e w7 hh
      obtain ⟨hc, z, H, rfl, hk, b, hH⟩ := hh.resolve_left (fun q => q.1 HC.out)
      have L3 := Kept.mk (api.led hk (newL_wl hc) (newL_wi n X0 cap) HT.out (fun k hm => Nat.le_trans B.out.size (hH k hm)))
      have D13 : Kept (Disj F H) := ⟨fun k h1 h2 => by have := L1.out.lt k (List.mem_cons_of_mem _ h1); have := hH k h2; omega⟩
      have D23 : Kept (Disj G H) := ⟨fun k h1 h2 => by have := L2.out.lt k (List.mem_cons_of_mem _ h1); have := hH k h2; omega⟩
      replace L1 := Kept.mk (api.ledBelow L1.out b); replace L2 := Kept.mk (api.ledBelow L2.out b)
      replace B := Kept.mk (B.out.trans (b.mono B.out.size))
      clear b x0 x1 KN hk hH hc X
      go_wp2
      go_loopw [12] (fun i wr => ∃ (k : Nat) (F G H : List Nat) (s : LS), k ≤ m ∧ i = .int .i64 k ∧ Kept (LedK Lk w.heap.size wr t F x s) ∧ Kept (LedK Lk w.heap.size wr t G y s) ∧ Kept (LedK Lk w.heap.size wr t H z (newL n X0 cap)) ∧ Kept (Disj F G) ∧ Kept (Disj F H) ∧ Kept (Disj G H) ∧ Kept (Below w.heap.size w wr)) (fun i _ => m - (Go.RowKit.intOf i).toNat)
      case atStart => exact ⟨0, F, G, H, _, by omega, rfl, L1, L2, L3, D12, D13, D23, B⟩
      case round =>
        clear L1 L2 L3 D12 D13 D23 B
        obtain ⟨k, F, G, H, s, hk, rfl, L1, L2, L3, D12, D13, D23, B⟩ := hrel
        by_cases hkn : k < m
        · have hkn' : (k : Int) < m := by omega
          obtain ⟨g, o, party, clock, seen, ll, A', n', c', hA, hx, hop, co⟩ := op_at HO.out HQ2.out hkn
          subst hA
          have OKV := fromL_may (applyL_keeps L1.out.wl L1.out.wi party clock ⟨seen, ll⟩ hop.ok).1.wl seen
          have hRV : (applyL s party clock ⟨seen, ll⟩).1.v = fromL (applyL s party clock ⟨seen, ll⟩).2 seen := rfl
          rw [← hRV] at OKV
          have b : Below wr.heap.size wr wr.drew := below_drewN (Below.refl _ wr) 1
          replace L1 := Kept.mk (api.ledBelow L1.out b); replace L2 := Kept.mk (api.ledBelow L2.out b); replace L3 := Kept.mk (api.ledBelow L3.out b)
          replace B := Kept.mk (B.out.trans (b.mono B.out.size))
          have KA := fun u FF xx (LL : LedK Lk w.heap.size u t FF xx s) (BB : Below w.heap.size w u) => api.applyOp hop LL BB party clock seen
          obtain ⟨R, hRR⟩ : ∃ R, applyL s party clock ⟨seen, ll⟩ = R := ⟨_, rfl⟩
          rw [hRR] at KA OKV
          have CO := Kept.mk co; have OV' := Kept.mk OKV
          have KX := Kept.mk (KA _ F x L1.out B.out)
          have KAK := Kept.mk KA
          unfold AfterPost at KX
          clear hx hop co OKV hRV b KA hRR
          go_upto_region 14 with (fail)
          refine wp_region_noPanic ?_
          refine wp_region_held_drew (S := fun u : World => u.cell? ⟨g, o + k * 4, none⟩ = some (.int .i64 party) ∧ u.cell? ⟨g, o + k * 4 + 1, none⟩ = some (.int .i64 clock) ∧ u.cell? ⟨g, o + k * 4 + 2, none⟩ = some (.int .i64 seen) ∧ u.cell? ⟨g, o + k * 4 + 3, none⟩ = some (.slice A' n' c')) (by kernel_rfl) (CO.out _ B.out) (fun _ => ?_)
          generalize wr.drew = w8 at *
          refine wpAnyH_take (i := 0) (oi := ?o69) (v := ?v69) ?hi69 (by kernel_rfl) (by kernel_rfl) (by kernel_rfl) ?hq69 (Or.inl ⟨?hw69, ?hy69⟩) (by assumption) ?r69
          case hi69 => (simp only [List.getElem?_toArray]; exact rfl)
          case hq69 => exact fun _ _ _ h => h
          case hw69 => rfl
          case hy69 => (intro w hSw; (try dsimp only at hSw); go_simp; try exact rfl)
          simp only [Act.put, List.setIfInBounds_toArray, List.set_cons_zero, List.set_cons_succ]
          refine wpAnyH_take (i := 1) (oi := ?o70) (v := ?v70) ?hi70 (by kernel_rfl) (by kernel_rfl) (by kernel_rfl) ?hq70 (Or.inl ⟨?hw70, ?hy70⟩) (by assumption) ?r70
          case hi70 => (simp only [List.getElem?_toArray]; exact rfl)
          case hq70 => exact fun _ _ _ h => h
          case hw70 => rfl
          case hy70 => (intro w hSw; (try dsimp only at hSw); go_simp; try exact rfl)
          simp only [Act.put, List.setIfInBounds_toArray, List.set_cons_zero, List.set_cons_succ]
          refine wpAnyH_take (i := 2) (oi := ?o71) (v := ?v71) ?hi71 (by kernel_rfl) (by kernel_rfl) (by kernel_rfl) ?hq71 (Or.inl ⟨?hw71, ?hy71⟩) (by assumption) ?r71
          case hi71 => (simp only [List.getElem?_toArray]; exact rfl)
          case hq71 => exact fun _ _ _ h => h
          case hw71 => rfl
          case hy71 => (intro w hSw; (try dsimp only at hSw); go_simp; try exact rfl)
          simp only [Act.put, List.setIfInBounds_toArray, List.set_cons_zero, List.set_cons_succ]
          refine wpAnyH_take (i := 3) (oi := ?o72) (v := ?v72) ?hi72 (by kernel_rfl) (by kernel_rfl) (by kernel_rfl) ?hq72 (Or.inl ⟨?hw72, ?hy72⟩) (by assumption) ?r72
          case hi72 => (simp only [List.getElem?_toArray]; exact rfl)
          case hq72 => exact fun _ _ _ h => h
          case hw72 => rfl
          case hy72 => (intro w hSw; (try dsimp only at hSw); go_simp; try exact rfl)
          simp only [Act.put, List.setIfInBounds_toArray, List.set_cons_zero, List.set_cons_succ]
          refine wpAnyH_take (i := 4) (oi := ?o73) (v := ?v73) ?hi73 (by kernel_rfl) (by kernel_rfl) (by kernel_rfl) ?hq73 (Or.inl ⟨?hw73, ?hy73⟩) (by assumption) ?r73
          case hi73 => (simp only [List.getElem?_toArray]; exact rfl)
          case hq73 => exact fun _ _ _ h => h
          case hw73 => rfl
          case hy73 => (intro w hSw; (try dsimp only at hSw); go_simp; try exact rfl)
          simp only [Act.put, List.setIfInBounds_toArray, List.set_cons_zero, List.set_cons_succ]
          refine wpAnyH_take (i := 5) (oi := ?o74) (v := ?v74) ?hi74 (by kernel_rfl) (by kernel_rfl) (by kernel_rfl) ?hq74 (Or.inl ⟨?hw74, ?hy74⟩) (by assumption) ?r74
          case hi74 => (simp only [List.getElem?_toArray]; exact rfl)
          case hq74 => exact fun _ _ _ h => h
          case hw74 => rfl
          case hy74 => (intro w hSw; (try dsimp only at hSw); go_simp; try exact rfl)
          simp only [Act.put, List.setIfInBounds_toArray, List.set_cons_zero, List.set_cons_succ]
          refine wpAnyH_take (i := 6) (oi := ?o75) (v := ?v75) ?hi75 (by kernel_rfl) (by kernel_rfl) (by kernel_rfl) ?hq75 (Or.inl ⟨?hw75, ?hy75⟩) (by assumption) ?r75
          case hi75 => (simp only [List.getElem?_toArray]; exact rfl)
          case hq75 => exact fun _ _ _ h => h
          case hw75 => rfl
          case hy75 => (intro w hSw; (try dsimp only at hSw); go_simp; try exact rfl)
          simp only [Act.put, List.setIfInBounds_toArray, List.set_cons_zero, List.set_cons_succ]
          refine wpAnyH_take (i := 7) (oi := ?o76) (v := ?v76) ?hi76 (by kernel_rfl) (by kernel_rfl) (by kernel_rfl) ?hq76 (Or.inl ⟨?hw76, ?hy76⟩) (by assumption) ?r76
          case hi76 => (simp only [List.getElem?_toArray]; exact rfl)
          case hq76 => exact fun _ _ _ h => h
          case hw76 => rfl
          case hy76 => (intro w hSw; (try dsimp only at hSw); go_simp; try exact rfl)
          simp only [Act.put, List.setIfInBounds_toArray, List.set_cons_zero, List.set_cons_succ]
          refine wpAnyH_take (i := 8) (oi := ?o77) (v := ?v77) ?hi77 (by kernel_rfl) (by kernel_rfl) (by kernel_rfl) ?hq77 (Or.inl ⟨?hw77, ?hy77⟩) (by assumption) ?r77
          case hi77 => (simp only [List.getElem?_toArray]; exact rfl)
          case hq77 => exact fun _ _ _ h => h
          case hw77 => rfl
          case hy77 => (intro w hSw; (try dsimp only at hSw); go_simp; try exact rfl)
          simp only [Act.put, List.setIfInBounds_toArray, List.set_cons_zero, List.set_cons_succ]
          refine wpAnyH_take (i := 9) (oi := ?o78) (v := ?v78) ?hi78 (by kernel_rfl) (by kernel_rfl) (by kernel_rfl) ?hq78 (Or.inl ⟨?hw78, ?hy78⟩) (by assumption) ?r78
          case hi78 => (simp only [List.getElem?_toArray]; exact rfl)
          case hq78 => exact fun _ _ _ h => h
          case hw78 => rfl
          case hy78 => (intro w hSw; (try dsimp only at hSw); go_simp; try exact rfl)
          simp only [Act.put, List.setIfInBounds_toArray, List.set_cons_zero, List.set_cons_succ]
          refine wpAnyH_take (i := 10) (oi := ?o79) (v := ?v79) ?hi79 (by kernel_rfl) (by kernel_rfl) (by kernel_rfl) ?hq79 (Or.inl ⟨?hw79, ?hy79⟩) (by assumption) ?r79
          case hi79 => (simp only [List.getElem?_toArray]; exact rfl)
          case hq79 => exact fun _ _ _ h => h
          case hw79 => rfl
          case hy79 => (intro w hSw; (try dsimp only at hSw); go_simp; try exact rfl)
          simp only [Act.put, List.setIfInBounds_toArray, List.set_cons_zero, List.set_cons_succ]
          refine wpAnyH_take (i := 11) (oi := ?o80) (v := ?v80) ?hi80 (by kernel_rfl) (by kernel_rfl) (by kernel_rfl) ?hq80 (Or.inl ⟨?hw80, ?hy80⟩) (by assumption) ?r80
          case hi80 => (simp only [List.getElem?_toArray]; exact rfl)
          case hq80 => exact fun _ _ _ h => h
          case hw80 => rfl
          case hy80 => (intro w hSw; (try dsimp only at hSw); go_simp; try exact rfl)
          simp only [Act.put, List.setIfInBounds_toArray, List.set_cons_zero, List.set_cons_succ]
          refine wpAnyH_take (i := 12) (oi := ?o81) (v := ?v81) ?hi81 (by kernel_rfl) (by kernel_rfl) (by kernel_rfl) ?hq81 (Or.inl ⟨?hw81, ?hy81⟩) (by assumption) ?r81
          case hi81 => (simp only [List.getElem?_toArray]; exact rfl)
          case hq81 => exact fun _ _ _ h => h
          case hw81 => rfl
          case hy81 => (intro w hSw; (try dsimp only at hSw); go_simp; try exact rfl)
          simp only [Act.put, List.setIfInBounds_toArray, List.set_cons_zero, List.set_cons_succ]
          refine wpAnyH_take (i := 13) (oi := ?o82) (v := ?v82) ?hi82 (by kernel_rfl) (by kernel_rfl) (by kernel_rfl) ?hq82 (Or.inl ⟨?hw82, ?hy82⟩) (by assumption) ?r82
          case hi82 => (simp only [List.getElem?_toArray]; exact rfl)
          case hq82 => exact fun _ _ _ h => h
          case hw82 => rfl
          case hy82 => (intro w hSw; (try dsimp only at hSw); go_simp; try exact rfl)
          simp only [Act.put, List.setIfInBounds_toArray, List.set_cons_zero, List.set_cons_succ]
          refine wpAnyH_take (i := 14) (oi := ?o83) (v := ?v83) ?hi83 (by kernel_rfl) (by kernel_rfl) (by kernel_rfl) ?hq83 (Or.inl ⟨?hw83, ?hy83⟩) (by assumption) ?r83
          case hi83 => (simp only [List.getElem?_toArray]; exact rfl)
          case hq83 => exact fun _ _ _ h => h
          case hw83 => rfl
          case hy83 => (intro w hSw; (try dsimp only at hSw); go_simp; try exact rfl)
          simp only [Act.put, List.setIfInBounds_toArray, List.set_cons_zero, List.set_cons_succ]
          refine wpAnyH_take (i := 15) (oi := ?o84) (v := ?v84) ?hi84 (by kernel_rfl) (by kernel_rfl) (by kernel_rfl) ?hq84 (Or.inl ⟨?hw84, ?hy84⟩) (by assumption) ?r84
          case hi84 => (simp only [List.getElem?_toArray]; exact rfl)
          case hq84 => exact fun _ _ _ h => h
          case hw84 => rfl
          case hy84 => (intro w hSw; (try dsimp only at hSw); go_simp; try exact rfl)
          simp only [Act.put, List.setIfInBounds_toArray, List.set_cons_zero, List.set_cons_succ]
          refine wpAnyH_take (i := 17) (oi := ?o85) (v := ?v85) ?hi85 (by kernel_rfl) (by kernel_rfl) (by kernel_rfl) ?hq85 (Or.inl ⟨?hw85, ?hy85⟩) (by assumption) ?r85
          case hi85 => (simp only [List.getElem?_toArray]; exact rfl)
          case hq85 => exact fun _ _ _ h => h
          case hw85 => rfl
          case hy85 => (intro w hSw; (try dsimp only at hSw); go_simp; try exact rfl)
          simp only [Act.put, List.setIfInBounds_toArray, List.set_cons_zero, List.set_cons_succ]
          refine wpAnyH_take (i := 18) (oi := ?o86) (v := ?v86) ?hi86 (by kernel_rfl) (by kernel_rfl) (by kernel_rfl) ?hq86 (Or.inl ⟨?hw86, ?hy86⟩) (by assumption) ?r86
          case hi86 => (simp only [List.getElem?_toArray]; exact rfl)
          case hq86 => exact fun _ _ _ h => h
          case hw86 => rfl
          case hy86 => (intro w hSw; (try dsimp only at hSw); go_simp; try exact rfl)
          simp only [Act.put, List.setIfInBounds_toArray, List.set_cons_zero, List.set_cons_succ]
          refine wpAnyH_take (i := 19) (oi := ?o87) (v := ?v87) ?hi87 (by kernel_rfl) (by kernel_rfl) (by kernel_rfl) ?hq87 (Or.inl ⟨?hw87, ?hy87⟩) (by assumption) ?r87
          case hi87 => (simp only [List.getElem?_toArray]; exact rfl)
          case hq87 => exact fun _ _ _ h => h
          case hw87 => rfl
          case hy87 => (intro w hSw; (try dsimp only at hSw); go_simp; try exact rfl)
          simp only [Act.put, List.setIfInBounds_toArray, List.set_cons_zero, List.set_cons_succ]
          refine wpAnyH_take (i := 20) (oi := ?o88) (v := ?v88) ?hi88 (by kernel_rfl) (by kernel_rfl) (by kernel_rfl) ?hq88 (Or.inl ⟨?hw88, ?hy88⟩) (by assumption) ?r88
          case hi88 => (simp only [List.getElem?_toArray]; exact rfl)
          case hq88 => exact fun _ _ _ h => h
          case hw88 => rfl
          case hy88 => (intro w hSw; (try dsimp only at hSw); go_simp; try exact rfl)
          simp only [Act.put, List.setIfInBounds_toArray, List.set_cons_zero, List.set_cons_succ]
          refine wpAnyH_take (i := 21) (oi := ?o89) (v := ?v89) ?hi89 (by kernel_rfl) (by kernel_rfl) (by kernel_rfl) ?hq89 (Or.inl ⟨?hw89, ?hy89⟩) (by assumption) ?r89
          case hi89 => (simp only [List.getElem?_toArray]; exact rfl)
          case hq89 => exact fun _ _ _ h => h
          case hw89 => rfl
          case hy89 => (intro w hSw; (try dsimp only at hSw); go_simp; try exact rfl)
          simp only [Act.put, List.setIfInBounds_toArray, List.set_cons_zero, List.set_cons_succ]
          refine wpAnyH_take (i := 22) (oi := ?o90) (v := ?v90) ?hi90 (by kernel_rfl) (by kernel_rfl) (by kernel_rfl) ?hq90 (Or.inl ⟨?hw90, ?hy90⟩) (by assumption) ?r90
          case hi90 => (simp only [List.getElem?_toArray]; exact rfl)
          case hq90 => exact fun _ _ _ h => h
          case hw90 => rfl
          case hy90 => (intro w hSw; (try dsimp only at hSw); go_simp; try exact rfl)
          simp only [Act.put, List.setIfInBounds_toArray, List.set_cons_zero, List.set_cons_succ]
          refine wpAnyH_take (i := 23) (oi := ?o91) (v := ?v91) ?hi91 (by kernel_rfl) (by kernel_rfl) (by kernel_rfl) ?hq91 (Or.inl ⟨?hw91, ?hy91⟩) (by assumption) ?r91
          case hi91 => (simp only [List.getElem?_toArray]; exact rfl)
          case hq91 => exact fun _ _ _ h => h
          case hw91 => rfl
          case hy91 => (intro w hSw; (try dsimp only at hSw); go_simp; try exact rfl)
          simp only [Act.put, List.setIfInBounds_toArray, List.set_cons_zero, List.set_cons_succ]
          refine wpAnyH_take (i := 24) (oi := ?o92) (v := ?v92) ?hi92 (by kernel_rfl) (by kernel_rfl) (by kernel_rfl) ?hq92 (Or.inl ⟨?hw92, ?hy92⟩) (by assumption) ?r92
          case hi92 => (simp only [List.getElem?_toArray]; exact rfl)
          case hq92 => exact fun _ _ _ h => h
          case hw92 => rfl
          case hy92 => (intro w hSw; (try dsimp only at hSw); go_simp; try exact rfl)
          simp only [Act.put, List.setIfInBounds_toArray, List.set_cons_zero, List.set_cons_succ]
          refine wpAnyH_take (i := 25) (oi := ?o93) (v := ?v93) ?hi93 (by kernel_rfl) (by kernel_rfl) (by kernel_rfl) ?hq93 (Or.inl ⟨?hw93, ?hy93⟩) (by assumption) ?r93
          case hi93 => (simp only [List.getElem?_toArray]; exact rfl)
          case hq93 => exact fun _ _ _ h => h
          case hw93 => rfl
          case hy93 => (intro w hSw; (try dsimp only at hSw); go_simp; try exact rfl)
          simp only [Act.put, List.setIfInBounds_toArray, List.set_cons_zero, List.set_cons_succ]
          refine wpAnyH_take (i := 26) (oi := ?o94) (v := ?v94) ?hi94 (by kernel_rfl) (by kernel_rfl) (by kernel_rfl) ?hq94 (Or.inl ⟨?hw94, ?hy94⟩) (by assumption) ?r94
          case hi94 => (simp only [List.getElem?_toArray]; exact rfl)
          case hq94 => exact fun _ _ _ h => h
          case hw94 => rfl
          case hy94 => (intro w hSw; (try dsimp only at hSw); go_simp; try exact rfl)
          simp only [Act.put, List.setIfInBounds_toArray, List.set_cons_zero, List.set_cons_succ]
          refine wpAnyH_take (i := 27) (oi := ?o95) (v := ?v95) ?hi95 (by kernel_rfl) (by kernel_rfl) (by kernel_rfl) ?hq95 (Or.inl ⟨?hw95, ?hy95⟩) (by assumption) ?r95
          case hi95 => (simp only [List.getElem?_toArray]; exact rfl)
          case hq95 => exact fun _ _ _ h => h
          case hw95 => rfl
          case hy95 => (intro w hSw; (try dsimp only at hSw); go_simp; try exact rfl)
          simp only [Act.put, List.setIfInBounds_toArray, List.set_cons_zero, List.set_cons_succ]
          refine wpAnyH_take (i := 28) (oi := ?o96) (v := ?v96) ?hi96 (by kernel_rfl) (by kernel_rfl) (by kernel_rfl) ?hq96 (Or.inl ⟨?hw96, ?hy96⟩) (by assumption) ?r96
          case hi96 => (simp only [List.getElem?_toArray]; exact rfl)
          case hq96 => exact fun _ _ _ h => h
          case hw96 => rfl
          case hy96 => (intro w hSw; (try dsimp only at hSw); go_simp; try exact rfl)
          simp only [Act.put, List.setIfInBounds_toArray, List.set_cons_zero, List.set_cons_succ]
          refine wpAnyH_take (i := 29) (oi := ?o97) (v := ?v97) ?hi97 (by kernel_rfl) (by kernel_rfl) (by kernel_rfl) ?hq97 (Or.inl ⟨?hw97, ?hy97⟩) (by assumption) ?r97
          case hi97 => (simp only [List.getElem?_toArray]; exact rfl)
          case hq97 => exact fun _ _ _ h => h
          case hw97 => rfl
          case hy97 => (intro w hSw; (try dsimp only at hSw); go_simp; try exact rfl)
          simp only [Act.put, List.setIfInBounds_toArray, List.set_cons_zero, List.set_cons_succ]
          refine wpAnyH_take (i := 30) (oi := ?o98) (v := ?v98) ?hi98 (by kernel_rfl) (by kernel_rfl) (by kernel_rfl) ?hq98 (Or.inl ⟨?hw98, ?hy98⟩) (by assumption) ?r98
          case hi98 => (simp only [List.getElem?_toArray]; exact rfl)
          case hq98 => exact fun _ _ _ h => h
          case hw98 => rfl
          case hy98 => (intro w hSw; (try dsimp only at hSw); go_simp; try exact rfl)
          simp only [Act.put, List.setIfInBounds_toArray, List.set_cons_zero, List.set_cons_succ]
          refine wpAnyH_take (i := 31) (oi := ?o99) (v := ?v99) ?hi99 (by kernel_rfl) (by kernel_rfl) (by kernel_rfl) ?hq99 (Or.inl ⟨?hw99, ?hy99⟩) (by assumption) ?r99
          case hi99 => (simp only [List.getElem?_toArray]; exact rfl)
          case hq99 => exact fun _ _ _ h => h
          case hw99 => rfl
          case hy99 => (intro w hSw; (try dsimp only at hSw); go_simp; try exact rfl)
          simp only [Act.put, List.setIfInBounds_toArray, List.set_cons_zero, List.set_cons_succ]
          refine wpAnyH_take (i := 32) (oi := ?o100) (v := ?v100) ?hi100 (by kernel_rfl) (by kernel_rfl) (by kernel_rfl) ?hq100 (Or.inl ⟨?hw100, ?hy100⟩) (by assumption) ?r100
          case hi100 => (simp only [List.getElem?_toArray]; exact rfl)
          case hq100 => exact fun _ _ _ h => h
          case hw100 => rfl
          case hy100 => (intro w hSw; (try dsimp only at hSw); go_simp; try exact rfl)
          simp only [Act.put, List.setIfInBounds_toArray, List.set_cons_zero, List.set_cons_succ]
          refine wpAnyH_ready (rs := [16]) (by kernel_rfl) (by simp) ?_
          refine AllReadyH.cons (o := ?o102) ?hi102 (fun K hK => ?_) AllReadyH.nil
          case hi102 => (simp only [List.getElem?_toArray]; exact rfl)
          go_simp
          go_at_call 22
          refine KX.out.mono ?_
          rintro e w2 ⟨F2, A1, n1, c1, D1, m1, d1, rfl, e1, e2, e3, e4, hp, hv, hL, hb, hF, bb, nA, nD⟩
          have P1 := Kept.mk (RowK.made hp.rc pvC_ne nA L2.out.lt); have V1 := Kept.mk (RowK.made hv.rc vvC_ne nD L2.out.lt)
          have j1 := api.beside L2.out hL D12.out hb hF
          have j2 := api.beside L3.out hL D13.out hb hF
          replace L1 := Kept.mk hL; replace L2 := Kept.mk j1.1; replace D12 := Kept.mk j1.2; replace L3 := Kept.mk j2.1; replace D13 := Kept.mk j2.2
          replace B := Kept.mk (B.out.trans bb)
          refine hK.out _ _ (CO.out _ B.out) (fun _ => ?_)
          have KY := Kept.mk (KAK.out w2 G y L2.out B.out)
          unfold AfterPost at KY
          clear hK K KX hp hv hL hb hF bb nA nD j1 j2
          refine wpAnyH_ready (rs := [33]) (by kernel_rfl) (by simp) ?_
          refine AllReadyH.cons (o := ?o103) ?hi103 (fun K hK => ?_) AllReadyH.nil
          case hi103 => (simp only [List.getElem?_toArray]; exact rfl)
          go_simp
          go_at_call 22
          refine KY.out.mono ?_
          rintro e w3 ⟨G2, A2, n2, c2, D2, m2, d2, rfl, g1, g2, g3, g4, hp, hv, hL, hb, hF, bb, nA, nD⟩
          have P2 := Kept.mk hp; have V2 := Kept.mk hv
          replace P1 := Kept.mk (P1.out.step hb hF); replace V1 := Kept.mk (V1.out.step hb hF)
          have j1 := api.beside L1.out hL D12.out.symm hb hF
          have j2 := api.beside L3.out hL D23.out hb hF
          replace L2 := Kept.mk hL; replace L1 := Kept.mk j1.1; replace D12 := Kept.mk j1.2.symm; replace L3 := Kept.mk j2.1; replace D23 := Kept.mk j2.2
          replace B := Kept.mk (B.out.trans bb)
          refine hK.out _ _ (CO.out _ B.out) (fun _ => ?_)
          obtain ⟨RA, s2⟩ := R
          obtain ⟨rc, rs, rp, rv⟩ := RA
          dsimp only at P1 P2 V1 V2 L1 L2 OV'
          have KQ := Kept.mk (rsamea_any rc rs A1 n1 c1 rp D1 m1 d1 rv rc rs A2 n2 c2 rp D2 m2 d2 rv w3 P1.out.rc P2.out.rc V1.out.rc V2.out.rc (by omega) (by omega) (fun v hv => (OV'.out v hv).2) (fun v hv => (OV'.out v hv).2))
          unfold SamePost at KQ
          clear hK K KY hp hv hL hb hF bb nA nD j1 j2
          refine wpAnyH_ready (rs := [34]) (by kernel_rfl) (by simp) ?_
          refine AllReadyH.cons (o := ?o104) ?hi104 (fun K hK => ?_) AllReadyH.nil
          case hi104 => (simp only [List.getElem?_toArray]; exact rfl)
          go_simp
          go_at_call 21
          refine KQ.out.mono ?_
          rintro e w4 ⟨q, rfl, hq, b⟩
          obtain rfl : q = true := hq.2 rfl
          replace L1 := Kept.mk (api.ledBelow L1.out b); replace L2 := Kept.mk (api.ledBelow L2.out b); replace L3 := Kept.mk (api.ledBelow L3.out b)
          replace B := Kept.mk (B.out.trans (b.mono B.out.size))
          refine hK.out _ _ (CO.out _ B.out) (fun _ => ?_)
          clear hK K KQ b hq P1 P2 V1 V2 e1 e2 e3 e4 g1 g2 g3 g4
          refine wpAnyH_take (i := 35) (oi := ?o101) (v := ?v101) ?hi101 (by kernel_rfl) (by kernel_rfl) (by kernel_rfl) ?hq101 (Or.inl ⟨?hw101, ?hy101⟩) (by assumption) ?r101
          case hi101 => (simp only [List.getElem?_toArray]; exact rfl)
          case hq101 => exact fun _ _ _ h => h
          case hw101 => rfl
          case hy101 => (intro w hSw; (try dsimp only at hSw); go_simp; try exact rfl)
          simp only [Act.put, List.setIfInBounds_toArray, List.set_cons_zero, List.set_cons_succ]
          refine wpAnyH_done (by kernel_rfl) ?_ _
          refine NoPanic.normal ?_
          go_wp2
          go_roundw
          case rel => exact ⟨k + 1, F2, G2, H, s2, by omega, by go_num, L1, L2, L3, D12, D13, D23, B⟩
          case measure => simp [Go.RowKit.intOf]; omega
        · have hkn' : ¬ (k : Int) < m := by omega
          have KS := Kept.mk (api.save L1.out.lk L1.out.wl)
          unfold SavePost at KS
          go_wp2_with fail
          refine KS.out.mono ?_
          rintro e w2 ⟨A1, n1, c1, rfl, e1, e2, r1, -, b⟩
          replace L1 := Kept.mk (api.ledBelow L1.out b); replace L2 := Kept.mk (api.ledBelow L2.out b); replace L3 := Kept.mk (api.ledBelow L3.out b)
          replace B := Kept.mk (B.out.trans (b.mono B.out.size))
          have R1 := Kept.mk r1
          have KT := Kept.mk (api.save L2.out.lk L2.out.wl)
          unfold SavePost at KT
          clear KS b r1
          go_wp2_with fail
          refine KT.out.mono ?_
          rintro e w3 ⟨A2, n2, c2, rfl, g1, g2, r2, -, b⟩
          replace L3 := Kept.mk (api.ledBelow L3.out b)
          replace B := Kept.mk (B.out.trans (b.mono B.out.size))
          replace R1 := Kept.mk (R1.out.below b)
          have R2 := Kept.mk r2
          have KF := Kept.mk (first_any api w3)
          unfold Holds at KF
          clear KT b r2 L1 L2
          go_wp2_with fail
          refine KF.out.mono ?_
          rintro e w5 ⟨rfl, b⟩
          replace L3 := Kept.mk (api.ledBelow L3.out b)
          replace B := Kept.mk (B.out.trans (b.mono B.out.size))
          have KB := Kept.mk (bytes_same A1 A2 n1 n2 c1 c2 (saveL s) w5 (R1.out.below b) (R2.out.below b))
          have KE := Kept.mk (api.events L3.out.lk L3.out.wl)
          unfold EventsPost at KE
          clear KF b
          go_wp2_with fail
          refine KB.out.mono ?_
          rintro e w6 ⟨rfl, rfl⟩
          go_wp2_with fail
          refine KE.out.mono ?_
          rintro e w7 ⟨A3, n3, c3, rfl, -, -, r3, -, b⟩
          obtain rfl : n3 = 0 := r3.1.symm
          replace L3 := Kept.mk (api.ledBelow L3.out b)
          replace B := Kept.mk (B.out.trans (b.mono B.out.size))
          have KC := Kept.mk (api.clock L3.out.lk)
          unfold TellB newL at KC
          clear KE KB b r3
          go_wp2_with fail
          refine KC.out.mono ?_
          rintro e w8 ⟨rfl, b⟩
          replace B := Kept.mk (B.out.trans (b.mono B.out.size))
          clear KC b
          go_wp2
          go_ret
          exact ⟨rfl, B.out⟩
end
end Go.Proofs.YtjjonbpgggldmaaGreat.Ledger
