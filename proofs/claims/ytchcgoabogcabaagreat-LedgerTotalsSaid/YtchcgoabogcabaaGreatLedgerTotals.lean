/-
  Totals stay, room is kept: P12.6, P12.2.
-/
import Derived.Test.YtchcgoabogcabaaGreatPart23
import Derived.Test.YtchcgoabogcabaaGreatPart12
import Derived.Test.YtchcgoabogcabaaGreatPart9
import Derived.Deep.RegionHeld3
import Derived.LoopN
import Derived.Deep.DeepCutAuto
namespace Go.Proofs.YtchcgoabogcabaaGreat.Ledger
open Go.RowKit Go.Proofs.YtchcgoabogcabaaGreat.Num Go.Proofs.YtchcgoabogcabaaGreat.Sha Go.Proofs.YtchcgoabogcabaaGreat.Purse Go.Proofs.YtchcgoabogcabaaGreat.Escrow Go.Proofs.YtchcgoabogcabaaGreat.Wire Go.Proofs.YtchcgoabogcabaaGreat.Req

theorem wrap_small (a b : Nat) (ha : a ≤ 400) (hb : b ≤ 400) : wrap64 ((a : Int) + (b : Int)) = (a : Int) + (b : Int) := by unfold wrap64; omega
theorem tot_step {n p a : Nat} {X : Nat → List Int} {y : Int} (hw : WF (newP n X)) (hpn : p < n) (hal : a < (X 0).length) (hy : tot (startV X) p a = y) : 0 ≤ at_ (X p) a ∧ y + at_ (X p) a ≤ 4611686018427387904 ∧ tot (startV X) (p + 1) a = y + at_ (X p) a := by
  have h1 : tot (startV X) (p + 1) a = y + at_ (X p) a := by
    show tot (startV X) p a + startV X p a = _
    rw [hy]; rfl
  have h2 := tot_mono (v := startV X) (a := a) (m := p + 1) (n := n) hpn (fun j hj => hw.pos j a hj hal)
  have h3 : tot (startV X) n a ≤ 4611686018427387904 := hw.sum a hal
  exact ⟨hw.pos p a hpn hal, by rw [← h1]; exact Int.le_trans h2 h3, h1⟩
theorem room_small {e y : Nat} {cap : Int} (h : (e : Int) + (y : Int) ≤ cap) (hc : cap ≤ 400) (he : e ≤ 400) : ∃ z : Int, (e : Int) + (y : Int) = z ∧ z ≤ cap ∧ wrap64 ((e : Int) + (y : Int)) = z :=
  ⟨_, rfl, h, wrap_small e y he (by omega)⟩
section
variable {Lk : World → Nat → List Nat → Nat → LS → Prop}
--PLAINHI
set_option maxRecDepth 100000 in
set_option maxHeartbeats 8000000 in
theorem ltotals_walk (api : LedgerApi Lk) {w : World} {A D : Option Addr} {n c m d : Nat} {X0 : Nat → List Int} (cap : Int) {l : List OV} (hr : Rwi w A n X0) (hn : n ≤ 9223372036854775807) (ho : Ops w D m l) (hm : m ≤ 9223372036854775807) :
    Calls Tryz.prog 4 #[.agg #[.slice A n c, .int .i64 cap], .slice D m d] w (Holds w) := by
  obtain ⟨N, hN⟩ : ∃ N, w.heap.size = N := ⟨_, rfl⟩
  have b0 : Below w.heap.size w (w.alloc (.cells #[.slice A n c, .int .i64 cap] 24)) := (Below.refl _ _).alloc (Nat.le_refl _) _
  have X : Kept (Blk (w.alloc (.cells #[.slice A n c, .int .i64 cap] 24)) N 24 #[.slice A n c, .int .i64 cap]) := ⟨Blk.new_at w _ _ N hN.symm⟩
  have HR := Kept.mk hr; have HO := Kept.mk ho; have HM := Kept.mk hm; have HNN := Kept.mk hn
  have B := Kept.mk b0
  clear hr ho b0
  go_enter Tryz.func4, Tryz.ntmps4
  go_upto_region 1 with (fail)
  generalize w.alloc (.cells #[.slice A n c, .int .i64 cap] 24) = w1 at *
  have KF := Kept.mk (first_any api w1)
  unfold Holds at KF
  go_wp2_with fail
  refine KF.out.mono ?_
  rintro e w2 ⟨rfl, b⟩
  replace X := Kept.mk (X.out.below b X.out.lt); replace B := Kept.mk (B.out.trans (b.mono B.out.size))
  have KL := Kept.mk (fewl_any (c := c) (d := d) (cap := cap) (HR.out.below B.out) hn (HO.out.below B.out) hm)
  unfold Req.FewPost at KL
  clear KF b
  have x0 := X.out.cell 0; have x1 := X.out.cell 1
  go_wp2_with fail
  refine KL.out.mono ?_
  rintro e w3 ⟨q, rfl, hq, b⟩
  replace X := Kept.mk (X.out.below b X.out.lt); replace B := Kept.mk (B.out.trans (b.mono B.out.size))
  have HQ := Kept.mk hq
  clear KL b hq x0 x1
  cases q with
  | false =>
    have KF := Kept.mk (first_any api w3)
    unfold Holds at KF
    go_wp2_with fail
    refine KF.out.mono ?_
    rintro e w4 ⟨rfl, b⟩
    replace B := Kept.mk (B.out.trans (b.mono B.out.size))
    clear KF b
    go_wp2
    go_ret
    exact ⟨rfl, B.out⟩
  | true =>
    have HQ2 := Kept.mk (HQ.out rfl)
    clear HQ
    go_upto_region 5 with (fail)
    have CS : ∀ {u : World}, Blk u N 24 #[.slice A n c, .int .i64 cap] → u.cell? ⟨N, 0, none⟩ = some (.slice A n c) ∧ u.cell? ⟨N, 1, none⟩ = some (.int .i64 cap) := fun h => ⟨h.cell 0, h.cell 1⟩
    refine wp_region_noPanic ?_
    refine wp_region_held_drew (S := fun w' : World => w'.cell? ⟨N, 0, none⟩ = some (.slice A n c) ∧ w'.cell? ⟨N, 1, none⟩ = some (.int .i64 cap)) (by kernel_rfl) (CS X.out.drew) (fun _ => ?_)
    replace X := Kept.mk X.out.drew; replace B := Kept.mk B.out.drew
    generalize w3.drew = w4 at *
    refine wpAnyH_take (i := 1) (oi := ?o203) (v := ?v203) ?hi203 (by kernel_rfl) (by kernel_rfl) (by kernel_rfl) ?hq203 (Or.inl ⟨?hw203, ?hy203⟩) (by assumption) ?r203
    case hi203 => (simp only [List.getElem?_toArray]; exact rfl)
    case hq203 => exact fun _ _ _ h => h
    case hw203 => rfl
    case hy203 => (intro w hSw; (try dsimp only at hSw); go_simp; try exact rfl)
    simp only [Act.put, List.setIfInBounds_toArray, List.set_cons_zero, List.set_cons_succ]
    refine wpAnyH_ready (rs := [0]) (by kernel_rfl) (by simp) ?_
    refine AllReadyH.cons (o := ?o214) ?hi214 (fun K hK => ?_) AllReadyH.nil
    case hi214 => (simp only [List.getElem?_toArray]; exact rfl)
    go_simp
    go_at_call 7
    refine (newtab_any _).mono ?_
    rintro e w5 ⟨t, rfl, hf, b, ht⟩
    have NT : Kept (N ≠ t) := ⟨by have := X.out.lt; omega⟩
    replace X := Kept.mk (X.out.below b X.out.lt)
    have NL : Kept (N < w5.heap.size) := ⟨X.out.lt⟩
    have HT : Kept (w.heap.size ≤ t) := ⟨Nat.le_trans B.out.size ht⟩
    replace B := Kept.mk (B.out.trans (b.mono B.out.size))
    refine hK.out _ _ (CS X.out) (fun _ => ?_)
    have KN := Kept.mk (api.new (c := c) cap (.inl hf) (HR.out.below B.out))
    unfold NewLPost at KN
    clear hK K b ht hf
    refine wpAnyH_ready (rs := [2]) (by kernel_rfl) (by simp) ?_
    refine AllReadyH.cons (o := ?o215) ?hi215 (fun K hK => ?_) AllReadyH.nil
    case hi215 => (simp only [List.getElem?_toArray]; exact rfl)
    go_simp
    go_at_call 13
    refine KN.out.mono ?_
    rintro e w6 (⟨hno, rfl, b⟩ | ⟨hc, x, F, rfl, hk, b, hF⟩)
    · replace X := Kept.mk (X.out.below b X.out.lt)
      have HNC := Kept.mk hno
      replace B := Kept.mk (B.out.trans (b.mono B.out.size))
      refine hK.out _ _ (CS X.out) (fun _ => ?_)
      clear hK K KN b hno
      refine wpAnyH_take (i := 3) (oi := ?o204) (v := ?v204) ?hi204 (by kernel_rfl) (by kernel_rfl) (by kernel_rfl) ?hq204 (Or.inl ⟨?hw204, ?hy204⟩) (by assumption) ?r204
      case hi204 => (simp only [List.getElem?_toArray]; exact rfl)
      case hq204 => exact fun _ _ _ h => h
      case hw204 => rfl
      case hy204 => (intro w hSw; (try dsimp only at hSw); go_simp; try exact rfl)
      simp only [Act.put, List.setIfInBounds_toArray, List.set_cons_zero, List.set_cons_succ]
      refine wpAnyH_take (i := 4) (oi := ?o205) (v := ?v205) ?hi205 (by kernel_rfl) (by kernel_rfl) (by kernel_rfl) ?hq205 (Or.inl ⟨?hw205, ?hy205⟩) (by assumption) ?r205
      case hi205 => (simp only [List.getElem?_toArray]; exact rfl)
      case hq205 => exact fun _ _ _ h => h
      case hw205 => rfl
      case hy205 => (intro w hSw; (try dsimp only at hSw); go_simp; try exact rfl)
      simp only [Act.put, List.setIfInBounds_toArray, List.set_cons_zero, List.set_cons_succ]
      refine wpAnyH_take (i := 5) (oi := ?o206) (v := ?v206) ?hi206 (by kernel_rfl) (by kernel_rfl) (by kernel_rfl) ?hq206 (Or.inl ⟨?hw206, ?hy206⟩) (by assumption) ?r206
      case hi206 => (simp only [List.getElem?_toArray]; exact rfl)
      case hq206 => exact fun _ _ _ h => h
      case hw206 => rfl
      case hy206 => (intro w hSw; (try dsimp only at hSw); go_simp; try exact rfl)
      simp only [Act.put, List.setIfInBounds_toArray, List.set_cons_zero, List.set_cons_succ]
      refine wpAnyH_take (i := 6) (oi := ?o207) (v := ?v207) ?hi207 (by kernel_rfl) (by kernel_rfl) (by kernel_rfl) ?hq207 (Or.inl ⟨?hw207, ?hy207⟩) (by assumption) ?r207
      case hi207 => (simp only [List.getElem?_toArray]; exact rfl)
      case hq207 => exact fun _ _ _ h => h
      case hw207 => rfl
      case hy207 => (intro w hSw; (try dsimp only at hSw); go_simp; try exact rfl)
      simp only [Act.put, List.setIfInBounds_toArray, List.set_cons_zero, List.set_cons_succ]
      refine wpAnyH_take (i := 7) (oi := ?o208) (v := ?v208) ?hi208 (by kernel_rfl) (by kernel_rfl) (by kernel_rfl) ?hq208 (Or.inl ⟨?hw208, ?hy208⟩) (by assumption) ?r208
      case hi208 => (simp only [List.getElem?_toArray]; exact rfl)
      case hq208 => exact fun _ _ _ h => h
      case hw208 => rfl
      case hy208 => (intro w hSw; (try dsimp only at hSw); go_simp; try exact rfl)
      simp only [Act.put, List.setIfInBounds_toArray, List.set_cons_zero, List.set_cons_succ]
      refine wpAnyH_done (by kernel_rfl) ?_ _
      refine NoPanic.normal ?_
      have KF := Kept.mk (first_any api w6)
      unfold Holds at KF
      go_wp2_with fail
      refine KF.out.mono ?_
      rintro e w7 ⟨rfl, b⟩
      replace B := Kept.mk (B.out.trans (b.mono B.out.size))
      clear KF b
      go_wp2
      go_ret
      exact ⟨rfl, B.out⟩
    · replace X := Kept.mk (X.out.below b X.out.lt)
      have L := Kept.mk (api.led hk (newL_wl hc) (newL_wi n X0 cap) HT.out (fun k hm => Nat.le_trans B.out.size (hF k hm)))
      have HC := Kept.mk hc
      have XN : Kept (N ∉ t :: F) := ⟨fun hm => by
        rcases List.mem_cons.1 hm with h | h
        · exact NT.out h
        · have := hF N h; have := NL.out; omega⟩
      replace B := Kept.mk (B.out.trans (b.mono B.out.size))
      refine hK.out _ _ (CS X.out) (fun _ => ?_)
      clear hK K KN b hk hF hc
      refine wpAnyH_take (i := 3) (oi := ?o209) (v := ?v209) ?hi209 (by kernel_rfl) (by kernel_rfl) (by kernel_rfl) ?hq209 (Or.inl ⟨?hw209, ?hy209⟩) (by assumption) ?r209
      case hi209 => (simp only [List.getElem?_toArray]; exact rfl)
      case hq209 => exact fun _ _ _ h => h
      case hw209 => rfl
      case hy209 => (intro w hSw; (try dsimp only at hSw); go_simp; try exact rfl)
      simp only [Act.put, List.setIfInBounds_toArray, List.set_cons_zero, List.set_cons_succ]
      refine wpAnyH_take (i := 4) (oi := ?o210) (v := ?v210) ?hi210 (by kernel_rfl) (by kernel_rfl) (by kernel_rfl) ?hq210 (Or.inl ⟨?hw210, ?hy210⟩) (by assumption) ?r210
      case hi210 => (simp only [List.getElem?_toArray]; exact rfl)
      case hq210 => exact fun _ _ _ h => h
      case hw210 => rfl
      case hy210 => (intro w hSw; (try dsimp only at hSw); go_simp; try exact rfl)
      simp only [Act.put, List.setIfInBounds_toArray, List.set_cons_zero, List.set_cons_succ]
      refine wpAnyH_take (i := 5) (oi := ?o211) (v := ?v211) ?hi211 (by kernel_rfl) (by kernel_rfl) (by kernel_rfl) ?hq211 (Or.inl ⟨?hw211, ?hy211⟩) (by assumption) ?r211
      case hi211 => (simp only [List.getElem?_toArray]; exact rfl)
      case hq211 => exact fun _ _ _ h => h
      case hw211 => rfl
      case hy211 => (intro w hSw; (try dsimp only at hSw); go_simp; try exact rfl)
      simp only [Act.put, List.setIfInBounds_toArray, List.set_cons_zero, List.set_cons_succ]
      refine wpAnyH_take (i := 6) (oi := ?o212) (v := ?v212) ?hi212 (by kernel_rfl) (by kernel_rfl) (by kernel_rfl) ?hq212 (Or.inl ⟨?hw212, ?hy212⟩) (by assumption) ?r212
      case hi212 => (simp only [List.getElem?_toArray]; exact rfl)
      case hq212 => exact fun _ _ _ h => h
      case hw212 => rfl
      case hy212 => (intro w hSw; (try dsimp only at hSw); go_simp; try exact rfl)
      simp only [Act.put, List.setIfInBounds_toArray, List.set_cons_zero, List.set_cons_succ]
      refine wpAnyH_take (i := 7) (oi := ?o213) (v := ?v213) ?hi213 (by kernel_rfl) (by kernel_rfl) (by kernel_rfl) ?hq213 (Or.inl ⟨?hw213, ?hy213⟩) (by assumption) ?r213
      case hi213 => (simp only [List.getElem?_toArray]; exact rfl)
      case hq213 => exact fun _ _ _ h => h
      case hw213 => rfl
      case hy213 => (intro w hSw; (try dsimp only at hSw); go_simp; try exact rfl)
      simp only [Act.put, List.setIfInBounds_toArray, List.set_cons_zero, List.set_cons_succ]
      refine wpAnyH_done (by kernel_rfl) ?_ _
      refine NoPanic.normal ?_
      have hn2 : 2 ≤ n := HC.out.1.1.1
      have hn16 : n ≤ 16 := HC.out.1.1.2
      have hn0 : ((n : Int) == 0) = false := by
        rw [beq_eq_false_iff_ne]; omega
      have x0 := X.out.cell 0
      have KP : Kept (Keeps (newL n X0 cap) (newL n X0 cap)) := ⟨Keeps.refl L.out.wl L.out.wi⟩
      go_wp2
      clear x0
      go_loopw [7] (fun i wr => ∃ (k : Nat) (F : List Nat) (s : LS), k ≤ m ∧ i = .int .i64 k ∧ Kept (LedK Lk w.heap.size wr t F x s) ∧ Kept (BlkK wr (t :: F) N 24 #[.slice A n c, .int .i64 cap]) ∧ Kept (Keeps (newL n X0 cap) s) ∧ Kept (Below w.heap.size w wr)) (fun i _ => m - (Go.RowKit.intOf i).toNat)
      case atStart => exact ⟨0, F, _, by omega, rfl, L, ⟨X.out, XN.out⟩, KP, B⟩
      case round =>
        clear L B X KP XN
        obtain ⟨k, F, s, hk, rfl, L, X, KP, B⟩ := hrel
        by_cases hkn : k < m
        · have hkn' : (k : Int) < m := by omega
          obtain ⟨g, o, party, clock, seen, ll, A', n', c', hA, hx, hop, co⟩ := op_at HO.out HQ2.out hkn
          subst hA
          have HOP := Kept.mk hop
          have CO := Kept.mk co
          obtain ⟨h0, h1, h2, h3⟩ := co _ B.out
          obtain ⟨N8, hN8⟩ : ∃ N8, wr.heap.size = N8 := ⟨_, rfl⟩
          have b : Below wr.heap.size wr (wr.alloc (.cells #[.int .i64 party, .int .i64 clock, .int .i64 seen, .slice A' n' c'] 55)) := (Below.refl _ _).alloc (Nat.le_refl _) _
          have X8 : Kept (BlkK (wr.alloc (.cells #[.int .i64 party, .int .i64 clock, .int .i64 seen, .slice A' n' c'] 55)) (t :: F) N8 55 #[.int .i64 party, .int .i64 clock, .int .i64 seen, .slice A' n' c']) := ⟨BlkK.new _ _ N8 hN8.symm L.out.lt⟩
          replace L := Kept.mk (api.ledBelow L.out b); replace X := Kept.mk (X.out.below b); replace B := Kept.mk (B.out.trans (b.mono B.out.size))
          clear b co hop hx
          go_upto_region 12 with (fail)
          generalize wr.alloc (.cells #[.int .i64 party, .int .i64 clock, .int .i64 seen, .slice A' n' c'] 55) = w7 at *
          clear h0 h1 h2 h3
          have KE := Kept.mk (api.events L.out.lk L.out.wl)
          unfold EventsPost at KE
          go_wp2_with fail
          refine KE.out.mono ?_
          rintro e w8 ⟨A2, n2, c2, rfl, e1, e2, hv, hnew, b⟩
          have R0 := Kept.mk (RowK.fresh hv vvC_ne hnew L.out.lt)
          obtain rfl : n2 = s.e.length := by rw [hv.1.symm, evs_len]
          replace L := Kept.mk (api.ledBelow L.out b); replace X := Kept.mk (X.out.below b); replace X8 := Kept.mk (X8.out.below b); replace B := Kept.mk (B.out.trans (b.mono B.out.size))
          have KC := Kept.mk (api.clock L.out.lk)
          unfold TellB at KC
          clear KE hv hnew b
          go_wp2_with fail
          refine KC.out.mono ?_
          rintro e w9 ⟨rfl, b⟩
          replace L := Kept.mk (api.ledBelow L.out b); replace R0 := Kept.mk (R0.out.below b); replace X := Kept.mk (X.out.below b); replace X8 := Kept.mk (X8.out.below b); replace B := Kept.mk (B.out.trans (b.mono B.out.size))
          have KA := api.applyOp HOP.out L.out B.out party clock seen
          have KS := applyL_keeps L.out.wl L.out.wi party clock ⟨seen, ll⟩ HOP.out.ok
          have hRP : (applyL s party clock ⟨seen, ll⟩).1.p = (manyL (clockL s clock) party (ll.take 64)).1 := rfl
          have hRS : (applyL s party clock ⟨seen, ll⟩).1.seen = ((applyL s party clock ⟨seen, ll⟩).2.e.length : Nat) := rfl
          obtain ⟨R, hRR⟩ : ∃ R, applyL s party clock ⟨seen, ll⟩ = R := ⟨_, rfl⟩
          rw [hRR] at KA KS hRP hRS
          obtain ⟨⟨rc, rs, rp, rv⟩, s2⟩ := R
          dsimp only at hRP hRS KS
          subst hRS
          have HRP := Kept.mk hRP; have HKS := Kept.mk KS.1; have HND := Kept.mk KS.2
          have KA2 := Kept.mk KA
          unfold AfterPost at KA2
          dsimp only at KA2
          clear KC b KA KS hRP hRR
          have x0 := X8.out.blk.cell 0; have x1 := X8.out.blk.cell 1; have x2 := X8.out.blk.cell 2; have x3 := X8.out.blk.cell 3
          go_wp2_with fail
          refine KA2.out.mono ?_
          rintro e w10 ⟨F2, A1, n1, c1, D1, m1, d1, rfl, g1, g2, g3, g4, hp, hv, hL, hb, hF, bb, nA, nD⟩
          replace R0 := Kept.mk (R0.out.step hb hF); replace X := Kept.mk (X.out.step hb hF); replace X8 := Kept.mk (X8.out.step hb hF); replace L := Kept.mk hL; replace B := Kept.mk (B.out.trans bb)
          have RP := Kept.mk hp
          have b : Below w10.heap.size w10 (w10.alloc (.cells #[.int .i64 rc, .int .i64 (s2.e.length : Nat), .slice A1 n1 c1, .slice D1 m1 d1] 59)) := (Below.refl _ _).alloc (Nat.le_refl _) _
          obtain ⟨N11, hN11⟩ : ∃ N11, w10.heap.size = N11 := ⟨_, rfl⟩
          have XA : Kept (BlkK (w10.alloc (.cells #[.int .i64 rc, .int .i64 (s2.e.length : Nat), .slice A1 n1 c1, .slice D1 m1 d1] 59)) (t :: F2) N11 59 #[.int .i64 rc, .int .i64 (s2.e.length : Nat), .slice A1 n1 c1, .slice D1 m1 d1]) := ⟨BlkK.new _ _ N11 hN11.symm L.out.lt⟩
          replace L := Kept.mk (api.ledBelow L.out b); replace R0 := Kept.mk (R0.out.below b); replace RP := Kept.mk (RP.out.below b); replace X := Kept.mk (X.out.below b); replace X8 := Kept.mk (X8.out.below b); replace B := Kept.mk (B.out.trans (b.mono B.out.size))
          have HPRE := Kept.mk (evs_pre HKS.out); have HCLK := Kept.mk HKS.out.clock
          replace KP := Kept.mk (KP.out.trans HKS.out)
          clear b KA2 hp hv hL hb hF bb nA nD x0 x1 x2 x3 HKS
          go_upto_region 14 with (fail)
          generalize (w10.alloc (.cells #[.int .i64 rc, .int .i64 (s2.e.length : Nat), .slice A1 n1 c1, .slice D1 m1 d1] 59)) = w11 at *
          have HN1 : Kept (rp.length = n1) := ⟨RP.out.rc.1⟩
          have HL' : Kept (ll.length = n') := ⟨HOP.out.rr.1⟩
          have hn1 : n1 ≤ n' ∧ n1 ≤ 64 ∧ (n1 = n' ∨ n1 = 64) := by
            have h1 := HN1.out; have h2 := HL'.out; have h3 := HRP.out
            have h4 := manyL_len (clockL s clock) party (ll.take 64)
            rw [← h3, List.length_take] at h4
            omega
          have hn100 := HOP.out.n100
          go_wp2
          go_loop [12, 13] (fun d i => ∃ k z : Nat, k ≤ n1 ∧ z ≤ k ∧ d = .int .i64 z ∧ i = .int .i64 k ∧ Kept (ndone (rp.take k) = z)) (fun _ i => n1 - (Go.RowKit.intOf i).toNat)
          case atStart => exact ⟨0, 0, by omega, by omega, rfl, rfl, ⟨rfl⟩⟩
          case round =>
            obtain ⟨q, z, hq, hz, rfl, rfl, HZ⟩ := hrel
            have x2 := XA.out.blk.cell 2
            have y3 := X8.out.blk.cell 3
            by_cases hqn : q < n1
            · have hqn' : (q : Int) < n1 := by omega
              obtain ⟨bp, op, pr, hA1, hpx, hpc⟩ := RP.out.rc.at_ hqn
              subst hA1
              have hlx : ∃ r, (ll.take 64)[q]? = some r := by
                have h1 := HL'.out
                exact ⟨_, List.getElem?_eq_getElem (by rw [List.length_take]; omega)⟩
              obtain ⟨rq, hrq⟩ := hlx
              have hpo : pr = (oneL (manyL (clockL s clock) party ((ll.take 64).take q)).2 party rq).1 := by
                have h1 := manyL_at (s := clockL s clock) (party := party) hrq
                rw [← HRP.out, hpx] at h1
                injection h1
              have hrm : pr.code = 12 → rq.kind ≤ 2 := fun h => by
                apply Classical.byContradiction
                intro hk
                exact oneL_room (by omega) (hpo ▸ h)
              have hsn : ndone (rp.take (q + 1)) = z + (if pr.code = 0 then 1 else 0) := by
                obtain ⟨hq1, hq2⟩ := List.getElem?_eq_some_iff.1 hpx
                rw [List.take_succ_eq_append_getElem hq1, ndone_append, HZ.out, hq2]
                simp [ndone]
              obtain ⟨pcode, pid⟩ := pr
              have u0 := hpc 0 _ rfl
              rw [Nat.add_zero] at u0
              dsimp only at u0 hrm hsn
              have HRM := Kept.mk hrm; have HSN := Kept.mk hsn; have HRQ := Kept.mk hrq
              clear hpc hpo hrm hsn hrq hpx
              by_cases hc0 : pcode = 0
              · as_aux_lemma =>
                subst hc0
                have hz2 : Kept (ndone (rp.take (q + 1)) = z + 1) := ⟨by have := HSN.out; simpa using this⟩
                go_wp2
                go_round
                case rel => exact ⟨q + 1, z + 1, by omega, by omega, by go_num, by go_num, hz2⟩
                case measure => simp [Go.RowKit.intOf]; omega
              · have hz2 : Kept (ndone (rp.take (q + 1)) = z) := ⟨by have := HSN.out; rw [if_neg hc0] at this; exact this⟩
                have hd0 : (pcode == 0) = false := beq_eq_false_iff_ne.2 hc0
                by_cases hc12 : pcode = 12
                · as_aux_lemma =>
                  subst hc12
                  have hqn2 : (q : Int) < n' := by omega
                  have hrk := HRM.out rfl
                  obtain ⟨bq, oq, rr, hA', hqx, hqc⟩ := (HOP.out.rr.below B.out).at_ (k := q) (by omega)
                  subst hA'
                  have hreq : rr = rq := by
                    have h1 := HRQ.out
                    rw [List.getElem?_take, if_pos (by omega), hqx] at h1
                    injection h1
                  subst hreq
                  obtain ⟨kind, dst, asset, amount, rid, due, hash, sec⟩ := rr
                  have v0 := hqc 0 _ rfl
                  rw [Nat.add_zero] at v0
                  dsimp only at v0 hrk
                  have hrk2 : ¬ (2 : Int) < kind := by omega
                  clear hqc hqx
                  go_wp2
                  go_round
                  case rel => exact ⟨q + 1, z, by omega, by omega, by go_num, by go_num, hz2⟩
                  case measure => simp [Go.RowKit.intOf]; omega
                · as_aux_lemma =>
                  have hd12 : (pcode == 12) = false := beq_eq_false_iff_ne.2 hc12
                  go_wp2
                  go_round
                  case rel => exact ⟨q + 1, z, by omega, by omega, by go_num, by go_num, hz2⟩
                  case measure => simp [Go.RowKit.intOf]; omega
            · as_aux_lemma =>
              have hqn' : ¬ (q : Int) < n1 := by omega
              obtain rfl : n1 = q := by omega
              have HZ2 : Kept (ndone rp = z) := ⟨by have := HZ.out; rwa [← HN1.out, List.take_length] at this⟩
              clear HZ HN1
              have KE := Kept.mk (api.events L.out.lk L.out.wl)
              unfold EventsPost at KE
              go_wp2_with fail
              refine KE.out.mono ?_
              rintro e w12 ⟨A3, n3, c3, rfl, r1, r2, hv, hnew, b⟩
              have R3 := Kept.mk (RowK.fresh hv vvC_ne hnew L.out.lt)
              obtain rfl : n3 = s2.e.length := by rw [hv.1.symm, evs_len]
              replace L := Kept.mk (api.ledBelow L.out b); replace R0 := Kept.mk (R0.out.below b); replace RP := Kept.mk (RP.out.below b); replace X := Kept.mk (X.out.below b); replace X8 := Kept.mk (X8.out.below b); replace XA := Kept.mk (XA.out.below b); replace B := Kept.mk (B.out.trans (b.mono B.out.size))
              have HO0 : Kept (openN s2.b.l (nlock ((evs s2).take 0)) = 0) := ⟨rfl⟩
              clear KE hv hnew b RP
              have hE4 := L.out.wl.len
              go_wp2
              go_loopw [15, 16] (fun z i w2 => ∃ q y : Nat, q ≤ s2.e.length ∧ y ≤ q ∧ z = .int .i64 y ∧ i = .int .i64 q ∧ Kept (openN s2.b.l (nlock ((evs s2).take q)) = y) ∧ Kept (LedK Lk w.heap.size w2 t F2 x s2) ∧ Kept (BlkK w2 (t :: F2) N 24 #[.slice A n c, .int .i64 cap]) ∧ Kept (BlkK w2 (t :: F2) N8 55 #[.int .i64 party, .int .i64 clock, .int .i64 seen, .slice A' n' c']) ∧ Kept (BlkK w2 (t :: F2) N11 59 #[.int .i64 rc, .int .i64 (s2.e.length : Nat), .slice A1 n1 c1, .slice D1 m1 d1]) ∧ Kept (RowK vvC 9 w2 (t :: F2) A2 s.e.length (evs s)) ∧ Kept (RowK vvC 9 w2 (t :: F2) A3 s2.e.length (evs s2)) ∧ Kept (Below w.heap.size w w2)) (fun _ i _ => s2.e.length - (Go.RowKit.intOf i).toNat)
              case atStart => exact ⟨0, 0, by omega, by omega, rfl, rfl, HO0, L, X, X8, XA, R0, R3, B⟩
              case round =>
                clear HO0 L X X8 XA R0 R3 B
                obtain ⟨q, y, hq, hy, rfl, rfl, HOP2, L, X, X8, XA, R0, R3, B⟩ := hrel
                by_cases hqn : q < s2.e.length
                · have hqn' : (q : Int) < s2.e.length := by omega
                  obtain ⟨b9, o9, v, hA3, hvx, -⟩ := R3.out.rc.at_ hqn
                  subst hA3
                  have hlk := lock_get L.out.wi hvx
                  have hnx := nlock_next hvx
                  have hnl : v.kind = 2 → nlock ((evs s2).take q) < s2.b.l.length := fun h => by
                    have := nlock_take_lt hvx h
                    rwa [L.out.wi.all] at this
                  obtain ⟨kind, src, dst, asset, amount, vid, due, hash, sec⟩ := v
                  have u0 := rc_cell R3.out.rc hvx (j := 0) rfl
                  have u5 := rc_cell R3.out.rc hvx (j := 5) rfl
                  rw [Nat.add_zero] at u0
                  dsimp only at hlk hnx hnl u0 u5
                  have KG := api.escrow vid L.out.lk L.out.wl
                  obtain ⟨⟨ev, okb⟩, hge⟩ : ∃ r, getB s2.b vid = r := ⟨_, rfl⟩
                  rw [hge] at KG hlk
                  unfold GetPost evV at KG
                  obtain ⟨esrc, edst, easset, eamount, edue, estate, ehash, esecret⟩ := ev
                  dsimp only at KG
                  have KG2 := Kept.mk KG; have HLK := Kept.mk hlk; have HNX := Kept.mk hnx; have HVX := Kept.mk hvx; have HNL := Kept.mk hnl
                  clear KG hlk hnx hvx hge hnl
                  go_wp2_with fail
                  refine KG2.out.mono ?_
                  rintro e w13 ⟨rfl, b⟩
                  replace L := Kept.mk (api.ledBelow L.out b); replace R0 := Kept.mk (R0.out.below b); replace R3 := Kept.mk (R3.out.below b); replace X := Kept.mk (X.out.below b); replace X8 := Kept.mk (X8.out.below b); replace XA := Kept.mk (XA.out.below b); replace B := Kept.mk (B.out.trans (b.mono B.out.size))
                  clear KG2 b u0 u5
                  have b : Below w13.heap.size w13 (w13.alloc (.cells #[.int .i64 esrc, .int .i64 edst, .int .i64 easset, .int .i64 eamount, .int .i64 edue, .int .i64 estate, .string (strOfNums ehash), .string (strOfNums esecret)] 67)) := (Below.refl _ _).alloc (Nat.le_refl _) _
                  obtain ⟨N17, hN17⟩ : ∃ N17, w13.heap.size = N17 := ⟨_, rfl⟩
                  have X17 : Kept (Blk (w13.alloc (.cells #[.int .i64 esrc, .int .i64 edst, .int .i64 easset, .int .i64 eamount, .int .i64 edue, .int .i64 estate, .string (strOfNums ehash), .string (strOfNums esecret)] 67)) N17 67 #[.int .i64 esrc, .int .i64 edst, .int .i64 easset, .int .i64 eamount, .int .i64 edue, .int .i64 estate, .string (strOfNums ehash), .string (strOfNums esecret)]) := ⟨Blk.new_at _ _ _ N17 hN17.symm⟩
                  replace L := Kept.mk (api.ledBelow L.out b); replace R0 := Kept.mk (R0.out.below b); replace R3 := Kept.mk (R3.out.below b); replace X := Kept.mk (X.out.below b); replace X8 := Kept.mk (X8.out.below b); replace XA := Kept.mk (XA.out.below b); replace B := Kept.mk (B.out.trans (b.mono B.out.size))
                  clear b
                  go_upto_region 28 with (fail)
                  generalize (w13.alloc (.cells #[.int .i64 esrc, .int .i64 edst, .int .i64 easset, .int .i64 eamount, .int .i64 edue, .int .i64 estate, .string (strOfNums ehash), .string (strOfNums esecret)] 67)) = w14 at *
                  have u0 := rc_cell R3.out.rc HVX.out (j := 0) rfl
                  rw [Nat.add_zero] at u0
                  dsimp only at u0
                  have x5 := X17.out.cell 5
                  by_cases hk2 : kind = 2
                  · subst hk2
                    have hl := HLK.out rfl
                    injection hl with hl hb2
                    subst hb2
                    have hst : (atE s2.b.l (nlock ((evs s2).take q))).state = estate := by rw [← hl]
                    have hj := HNL.out rfl
                    have hop : openN s2.b.l (nlock ((evs s2).take (q + 1))) = y + (if estate = 0 then 1 else 0) := by
                      rw [HNX.out, if_pos rfl]
                      show openN s2.b.l (nlock ((evs s2).take q)) + _ = _
                      rw [HOP2.out, hst]
                    by_cases hs0 : estate = 0
                    · as_aux_lemma =>
                      subst hs0
                      have HY : Kept (openN s2.b.l (nlock ((evs s2).take (q + 1))) = y + 1) := ⟨by simpa using hop⟩
                      clear hl hst hop hj HOP2 HLK HNX HNL
                      go_wp2
                      go_roundw
                      case rel => exact ⟨q + 1, y + 1, by omega, by omega, by go_num, by go_num, HY, L, X, X8, XA, R0, R3, B⟩
                      case measure => simp [Go.RowKit.intOf]; omega
                    · as_aux_lemma =>
                      have HY : Kept (openN s2.b.l (nlock ((evs s2).take (q + 1))) = y) := ⟨by rw [if_neg hs0] at hop; exact hop⟩
                      have hd : (estate == 0) = false := beq_eq_false_iff_ne.2 hs0
                      clear hl hst hop hj HOP2 HLK HNX HNL
                      go_wp2
                      go_roundw
                      case rel => exact ⟨q + 1, y, by omega, by omega, by go_num, by go_num, HY, L, X, X8, XA, R0, R3, B⟩
                      case measure => simp [Go.RowKit.intOf]; omega
                  · as_aux_lemma =>
                    have hd : (kind == 2) = false := beq_eq_false_iff_ne.2 hk2
                    have HY : Kept (openN s2.b.l (nlock ((evs s2).take (q + 1))) = y) := ⟨by rw [HNX.out, if_neg hk2, Nat.add_zero]; exact HOP2.out⟩
                    clear HOP2 HLK HNX HNL
                    go_wp2
                    go_roundw
                    case rel => exact ⟨q + 1, y, by omega, by omega, by go_num, by go_num, HY, L, X, X8, XA, R0, R3, B⟩
                    case measure => simp [Go.RowKit.intOf]; omega
                · as_aux_lemma =>
                  have hqn' : ¬ (q : Int) < s2.e.length := by omega
                  obtain rfl : q = s2.e.length := by omega
                  have hopen : openB s2.b = y := by
                    have := HOP2.out
                    rw [← evs_len s2, List.take_length, L.out.wi.all] at this
                    unfold openB; rw [this]
                  have hroomi := L.out.wl.room
                  rw [hopen, KP.out.cap] at hroomi
                  have hcap4 : cap ≤ 400 := HC.out.2.2
                  obtain ⟨z9, -, hroom9, hwz9⟩ := room_small (e := s2.e.length) (y := y) (cap := cap) hroomi hcap4 hE4
                  have HROOM := Kept.mk hroom9; have HW9 := Kept.mk hwz9
                  clear hroom9 hwz9 hcap4
                  have hlen := HND.out
                  rw [HZ2.out] at hlen
                  have hle : s.e.length ≤ s2.e.length := by omega
                  have HNE : Kept (wrap64 ((s.e.length : Int) + (z : Int)) = (s2.e.length : Int)) := ⟨by
                    rw [wrap_small s.e.length z (by omega) (by omega)]; omega⟩
                  have HN1N := Kept.mk hn1
                  obtain ⟨hsl, hdr⟩ := evs_h A3 s2.e.length c3 s.e.length hle r1 (s.e.length : Int) rfl
                  have KQ := Kept.mk (rsameev_any A3 s.e.length c3 ((evs s2).take s.e.length) A2 s.e.length c2 (evs s) wr (hdr wr (evs s2) R3.out.rc) R0.out.rc (by omega) (fun v hv => evs_ok L.out.wl v (List.mem_of_mem_take hv)) (fun v hv => by rw [← HPRE.out] at hv; exact evs_ok L.out.wl v (List.mem_of_mem_take hv)))
                  unfold SamePost at KQ
                  clear hdr hopen hroomi hlen hle HOP2 hn1
                  go_upto_region 30 with (fail)
                  go_cut [16, 198] (fun ci cz wx => cz = .bool false ∧ Kept (LedK Lk w.heap.size wx t F2 x s2) ∧ Kept (BlkK wx (t :: F2) N 24 #[.slice A n c, .int .i64 cap]) ∧ Kept (Below w.heap.size w wx))
                  case first =>
                    by_cases h64 : (n' : Int) ≤ 64
                    · skip
                      have hmin1 : ((n1 : Int) != (n' : Int)) = false := by
                        rw [bne_eq_false_iff_eq]; have := HN1N.out; omega
                      have hne := HNE.out
                      go_wp2_with fail
                      refine KQ.out.mono ?_
                      rintro e w15 ⟨qb, rfl, hqb, b⟩
                      obtain rfl : qb = true := hqb.2 HPRE.out
                      replace L := Kept.mk (api.ledBelow L.out b); replace X := Kept.mk (X.out.below b); replace X8 := Kept.mk (X8.out.below b); replace XA := Kept.mk (XA.out.below b); replace B := Kept.mk (B.out.trans (b.mono B.out.size))
                      have KC := Kept.mk (api.clock L.out.lk)
                      unfold TellB at KC
                      clear KQ b hqb R0 R3 hne
                      go_wp2_with fail
                      refine KC.out.mono ?_
                      rintro e w16 ⟨rfl, b⟩
                      replace L := Kept.mk (api.ledBelow L.out b); replace X := Kept.mk (X.out.below b); replace X8 := Kept.mk (X8.out.below b); replace XA := Kept.mk (XA.out.below b); replace B := Kept.mk (B.out.trans (b.mono B.out.size))
                      have x1 := X.out.blk.cell 1
                      have xa1 := XA.out.blk.cell 1; have xa2 := XA.out.blk.cell 2
                      have xb3 := X8.out.blk.cell 3
                      have hw9 := HW9.out; have hck : (s2.clock < s.clock) = False := eq_false (Int.not_lt.2 HCLK.out); have hroom : (cap < z9) = False := eq_false (Int.not_lt.2 HROOM.out)
                      clear KC b hy hq hn hm e2 g2 g4 r2 r1 e1 g1 g3 hn2 hn16 hn100 hz
                      go_wp2
                      go_meet
                      case rel => exact ⟨by first | rfl | (rw [decide_eq_false (Int.not_lt.2 HCLK.out), decide_eq_false (Int.not_lt.2 HROOM.out)]; rfl), L, X, B⟩
                    · skip
                      have hmin2 : ((n1 : Int) != 64) = false := by
                        rw [bne_eq_false_iff_eq]; have := HN1N.out; omega
                      have hne := HNE.out
                      go_wp2_with fail
                      refine KQ.out.mono ?_
                      rintro e w15 ⟨qb, rfl, hqb, b⟩
                      obtain rfl : qb = true := hqb.2 HPRE.out
                      replace L := Kept.mk (api.ledBelow L.out b); replace X := Kept.mk (X.out.below b); replace X8 := Kept.mk (X8.out.below b); replace XA := Kept.mk (XA.out.below b); replace B := Kept.mk (B.out.trans (b.mono B.out.size))
                      have KC := Kept.mk (api.clock L.out.lk)
                      unfold TellB at KC
                      clear KQ b hqb R0 R3 hne
                      go_wp2_with fail
                      refine KC.out.mono ?_
                      rintro e w16 ⟨rfl, b⟩
                      replace L := Kept.mk (api.ledBelow L.out b); replace X := Kept.mk (X.out.below b); replace X8 := Kept.mk (X8.out.below b); replace XA := Kept.mk (XA.out.below b); replace B := Kept.mk (B.out.trans (b.mono B.out.size))
                      have x1 := X.out.blk.cell 1
                      have xa1 := XA.out.blk.cell 1; have xa2 := XA.out.blk.cell 2
                      have xb3 := X8.out.blk.cell 3
                      have hw9 := HW9.out; have hck : (s2.clock < s.clock) = False := eq_false (Int.not_lt.2 HCLK.out); have hroom : (cap < z9) = False := eq_false (Int.not_lt.2 HROOM.out)
                      clear KC b hy hq hn hm e2 g2 g4 r2 r1 e1 g1 g3 hn2 hn16 hn100 hz
                      go_wp2
                      go_meet
                      case rel => exact ⟨by first | rfl | (rw [decide_eq_false (Int.not_lt.2 HCLK.out), decide_eq_false (Int.not_lt.2 HROOM.out)]; rfl), L, X, B⟩
                  case rest =>
                  clear L X B HNE HROOM HW9 hsl XA X8 R0 R3 KQ
                  obtain ⟨rfl, L, X, B⟩ := hcut
                  generalize wc = w20 at *
                  go_upto_region 32 with (fail)
                  have HTOT : Kept (∀ a : Nat, a < (X0 0).length → totB s2.b a = tot (startV X0) n a) := ⟨fun a ha => by
                    rw [KP.out.tot]
                    show totP (newP n X0) a + 0 = _
                    rw [Int.add_zero, totP_nat (s := newP n X0) ha]
                    rfl⟩
                  have HNA : Kept ((X0 0).length ≤ 4 ∧ ∀ i, i < n → (X0 i).length = (X0 0).length) := ⟨HC.out.1.2.1.2, HC.out.1.2.2.1⟩
                  have HWF : Kept (WF (newP n X0)) := ⟨HC.out.1.wf⟩
                  go_wp2
                  go_loopw [19] (fun i wq => ∃ a : Nat, a ≤ (X0 0).length ∧ i = .int .i64 a ∧ Kept (LedK Lk w.heap.size wq t F2 x s2) ∧ Kept (BlkK wq (t :: F2) N 24 #[.slice A n c, .int .i64 cap]) ∧ Kept (Below w.heap.size w wq)) (fun i _ => (X0 0).length - (Go.RowKit.intOf i).toNat)
                  case atStart => exact ⟨0, by omega, rfl, L, X, B⟩
                  case round =>
                    clear L X B
                    obtain ⟨a, ha, rfl, L, X, B⟩ := hrel
                    have x0 := X.out.blk.cell 0
                    have hna := HNA.out.1
                    obtain ⟨br, or_, a0, l0, c0, hA0, hrow0, hl0, hc0, hri0⟩ := (HR.out.below B.out).row 0 (by omega)
                    subst hA0
                    have hl00 : (X0 0).length = l0 := hri0.1
                    rw [Nat.add_zero] at hrow0
                    clear hri0
                    rw [hl00] at ha hna
                    have hl4 : (l0 : Int) ≤ 4 := by omega
                    by_cases hal : a < l0
                    · have hal' : (a : Int) < l0 := by omega
                      have ha4 : (a : Int) < 4 := by omega
                      have hz0 : Kept (tot (startV X0) 0 a = 0) := ⟨rfl⟩
                      go_wp2
                      go_loop [20, 21] (fun sv i => ∃ (p : Nat) (y : Int), p ≤ n ∧ sv = .int .i64 y ∧ i = .int .i64 p ∧ 0 ≤ y ∧ y ≤ 4611686018427387904 ∧ Kept (tot (startV X0) p a = y)) (fun _ i => n - (Go.RowKit.intOf i).toNat)
                      case atStart => exact ⟨0, 0, by omega, rfl, rfl, by omega, by omega, hz0⟩
                      case round =>
                        obtain ⟨p, y, hp, rfl, rfl, hy0, hy1, HY⟩ := hrel
                        by_cases hpn : p < n
                        · as_aux_lemma =>
                          have hpn' : (p : Int) < n := by omega
                          obtain ⟨br', or', ap, lp, cp, hAp, hrowp, hlp, hcp, hrip⟩ := (HR.out.below B.out).row p hpn
                          injection hAp with hAp
                          injection hAp with hb1 hb2
                          subst hb1 hb2
                          have hlpa : lp = l0 := hrip.1.symm.trans ((HNA.out.2 p hpn).trans hl00)
                          subst hlpa
                          have hcell : ∃ b o, ap = some ⟨b, o, none⟩ ∧ wr.cell? ⟨b, o + a, none⟩ = some (.int .i64 (at_ (X0 p) a)) := by
                            rcases hrip.2 with h | ⟨b, o, h1, h2⟩
                            · exact absurd hal (by rw [h]; exact Nat.not_lt_zero _)
                            · exact ⟨b, o, h1, h2 a hal⟩
                          obtain ⟨bz, oz, hap, hcell⟩ := hcell
                          subst hap
                          obtain ⟨hv1, hs1, hnext⟩ := tot_step HWF.out hpn (by rw [hl00]; exact hal) HY.out
                          have hs0 : 0 ≤ y + at_ (X0 p) a := Int.add_nonneg hy0 hv1
                          have HY2 := Kept.mk hnext
                          obtain ⟨u, hu⟩ : ∃ u, at_ (X0 p) a = u := ⟨_, rfl⟩
                          rw [hu] at hcell hv1 hs1 hs0 HY2
                          clear hnext hrip hu
                          go_wp2
                          go_round
                          case rel => exact ⟨p + 1, y + u, hpn, by go_num, by go_num, hs0, hs1, HY2⟩
                          case measure => simp [Go.RowKit.intOf]; omega
                        · as_aux_lemma =>
                          have hpn' : ¬ (p : Int) < n := by omega
                          obtain rfl : n = p := by omega
                          have HTY : Kept (tot (startV X0) n a = y) := HY
                          have KT := api.total (a : Int) L.out.lk L.out.wl
                          rw [HTOT.out a (by omega), HTY.out] at KT
                          unfold TellB at KT
                          have KT2 := Kept.mk KT
                          clear KT HTY HY
                          go_wp2_with fail
                          refine KT2.out.mono ?_
                          rintro e w21 ⟨rfl, b⟩
                          replace L := Kept.mk (api.ledBelow L.out b); replace X := Kept.mk (X.out.below b); replace B := Kept.mk (B.out.trans (b.mono B.out.size))
                          clear KT2 b
                          go_wp2
                          go_roundw
                          case rel => exact ⟨a + 1, by omega, by go_num, L, X, B⟩
                          case measure => simp [Go.RowKit.intOf]; omega
                    · have hal' : ¬ (a : Int) < l0 := by omega
                      go_wp2
                      go_roundw
                      case rel => exact ⟨k + 1, F2, s2, by omega, by go_num, L, X, KP, B⟩
                      case measure => simp [Go.RowKit.intOf]; omega
        · have hkn' : ¬ (k : Int) < m := by omega
          have KF := Kept.mk (first_any api wr)
          unfold Holds at KF
          go_wp2_with fail
          refine KF.out.mono ?_
          rintro e w7 ⟨rfl, b⟩
          replace B := Kept.mk (B.out.trans (b.mono B.out.size))
          clear KF b
          go_wp2
          go_ret
          exact ⟨rfl, B.out⟩
end
end Go.Proofs.YtchcgoabogcabaaGreat.Ledger
