/-
  Numbers of escrows: P12.2, P12.3.
-/
import Derived.Test.YtjjonbpgggldmaaGreatPart23
import Derived.Test.YtjjonbpgggldmaaGreatPart12
import Derived.Test.YtjjonbpgggldmaaGreatPart9
import Derived.Deep.RegionHeld3
import Derived.LoopN
import Derived.Deep.DeepCutAuto
import Derived.BigQuiet
import Derived.Test.YtjjonbpgggldmaaGreatPart8
namespace Go.Proofs.YtjjonbpgggldmaaGreat.Ledger
open Go.RowKit Go.Proofs.YtjjonbpgggldmaaGreat.Num Go.Proofs.YtjjonbpgggldmaaGreat.Sha Go.Proofs.YtjjonbpgggldmaaGreat.Purse Go.Proofs.YtjjonbpgggldmaaGreat.Escrow Go.Proofs.YtjjonbpgggldmaaGreat.Wire Go.Proofs.YtjjonbpgggldmaaGreat.Req

def stArr (l : List VV) : List Int := (List.range 500).map fun (j : Nat) => stOf (j : Int) 0 l
theorem stArr_len (l : List VV) : (stArr l).length = 500 := by simp [stArr]
theorem stArr_nil : stArr [] = List.replicate 500 0 := by
  unfold stArr
  rw [show (fun (j : Nat) => stOf (j : Int) 0 []) = fun _ => 0 from rfl, List.map_const', List.length_range]
theorem stArr_at (l : List VV) {j : Nat} (h : j < 500) : at_ (stArr l) j = stOf (j : Int) 0 l := by
  unfold at_ stArr
  rw [List.getD_eq_getElem?_getD, List.getElem?_map, List.getElem?_range h]
  rfl
theorem stArr_same (l : List VV) (v : VV) (h : v.kind ≤ 2) : stArr (l ++ [v]) = stArr l := by
  unfold stArr
  refine List.map_congr_left fun j _ => ?_
  rw [stOf_append]
  show (if 2 < v.kind ∧ _ then _ else _) = _
  rw [if_neg (fun k => by omega)]
theorem stArr_set (l : List VV) {v : VV} {j : Nat} (hj : j < 500) (hv : v.id = j) (h : 2 < v.kind) : stArr (l ++ [v]) = (stArr l).set j (v.kind - 2) := by
  refine List.ext_getElem? fun i => ?_
  by_cases hi : i < 500
  · have e : ∀ m : List VV, (stArr m)[i]? = some (stOf (i : Int) 0 m) := fun m => by
      unfold stArr
      rw [List.getElem?_map, List.getElem?_range hi]; rfl
    rw [List.getElem?_set, e, stOf_append]
    show some (if 2 < v.kind ∧ v.id = (i : Int) then v.kind - 2 else stOf (i : Int) 0 l) = _
    by_cases hij : j = i
    · subst hij
      rw [if_pos ⟨h, hv⟩, if_pos rfl, if_pos (by rw [stArr_len]; exact hj)]
    · rw [if_neg (fun k => hij (by have := k.2; omega)), if_neg hij, e]
  · rw [List.getElem?_eq_none (by rw [stArr_len]; omega), List.getElem?_eq_none (by rw [List.length_set, stArr_len]; omega)]
theorem zero500 : Tryz.zeroCells74 = arr .i64 (List.replicate 500 0) := by kernel_rfl
theorem evs_next {l : List VV} {k : Nat} {x : VV} (h : l[k]? = some x) : l.take (k + 1) = l.take k ++ [x] := by
  obtain ⟨hk, rfl⟩ := List.getElem?_eq_some_iff.1 h
  exact List.take_succ_eq_append_getElem hk
theorem tab_put {w w' : World} {t M : Nat} (h : Tab w t) (b : Bar [M] w w') (hn : t ≠ M) : Tab w' t := by
  rcases h with h | h
  · exact .inl (Blk.bar h b (by simpa using hn))
  · exact .inr (Blk.bar h b (by simpa using hn))
theorem rowk_put {α : Type} {C : α → List Value} {z : Nat} {w w' : World} {F : List Nat} {A : Option Addr} {n M : Nat} {l : List α} (h : RowK C z w F A n l) (b : Bar [M] w w') (hA : n = 0 ∨ ∀ b' o', A = some ⟨b', o', none⟩ → M ≠ b') : RowK C z w' F A n l := by
  rcases hA with h0 | hA
  · exact ⟨⟨h.rc.1, .inl h0⟩, .inl h0⟩
  refine ⟨h.rc.bar b (fun x hx => .inr (fun o' ho => ?_)), h.away.imp id ?_⟩
  · rw [List.mem_singleton] at hx
    exact hA x o' ho hx.symm
  · rintro ⟨b2, o2, h1, h2, h3⟩
    exact ⟨b2, o2, h1, Nat.lt_of_lt_of_le h2 b.size, h3⟩
section
variable {Lk : World → Nat → List Nat → Nat → LS → Prop}
--PLAINHI
set_option maxRecDepth 100000 in
set_option maxHeartbeats 8000000 in
theorem ids_walk (api : LedgerApi Lk) {w : World} {A D : Option Addr} {n c m d : Nat} {X0 : Nat → List Int} (cap : Int) {l : List OV} (hr : Rwi w A n X0) (hn : n ≤ 9223372036854775807) (ho : Ops w D m l) (hm : m ≤ 9223372036854775807) :
    Calls Tryz.prog 7 #[.agg #[.slice A n c, .int .i64 cap], .slice D m d] w (Holds w) := by
  obtain ⟨N, hN⟩ : ∃ N, w.heap.size = N := ⟨_, rfl⟩
  have b0 : Below w.heap.size w (w.alloc (.cells #[.slice A n c, .int .i64 cap] 24)) := (Below.refl _ _).alloc (Nat.le_refl _) _
  have X : Kept (Blk (w.alloc (.cells #[.slice A n c, .int .i64 cap] 24)) N 24 #[.slice A n c, .int .i64 cap]) := ⟨Blk.new_at w _ _ N hN.symm⟩
  have HR := Kept.mk hr; have HO := Kept.mk ho; have HM := Kept.mk hm; have HNN := Kept.mk hn
  have B := Kept.mk b0
  clear hr ho b0
  go_enter Tryz.func7, Tryz.ntmps7
  go_upto_region 1 with (fail)
  generalize w.alloc (.cells #[.slice A n c, .int .i64 cap] 24) = w1 at *
  have KF := Kept.mk (first_any api w1)
  unfold Holds at KF
  go_wp2_with fail
  refine KF.out.mono ?_
  rintro e w2 ⟨rfl, b⟩
  replace X := Kept.mk (X.out.below b X.out.lt); replace B := Kept.mk (B.out.trans (b.mono B.out.size))
  have KL := Kept.mk (fewl_any (c := c) (d := d) (cap := cap) (HR.out.below B.out) hn (HO.out.below B.out) hm)
  unfold Req.FewPost at KL
  clear KF b
  have x0 := X.out.cell 0; have x1 := X.out.cell 1
  go_wp2_with fail
  refine KL.out.mono ?_
  rintro e w3 ⟨q, rfl, hq, b⟩
  replace X := Kept.mk (X.out.below b X.out.lt); replace B := Kept.mk (B.out.trans (b.mono B.out.size))
  have HQ := Kept.mk hq
  clear KL b hq x0 x1
  cases q with
  | false =>
    have KF := Kept.mk (first_any api w3)
    unfold Holds at KF
    go_wp2_with fail
    refine KF.out.mono ?_
    rintro e w4 ⟨rfl, b⟩
    replace B := Kept.mk (B.out.trans (b.mono B.out.size))
    clear KF b
    go_wp2
    go_ret
    exact ⟨rfl, B.out⟩
  | true =>
    have HQ2 := Kept.mk (HQ.out rfl)
    clear HQ
    go_upto_region 5 with (fail)
    have CS : ∀ {u : World}, Blk u N 24 #[.slice A n c, .int .i64 cap] → u.cell? ⟨N, 0, none⟩ = some (.slice A n c) ∧ u.cell? ⟨N, 1, none⟩ = some (.int .i64 cap) := fun h => ⟨h.cell 0, h.cell 1⟩
    refine wp_region_noPanic ?_
    refine wp_region_held_drew (S := fun w' : World => w'.cell? ⟨N, 0, none⟩ = some (.slice A n c) ∧ w'.cell? ⟨N, 1, none⟩ = some (.int .i64 cap)) (by kernel_rfl) (CS X.out.drew) (fun _ => ?_)
    replace X := Kept.mk X.out.drew; replace B := Kept.mk B.out.drew
    generalize w3.drew = w4 at *
    refine wpAnyH_take (i := 1) (oi := ?o1) (v := ?v1) ?hi1 (by kernel_rfl) (by kernel_rfl) (by kernel_rfl) ?hq1 (Or.inl ⟨?hw1, ?hy1⟩) (by assumption) ?r1
    case hi1 => (simp only [List.getElem?_toArray]; exact rfl)
    case hq1 => exact fun _ _ _ h => h
    case hw1 => rfl
    case hy1 => (intro w hSw; (try dsimp only at hSw); go_simp; try exact rfl)
    simp only [Act.put, List.setIfInBounds_toArray, List.set_cons_zero, List.set_cons_succ]
    refine wpAnyH_ready (rs := [0]) (by kernel_rfl) (by simp) ?_
    refine AllReadyH.cons (o := ?o107) ?hi107 (fun K hK => ?_) AllReadyH.nil
    case hi107 => (simp only [List.getElem?_toArray]; exact rfl)
    go_simp
    go_at_call 10
    refine (newtab_any _).mono ?_
    rintro e w5 ⟨t, rfl, hf, b, ht⟩
    have NT : Kept (N ≠ t) := ⟨by have := X.out.lt; omega⟩
    replace X := Kept.mk (X.out.below b X.out.lt)
    have NL : Kept (N < w5.heap.size) := ⟨X.out.lt⟩
    have HT : Kept (w.heap.size ≤ t) := ⟨Nat.le_trans B.out.size ht⟩
    replace B := Kept.mk (B.out.trans (b.mono B.out.size))
    refine hK.out _ _ (CS X.out) (fun _ => ?_)
    have KN := Kept.mk (api.new (c := c) cap (.inl hf) (HR.out.below B.out))
    unfold NewLPost at KN
    clear hK K b ht hf
    refine wpAnyH_ready (rs := [2]) (by kernel_rfl) (by simp) ?_
    refine AllReadyH.cons (o := ?o108) ?hi108 (fun K hK => ?_) AllReadyH.nil
    case hi108 => (simp only [List.getElem?_toArray]; exact rfl)
    go_simp
    go_at_call 16
    refine KN.out.mono ?_
    rintro e w6 (⟨hno, rfl, b⟩ | ⟨hc, x, F, rfl, hk, b, hF⟩)
    · replace X := Kept.mk (X.out.below b X.out.lt)
      have HNC := Kept.mk hno
      replace B := Kept.mk (B.out.trans (b.mono B.out.size))
      refine hK.out _ _ (CS X.out) (fun _ => ?_)
      clear hK K KN b hno
      refine wpAnyH_take (i := 3) (oi := ?o2) (v := ?v2) ?hi2 (by kernel_rfl) (by kernel_rfl) (by kernel_rfl) ?hq2 (Or.inl ⟨?hw2, ?hy2⟩) (by assumption) ?r2
      case hi2 => (simp only [List.getElem?_toArray]; exact rfl)
      case hq2 => exact fun _ _ _ h => h
      case hw2 => rfl
      case hy2 => (intro w hSw; (try dsimp only at hSw); go_simp; try exact rfl)
      simp only [Act.put, List.setIfInBounds_toArray, List.set_cons_zero, List.set_cons_succ]
      refine wpAnyH_take (i := 4) (oi := ?o3) (v := ?v3) ?hi3 (by kernel_rfl) (by kernel_rfl) (by kernel_rfl) ?hq3 (Or.inl ⟨?hw3, ?hy3⟩) (by assumption) ?r3
      case hi3 => (simp only [List.getElem?_toArray]; exact rfl)
      case hq3 => exact fun _ _ _ h => h
      case hw3 => rfl
      case hy3 => (intro w hSw; (try dsimp only at hSw); go_simp; try exact rfl)
      simp only [Act.put, List.setIfInBounds_toArray, List.set_cons_zero, List.set_cons_succ]
      refine wpAnyH_take (i := 5) (oi := ?o4) (v := ?v4) ?hi4 (by kernel_rfl) (by kernel_rfl) (by kernel_rfl) ?hq4 (Or.inl ⟨?hw4, ?hy4⟩) (by assumption) ?r4
      case hi4 => (simp only [List.getElem?_toArray]; exact rfl)
      case hq4 => exact fun _ _ _ h => h
      case hw4 => rfl
      case hy4 => (intro w hSw; (try dsimp only at hSw); go_simp; try exact rfl)
      simp only [Act.put, List.setIfInBounds_toArray, List.set_cons_zero, List.set_cons_succ]
      refine wpAnyH_take (i := 6) (oi := ?o5) (v := ?v5) ?hi5 (by kernel_rfl) (by kernel_rfl) (by kernel_rfl) ?hq5 (Or.inl ⟨?hw5, ?hy5⟩) (by assumption) ?r5
      case hi5 => (simp only [List.getElem?_toArray]; exact rfl)
      case hq5 => exact fun _ _ _ h => h
      case hw5 => rfl
      case hy5 => (intro w hSw; (try dsimp only at hSw); go_simp; try exact rfl)
      simp only [Act.put, List.setIfInBounds_toArray, List.set_cons_zero, List.set_cons_succ]
      refine wpAnyH_take (i := 7) (oi := ?o6) (v := ?v6) ?hi6 (by kernel_rfl) (by kernel_rfl) (by kernel_rfl) ?hq6 (Or.inl ⟨?hw6, ?hy6⟩) (by assumption) ?r6
      case hi6 => (simp only [List.getElem?_toArray]; exact rfl)
      case hq6 => exact fun _ _ _ h => h
      case hw6 => rfl
      case hy6 => (intro w hSw; (try dsimp only at hSw); go_simp; try exact rfl)
      simp only [Act.put, List.setIfInBounds_toArray, List.set_cons_zero, List.set_cons_succ]
      refine wpAnyH_done (by kernel_rfl) ?_ _
      refine NoPanic.normal ?_
      have KF := Kept.mk (first_any api w6)
      unfold Holds at KF
      go_wp2_with fail
      refine KF.out.mono ?_
      rintro e w7 ⟨rfl, b⟩
      replace B := Kept.mk (B.out.trans (b.mono B.out.size))
      clear KF b
      go_wp2
      go_ret
      exact ⟨rfl, B.out⟩
    · replace X := Kept.mk (X.out.below b X.out.lt)
      have L := Kept.mk (api.led hk (newL_wl hc) (newL_wi n X0 cap) HT.out (fun k hm => Nat.le_trans B.out.size (hF k hm)))
      have HC := Kept.mk hc
      have XN : Kept (N ∉ t :: F) := ⟨fun hm => by
        rcases List.mem_cons.1 hm with h | h
        · exact NT.out h
        · have := hF N h; have := NL.out; omega⟩
      replace B := Kept.mk (B.out.trans (b.mono B.out.size))
      refine hK.out _ _ (CS X.out) (fun _ => ?_)
      clear hK K KN b hk hF hc
      refine wpAnyH_take (i := 3) (oi := ?o7) (v := ?v7) ?hi7 (by kernel_rfl) (by kernel_rfl) (by kernel_rfl) ?hq7 (Or.inl ⟨?hw7, ?hy7⟩) (by assumption) ?r7
      case hi7 => (simp only [List.getElem?_toArray]; exact rfl)
      case hq7 => exact fun _ _ _ h => h
      case hw7 => rfl
      case hy7 => (intro w hSw; (try dsimp only at hSw); go_simp; try exact rfl)
      simp only [Act.put, List.setIfInBounds_toArray, List.set_cons_zero, List.set_cons_succ]
      refine wpAnyH_take (i := 4) (oi := ?o8) (v := ?v8) ?hi8 (by kernel_rfl) (by kernel_rfl) (by kernel_rfl) ?hq8 (Or.inl ⟨?hw8, ?hy8⟩) (by assumption) ?r8
      case hi8 => (simp only [List.getElem?_toArray]; exact rfl)
      case hq8 => exact fun _ _ _ h => h
      case hw8 => rfl
      case hy8 => (intro w hSw; (try dsimp only at hSw); go_simp; try exact rfl)
      simp only [Act.put, List.setIfInBounds_toArray, List.set_cons_zero, List.set_cons_succ]
      refine wpAnyH_take (i := 5) (oi := ?o9) (v := ?v9) ?hi9 (by kernel_rfl) (by kernel_rfl) (by kernel_rfl) ?hq9 (Or.inl ⟨?hw9, ?hy9⟩) (by assumption) ?r9
      case hi9 => (simp only [List.getElem?_toArray]; exact rfl)
      case hq9 => exact fun _ _ _ h => h
      case hw9 => rfl
      case hy9 => (intro w hSw; (try dsimp only at hSw); go_simp; try exact rfl)
      simp only [Act.put, List.setIfInBounds_toArray, List.set_cons_zero, List.set_cons_succ]
      refine wpAnyH_take (i := 6) (oi := ?o10) (v := ?v10) ?hi10 (by kernel_rfl) (by kernel_rfl) (by kernel_rfl) ?hq10 (Or.inl ⟨?hw10, ?hy10⟩) (by assumption) ?r10
      case hi10 => (simp only [List.getElem?_toArray]; exact rfl)
      case hq10 => exact fun _ _ _ h => h
      case hw10 => rfl
      case hy10 => (intro w hSw; (try dsimp only at hSw); go_simp; try exact rfl)
      simp only [Act.put, List.setIfInBounds_toArray, List.set_cons_zero, List.set_cons_succ]
      refine wpAnyH_take (i := 7) (oi := ?o11) (v := ?v11) ?hi11 (by kernel_rfl) (by kernel_rfl) (by kernel_rfl) ?hq11 (Or.inl ⟨?hw11, ?hy11⟩) (by assumption) ?r11
      case hi11 => (simp only [List.getElem?_toArray]; exact rfl)
      case hq11 => exact fun _ _ _ h => h
      case hw11 => rfl
      case hy11 => (intro w hSw; (try dsimp only at hSw); go_simp; try exact rfl)
      simp only [Act.put, List.setIfInBounds_toArray, List.set_cons_zero, List.set_cons_succ]
      refine wpAnyH_done (by kernel_rfl) ?_ _
      refine NoPanic.normal ?_
      go_wp2
      go_loopw [7, 8] (fun z i wr => ∃ (k : Nat) (F : List Nat) (s : LS), k ≤ m ∧ i = .int .i64 k ∧ z = .int .i64 (s.b.l.length : Nat) ∧ Kept (LedK Lk w.heap.size wr t F x s) ∧ Kept (Below w.heap.size w wr)) (fun _ i _ => m - (Go.RowKit.intOf i).toNat)
      case atStart => exact ⟨0, F, _, by omega, rfl, rfl, L, B⟩
      case round =>
        clear L B X HC
        obtain ⟨k, F, s, hk, rfl, rfl, L, B⟩ := hrel
        by_cases hkn : k < m
        · have hkn' : (k : Int) < m := by omega
          obtain ⟨g, o, party, clock, seen, ll, A', n', c', hA, hx, hop, co⟩ := op_at HO.out HQ2.out hkn
          subst hA
          have HOP := Kept.mk hop
          have CO := Kept.mk co
          clear hop hx co
          have KA := fun (u : World) (LL : LedK Lk w.heap.size u t F x s) (BB : Below w.heap.size w u) => api.applyOp HOP.out LL BB party clock seen
          have KS := applyL_keeps L.out.wl L.out.wi party clock ⟨seen, ll⟩ HOP.out.ok
          have hRP : (applyL s party clock ⟨seen, ll⟩).1.p = (manyL (clockL s clock) party (ll.take 64)).1 := rfl
          have hRS : (applyL s party clock ⟨seen, ll⟩).2 = (manyL (clockL s clock) party (ll.take 64)).2 := rfl
          obtain ⟨R, hRR⟩ : ∃ R, applyL s party clock ⟨seen, ll⟩ = R := ⟨_, rfl⟩
          rw [hRR] at KS hRP hRS
          rw [hRR] at KA
          obtain ⟨⟨rc, rs, rp, rv⟩, s2⟩ := R
          dsimp only at hRP hRS KS
          have HRP := Kept.mk hRP; have HRS := Kept.mk hRS; have HKS := Kept.mk KS.1
          have KA2 := Kept.mk KA
          unfold AfterPost at KA2
          dsimp only at KA2
          clear KA KS hRP hRS hRR
          go_upto_region 12 with (fail)
          go_cut [9] (fun p wx => ∃ (M : Nat) (F2 : List Nat) (A1 D1 : Option Addr) (n1 c1 m1 d1 : Nat), p = .pointer (some ⟨M, 0, none⟩) ∧ n1 ≤ c1 ∧ c1 ≤ 9223372036854775807 ∧ Kept (LedK Lk w.heap.size wx t F2 x s2) ∧ Kept (BlkK wx (t :: F2) M 59 #[.int .i64 rc, .int .i64 rs, .slice A1 n1 c1, .slice D1 m1 d1]) ∧ Kept (RowK pvC 2 wx (t :: F2) A1 n1 rp) ∧ Kept (Below w.heap.size w wx))
          case first =>
            have SS : ∀ {u : World}, Below w.heap.size w u → u.cell? ⟨g, o + k * 4, none⟩ = some (.int .i64 party) ∧ u.cell? ⟨g, o + k * 4 + 1, none⟩ = some (.int .i64 clock) ∧ u.cell? ⟨g, o + k * 4 + 2, none⟩ = some (.int .i64 seen) ∧ u.cell? ⟨g, o + k * 4 + 3, none⟩ = some (.slice A' n' c') := fun b => CO.out _ b
            refine wp_region_noPanic ?_
            refine wp_region_held_drew (S := fun u : World => u.cell? ⟨g, o + k * 4, none⟩ = some (.int .i64 party) ∧ u.cell? ⟨g, o + k * 4 + 1, none⟩ = some (.int .i64 clock) ∧ u.cell? ⟨g, o + k * 4 + 2, none⟩ = some (.int .i64 seen) ∧ u.cell? ⟨g, o + k * 4 + 3, none⟩ = some (.slice A' n' c')) (by kernel_rfl) (SS B.out.drew) (fun _ => ?_)
            have b : Below wr.heap.size wr wr.drew := below_drewN (Below.refl _ wr) 1
            replace L := Kept.mk (api.ledBelow L.out b); replace B := Kept.mk B.out.drew
            clear b
            generalize wr.drew = w1 at *
            refine wpAnyH_take (i := 0) (oi := ?o12) (v := ?v12) ?hi12 (by kernel_rfl) (by kernel_rfl) (by kernel_rfl) ?hq12 (Or.inl ⟨?hw12, ?hy12⟩) (by assumption) ?r12
            case hi12 => (simp only [List.getElem?_toArray]; exact rfl)
            case hq12 => exact fun _ _ _ h => h
            case hw12 => rfl
            case hy12 => (intro w hSw; (try dsimp only at hSw); go_simp; try exact rfl)
            simp only [Act.put, List.setIfInBounds_toArray, List.set_cons_zero, List.set_cons_succ]
            refine wpAnyH_take (i := 1) (oi := ?o13) (v := ?v13) ?hi13 (by kernel_rfl) (by kernel_rfl) (by kernel_rfl) ?hq13 (Or.inl ⟨?hw13, ?hy13⟩) (by assumption) ?r13
            case hi13 => (simp only [List.getElem?_toArray]; exact rfl)
            case hq13 => exact fun _ _ _ h => h
            case hw13 => rfl
            case hy13 => (intro w hSw; (try dsimp only at hSw); go_simp; try exact rfl)
            simp only [Act.put, List.setIfInBounds_toArray, List.set_cons_zero, List.set_cons_succ]
            refine wpAnyH_take (i := 2) (oi := ?o14) (v := ?v14) ?hi14 (by kernel_rfl) (by kernel_rfl) (by kernel_rfl) ?hq14 (Or.inl ⟨?hw14, ?hy14⟩) (by assumption) ?r14
            case hi14 => (simp only [List.getElem?_toArray]; exact rfl)
            case hq14 => exact fun _ _ _ h => h
            case hw14 => rfl
            case hy14 => (intro w hSw; (try dsimp only at hSw); go_simp; try exact rfl)
            simp only [Act.put, List.setIfInBounds_toArray, List.set_cons_zero, List.set_cons_succ]
            refine wpAnyH_take (i := 3) (oi := ?o15) (v := ?v15) ?hi15 (by kernel_rfl) (by kernel_rfl) (by kernel_rfl) ?hq15 (Or.inl ⟨?hw15, ?hy15⟩) (by assumption) ?r15
            case hi15 => (simp only [List.getElem?_toArray]; exact rfl)
            case hq15 => exact fun _ _ _ h => h
            case hw15 => rfl
            case hy15 => (intro w hSw; (try dsimp only at hSw); go_simp; try exact rfl)
            simp only [Act.put, List.setIfInBounds_toArray, List.set_cons_zero, List.set_cons_succ]
            refine wpAnyH_take (i := 4) (oi := ?o16) (v := ?v16) ?hi16 (by kernel_rfl) (by kernel_rfl) (by kernel_rfl) ?hq16 (Or.inl ⟨?hw16, ?hy16⟩) (by assumption) ?r16
            case hi16 => (simp only [List.getElem?_toArray]; exact rfl)
            case hq16 => exact fun _ _ _ h => h
            case hw16 => rfl
            case hy16 => (intro w hSw; (try dsimp only at hSw); go_simp; try exact rfl)
            simp only [Act.put, List.setIfInBounds_toArray, List.set_cons_zero, List.set_cons_succ]
            refine wpAnyH_take (i := 5) (oi := ?o17) (v := ?v17) ?hi17 (by kernel_rfl) (by kernel_rfl) (by kernel_rfl) ?hq17 (Or.inl ⟨?hw17, ?hy17⟩) (by assumption) ?r17
            case hi17 => (simp only [List.getElem?_toArray]; exact rfl)
            case hq17 => exact fun _ _ _ h => h
            case hw17 => rfl
            case hy17 => (intro w hSw; (try dsimp only at hSw); go_simp; try exact rfl)
            simp only [Act.put, List.setIfInBounds_toArray, List.set_cons_zero, List.set_cons_succ]
            refine wpAnyH_take (i := 6) (oi := ?o18) (v := ?v18) ?hi18 (by kernel_rfl) (by kernel_rfl) (by kernel_rfl) ?hq18 (Or.inl ⟨?hw18, ?hy18⟩) (by assumption) ?r18
            case hi18 => (simp only [List.getElem?_toArray]; exact rfl)
            case hq18 => exact fun _ _ _ h => h
            case hw18 => rfl
            case hy18 => (intro w hSw; (try dsimp only at hSw); go_simp; try exact rfl)
            simp only [Act.put, List.setIfInBounds_toArray, List.set_cons_zero, List.set_cons_succ]
            refine wpAnyH_take (i := 7) (oi := ?o19) (v := ?v19) ?hi19 (by kernel_rfl) (by kernel_rfl) (by kernel_rfl) ?hq19 (Or.inl ⟨?hw19, ?hy19⟩) (by assumption) ?r19
            case hi19 => (simp only [List.getElem?_toArray]; exact rfl)
            case hq19 => exact fun _ _ _ h => h
            case hw19 => rfl
            case hy19 => (intro w hSw; (try dsimp only at hSw); go_simp; try exact rfl)
            simp only [Act.put, List.setIfInBounds_toArray, List.set_cons_zero, List.set_cons_succ]
            refine wpAnyH_take (i := 8) (oi := ?o20) (v := ?v20) ?hi20 (by kernel_rfl) (by kernel_rfl) (by kernel_rfl) ?hq20 (Or.inl ⟨?hw20, ?hy20⟩) (by assumption) ?r20
            case hi20 => (simp only [List.getElem?_toArray]; exact rfl)
            case hq20 => exact fun _ _ _ h => h
            case hw20 => rfl
            case hy20 => (intro w hSw; (try dsimp only at hSw); go_simp; try exact rfl)
            simp only [Act.put, List.setIfInBounds_toArray, List.set_cons_zero, List.set_cons_succ]
            refine wpAnyH_take (i := 9) (oi := ?o21) (v := ?v21) ?hi21 (by kernel_rfl) (by kernel_rfl) (by kernel_rfl) ?hq21 (Or.inl ⟨?hw21, ?hy21⟩) (by assumption) ?r21
            case hi21 => (simp only [List.getElem?_toArray]; exact rfl)
            case hq21 => exact fun _ _ _ h => h
            case hw21 => rfl
            case hy21 => (intro w hSw; (try dsimp only at hSw); go_simp; try exact rfl)
            simp only [Act.put, List.setIfInBounds_toArray, List.set_cons_zero, List.set_cons_succ]
            refine wpAnyH_take (i := 10) (oi := ?o22) (v := ?v22) ?hi22 (by kernel_rfl) (by kernel_rfl) (by kernel_rfl) ?hq22 (Or.inl ⟨?hw22, ?hy22⟩) (by assumption) ?r22
            case hi22 => (simp only [List.getElem?_toArray]; exact rfl)
            case hq22 => exact fun _ _ _ h => h
            case hw22 => rfl
            case hy22 => (intro w hSw; (try dsimp only at hSw); go_simp; try exact rfl)
            simp only [Act.put, List.setIfInBounds_toArray, List.set_cons_zero, List.set_cons_succ]
            refine wpAnyH_take (i := 11) (oi := ?o23) (v := ?v23) ?hi23 (by kernel_rfl) (by kernel_rfl) (by kernel_rfl) ?hq23 (Or.inl ⟨?hw23, ?hy23⟩) (by assumption) ?r23
            case hi23 => (simp only [List.getElem?_toArray]; exact rfl)
            case hq23 => exact fun _ _ _ h => h
            case hw23 => rfl
            case hy23 => (intro w hSw; (try dsimp only at hSw); go_simp; try exact rfl)
            simp only [Act.put, List.setIfInBounds_toArray, List.set_cons_zero, List.set_cons_succ]
            refine wpAnyH_take (i := 12) (oi := ?o24) (v := ?v24) ?hi24 (by kernel_rfl) (by kernel_rfl) (by kernel_rfl) ?hq24 (Or.inl ⟨?hw24, ?hy24⟩) (by assumption) ?r24
            case hi24 => (simp only [List.getElem?_toArray]; exact rfl)
            case hq24 => exact fun _ _ _ h => h
            case hw24 => rfl
            case hy24 => (intro w hSw; (try dsimp only at hSw); go_simp; try exact rfl)
            simp only [Act.put, List.setIfInBounds_toArray, List.set_cons_zero, List.set_cons_succ]
            refine wpAnyH_take (i := 13) (oi := ?o25) (v := ?v25) ?hi25 (by kernel_rfl) (by kernel_rfl) (by kernel_rfl) ?hq25 (Or.inl ⟨?hw25, ?hy25⟩) (by assumption) ?r25
            case hi25 => (simp only [List.getElem?_toArray]; exact rfl)
            case hq25 => exact fun _ _ _ h => h
            case hw25 => rfl
            case hy25 => (intro w hSw; (try dsimp only at hSw); go_simp; try exact rfl)
            simp only [Act.put, List.setIfInBounds_toArray, List.set_cons_zero, List.set_cons_succ]
            refine wpAnyH_take (i := 14) (oi := ?o26) (v := ?v26) ?hi26 (by kernel_rfl) (by kernel_rfl) (by kernel_rfl) ?hq26 (Or.inl ⟨?hw26, ?hy26⟩) (by assumption) ?r26
            case hi26 => (simp only [List.getElem?_toArray]; exact rfl)
            case hq26 => exact fun _ _ _ h => h
            case hw26 => rfl
            case hy26 => (intro w hSw; (try dsimp only at hSw); go_simp; try exact rfl)
            simp only [Act.put, List.setIfInBounds_toArray, List.set_cons_zero, List.set_cons_succ]
            refine wpAnyH_take (i := 15) (oi := ?o27) (v := ?v27) ?hi27 (by kernel_rfl) (by kernel_rfl) (by kernel_rfl) ?hq27 (Or.inl ⟨?hw27, ?hy27⟩) (by assumption) ?r27
            case hi27 => (simp only [List.getElem?_toArray]; exact rfl)
            case hq27 => exact fun _ _ _ h => h
            case hw27 => rfl
            case hy27 => (intro w hSw; (try dsimp only at hSw); go_simp; try exact rfl)
            simp only [Act.put, List.setIfInBounds_toArray, List.set_cons_zero, List.set_cons_succ]
            refine wpAnyH_ready (rs := [16, 17]) (by kernel_rfl) (by simp) ?_
            refine AllReadyH.cons (o := ?o105) ?hi105 (fun K hK => ?_) (AllReadyH.cons (o := ?o106) ?hi106 (fun K hK => ?_) AllReadyH.nil)
            case hi105 => (simp only [List.getElem?_toArray]; exact rfl)
            case hi106 => (simp only [List.getElem?_toArray]; exact rfl)
            · go_simp
              have KA3 := Kept.mk (KA2.out w1 L.out B.out)
              go_at_call 22
              refine KA3.out.mono ?_
              rintro e w3 ⟨F2, A1, n1, c1, D1, m1, d1, rfl, g1, g2, g3, g4, hp, hv, hL, hb, hF, bb, nA, nD⟩
              replace L := Kept.mk hL; have RP := Kept.mk hp; replace B := Kept.mk (B.out.trans bb)
              refine hK.out _ _ (SS B.out) (fun _ => ?_)
              clear hK K KA3 hp hv hL hb hF bb nA nD
              try simp only [Act.put, List.setIfInBounds_toArray, List.set_cons_zero, List.set_cons_succ]
              refine wpAnyH_ready (rs := [17]) (by kernel_rfl) (by simp) ?_
              refine AllReadyH.cons (o := ?o109) ?hi109 (fun K hK => ?_) AllReadyH.nil
              case hi109 => (simp only [List.getElem?_toArray]; exact rfl)
              go_simp
              have bb : Below w3.heap.size w3 (w3.alloc (.cells #[.int .i64 0, .int .i64 0, .slice none 0 0, .slice none 0 0] 59)) := (Below.refl _ _).alloc (Nat.le_refl _) _
              obtain ⟨M, hM⟩ : ∃ M, w3.heap.size = M := ⟨_, rfl⟩
              rw [hM]
              have Z := Kept.mk (BlkK.new (w := w3) 59 #[.int .i64 0, .int .i64 0, .slice none 0 0, .slice none 0 0] M hM.symm L.out.lt)
              have MW : Kept (w.heap.size ≤ M) := ⟨by rw [← hM]; exact B.out.size⟩
              have NA : Kept (n1 = 0 ∨ ∀ b' o', A1 = some ⟨b', o', none⟩ → M ≠ b') := ⟨by
                rcases RP.out.away with h0 | ⟨b2, o2, he, h1, h2⟩
                · exact .inl h0
                · refine .inr (fun b' o' hh e => ?_)
                  rw [he] at hh; injection hh with hh; injection hh with e1 e2; omega⟩
              replace L := Kept.mk (api.ledBelow L.out bb); replace B := Kept.mk (B.out.trans (bb.mono B.out.size))
              replace RP := Kept.mk (RP.out.below bb)
              refine hK.out _ _ (SS B.out) (fun _ => ?_)
              clear hK K bb
              try simp only [Act.put, List.setIfInBounds_toArray, List.set_cons_zero, List.set_cons_succ]
              generalize (w3.alloc (.cells #[.int .i64 0, .int .i64 0, .slice none 0 0, .slice none 0 0] 59)) = w4 at *
              have y0 : w4.cell? ⟨M, 0, none⟩ = some (.int .i64 0) := Z.out.blk.cell 0; have z0 := Z.out.blk.frozen 0; have y1 : w4.cell? ⟨M, 1, none⟩ = some (.int .i64 0) := Z.out.blk.cell 1; have z1 := Z.out.blk.frozen 1; have y2 : w4.cell? ⟨M, 2, none⟩ = some (.slice none 0 0) := Z.out.blk.cell 2; have z2 := Z.out.blk.frozen 2; have y3 : w4.cell? ⟨M, 3, none⟩ = some (.slice none 0 0) := Z.out.blk.cell 3; have z3 := Z.out.blk.frozen 3
              have PP := Kept.mk (put4 Z.out.blk (.int .i64 rc) (.int .i64 rs) (.slice A1 n1 c1) (.slice D1 m1 d1))
              have ZA := Kept.mk Z.out.away
              refine wpAnyH_ready (rs := [18]) (by kernel_rfl) (by simp) ?_
              refine AllReadyH.cons (o := ?o110) ?hi110 (fun K hK => ?_) AllReadyH.nil
              case hi110 => (simp only [List.getElem?_toArray]; exact rfl)
              go_simp
              have L4 : Kept (LedK Lk w.heap.size ((((w4.setCell ⟨M, 0, none⟩ (.int .i64 rc)).setCell ⟨M, 1, none⟩ (.int .i64 rs)).setCell ⟨M, 2, none⟩ (.slice A1 n1 c1)).setCell ⟨M, 3, none⟩ (.slice D1 m1 d1)) t F2 x s2) := ⟨api.led (api.keep L.out.lk PP.out.2 (fun z hz hm => by rw [List.mem_singleton] at hm; subst hm; exact ZA.out (List.mem_cons_of_mem _ hz)) (tab_put (api.lts L.out.lk).2.2 PP.out.2 (fun e => ZA.out (e ▸ List.mem_cons_self ..)))) L.out.wl L.out.wi (L.out.new _ (List.mem_cons_self ..)) (fun z hz => L.out.new z (List.mem_cons_of_mem _ hz))⟩
              have Z4 : Kept (BlkK ((((w4.setCell ⟨M, 0, none⟩ (.int .i64 rc)).setCell ⟨M, 1, none⟩ (.int .i64 rs)).setCell ⟨M, 2, none⟩ (.slice A1 n1 c1)).setCell ⟨M, 3, none⟩ (.slice D1 m1 d1)) (t :: F2) M 59 #[.int .i64 rc, .int .i64 rs, .slice A1 n1 c1, .slice D1 m1 d1]) := ⟨PP.out.1, ZA.out⟩
              have RP4 : Kept (RowK pvC 2 ((((w4.setCell ⟨M, 0, none⟩ (.int .i64 rc)).setCell ⟨M, 1, none⟩ (.int .i64 rs)).setCell ⟨M, 2, none⟩ (.slice A1 n1 c1)).setCell ⟨M, 3, none⟩ (.slice D1 m1 d1)) (t :: F2) A1 n1 rp) := ⟨rowk_put RP.out PP.out.2 NA.out⟩
              have B4 : Kept (Below w.heap.size w ((((w4.setCell ⟨M, 0, none⟩ (.int .i64 rc)).setCell ⟨M, 1, none⟩ (.int .i64 rs)).setCell ⟨M, 2, none⟩ (.slice A1 n1 c1)).setCell ⟨M, 3, none⟩ (.slice D1 m1 d1))) := ⟨B.out.trans (PP.out.2.below B.out.size (by simpa using MW.out))⟩
              clear y0 z0 y1 z1 y2 z2 y3 z3 PP L RP B Z
              generalize ((((w4.setCell ⟨M, 0, none⟩ (.int .i64 rc)).setCell ⟨M, 1, none⟩ (.int .i64 rs)).setCell ⟨M, 2, none⟩ (.slice A1 n1 c1)).setCell ⟨M, 3, none⟩ (.slice D1 m1 d1)) = w5 at *
              refine hK.out _ _ (SS B4.out) (fun _ => ?_)
              clear hK K
              try simp only [Act.put, List.setIfInBounds_toArray, List.set_cons_zero, List.set_cons_succ]
              refine wpAnyH_done (by kernel_rfl) ?_ _
              refine NoPanic.normal ?_
              go_wp2
              go_meet
              case rel => exact ⟨M, F2, A1, D1, n1, c1, m1, d1, rfl, g1, g2, L4, Z4, RP4, B4⟩
            · go_simp
              have bb : Below w1.heap.size w1 (w1.alloc (.cells #[.int .i64 0, .int .i64 0, .slice none 0 0, .slice none 0 0] 59)) := (Below.refl _ _).alloc (Nat.le_refl _) _
              obtain ⟨M, hM⟩ : ∃ M, w1.heap.size = M := ⟨_, rfl⟩
              rw [hM]
              have Z := Kept.mk (BlkK.new (w := w1) 59 #[.int .i64 0, .int .i64 0, .slice none 0 0, .slice none 0 0] M hM.symm L.out.lt)
              have MW : Kept (w.heap.size ≤ M) := ⟨by rw [← hM]; exact B.out.size⟩
              replace L := Kept.mk (api.ledBelow L.out bb); replace B := Kept.mk (B.out.trans (bb.mono B.out.size))
              refine hK.out _ _ (SS B.out) (fun _ => ?_)
              clear hK K bb
              try simp only [Act.put, List.setIfInBounds_toArray, List.set_cons_zero, List.set_cons_succ]
              generalize (w1.alloc (.cells #[.int .i64 0, .int .i64 0, .slice none 0 0, .slice none 0 0] 59)) = w3 at *
              refine wpAnyH_ready (rs := [16]) (by kernel_rfl) (by simp) ?_
              refine AllReadyH.cons (o := ?o111) ?hi111 (fun K hK => ?_) AllReadyH.nil
              case hi111 => (simp only [List.getElem?_toArray]; exact rfl)
              go_simp
              have KA3 := Kept.mk (KA2.out w3 L.out B.out)
              go_at_call 22
              refine KA3.out.mono ?_
              rintro e w4 ⟨F2, A1, n1, c1, D1, m1, d1, rfl, g1, g2, g3, g4, hp, hv, hL, hb, hF, bb, nA, nD⟩
              replace L := Kept.mk hL; have RP := Kept.mk hp; replace B := Kept.mk (B.out.trans bb)
              have NA : Kept (n1 = 0 ∨ ∀ b' o', A1 = some ⟨b', o', none⟩ → M ≠ b') := ⟨.inr (fun b' o' hh e => by have h1 := (nA b' o' hh).1; have h2 := Z.out.blk.lt; omega)⟩
              replace Z := Kept.mk (Z.out.step hb hF)
              refine hK.out _ _ (SS B.out) (fun _ => ?_)
              clear hK K KA3 hp hv hL hb hF bb nA nD
              try simp only [Act.put, List.setIfInBounds_toArray, List.set_cons_zero, List.set_cons_succ]
              have y0 : w4.cell? ⟨M, 0, none⟩ = some (.int .i64 0) := Z.out.blk.cell 0; have z0 := Z.out.blk.frozen 0; have y1 : w4.cell? ⟨M, 1, none⟩ = some (.int .i64 0) := Z.out.blk.cell 1; have z1 := Z.out.blk.frozen 1; have y2 : w4.cell? ⟨M, 2, none⟩ = some (.slice none 0 0) := Z.out.blk.cell 2; have z2 := Z.out.blk.frozen 2; have y3 : w4.cell? ⟨M, 3, none⟩ = some (.slice none 0 0) := Z.out.blk.cell 3; have z3 := Z.out.blk.frozen 3
              have PP := Kept.mk (put4 Z.out.blk (.int .i64 rc) (.int .i64 rs) (.slice A1 n1 c1) (.slice D1 m1 d1))
              have ZA := Kept.mk Z.out.away
              refine wpAnyH_ready (rs := [18]) (by kernel_rfl) (by simp) ?_
              refine AllReadyH.cons (o := ?o112) ?hi112 (fun K hK => ?_) AllReadyH.nil
              case hi112 => (simp only [List.getElem?_toArray]; exact rfl)
              go_simp
              have L4 : Kept (LedK Lk w.heap.size ((((w4.setCell ⟨M, 0, none⟩ (.int .i64 rc)).setCell ⟨M, 1, none⟩ (.int .i64 rs)).setCell ⟨M, 2, none⟩ (.slice A1 n1 c1)).setCell ⟨M, 3, none⟩ (.slice D1 m1 d1)) t F2 x s2) := ⟨api.led (api.keep L.out.lk PP.out.2 (fun z hz hm => by rw [List.mem_singleton] at hm; subst hm; exact ZA.out (List.mem_cons_of_mem _ hz)) (tab_put (api.lts L.out.lk).2.2 PP.out.2 (fun e => ZA.out (e ▸ List.mem_cons_self ..)))) L.out.wl L.out.wi (L.out.new _ (List.mem_cons_self ..)) (fun z hz => L.out.new z (List.mem_cons_of_mem _ hz))⟩
              have Z4 : Kept (BlkK ((((w4.setCell ⟨M, 0, none⟩ (.int .i64 rc)).setCell ⟨M, 1, none⟩ (.int .i64 rs)).setCell ⟨M, 2, none⟩ (.slice A1 n1 c1)).setCell ⟨M, 3, none⟩ (.slice D1 m1 d1)) (t :: F2) M 59 #[.int .i64 rc, .int .i64 rs, .slice A1 n1 c1, .slice D1 m1 d1]) := ⟨PP.out.1, ZA.out⟩
              have RP4 : Kept (RowK pvC 2 ((((w4.setCell ⟨M, 0, none⟩ (.int .i64 rc)).setCell ⟨M, 1, none⟩ (.int .i64 rs)).setCell ⟨M, 2, none⟩ (.slice A1 n1 c1)).setCell ⟨M, 3, none⟩ (.slice D1 m1 d1)) (t :: F2) A1 n1 rp) := ⟨rowk_put RP.out PP.out.2 NA.out⟩
              have B4 : Kept (Below w.heap.size w ((((w4.setCell ⟨M, 0, none⟩ (.int .i64 rc)).setCell ⟨M, 1, none⟩ (.int .i64 rs)).setCell ⟨M, 2, none⟩ (.slice A1 n1 c1)).setCell ⟨M, 3, none⟩ (.slice D1 m1 d1))) := ⟨B.out.trans (PP.out.2.below B.out.size (by simpa using MW.out))⟩
              clear y0 z0 y1 z1 y2 z2 y3 z3 PP L RP B Z
              generalize ((((w4.setCell ⟨M, 0, none⟩ (.int .i64 rc)).setCell ⟨M, 1, none⟩ (.int .i64 rs)).setCell ⟨M, 2, none⟩ (.slice A1 n1 c1)).setCell ⟨M, 3, none⟩ (.slice D1 m1 d1)) = w5 at *
              refine hK.out _ _ (SS B4.out) (fun _ => ?_)
              clear hK K
              try simp only [Act.put, List.setIfInBounds_toArray, List.set_cons_zero, List.set_cons_succ]
              refine wpAnyH_done (by kernel_rfl) ?_ _
              refine NoPanic.normal ?_
              go_wp2
              go_meet
              case rel => exact ⟨M, F2, A1, D1, n1, c1, m1, d1, rfl, g1, g2, L4, Z4, RP4, B4⟩
          case rest =>
          have L0 := L
          clear L B
          obtain ⟨M, F2, A1, D1, n1, c1, m1, d1, rfl, g1, g2, L, XA, RP, B⟩ := hcut
          generalize wc = w5 at *
          have HN1 : Kept (rp.length = n1) := ⟨RP.out.rc.1⟩
          have HL' : Kept (ll.length = n') := ⟨HOP.out.rr.1⟩
          have hn1 : n1 ≤ n' ∧ n1 ≤ 64 ∧ (n1 = n' ∨ n1 = 64) := by
            have h1 := HN1.out; have h2 := HL'.out; have h3 := HRP.out
            have h4 := manyL_len (clockL s clock) party (ll.take 64)
            rw [← h3, List.length_take] at h4
            omega
          have hn100 := HOP.out.n100
          have HTK : Kept ((ll.take 64).take n1 = ll.take 64) := ⟨List.take_of_length_le (by rw [List.length_take, HL'.out]; omega)⟩
          have HY0 : Kept ((manyL (clockL s clock) party ((ll.take 64).take 0)).2.b.l.length = s.b.l.length) := ⟨by
            show (clockL s clock).b.l.length = _
            rw [clockL_b]⟩
          go_wp2
          go_loopw [7, 10] (fun z q wr => ∃ (j y : Nat), j ≤ n1 ∧ q = .int .i64 j ∧ z = .int .i64 y ∧ Kept ((manyL (clockL s clock) party ((ll.take 64).take j)).2.b.l.length = y) ∧ Kept (LedK Lk w.heap.size wr t F2 x s2) ∧ Kept (BlkK wr (t :: F2) M 59 #[.int .i64 rc, .int .i64 rs, .slice A1 n1 c1, .slice D1 m1 d1]) ∧ Kept (RowK pvC 2 wr (t :: F2) A1 n1 rp) ∧ Kept (Below w.heap.size w wr)) (fun _ q _ => n1 - (Go.RowKit.intOf q).toNat)
          case atStart => exact ⟨0, _, by omega, rfl, rfl, HY0, L, XA, RP, B⟩
          case round =>
            clear HY0 L XA RP B
            obtain ⟨j, y, hj, rfl, rfl, HY, L, XA, RP, B⟩ := hrel
            have x2 := XA.out.blk.cell 2
            obtain ⟨v0, v1, v2, v3⟩ := CO.out _ B.out
            by_cases hjn : j < n1
            · have hjn1 : (j : Int) < n1 := by omega
              have hjn2 : (j : Int) < n' := by omega
              obtain ⟨bp, op, pr, hA1, hpx, hpc⟩ := RP.out.rc.at_ hjn
              subst hA1
              obtain ⟨bq, oq, rq, hA', hqx, hqc⟩ := (HOP.out.rr.below B.out).at_ (k := j) (by omega)
              subst hA'
              have hrq : (ll.take 64)[j]? = some rq := by rw [List.getElem?_take, if_pos (by omega), hqx]
              have hpo : pr = (oneL (manyL (clockL s clock) party ((ll.take 64).take j)).2 party rq).1 := by
                have h1 := manyL_at (s := clockL s clock) (party := party) hrq
                rw [← HRP.out, hpx] at h1
                injection h1
              have hnx := manyL_take (s := clockL s clock) (party := party) hrq
              have hkp := (manyL_keeps (clockL_wl L0.out.wl clock) (clockL_wi L0.out.wi clock) party ((ll.take 64).take j) (fun r hr => HOP.out.ok r (List.mem_of_mem_take (List.mem_of_mem_take hr)))).1
              have hid := oneL_id hkp.wl (party := party) (r := rq) (HOP.out.ok rq (List.mem_of_getElem? hqx))
              rw [← hpo, ← hnx, HY.out] at hid
              have hyb : y ≤ 400 := by have h1 := hkp.wl.locks; have h2 := hkp.wl.len; rw [HY.out] at h1; omega
              obtain ⟨kind, dst, asset, amount, rid, due, hash, sec⟩ := rq
              obtain ⟨pcode, pid⟩ := pr
              have u0 := hpc 0 _ rfl; have u1 := hpc 1 _ rfl; have k0 := hqc 0 _ rfl
              rw [Nat.add_zero] at u0 k0
              dsimp only at hid u0 u1 k0
              have HID := Kept.mk hid
              have KCELL : Kept (∀ u, Below wr.heap.size wr u → u.cell? ⟨bq, oq + j * 8, none⟩ = some (.int .i64 kind)) := ⟨fun u bb => by rw [bb.cell (World.block_lt_of_cell? _ _ k0)]; exact k0⟩
              clear hid hpo hnx hkp hrq hqx hqc hpx hpc k0
              have b : Below wr.heap.size wr (wr.alloc (.cells #[.int .i64 pcode, .int .i64 pid] 63)) := (Below.refl _ _).alloc (Nat.le_refl _) _
              obtain ⟨N6, hN6⟩ : ∃ N6, wr.heap.size = N6 := ⟨_, rfl⟩
              have X6 : Kept (Blk (wr.alloc (.cells #[.int .i64 pcode, .int .i64 pid] 63)) N6 63 #[.int .i64 pcode, .int .i64 pid]) := ⟨Blk.new_at _ _ _ N6 hN6.symm⟩
              go_upto_region 17 with (fail)
              have k0 := KCELL.out _ b
              replace L := Kept.mk (api.ledBelow L.out b); replace RP := Kept.mk (RP.out.below b); replace XA := Kept.mk (XA.out.below b); replace B := Kept.mk (B.out.trans (b.mono B.out.size))
              clear b x2 v0 v1 v2 v3 u0 u1
              generalize (wr.alloc (.cells #[.int .i64 pcode, .int .i64 pid] 63)) = w6 at *
              obtain ⟨v0, v1, v2, v3⟩ := CO.out _ B.out
              have p0 := X6.out.cell 0; have p1 := X6.out.cell 1
              by_cases hk2 : kind = 2
              · by_cases hc0 : pcode = 0
                · as_aux_lemma =>
                  obtain ⟨h1, h2⟩ := HID.out.1 ⟨hk2, hc0⟩
                  subst hk2 hc0 h1
                  have HY2 := Kept.mk h2
                  clear h2 HID
                  go_wp2
                  go_roundw
                  case rel => exact ⟨j + 1, y + 1, by omega, by go_num, by go_num, HY2, L, XA, RP, B⟩
                  case measure => simp [Go.RowKit.intOf]; omega
                · as_aux_lemma =>
                  obtain ⟨h1, h2⟩ := HID.out.2 (fun h => hc0 h.2)
                  have hd0 : (pcode == 0) = false := beq_eq_false_iff_ne.2 hc0
                  subst hk2 h1
                  have HY2 := Kept.mk h2
                  clear h2 HID
                  go_wp2
                  go_roundw
                  case rel => exact ⟨j + 1, y, by omega, by go_num, by go_num, HY2, L, XA, RP, B⟩
                  case measure => simp [Go.RowKit.intOf]; omega
              · as_aux_lemma =>
                obtain ⟨h1, h2⟩ := HID.out.2 (fun h => hk2 h.1)
                have hd2 : (kind == 2) = false := beq_eq_false_iff_ne.2 hk2
                subst h1
                have HY2 := Kept.mk h2
                clear h2 HID
                go_wp2
                go_roundw
                case rel => exact ⟨j + 1, y, by omega, by go_num, by go_num, HY2, L, XA, RP, B⟩
                case measure => simp [Go.RowKit.intOf]; omega
            · have hjn' : ¬ (j : Int) < n1 := by omega
              obtain rfl : j = n1 := by omega
              have hy : y = s2.b.l.length := by
                have := HY.out
                rw [HTK.out, ← HRS.out] at this
                exact this.symm
              subst hy
              clear HY HTK HN1 RP XA
              go_wp2
              go_roundw
              case rel => exact ⟨k + 1, F2, s2, by omega, by go_num, by go_num, L, B⟩
              case measure => simp [Go.RowKit.intOf]; omega
        · have hkn' : ¬ (k : Int) < m := by omega
          have KE := Kept.mk (api.events L.out.lk L.out.wl)
          unfold EventsPost at KE
          go_wp2_with fail
          refine KE.out.mono ?_
          rintro e w7 ⟨A3, n3, c3, rfl, r1, r2, hv, hnew, b⟩
          have R3 := Kept.mk (RowK.fresh hv vvC_ne hnew L.out.lt)
          obtain rfl : n3 = s.e.length := by rw [hv.1.symm, evs_len]
          replace L := Kept.mk (api.ledBelow L.out b); replace B := Kept.mk (B.out.trans (b.mono B.out.size))
          clear KE hv hnew b
          have hlen := L.out.wl.len
          have b8 : Below w7.heap.size w7 (w7.alloc (.cells Tryz.zeroCells74 74)) := (Below.refl _ _).alloc (Nat.le_refl _) _
          obtain ⟨M8, hM8⟩ : ∃ M8, w7.heap.size = M8 := ⟨_, rfl⟩
          have XS : Kept (BlkK (w7.alloc (.cells Tryz.zeroCells74 74)) (t :: F) M8 74 (arr .i64 (stArr ((evs s).take 0)))) := ⟨by
            rw [List.take_zero, stArr_nil, ← zero500]
            exact BlkK.new _ _ M8 hM8.symm L.out.lt⟩
          have NA3 : Kept (s.e.length = 0 ∨ ∀ b' o', A3 = some ⟨b', o', none⟩ → M8 ≠ b') := ⟨by
            rcases R3.out.away with h0 | ⟨b2, o2, he, h1, h2⟩
            · exact .inl h0
            · refine .inr (fun b' o' hh e => ?_)
              rw [he] at hh; injection hh with hh; injection hh with e1 e2; omega⟩
          have MW8 : Kept (w.heap.size ≤ M8) := ⟨by rw [← hM8]; exact B.out.size⟩
          go_upto_region 26 with (fail)
          replace L := Kept.mk (api.ledBelow L.out b8); replace R3 := Kept.mk (R3.out.below b8); replace B := Kept.mk (B.out.trans (b8.mono B.out.size))
          clear b8
          generalize (w7.alloc (.cells Tryz.zeroCells74 74)) = w8 at *
          have HNO : Kept (nlock ((evs s).take 0) = 0) := ⟨rfl⟩
          go_wp2
          go_loopw [13, 15] (fun nv i wr => ∃ q y : Nat, q ≤ s.e.length ∧ i = .int .i64 q ∧ nv = .int .i64 y ∧ y ≤ q ∧ Kept (nlock ((evs s).take q) = y) ∧ Kept (LedK Lk w.heap.size wr t F x s) ∧ Kept (BlkK wr (t :: F) M8 74 (arr .i64 (stArr ((evs s).take q)))) ∧ Kept (RowK vvC 9 wr (t :: F) A3 s.e.length (evs s)) ∧ Kept (Below w.heap.size w wr)) (fun _ i _ => s.e.length - (Go.RowKit.intOf i).toNat)
          case atStart => exact ⟨0, 0, by omega, rfl, rfl, by omega, HNO, L, XS, R3, B⟩
          case round =>
            clear HNO L XS R3 B
            obtain ⟨q, y, hq, rfl, rfl, hyq, HY, L, XS, R3, B⟩ := hrel
            by_cases hqn : q < s.e.length
            · have hqn' : (q : Int) < s.e.length := by omega
              obtain ⟨b9, o9, v, hA3, hvx, -⟩ := R3.out.rc.at_ hqn
              subst hA3
              have hdue := L.out.wi.due q v hvx
              have hlk := L.out.wi.lock q v hvx
              have hlg := lock_get L.out.wi hvx
              have hcl := L.out.wi.close q v hvx
              have hnx := nlock_next hvx
              have htk := evs_next hvx
              rw [HY.out] at hlk hnx hcl
              obtain ⟨kind, src, dst, asset, amount, vid, due, hash, sec⟩ := v
              have y0 := rc_cell R3.out.rc hvx (j := 0) rfl; have y1 := rc_cell R3.out.rc hvx (j := 1) rfl; have y2 := rc_cell R3.out.rc hvx (j := 2) rfl; have y3 := rc_cell R3.out.rc hvx (j := 3) rfl; have y4 := rc_cell R3.out.rc hvx (j := 4) rfl; have y5 := rc_cell R3.out.rc hvx (j := 5) rfl; have y6 := rc_cell R3.out.rc hvx (j := 6) rfl; have y7 := rc_cell R3.out.rc hvx (j := 7) rfl; have y8 := rc_cell R3.out.rc hvx (j := 8) rfl
              rw [Nat.add_zero] at y0
              dsimp only at hlk hnx hlg hcl hdue y0 y1 y2 y3 y4 y5 y6 y7 y8
              have YC : Kept (∀ u, Below wr.heap.size wr u → (u.cell? ⟨b9, o9 + q * 9, none⟩ = some (.int .i64 kind) ∧ u.cell? ⟨b9, o9 + q * 9 + 1, none⟩ = some (.int .i64 src) ∧ u.cell? ⟨b9, o9 + q * 9 + 2, none⟩ = some (.int .i64 dst) ∧ u.cell? ⟨b9, o9 + q * 9 + 3, none⟩ = some (.int .i64 asset) ∧ u.cell? ⟨b9, o9 + q * 9 + 4, none⟩ = some (.int .i64 amount) ∧ u.cell? ⟨b9, o9 + q * 9 + 5, none⟩ = some (.int .i64 vid) ∧ u.cell? ⟨b9, o9 + q * 9 + 6, none⟩ = some (.int .i64 due) ∧ u.cell? ⟨b9, o9 + q * 9 + 7, none⟩ = some (.string (strOfNums hash)))) := ⟨fun u bb => by
                have fw : ∀ {j : Nat} {z : Value}, wr.cell? ⟨b9, j, none⟩ = some z → u.cell? ⟨b9, j, none⟩ = some z := fun hh => by rw [bb.cell (World.block_lt_of_cell? _ _ hh)]; exact hh
                exact ⟨fw y0, fw y1, fw y2, fw y3, fw y4, fw y5, fw y6, fw y7⟩⟩
              have HNX := Kept.mk hnx; have HTK := Kept.mk htk
              clear y1 y2 y3 y4 y6 y7 y8 hnx htk
              rcases hdue with rfl | rfl | rfl | rfl
              · as_aux_lemma =>
                have HY2 : Kept (nlock ((evs s).take (q + 1)) = y) := ⟨by rw [HNX.out, if_neg (by decide), Nat.add_zero]⟩
                have XS2 : Kept (BlkK wr (t :: F) M8 74 (arr .i64 (stArr ((evs s).take (q + 1))))) := ⟨by rw [HTK.out, stArr_same _ _ (by show (1 : Int) ≤ 2; decide)]; exact XS.out⟩
                clear hlk hlg hcl HNX HTK XS HY y5
                go_wp2
                go_roundw
                case rel => exact ⟨q + 1, y, by omega, by go_num, by go_num, by omega, HY2, L, XS2, R3, B⟩
                case measure => simp [Go.RowKit.intOf]; omega
              · as_aux_lemma =>
                obtain ⟨hid, h1, h2, h3, h4, h5, h6⟩ := hlk rfl
                have hge := hlg rfl
                subst hid
                have KG := api.escrow (y : Int) L.out.lk L.out.wl
                rw [hge] at KG
                rw [HY.out] at KG
                obtain ⟨ev, hev⟩ : ∃ ev, atE s.b.l y = ev := ⟨_, rfl⟩
                rw [hev] at h1 h2 h3 h4 h5 h6 KG
                obtain ⟨fs, fd, fa, fn, fu, ft, fh, fc⟩ := ev
                unfold GetPost evV at KG
                dsimp only at h1 h2 h3 h4 h5 h6 KG
                subst h1 h2 h3 h4 h5 h6
                have KG2 := Kept.mk KG
                have HY2 : Kept (nlock ((evs s).take (q + 1)) = y + 1) := ⟨by rw [HNX.out, if_pos rfl]⟩
                have XS2 : Kept (BlkK wr (t :: F) M8 74 (arr .i64 (stArr ((evs s).take (q + 1))))) := ⟨by rw [HTK.out, stArr_same _ _ (by show (2 : Int) ≤ 2; decide)]; exact XS.out⟩
                clear hlk hlg hcl HNX HTK XS HY hge hev KG y5
                go_wp2_with fail
                refine KG2.out.mono ?_
                rintro e w9 ⟨rfl, b⟩
                have YB := Kept.mk b
                replace L := Kept.mk (api.ledBelow L.out b); replace R3 := Kept.mk (R3.out.below b); replace XS2 := Kept.mk (XS2.out.below b); replace B := Kept.mk (B.out.trans (b.mono B.out.size))
                clear KG2 b y0
                have bx : Below w9.heap.size w9 (w9.alloc (.cells #[.int .i64 src, .int .i64 dst, .int .i64 asset, .int .i64 amount, .int .i64 due, .int .i64 ft, .string (strOfNums hash), .string (strOfNums fc)] 67)) := (Below.refl _ _).alloc (Nat.le_refl _) _
                obtain ⟨M16, hM16⟩ : ∃ M16, w9.heap.size = M16 := ⟨_, rfl⟩
                have X16 : Kept (Blk (w9.alloc (.cells #[.int .i64 src, .int .i64 dst, .int .i64 asset, .int .i64 amount, .int .i64 due, .int .i64 ft, .string (strOfNums hash), .string (strOfNums fc)] 67)) M16 67 #[.int .i64 src, .int .i64 dst, .int .i64 asset, .int .i64 amount, .int .i64 due, .int .i64 ft, .string (strOfNums hash), .string (strOfNums fc)]) := ⟨Blk.new_at _ _ _ M16 hM16.symm⟩
                replace YB := Kept.mk (YB.out.trans (bx.mono YB.out.size))
                replace L := Kept.mk (api.ledBelow L.out bx); replace R3 := Kept.mk (R3.out.below bx); replace XS2 := Kept.mk (XS2.out.below bx); replace B := Kept.mk (B.out.trans (bx.mono B.out.size))
                clear bx
                go_upto_region 32 with (fail)
                generalize (w9.alloc (.cells #[.int .i64 src, .int .i64 dst, .int .i64 asset, .int .i64 amount, .int .i64 due, .int .i64 ft, .string (strOfNums hash), .string (strOfNums fc)] 67)) = w10 at *
                have CT : ∀ {u : World}, Below wr.heap.size wr u → Blk u M16 67 #[.int .i64 src, .int .i64 dst, .int .i64 asset, .int .i64 amount, .int .i64 due, .int .i64 ft, .string (strOfNums hash), .string (strOfNums fc)] → u.cell? ⟨b9, o9 + q * 9 + 1, none⟩ = some (.int .i64 src) ∧ u.cell? ⟨b9, o9 + q * 9 + 2, none⟩ = some (.int .i64 dst) ∧ u.cell? ⟨b9, o9 + q * 9 + 3, none⟩ = some (.int .i64 asset) ∧ u.cell? ⟨b9, o9 + q * 9 + 4, none⟩ = some (.int .i64 amount) ∧ u.cell? ⟨b9, o9 + q * 9 + 5, none⟩ = some (.int .i64 (y : Nat)) ∧ u.cell? ⟨b9, o9 + q * 9 + 6, none⟩ = some (.int .i64 due) ∧ u.cell? ⟨b9, o9 + q * 9 + 7, none⟩ = some (.string (strOfNums hash)) ∧ u.cell? ⟨M16, 0, none⟩ = some (.int .i64 src) ∧ u.cell? ⟨M16, 1, none⟩ = some (.int .i64 dst) ∧ u.cell? ⟨M16, 2, none⟩ = some (.int .i64 asset) ∧ u.cell? ⟨M16, 3, none⟩ = some (.int .i64 amount) ∧ u.cell? ⟨M16, 4, none⟩ = some (.int .i64 due) ∧ u.cell? ⟨M16, 6, none⟩ = some (.string (strOfNums hash)) := fun h k => ⟨(YC.out _ h).2.1, (YC.out _ h).2.2.1, (YC.out _ h).2.2.2.1, (YC.out _ h).2.2.2.2.1, (YC.out _ h).2.2.2.2.2.1, (YC.out _ h).2.2.2.2.2.2.1, (YC.out _ h).2.2.2.2.2.2.2, k.cell 0, k.cell 1, k.cell 2, k.cell 3, k.cell 4, k.cell 6⟩
                have hqc := hqn'
                refine wp_region_noPanic ?_
                refine wp_region_held_drew (S := fun u : World => u.cell? ⟨b9, o9 + q * 9 + 1, none⟩ = some (.int .i64 src) ∧ u.cell? ⟨b9, o9 + q * 9 + 2, none⟩ = some (.int .i64 dst) ∧ u.cell? ⟨b9, o9 + q * 9 + 3, none⟩ = some (.int .i64 asset) ∧ u.cell? ⟨b9, o9 + q * 9 + 4, none⟩ = some (.int .i64 amount) ∧ u.cell? ⟨b9, o9 + q * 9 + 5, none⟩ = some (.int .i64 (y : Nat)) ∧ u.cell? ⟨b9, o9 + q * 9 + 6, none⟩ = some (.int .i64 due) ∧ u.cell? ⟨b9, o9 + q * 9 + 7, none⟩ = some (.string (strOfNums hash)) ∧ u.cell? ⟨M16, 0, none⟩ = some (.int .i64 src) ∧ u.cell? ⟨M16, 1, none⟩ = some (.int .i64 dst) ∧ u.cell? ⟨M16, 2, none⟩ = some (.int .i64 asset) ∧ u.cell? ⟨M16, 3, none⟩ = some (.int .i64 amount) ∧ u.cell? ⟨M16, 4, none⟩ = some (.int .i64 due) ∧ u.cell? ⟨M16, 6, none⟩ = some (.string (strOfNums hash))) (by kernel_rfl) (CT YB.out.drew X16.out.drew) (fun _ => ?_)
                have bq : Below w10.heap.size w10 w10.drew := below_drewN (Below.refl _ w10) 1
                replace L := Kept.mk (api.ledBelow L.out bq); replace R3 := Kept.mk (R3.out.below bq); replace XS2 := Kept.mk (XS2.out.below bq); replace B := Kept.mk (B.out.trans (bq.mono B.out.size))
                clear bq X16 YB CT
                generalize w10.drew = w11 at *
                refine wpAnyH_take (i := 0) (oi := ?o28) (v := ?v28) ?hi28 (by kernel_rfl) (by kernel_rfl) (by kernel_rfl) ?hq28 (Or.inl ⟨?hw28, ?hy28⟩) (by assumption) ?r28
                case hi28 => (simp only [List.getElem?_toArray]; exact rfl)
                case hq28 => exact fun _ _ _ h => h
                case hw28 => rfl
                case hy28 => (intro w hSw; (try dsimp only at hSw); go_simp; try exact rfl)
                simp only [Act.put, List.setIfInBounds_toArray, List.set_cons_zero, List.set_cons_succ]
                refine wpAnyH_take (i := 1) (oi := ?o29) (v := ?v29) ?hi29 (by kernel_rfl) (by kernel_rfl) (by kernel_rfl) ?hq29 (Or.inl ⟨?hw29, ?hy29⟩) (by assumption) ?r29
                case hi29 => (simp only [List.getElem?_toArray]; exact rfl)
                case hq29 => exact fun _ _ _ h => h
                case hw29 => rfl
                case hy29 => (intro w hSw; (try dsimp only at hSw); go_simp; try exact rfl)
                simp only [Act.put, List.setIfInBounds_toArray, List.set_cons_zero, List.set_cons_succ]
                refine wpAnyH_take (i := 2) (oi := ?o30) (v := ?v30) ?hi30 (by kernel_rfl) (by kernel_rfl) (by kernel_rfl) ?hq30 (Or.inl ⟨?hw30, ?hy30⟩) (by assumption) ?r30
                case hi30 => (simp only [List.getElem?_toArray]; exact rfl)
                case hq30 => exact fun _ _ _ h => h
                case hw30 => rfl
                case hy30 => (intro w hSw; (try dsimp only at hSw); go_simp; try exact rfl)
                simp only [Act.put, List.setIfInBounds_toArray, List.set_cons_zero, List.set_cons_succ]
                refine wpAnyH_take (i := 3) (oi := ?o31) (v := ?v31) ?hi31 (by kernel_rfl) (by kernel_rfl) (by kernel_rfl) ?hq31 (Or.inl ⟨?hw31, ?hy31⟩) (by assumption) ?r31
                case hi31 => (simp only [List.getElem?_toArray]; exact rfl)
                case hq31 => exact fun _ _ _ h => h
                case hw31 => rfl
                case hy31 => (intro w hSw; (try dsimp only at hSw); go_simp; try exact rfl)
                simp only [Act.put, List.setIfInBounds_toArray, List.set_cons_zero, List.set_cons_succ]
                refine wpAnyH_take (i := 4) (oi := ?o32) (v := ?v32) ?hi32 (by kernel_rfl) (by kernel_rfl) (by kernel_rfl) ?hq32 (Or.inl ⟨?hw32, ?hy32⟩) (by assumption) ?r32
                case hi32 => (simp only [List.getElem?_toArray]; exact rfl)
                case hq32 => exact fun _ _ _ h => h
                case hw32 => rfl
                case hy32 => (intro w hSw; (try dsimp only at hSw); go_simp; try exact rfl)
                simp only [Act.put, List.setIfInBounds_toArray, List.set_cons_zero, List.set_cons_succ]
                refine wpAnyH_take (i := 5) (oi := ?o33) (v := ?v33) ?hi33 (by kernel_rfl) (by kernel_rfl) (by kernel_rfl) ?hq33 (Or.inl ⟨?hw33, ?hy33⟩) (by assumption) ?r33
                case hi33 => (simp only [List.getElem?_toArray]; exact rfl)
                case hq33 => exact fun _ _ _ h => h
                case hw33 => rfl
                case hy33 => (intro w hSw; (try dsimp only at hSw); go_simp; try exact rfl)
                simp only [Act.put, List.setIfInBounds_toArray, List.set_cons_zero, List.set_cons_succ]
                refine wpAnyH_take (i := 6) (oi := ?o34) (v := ?v34) ?hi34 (by kernel_rfl) (by kernel_rfl) (by kernel_rfl) ?hq34 (Or.inl ⟨?hw34, ?hy34⟩) (by assumption) ?r34
                case hi34 => (simp only [List.getElem?_toArray]; exact rfl)
                case hq34 => exact fun _ _ _ h => h
                case hw34 => rfl
                case hy34 => (intro w hSw; (try dsimp only at hSw); go_simp; try exact rfl)
                simp only [Act.put, List.setIfInBounds_toArray, List.set_cons_zero, List.set_cons_succ]
                refine wpAnyH_take (i := 7) (oi := ?o35) (v := ?v35) ?hi35 (by kernel_rfl) (by kernel_rfl) (by kernel_rfl) ?hq35 (Or.inl ⟨?hw35, ?hy35⟩) (by assumption) ?r35
                case hi35 => (simp only [List.getElem?_toArray]; exact rfl)
                case hq35 => exact fun _ _ _ h => h
                case hw35 => rfl
                case hy35 => (intro w hSw; (try dsimp only at hSw); go_simp; try exact rfl)
                simp only [Act.put, List.setIfInBounds_toArray, List.set_cons_zero, List.set_cons_succ]
                refine wpAnyH_take (i := 8) (oi := ?o36) (v := ?v36) ?hi36 (by kernel_rfl) (by kernel_rfl) (by kernel_rfl) ?hq36 (Or.inl ⟨?hw36, ?hy36⟩) (by assumption) ?r36
                case hi36 => (simp only [List.getElem?_toArray]; exact rfl)
                case hq36 => exact fun _ _ _ h => h
                case hw36 => rfl
                case hy36 => (intro w hSw; (try dsimp only at hSw); go_simp; try exact rfl)
                simp only [Act.put, List.setIfInBounds_toArray, List.set_cons_zero, List.set_cons_succ]
                refine wpAnyH_take (i := 9) (oi := ?o37) (v := ?v37) ?hi37 (by kernel_rfl) (by kernel_rfl) (by kernel_rfl) ?hq37 (Or.inl ⟨?hw37, ?hy37⟩) (by assumption) ?r37
                case hi37 => (simp only [List.getElem?_toArray]; exact rfl)
                case hq37 => exact fun _ _ _ h => h
                case hw37 => rfl
                case hy37 => (intro w hSw; (try dsimp only at hSw); go_simp; try exact rfl)
                simp only [Act.put, List.setIfInBounds_toArray, List.set_cons_zero, List.set_cons_succ]
                refine wpAnyH_take (i := 10) (oi := ?o38) (v := ?v38) ?hi38 (by kernel_rfl) (by kernel_rfl) (by kernel_rfl) ?hq38 (Or.inl ⟨?hw38, ?hy38⟩) (by assumption) ?r38
                case hi38 => (simp only [List.getElem?_toArray]; exact rfl)
                case hq38 => exact fun _ _ _ h => h
                case hw38 => rfl
                case hy38 => (intro w hSw; (try dsimp only at hSw); go_simp; try exact rfl)
                simp only [Act.put, List.setIfInBounds_toArray, List.set_cons_zero, List.set_cons_succ]
                refine wpAnyH_take (i := 11) (oi := ?o39) (v := ?v39) ?hi39 (by kernel_rfl) (by kernel_rfl) (by kernel_rfl) ?hq39 (Or.inl ⟨?hw39, ?hy39⟩) (by assumption) ?r39
                case hi39 => (simp only [List.getElem?_toArray]; exact rfl)
                case hq39 => exact fun _ _ _ h => h
                case hw39 => rfl
                case hy39 => (intro w hSw; (try dsimp only at hSw); go_simp; try exact rfl)
                simp only [Act.put, List.setIfInBounds_toArray, List.set_cons_zero, List.set_cons_succ]
                refine wpAnyH_take (i := 12) (oi := ?o40) (v := ?v40) ?hi40 (by kernel_rfl) (by kernel_rfl) (by kernel_rfl) ?hq40 (Or.inl ⟨?hw40, ?hy40⟩) (by assumption) ?r40
                case hi40 => (simp only [List.getElem?_toArray]; exact rfl)
                case hq40 => exact fun _ _ _ h => h
                case hw40 => rfl
                case hy40 => (intro w hSw; (try dsimp only at hSw); go_simp; try exact rfl)
                simp only [Act.put, List.setIfInBounds_toArray, List.set_cons_zero, List.set_cons_succ]
                refine wpAnyH_take (i := 13) (oi := ?o41) (v := ?v41) ?hi41 (by kernel_rfl) (by kernel_rfl) (by kernel_rfl) ?hq41 (Or.inl ⟨?hw41, ?hy41⟩) (by assumption) ?r41
                case hi41 => (simp only [List.getElem?_toArray]; exact rfl)
                case hq41 => exact fun _ _ _ h => h
                case hw41 => rfl
                case hy41 => (intro w hSw; (try dsimp only at hSw); go_simp; try exact rfl)
                simp only [Act.put, List.setIfInBounds_toArray, List.set_cons_zero, List.set_cons_succ]
                refine wpAnyH_take (i := 14) (oi := ?o42) (v := ?v42) ?hi42 (by kernel_rfl) (by kernel_rfl) (by kernel_rfl) ?hq42 (Or.inl ⟨?hw42, ?hy42⟩) (by assumption) ?r42
                case hi42 => (simp only [List.getElem?_toArray]; exact rfl)
                case hq42 => exact fun _ _ _ h => h
                case hw42 => rfl
                case hy42 => (intro w hSw; (try dsimp only at hSw); go_simp; try exact rfl)
                simp only [Act.put, List.setIfInBounds_toArray, List.set_cons_zero, List.set_cons_succ]
                refine wpAnyH_take (i := 15) (oi := ?o43) (v := ?v43) ?hi43 (by kernel_rfl) (by kernel_rfl) (by kernel_rfl) ?hq43 (Or.inl ⟨?hw43, ?hy43⟩) (by assumption) ?r43
                case hi43 => (simp only [List.getElem?_toArray]; exact rfl)
                case hq43 => exact fun _ _ _ h => h
                case hw43 => rfl
                case hy43 => (intro w hSw; (try dsimp only at hSw); go_simp; try exact rfl)
                simp only [Act.put, List.setIfInBounds_toArray, List.set_cons_zero, List.set_cons_succ]
                refine wpAnyH_take (i := 16) (oi := ?o44) (v := ?v44) ?hi44 (by kernel_rfl) (by kernel_rfl) (by kernel_rfl) ?hq44 (Or.inl ⟨?hw44, ?hy44⟩) (by assumption) ?r44
                case hi44 => (simp only [List.getElem?_toArray]; exact rfl)
                case hq44 => exact fun _ _ _ h => h
                case hw44 => rfl
                case hy44 => (intro w hSw; (try dsimp only at hSw); go_simp; try exact rfl)
                simp only [Act.put, List.setIfInBounds_toArray, List.set_cons_zero, List.set_cons_succ]
                refine wpAnyH_take (i := 17) (oi := ?o45) (v := ?v45) ?hi45 (by kernel_rfl) (by kernel_rfl) (by kernel_rfl) ?hq45 (Or.inl ⟨?hw45, ?hy45⟩) (by assumption) ?r45
                case hi45 => (simp only [List.getElem?_toArray]; exact rfl)
                case hq45 => exact fun _ _ _ h => h
                case hw45 => rfl
                case hy45 => (intro w hSw; (try dsimp only at hSw); go_simp; try exact rfl)
                simp only [Act.put, List.setIfInBounds_toArray, List.set_cons_zero, List.set_cons_succ]
                refine wpAnyH_take (i := 18) (oi := ?o46) (v := ?v46) ?hi46 (by kernel_rfl) (by kernel_rfl) (by kernel_rfl) ?hq46 (Or.inl ⟨?hw46, ?hy46⟩) (by assumption) ?r46
                case hi46 => (simp only [List.getElem?_toArray]; exact rfl)
                case hq46 => exact fun _ _ _ h => h
                case hw46 => rfl
                case hy46 => (intro w hSw; (try dsimp only at hSw); go_simp; try exact rfl)
                simp only [Act.put, List.setIfInBounds_toArray, List.set_cons_zero, List.set_cons_succ]
                refine wpAnyH_take (i := 19) (oi := ?o47) (v := ?v47) ?hi47 (by kernel_rfl) (by kernel_rfl) (by kernel_rfl) ?hq47 (Or.inl ⟨?hw47, ?hy47⟩) (by assumption) ?r47
                case hi47 => (simp only [List.getElem?_toArray]; exact rfl)
                case hq47 => exact fun _ _ _ h => h
                case hw47 => rfl
                case hy47 => (intro w hSw; (try dsimp only at hSw); go_simp; try exact rfl)
                simp only [Act.put, List.setIfInBounds_toArray, List.set_cons_zero, List.set_cons_succ]
                refine wpAnyH_take (i := 20) (oi := ?o48) (v := ?v48) ?hi48 (by kernel_rfl) (by kernel_rfl) (by kernel_rfl) ?hq48 (Or.inl ⟨?hw48, ?hy48⟩) (by assumption) ?r48
                case hi48 => (simp only [List.getElem?_toArray]; exact rfl)
                case hq48 => exact fun _ _ _ h => h
                case hw48 => rfl
                case hy48 => (intro w hSw; (try dsimp only at hSw); go_simp; try exact rfl)
                simp only [Act.put, List.setIfInBounds_toArray, List.set_cons_zero, List.set_cons_succ]
                refine wpAnyH_take (i := 21) (oi := ?o49) (v := ?v49) ?hi49 (by kernel_rfl) (by kernel_rfl) (by kernel_rfl) ?hq49 (Or.inl ⟨?hw49, ?hy49⟩) (by assumption) ?r49
                case hi49 => (simp only [List.getElem?_toArray]; exact rfl)
                case hq49 => exact fun _ _ _ h => h
                case hw49 => rfl
                case hy49 => (intro w hSw; (try dsimp only at hSw); go_simp; try exact rfl)
                simp only [Act.put, List.setIfInBounds_toArray, List.set_cons_zero, List.set_cons_succ]
                refine wpAnyH_take (i := 22) (oi := ?o50) (v := ?v50) ?hi50 (by kernel_rfl) (by kernel_rfl) (by kernel_rfl) ?hq50 (Or.inl ⟨?hw50, ?hy50⟩) (by assumption) ?r50
                case hi50 => (simp only [List.getElem?_toArray]; exact rfl)
                case hq50 => exact fun _ _ _ h => h
                case hw50 => rfl
                case hy50 => (intro w hSw; (try dsimp only at hSw); go_simp; try exact rfl)
                simp only [Act.put, List.setIfInBounds_toArray, List.set_cons_zero, List.set_cons_succ]
                refine wpAnyH_take (i := 23) (oi := ?o51) (v := ?v51) ?hi51 (by kernel_rfl) (by kernel_rfl) (by kernel_rfl) ?hq51 (Or.inl ⟨?hw51, ?hy51⟩) (by assumption) ?r51
                case hi51 => (simp only [List.getElem?_toArray]; exact rfl)
                case hq51 => exact fun _ _ _ h => h
                case hw51 => rfl
                case hy51 => (intro w hSw; (try dsimp only at hSw); go_simp; try exact rfl)
                simp only [Act.put, List.setIfInBounds_toArray, List.set_cons_zero, List.set_cons_succ]
                refine wpAnyH_take (i := 24) (oi := ?o52) (v := ?v52) ?hi52 (by kernel_rfl) (by kernel_rfl) (by kernel_rfl) ?hq52 (Or.inl ⟨?hw52, ?hy52⟩) (by assumption) ?r52
                case hi52 => (simp only [List.getElem?_toArray]; exact rfl)
                case hq52 => exact fun _ _ _ h => h
                case hw52 => rfl
                case hy52 => (intro w hSw; (try dsimp only at hSw); go_simp; try exact rfl)
                simp only [Act.put, List.setIfInBounds_toArray, List.set_cons_zero, List.set_cons_succ]
                refine wpAnyH_take (i := 25) (oi := ?o53) (v := ?v53) ?hi53 (by kernel_rfl) (by kernel_rfl) (by kernel_rfl) ?hq53 (Or.inl ⟨?hw53, ?hy53⟩) (by assumption) ?r53
                case hi53 => (simp only [List.getElem?_toArray]; exact rfl)
                case hq53 => exact fun _ _ _ h => h
                case hw53 => rfl
                case hy53 => (intro w hSw; (try dsimp only at hSw); go_simp; try exact rfl)
                simp only [Act.put, List.setIfInBounds_toArray, List.set_cons_zero, List.set_cons_succ]
                refine wpAnyH_take (i := 26) (oi := ?o54) (v := ?v54) ?hi54 (by kernel_rfl) (by kernel_rfl) (by kernel_rfl) ?hq54 (Or.inl ⟨?hw54, ?hy54⟩) (by assumption) ?r54
                case hi54 => (simp only [List.getElem?_toArray]; exact rfl)
                case hq54 => exact fun _ _ _ h => h
                case hw54 => rfl
                case hy54 => (intro w hSw; (try dsimp only at hSw); go_simp; try exact rfl)
                simp only [Act.put, List.setIfInBounds_toArray, List.set_cons_zero, List.set_cons_succ]
                refine wpAnyH_take (i := 27) (oi := ?o55) (v := ?v55) ?hi55 (by kernel_rfl) (by kernel_rfl) (by kernel_rfl) ?hq55 (Or.inl ⟨?hw55, ?hy55⟩) (by assumption) ?r55
                case hi55 => (simp only [List.getElem?_toArray]; exact rfl)
                case hq55 => exact fun _ _ _ h => h
                case hw55 => rfl
                case hy55 => (intro w hSw; (try dsimp only at hSw); go_simp; try exact rfl)
                simp only [Act.put, List.setIfInBounds_toArray, List.set_cons_zero, List.set_cons_succ]
                refine wpAnyH_take (i := 28) (oi := ?o56) (v := ?v56) ?hi56 (by kernel_rfl) (by kernel_rfl) (by kernel_rfl) ?hq56 (Or.inl ⟨?hw56, ?hy56⟩) (by assumption) ?r56
                case hi56 => (simp only [List.getElem?_toArray]; exact rfl)
                case hq56 => exact fun _ _ _ h => h
                case hw56 => rfl
                case hy56 => (intro w hSw; (try dsimp only at hSw); go_simp; try exact rfl)
                simp only [Act.put, List.setIfInBounds_toArray, List.set_cons_zero, List.set_cons_succ]
                refine wpAnyH_take (i := 29) (oi := ?o57) (v := ?v57) ?hi57 (by kernel_rfl) (by kernel_rfl) (by kernel_rfl) ?hq57 (Or.inl ⟨?hw57, ?hy57⟩) (by assumption) ?r57
                case hi57 => (simp only [List.getElem?_toArray]; exact rfl)
                case hq57 => exact fun _ _ _ h => h
                case hw57 => rfl
                case hy57 => (intro w hSw; (try dsimp only at hSw); go_simp; try exact rfl)
                simp only [Act.put, List.setIfInBounds_toArray, List.set_cons_zero, List.set_cons_succ]
                refine wpAnyH_take (i := 30) (oi := ?o58) (v := ?v58) ?hi58 (by kernel_rfl) (by kernel_rfl) (by kernel_rfl) ?hq58 (Or.inl ⟨?hw58, ?hy58⟩) (by assumption) ?r58
                case hi58 => (simp only [List.getElem?_toArray]; exact rfl)
                case hq58 => exact fun _ _ _ h => h
                case hw58 => rfl
                case hy58 => (intro w hSw; (try dsimp only at hSw); go_simp; try exact rfl)
                simp only [Act.put, List.setIfInBounds_toArray, List.set_cons_zero, List.set_cons_succ]
                refine wpAnyH_take (i := 31) (oi := ?o59) (v := ?v59) ?hi59 (by kernel_rfl) (by kernel_rfl) (by kernel_rfl) ?hq59 (Or.inl ⟨?hw59, ?hy59⟩) (by assumption) ?r59
                case hi59 => (simp only [List.getElem?_toArray]; exact rfl)
                case hq59 => exact fun _ _ _ h => h
                case hw59 => rfl
                case hy59 => (intro w hSw; (try dsimp only at hSw); go_simp; try exact rfl)
                simp only [Act.put, List.setIfInBounds_toArray, List.set_cons_zero, List.set_cons_succ]
                refine wpAnyH_take (i := 32) (oi := ?o60) (v := ?v60) ?hi60 (by kernel_rfl) (by kernel_rfl) (by kernel_rfl) ?hq60 (Or.inl ⟨?hw60, ?hy60⟩) (by assumption) ?r60
                case hi60 => (simp only [List.getElem?_toArray]; exact rfl)
                case hq60 => exact fun _ _ _ h => h
                case hw60 => rfl
                case hy60 => (intro w hSw; (try dsimp only at hSw); go_simp; try exact rfl)
                simp only [Act.put, List.setIfInBounds_toArray, List.set_cons_zero, List.set_cons_succ]
                refine wpAnyH_take (i := 33) (oi := ?o61) (v := ?v61) ?hi61 (by kernel_rfl) (by kernel_rfl) (by kernel_rfl) ?hq61 (Or.inl ⟨?hw61, ?hy61⟩) (by assumption) ?r61
                case hi61 => (simp only [List.getElem?_toArray]; exact rfl)
                case hq61 => exact fun _ _ _ h => h
                case hw61 => rfl
                case hy61 => (intro w hSw; (try dsimp only at hSw); go_simp; try exact rfl)
                simp only [Act.put, List.setIfInBounds_toArray, List.set_cons_zero, List.set_cons_succ]
                refine wpAnyH_take (i := 34) (oi := ?o62) (v := ?v62) ?hi62 (by kernel_rfl) (by kernel_rfl) (by kernel_rfl) ?hq62 (Or.inl ⟨?hw62, ?hy62⟩) (by assumption) ?r62
                case hi62 => (simp only [List.getElem?_toArray]; exact rfl)
                case hq62 => exact fun _ _ _ h => h
                case hw62 => rfl
                case hy62 => (intro w hSw; (try dsimp only at hSw); go_simp; try exact rfl)
                simp only [Act.put, List.setIfInBounds_toArray, List.set_cons_zero, List.set_cons_succ]
                refine wpAnyH_take (i := 35) (oi := ?o63) (v := ?v63) ?hi63 (by kernel_rfl) (by kernel_rfl) (by kernel_rfl) ?hq63 (Or.inl ⟨?hw63, ?hy63⟩) (by assumption) ?r63
                case hi63 => (simp only [List.getElem?_toArray]; exact rfl)
                case hq63 => exact fun _ _ _ h => h
                case hw63 => rfl
                case hy63 => (intro w hSw; (try dsimp only at hSw); go_simp; try exact rfl)
                simp only [Act.put, List.setIfInBounds_toArray, List.set_cons_zero, List.set_cons_succ]
                refine wpAnyH_take (i := 36) (oi := ?o64) (v := ?v64) ?hi64 (by kernel_rfl) (by kernel_rfl) (by kernel_rfl) ?hq64 (Or.inl ⟨?hw64, ?hy64⟩) (by assumption) ?r64
                case hi64 => (simp only [List.getElem?_toArray]; exact rfl)
                case hq64 => exact fun _ _ _ h => h
                case hw64 => rfl
                case hy64 => (intro w hSw; (try dsimp only at hSw); go_simp; try exact rfl)
                simp only [Act.put, List.setIfInBounds_toArray, List.set_cons_zero, List.set_cons_succ]
                refine wpAnyH_take (i := 37) (oi := ?o65) (v := ?v65) ?hi65 (by kernel_rfl) (by kernel_rfl) (by kernel_rfl) ?hq65 (Or.inl ⟨?hw65, ?hy65⟩) (by assumption) ?r65
                case hi65 => (simp only [List.getElem?_toArray]; exact rfl)
                case hq65 => exact fun _ _ _ h => h
                case hw65 => rfl
                case hy65 => (intro w hSw; (try dsimp only at hSw); go_simp; try exact rfl)
                simp only [Act.put, List.setIfInBounds_toArray, List.set_cons_zero, List.set_cons_succ]
                refine wpAnyH_take (i := 38) (oi := ?o66) (v := ?v66) ?hi66 (by kernel_rfl) (by kernel_rfl) (by kernel_rfl) ?hq66 (Or.inl ⟨?hw66, ?hy66⟩) (by assumption) ?r66
                case hi66 => (simp only [List.getElem?_toArray]; exact rfl)
                case hq66 => exact fun _ _ _ h => h
                case hw66 => rfl
                case hy66 => (intro w hSw; (try dsimp only at hSw); go_simp; try exact rfl)
                simp only [Act.put, List.setIfInBounds_toArray, List.set_cons_zero, List.set_cons_succ]
                refine wpAnyH_take (i := 39) (oi := ?o67) (v := ?v67) ?hi67 (by kernel_rfl) (by kernel_rfl) (by kernel_rfl) ?hq67 (Or.inl ⟨?hw67, ?hy67⟩) (by assumption) ?r67
                case hi67 => (simp only [List.getElem?_toArray]; exact rfl)
                case hq67 => exact fun _ _ _ h => h
                case hw67 => rfl
                case hy67 => (intro w hSw; (try dsimp only at hSw); go_simp; try exact rfl)
                simp only [Act.put, List.setIfInBounds_toArray, List.set_cons_zero, List.set_cons_succ]
                refine wpAnyH_take (i := 40) (oi := ?o68) (v := ?v68) ?hi68 (by kernel_rfl) (by kernel_rfl) (by kernel_rfl) ?hq68 (Or.inl ⟨?hw68, ?hy68⟩) (by assumption) ?r68
                case hi68 => (simp only [List.getElem?_toArray]; exact rfl)
                case hq68 => exact fun _ _ _ h => h
                case hw68 => rfl
                case hy68 => (intro w hSw; (try dsimp only at hSw); go_simp; try exact rfl)
                simp only [Act.put, List.setIfInBounds_toArray, List.set_cons_zero, List.set_cons_succ]
                refine wpAnyH_take (i := 41) (oi := ?o69) (v := ?v69) ?hi69 (by kernel_rfl) (by kernel_rfl) (by kernel_rfl) ?hq69 (Or.inl ⟨?hw69, ?hy69⟩) (by assumption) ?r69
                case hi69 => (simp only [List.getElem?_toArray]; exact rfl)
                case hq69 => exact fun _ _ _ h => h
                case hw69 => rfl
                case hy69 => (intro w hSw; (try dsimp only at hSw); go_simp; try exact rfl)
                simp only [Act.put, List.setIfInBounds_toArray, List.set_cons_zero, List.set_cons_succ]
                refine wpAnyH_take (i := 42) (oi := ?o70) (v := ?v70) ?hi70 (by kernel_rfl) (by kernel_rfl) (by kernel_rfl) ?hq70 (Or.inl ⟨?hw70, ?hy70⟩) (by assumption) ?r70
                case hi70 => (simp only [List.getElem?_toArray]; exact rfl)
                case hq70 => exact fun _ _ _ h => h
                case hw70 => rfl
                case hy70 => (intro w hSw; (try dsimp only at hSw); go_simp; try exact rfl)
                simp only [Act.put, List.setIfInBounds_toArray, List.set_cons_zero, List.set_cons_succ]
                refine wpAnyH_take (i := 43) (oi := ?o71) (v := ?v71) ?hi71 (by kernel_rfl) (by kernel_rfl) (by kernel_rfl) ?hq71 (Or.inl ⟨?hw71, ?hy71⟩) (by assumption) ?r71
                case hi71 => (simp only [List.getElem?_toArray]; exact rfl)
                case hq71 => exact fun _ _ _ h => h
                case hw71 => rfl
                case hy71 => (intro w hSw; (try dsimp only at hSw); go_simp; try exact rfl)
                simp only [Act.put, List.setIfInBounds_toArray, List.set_cons_zero, List.set_cons_succ]
                refine wpAnyH_take (i := 44) (oi := ?o72) (v := ?v72) ?hi72 (by kernel_rfl) (by kernel_rfl) (by kernel_rfl) ?hq72 (Or.inl ⟨?hw72, ?hy72⟩) (by assumption) ?r72
                case hi72 => (simp only [List.getElem?_toArray]; exact rfl)
                case hq72 => exact fun _ _ _ h => h
                case hw72 => rfl
                case hy72 => (intro w hSw; (try dsimp only at hSw); go_simp; try exact rfl)
                simp only [Act.put, List.setIfInBounds_toArray, List.set_cons_zero, List.set_cons_succ]
                refine wpAnyH_take (i := 45) (oi := ?o73) (v := ?v73) ?hi73 (by kernel_rfl) (by kernel_rfl) (by kernel_rfl) ?hq73 (Or.inl ⟨?hw73, ?hy73⟩) (by assumption) ?r73
                case hi73 => (simp only [List.getElem?_toArray]; exact rfl)
                case hq73 => exact fun _ _ _ h => h
                case hw73 => rfl
                case hy73 => (intro w hSw; (try dsimp only at hSw); go_simp; try exact rfl)
                simp only [Act.put, List.setIfInBounds_toArray, List.set_cons_zero, List.set_cons_succ]
                refine wpAnyH_take (i := 46) (oi := ?o74) (v := ?v74) ?hi74 (by kernel_rfl) (by kernel_rfl) (by kernel_rfl) ?hq74 (Or.inl ⟨?hw74, ?hy74⟩) (by assumption) ?r74
                case hi74 => (simp only [List.getElem?_toArray]; exact rfl)
                case hq74 => exact fun _ _ _ h => h
                case hw74 => rfl
                case hy74 => (intro w hSw; (try dsimp only at hSw); go_simp; try exact rfl)
                simp only [Act.put, List.setIfInBounds_toArray, List.set_cons_zero, List.set_cons_succ]
                refine wpAnyH_take (i := 47) (oi := ?o75) (v := ?v75) ?hi75 (by kernel_rfl) (by kernel_rfl) (by kernel_rfl) ?hq75 (Or.inl ⟨?hw75, ?hy75⟩) (by assumption) ?r75
                case hi75 => (simp only [List.getElem?_toArray]; exact rfl)
                case hq75 => exact fun _ _ _ h => h
                case hw75 => rfl
                case hy75 => (intro w hSw; (try dsimp only at hSw); go_simp; try exact rfl)
                simp only [Act.put, List.setIfInBounds_toArray, List.set_cons_zero, List.set_cons_succ]
                refine wpAnyH_take (i := 48) (oi := ?o76) (v := ?v76) ?hi76 (by kernel_rfl) (by kernel_rfl) (by kernel_rfl) ?hq76 (Or.inl ⟨?hw76, ?hy76⟩) (by assumption) ?r76
                case hi76 => (simp only [List.getElem?_toArray]; exact rfl)
                case hq76 => exact fun _ _ _ h => h
                case hw76 => rfl
                case hy76 => (intro w hSw; (try dsimp only at hSw); go_simp; try exact rfl)
                simp only [Act.put, List.setIfInBounds_toArray, List.set_cons_zero, List.set_cons_succ]
                refine wpAnyH_take (i := 49) (oi := ?o77) (v := ?v77) ?hi77 (by kernel_rfl) (by kernel_rfl) (by kernel_rfl) ?hq77 (Or.inl ⟨?hw77, ?hy77⟩) (by assumption) ?r77
                case hi77 => (simp only [List.getElem?_toArray]; exact rfl)
                case hq77 => exact fun _ _ _ h => h
                case hw77 => rfl
                case hy77 => (intro w hSw; (try dsimp only at hSw); go_simp; try exact rfl)
                simp only [Act.put, List.setIfInBounds_toArray, List.set_cons_zero, List.set_cons_succ]
                refine wpAnyH_take (i := 50) (oi := ?o78) (v := ?v78) ?hi78 (by kernel_rfl) (by kernel_rfl) (by kernel_rfl) ?hq78 (Or.inl ⟨?hw78, ?hy78⟩) (by assumption) ?r78
                case hi78 => (simp only [List.getElem?_toArray]; exact rfl)
                case hq78 => exact fun _ _ _ h => h
                case hw78 => rfl
                case hy78 => (intro w hSw; (try dsimp only at hSw); go_simp; try exact rfl)
                simp only [Act.put, List.setIfInBounds_toArray, List.set_cons_zero, List.set_cons_succ]
                refine wpAnyH_take (i := 51) (oi := ?o79) (v := ?v79) ?hi79 (by kernel_rfl) (by kernel_rfl) (by kernel_rfl) ?hq79 (Or.inl ⟨?hw79, ?hy79⟩) (by assumption) ?r79
                case hi79 => (simp only [List.getElem?_toArray]; exact rfl)
                case hq79 => exact fun _ _ _ h => h
                case hw79 => rfl
                case hy79 => (intro w hSw; (try dsimp only at hSw); go_simp; try exact rfl)
                simp only [Act.put, List.setIfInBounds_toArray, List.set_cons_zero, List.set_cons_succ]
                refine wpAnyH_take (i := 52) (oi := ?o80) (v := ?v80) ?hi80 (by kernel_rfl) (by kernel_rfl) (by kernel_rfl) ?hq80 (Or.inl ⟨?hw80, ?hy80⟩) (by assumption) ?r80
                case hi80 => (simp only [List.getElem?_toArray]; exact rfl)
                case hq80 => exact fun _ _ _ h => h
                case hw80 => rfl
                case hy80 => (intro w hSw; (try dsimp only at hSw); go_simp; try exact rfl)
                simp only [Act.put, List.setIfInBounds_toArray, List.set_cons_zero, List.set_cons_succ]
                refine wpAnyH_take (i := 53) (oi := ?o81) (v := ?v81) ?hi81 (by kernel_rfl) (by kernel_rfl) (by kernel_rfl) ?hq81 (Or.inl ⟨?hw81, ?hy81⟩) (by assumption) ?r81
                case hi81 => (simp only [List.getElem?_toArray]; exact rfl)
                case hq81 => exact fun _ _ _ h => h
                case hw81 => rfl
                case hy81 => (intro w hSw; (try dsimp only at hSw); go_simp; try exact rfl)
                simp only [Act.put, List.setIfInBounds_toArray, List.set_cons_zero, List.set_cons_succ]
                refine wpAnyH_take (i := 54) (oi := ?o82) (v := ?v82) ?hi82 (by kernel_rfl) (by kernel_rfl) (by kernel_rfl) ?hq82 (Or.inl ⟨?hw82, ?hy82⟩) (by assumption) ?r82
                case hi82 => (simp only [List.getElem?_toArray]; exact rfl)
                case hq82 => exact fun _ _ _ h => h
                case hw82 => rfl
                case hy82 => (intro w hSw; (try dsimp only at hSw); go_simp; try exact rfl)
                simp only [Act.put, List.setIfInBounds_toArray, List.set_cons_zero, List.set_cons_succ]
                refine wpAnyH_take (i := 55) (oi := ?o83) (v := ?v83) ?hi83 (by kernel_rfl) (by kernel_rfl) (by kernel_rfl) ?hq83 (Or.inl ⟨?hw83, ?hy83⟩) (by assumption) ?r83
                case hi83 => (simp only [List.getElem?_toArray]; exact rfl)
                case hq83 => exact fun _ _ _ h => h
                case hw83 => rfl
                case hy83 => (intro w hSw; (try dsimp only at hSw); go_simp; try exact rfl)
                simp only [Act.put, List.setIfInBounds_toArray, List.set_cons_zero, List.set_cons_succ]
                refine wpAnyH_take (i := 56) (oi := ?o84) (v := ?v84) ?hi84 (by kernel_rfl) (by kernel_rfl) (by kernel_rfl) ?hq84 (Or.inl ⟨?hw84, ?hy84⟩) (by assumption) ?r84
                case hi84 => (simp only [List.getElem?_toArray]; exact rfl)
                case hq84 => exact fun _ _ _ h => h
                case hw84 => rfl
                case hy84 => (intro w hSw; (try dsimp only at hSw); go_simp; try exact rfl)
                simp only [Act.put, List.setIfInBounds_toArray, List.set_cons_zero, List.set_cons_succ]
                refine wpAnyH_take (i := 57) (oi := ?o85) (v := ?v85) ?hi85 (by kernel_rfl) (by kernel_rfl) (by kernel_rfl) ?hq85 (Or.inl ⟨?hw85, ?hy85⟩) (by assumption) ?r85
                case hi85 => (simp only [List.getElem?_toArray]; exact rfl)
                case hq85 => exact fun _ _ _ h => h
                case hw85 => rfl
                case hy85 => (intro w hSw; (try dsimp only at hSw); go_simp; try exact rfl)
                simp only [Act.put, List.setIfInBounds_toArray, List.set_cons_zero, List.set_cons_succ]
                refine wpAnyH_take (i := 58) (oi := ?o86) (v := ?v86) ?hi86 (by kernel_rfl) (by kernel_rfl) (by kernel_rfl) ?hq86 (Or.inl ⟨?hw86, ?hy86⟩) (by assumption) ?r86
                case hi86 => (simp only [List.getElem?_toArray]; exact rfl)
                case hq86 => exact fun _ _ _ h => h
                case hw86 => rfl
                case hy86 => (intro w hSw; (try dsimp only at hSw); go_simp; try exact rfl)
                simp only [Act.put, List.setIfInBounds_toArray, List.set_cons_zero, List.set_cons_succ]
                refine wpAnyH_take (i := 59) (oi := ?o87) (v := ?v87) ?hi87 (by kernel_rfl) (by kernel_rfl) (by kernel_rfl) ?hq87 (Or.inl ⟨?hw87, ?hy87⟩) (by assumption) ?r87
                case hi87 => (simp only [List.getElem?_toArray]; exact rfl)
                case hq87 => exact fun _ _ _ h => h
                case hw87 => rfl
                case hy87 => (intro w hSw; (try dsimp only at hSw); go_simp; try exact rfl)
                simp only [Act.put, List.setIfInBounds_toArray, List.set_cons_zero, List.set_cons_succ]
                refine wpAnyH_take (i := 60) (oi := ?o88) (v := ?v88) ?hi88 (by kernel_rfl) (by kernel_rfl) (by kernel_rfl) ?hq88 (Or.inl ⟨?hw88, ?hy88⟩) (by assumption) ?r88
                case hi88 => (simp only [List.getElem?_toArray]; exact rfl)
                case hq88 => exact fun _ _ _ h => h
                case hw88 => rfl
                case hy88 => (intro w hSw; (try dsimp only at hSw); go_simp; try exact rfl)
                simp only [Act.put, List.setIfInBounds_toArray, List.set_cons_zero, List.set_cons_succ]
                refine wpAnyH_take (i := 61) (oi := ?o89) (v := ?v89) ?hi89 (by kernel_rfl) (by kernel_rfl) (by kernel_rfl) ?hq89 (Or.inl ⟨?hw89, ?hy89⟩) (by assumption) ?r89
                case hi89 => (simp only [List.getElem?_toArray]; exact rfl)
                case hq89 => exact fun _ _ _ h => h
                case hw89 => rfl
                case hy89 => (intro w hSw; (try dsimp only at hSw); go_simp; try exact rfl)
                simp only [Act.put, List.setIfInBounds_toArray, List.set_cons_zero, List.set_cons_succ]
                refine wpAnyH_take (i := 62) (oi := ?o90) (v := ?v90) ?hi90 (by kernel_rfl) (by kernel_rfl) (by kernel_rfl) ?hq90 (Or.inl ⟨?hw90, ?hy90⟩) (by assumption) ?r90
                case hi90 => (simp only [List.getElem?_toArray]; exact rfl)
                case hq90 => exact fun _ _ _ h => h
                case hw90 => rfl
                case hy90 => (intro w hSw; (try dsimp only at hSw); go_simp; try exact rfl)
                simp only [Act.put, List.setIfInBounds_toArray, List.set_cons_zero, List.set_cons_succ]
                refine wpAnyH_take (i := 63) (oi := ?o91) (v := ?v91) ?hi91 (by kernel_rfl) (by kernel_rfl) (by kernel_rfl) ?hq91 (Or.inl ⟨?hw91, ?hy91⟩) (by assumption) ?r91
                case hi91 => (simp only [List.getElem?_toArray]; exact rfl)
                case hq91 => exact fun _ _ _ h => h
                case hw91 => rfl
                case hy91 => (intro w hSw; (try dsimp only at hSw); go_simp; try exact rfl)
                simp only [Act.put, List.setIfInBounds_toArray, List.set_cons_zero, List.set_cons_succ]
                refine wpAnyH_take (i := 64) (oi := ?o92) (v := ?v92) ?hi92 (by kernel_rfl) (by kernel_rfl) (by kernel_rfl) ?hq92 (Or.inl ⟨?hw92, ?hy92⟩) (by assumption) ?r92
                case hi92 => (simp only [List.getElem?_toArray]; exact rfl)
                case hq92 => exact fun _ _ _ h => h
                case hw92 => rfl
                case hy92 => (intro w hSw; (try dsimp only at hSw); go_simp; try exact rfl)
                simp only [Act.put, List.setIfInBounds_toArray, List.set_cons_zero, List.set_cons_succ]
                refine wpAnyH_take (i := 65) (oi := ?o93) (v := ?v93) ?hi93 (by kernel_rfl) (by kernel_rfl) (by kernel_rfl) ?hq93 (Or.inl ⟨?hw93, ?hy93⟩) (by assumption) ?r93
                case hi93 => (simp only [List.getElem?_toArray]; exact rfl)
                case hq93 => exact fun _ _ _ h => h
                case hw93 => rfl
                case hy93 => (intro w hSw; (try dsimp only at hSw); go_simp; try exact rfl)
                simp only [Act.put, List.setIfInBounds_toArray, List.set_cons_zero, List.set_cons_succ]
                refine wpAnyH_take (i := 66) (oi := ?o94) (v := ?v94) ?hi94 (by kernel_rfl) (by kernel_rfl) (by kernel_rfl) ?hq94 (Or.inl ⟨?hw94, ?hy94⟩) (by assumption) ?r94
                case hi94 => (simp only [List.getElem?_toArray]; exact rfl)
                case hq94 => exact fun _ _ _ h => h
                case hw94 => rfl
                case hy94 => (intro w hSw; (try dsimp only at hSw); go_simp; try exact rfl)
                simp only [Act.put, List.setIfInBounds_toArray, List.set_cons_zero, List.set_cons_succ]
                refine wpAnyH_take (i := 67) (oi := ?o95) (v := ?v95) ?hi95 (by kernel_rfl) (by kernel_rfl) (by kernel_rfl) ?hq95 (Or.inl ⟨?hw95, ?hy95⟩) (by assumption) ?r95
                case hi95 => (simp only [List.getElem?_toArray]; exact rfl)
                case hq95 => exact fun _ _ _ h => h
                case hw95 => rfl
                case hy95 => (intro w hSw; (try dsimp only at hSw); go_simp; try exact rfl)
                simp only [Act.put, List.setIfInBounds_toArray, List.set_cons_zero, List.set_cons_succ]
                refine wpAnyH_take (i := 68) (oi := ?o96) (v := ?v96) ?hi96 (by kernel_rfl) (by kernel_rfl) (by kernel_rfl) ?hq96 (Or.inl ⟨?hw96, ?hy96⟩) (by assumption) ?r96
                case hi96 => (simp only [List.getElem?_toArray]; exact rfl)
                case hq96 => exact fun _ _ _ h => h
                case hw96 => rfl
                case hy96 => (intro w hSw; (try dsimp only at hSw); go_simp; try exact rfl)
                simp only [Act.put, List.setIfInBounds_toArray, List.set_cons_zero, List.set_cons_succ]
                refine wpAnyH_take (i := 69) (oi := ?o97) (v := ?v97) ?hi97 (by kernel_rfl) (by kernel_rfl) (by kernel_rfl) ?hq97 (Or.inl ⟨?hw97, ?hy97⟩) (by assumption) ?r97
                case hi97 => (simp only [List.getElem?_toArray]; exact rfl)
                case hq97 => exact fun _ _ _ h => h
                case hw97 => rfl
                case hy97 => (intro w hSw; (try dsimp only at hSw); go_simp; try exact rfl)
                simp only [Act.put, List.setIfInBounds_toArray, List.set_cons_zero, List.set_cons_succ]
                refine wpAnyH_take (i := 70) (oi := ?o98) (v := ?v98) ?hi98 (by kernel_rfl) (by kernel_rfl) (by kernel_rfl) ?hq98 (Or.inl ⟨?hw98, ?hy98⟩) (by assumption) ?r98
                case hi98 => (simp only [List.getElem?_toArray]; exact rfl)
                case hq98 => exact fun _ _ _ h => h
                case hw98 => rfl
                case hy98 => (intro w hSw; (try dsimp only at hSw); go_simp; try exact rfl)
                simp only [Act.put, List.setIfInBounds_toArray, List.set_cons_zero, List.set_cons_succ]
                refine wpAnyH_done (by kernel_rfl) ?_ _
                refine NoPanic.normal ?_
                go_wp2
                go_roundw
                case rel => exact ⟨q + 1, y + 1, by omega, by go_num, by go_num, by omega, HY2, L, XS2, R3, B⟩
                case measure => simp [Go.RowKit.intOf]; omega
              · as_aux_lemma =>
                obtain ⟨hid0, hid1, hst⟩ := hcl (by decide)
                obtain ⟨j, rfl⟩ : ∃ j : Nat, vid = j := ⟨vid.toNat, by omega⟩
                have hj500 : j < 500 := by omega
                have hjy : (j : Int) < y := hid1
                have hj500' : (j : Int) < 500 := by omega
                have z0 : wr.cell? ⟨M8, j, none⟩ = some (.int .i64 0) := by
                  rw [XS.out.blk.at_ j (by rw [stArr_len]; exact hj500), stArr_at _ hj500, hst]
                have zf := XS.out.blk.frozen j
                have HY2 : Kept (nlock ((evs s).take (q + 1)) = y) := ⟨by rw [HNX.out, if_neg (by decide), Nat.add_zero]⟩
                have bm : Bar [M8] wr (wr.setCell ⟨M8, j, none⟩ (.int .i64 1)) := (Bar.refl [M8] wr).setCell (p := ⟨M8, j, none⟩) (.inl (by simp)) _
                have XS2 : Kept (BlkK (wr.setCell ⟨M8, j, none⟩ (.int .i64 1)) (t :: F) M8 74 (arr .i64 (stArr ((evs s).take (q + 1))))) := ⟨by
                  rw [HTK.out, stArr_set _ hj500 rfl (by show (2 : Int) < 3; decide)]
                  have := XS.out.blk.set_ j (.int .i64 1)
                  rw [arr_set] at this
                  exact ⟨this, XS.out.away⟩⟩
                have L2 : Kept (LedK Lk w.heap.size (wr.setCell ⟨M8, j, none⟩ (.int .i64 1)) t F x s) := ⟨api.led (api.keep L.out.lk bm (fun z hz hm => by rw [List.mem_singleton] at hm; subst hm; exact XS.out.away (List.mem_cons_of_mem _ hz)) (tab_put (api.lts L.out.lk).2.2 bm (fun e => XS.out.away (e ▸ List.mem_cons_self ..)))) L.out.wl L.out.wi (L.out.new _ (List.mem_cons_self ..)) (fun z hz => L.out.new z (List.mem_cons_of_mem _ hz))⟩
                have R4 : Kept (RowK vvC 9 (wr.setCell ⟨M8, j, none⟩ (.int .i64 1)) (t :: F) (some ⟨b9, o9, none⟩) s.e.length (evs s)) := ⟨rowk_put R3.out bm NA3.out⟩
                have B2 : Kept (Below w.heap.size w (wr.setCell ⟨M8, j, none⟩ (.int .i64 1))) := ⟨B.out.trans (bm.below B.out.size (by simpa using MW8.out))⟩
                clear hlk hlg hcl HNX HTK HY hst bm hid1
                go_wp2
                go_roundw
                case rel => exact ⟨q + 1, y, by omega, by go_num, by go_num, by omega, HY2, L2, XS2, R4, B2⟩
                case measure => simp [Go.RowKit.intOf]; omega
              · as_aux_lemma =>
                obtain ⟨hid0, hid1, hst⟩ := hcl (by decide)
                obtain ⟨j, rfl⟩ : ∃ j : Nat, vid = j := ⟨vid.toNat, by omega⟩
                have hj500 : j < 500 := by omega
                have hjy : (j : Int) < y := hid1
                have hj500' : (j : Int) < 500 := by omega
                have z0 : wr.cell? ⟨M8, j, none⟩ = some (.int .i64 0) := by
                  rw [XS.out.blk.at_ j (by rw [stArr_len]; exact hj500), stArr_at _ hj500, hst]
                have zf := XS.out.blk.frozen j
                have HY2 : Kept (nlock ((evs s).take (q + 1)) = y) := ⟨by rw [HNX.out, if_neg (by decide), Nat.add_zero]⟩
                have bm : Bar [M8] wr (wr.setCell ⟨M8, j, none⟩ (.int .i64 2)) := (Bar.refl [M8] wr).setCell (p := ⟨M8, j, none⟩) (.inl (by simp)) _
                have XS2 : Kept (BlkK (wr.setCell ⟨M8, j, none⟩ (.int .i64 2)) (t :: F) M8 74 (arr .i64 (stArr ((evs s).take (q + 1))))) := ⟨by
                  rw [HTK.out, stArr_set _ hj500 rfl (by show (2 : Int) < 4; decide)]
                  have := XS.out.blk.set_ j (.int .i64 2)
                  rw [arr_set] at this
                  exact ⟨this, XS.out.away⟩⟩
                have L2 : Kept (LedK Lk w.heap.size (wr.setCell ⟨M8, j, none⟩ (.int .i64 2)) t F x s) := ⟨api.led (api.keep L.out.lk bm (fun z hz hm => by rw [List.mem_singleton] at hm; subst hm; exact XS.out.away (List.mem_cons_of_mem _ hz)) (tab_put (api.lts L.out.lk).2.2 bm (fun e => XS.out.away (e ▸ List.mem_cons_self ..)))) L.out.wl L.out.wi (L.out.new _ (List.mem_cons_self ..)) (fun z hz => L.out.new z (List.mem_cons_of_mem _ hz))⟩
                have R4 : Kept (RowK vvC 9 (wr.setCell ⟨M8, j, none⟩ (.int .i64 2)) (t :: F) (some ⟨b9, o9, none⟩) s.e.length (evs s)) := ⟨rowk_put R3.out bm NA3.out⟩
                have B2 : Kept (Below w.heap.size w (wr.setCell ⟨M8, j, none⟩ (.int .i64 2))) := ⟨B.out.trans (bm.below B.out.size (by simpa using MW8.out))⟩
                clear hlk hlg hcl HNX HTK HY hst bm hid1
                go_wp2
                go_roundw
                case rel => exact ⟨q + 1, y, by omega, by go_num, by go_num, by omega, HY2, L2, XS2, R4, B2⟩
                case measure => simp [Go.RowKit.intOf]; omega
            · have hqn' : ¬ (q : Int) < s.e.length := by omega
              obtain rfl : q = s.e.length := by omega
              rw [← evs_len s, List.take_length] at HY XS
              have hyl : y = s.b.l.length := by rw [← HY.out, L.out.wi.all]
              subst hyl
              clear HY hyq
              obtain ⟨ln, hln⟩ : ∃ ln, s.b.l.length = ln := ⟨_, rfl⟩
              have hln4 : ln ≤ 400 := by have h1 := L.out.wl.locks; have h2 := L.out.wl.len; omega
              have HLN := Kept.mk hln
              rw [hln]
              clear R3 hln
              go_wp2
              go_loopw [19] (fun iv wr => ∃ p : Nat, p ≤ ln ∧ iv = .int .i64 p ∧ Kept (LedK Lk w.heap.size wr t F x s) ∧ Kept (BlkK wr (t :: F) M8 74 (arr .i64 (stArr (evs s)))) ∧ Kept (Below w.heap.size w wr)) (fun iv _ => ln - (Go.RowKit.intOf iv).toNat)
              case atStart => exact ⟨0, by omega, rfl, L, XS, B⟩
              case round =>
                clear L XS B
                obtain ⟨p, hp, rfl, L, XS, B⟩ := hrel
                have KG := api.escrow (p : Int) L.out.lk L.out.wl
                by_cases hpn : p < ln
                · have hpn' : (p : Int) < ln := by omega
                  have hp500 : (p : Int) < 500 := by omega
                  have hge : getB s.b (p : Int) = (atE s.b.l p, true) := by
                    unfold getB
                    rw [if_pos (hasE_iff.2 ⟨by omega, by rw [HLN.out]; omega⟩), Int.toNat_natCast]
                  have hst := L.out.wi.st p (by rw [HLN.out]; exact hpn)
                  rw [hge] at KG
                  obtain ⟨ev, hev⟩ : ∃ ev, atE s.b.l p = ev := ⟨_, rfl⟩
                  rw [hev] at hst KG
                  obtain ⟨fs, fd, fa, fn, fu, ft, fh, fc⟩ := ev
                  unfold GetPost evV at KG
                  dsimp only at hst KG
                  have z0 : wr.cell? ⟨M8, p, none⟩ = some (.int .i64 ft) := by
                    rw [XS.out.blk.at_ p (by rw [stArr_len]; omega), stArr_at _ (by omega), hst]
                  have ZC : Kept (∀ u, Below wr.heap.size wr u → u.cell? ⟨M8, p, none⟩ = some (.int .i64 ft)) := ⟨fun u bb => by rw [bb.cell (World.block_lt_of_cell? _ _ z0)]; exact z0⟩
                  have KG2 := Kept.mk KG
                  clear KG hge hst hev z0
                  go_wp2_with fail
                  refine KG2.out.mono ?_
                  rintro e w9 ⟨rfl, b⟩
                  have YB := Kept.mk b
                  replace L := Kept.mk (api.ledBelow L.out b); replace XS := Kept.mk (XS.out.below b); replace B := Kept.mk (B.out.trans (b.mono B.out.size))
                  clear KG2 b
                  have bx : Below w9.heap.size w9 (w9.alloc (.cells #[.int .i64 fs, .int .i64 fd, .int .i64 fa, .int .i64 fn, .int .i64 fu, .int .i64 ft, .string (strOfNums fh), .string (strOfNums fc)] 67)) := (Below.refl _ _).alloc (Nat.le_refl _) _
                  obtain ⟨M20, hM20⟩ : ∃ M20, w9.heap.size = M20 := ⟨_, rfl⟩
                  have X20 : Kept (Blk (w9.alloc (.cells #[.int .i64 fs, .int .i64 fd, .int .i64 fa, .int .i64 fn, .int .i64 fu, .int .i64 ft, .string (strOfNums fh), .string (strOfNums fc)] 67)) M20 67 #[.int .i64 fs, .int .i64 fd, .int .i64 fa, .int .i64 fn, .int .i64 fu, .int .i64 ft, .string (strOfNums fh), .string (strOfNums fc)]) := ⟨Blk.new_at _ _ _ M20 hM20.symm⟩
                  replace YB := Kept.mk (YB.out.trans (bx.mono YB.out.size))
                  replace L := Kept.mk (api.ledBelow L.out bx); replace XS := Kept.mk (XS.out.below bx); replace B := Kept.mk (B.out.trans (bx.mono B.out.size))
                  clear bx
                  go_upto_region 45 with (fail)
                  generalize w9.alloc (.cells #[.int .i64 fs, .int .i64 fd, .int .i64 fa, .int .i64 fn, .int .i64 fu, .int .i64 ft, .string (strOfNums fh), .string (strOfNums fc)] 67) = w10 at *
                  have CT : ∀ {u : World}, Below wr.heap.size wr u → Blk u M20 67 #[.int .i64 fs, .int .i64 fd, .int .i64 fa, .int .i64 fn, .int .i64 fu, .int .i64 ft, .string (strOfNums fh), .string (strOfNums fc)] → u.cell? ⟨M8, p, none⟩ = some (.int .i64 ft) ∧ u.cell? ⟨M20, 5, none⟩ = some (.int .i64 ft) := fun h k => ⟨ZC.out _ h, k.cell 5⟩
                  refine wp_region_noPanic ?_
                  refine wp_region_held_drew (S := fun u : World => u.cell? ⟨M8, p, none⟩ = some (.int .i64 ft) ∧ u.cell? ⟨M20, 5, none⟩ = some (.int .i64 ft)) (by kernel_rfl) (CT YB.out.drew X20.out.drew) (fun _ => ?_)
                  have bq : Below w10.heap.size w10 w10.drew := below_drewN (Below.refl _ w10) 1
                  replace L := Kept.mk (api.ledBelow L.out bq); replace XS := Kept.mk (XS.out.below bq); replace B := Kept.mk (B.out.trans (bq.mono B.out.size))
                  clear bq X20 YB CT
                  generalize w10.drew = w11 at *
                  refine wpAnyH_take (i := 0) (oi := ?o99) (v := ?v99) ?hi99 (by kernel_rfl) (by kernel_rfl) (by kernel_rfl) ?hq99 (Or.inl ⟨?hw99, ?hy99⟩) (by assumption) ?r99
                  case hi99 => (simp only [List.getElem?_toArray]; exact rfl)
                  case hq99 => exact fun _ _ _ h => h
                  case hw99 => rfl
                  case hy99 => (intro w hSw; (try dsimp only at hSw); go_simp; try exact rfl)
                  simp only [Act.put, List.setIfInBounds_toArray, List.set_cons_zero, List.set_cons_succ]
                  refine wpAnyH_take (i := 1) (oi := ?o100) (v := ?v100) ?hi100 (by kernel_rfl) (by kernel_rfl) (by kernel_rfl) ?hq100 (Or.inl ⟨?hw100, ?hy100⟩) (by assumption) ?r100
                  case hi100 => (simp only [List.getElem?_toArray]; exact rfl)
                  case hq100 => exact fun _ _ _ h => h
                  case hw100 => rfl
                  case hy100 => (intro w hSw; (try dsimp only at hSw); go_simp; try exact rfl)
                  simp only [Act.put, List.setIfInBounds_toArray, List.set_cons_zero, List.set_cons_succ]
                  refine wpAnyH_take (i := 2) (oi := ?o101) (v := ?v101) ?hi101 (by kernel_rfl) (by kernel_rfl) (by kernel_rfl) ?hq101 (Or.inl ⟨?hw101, ?hy101⟩) (by assumption) ?r101
                  case hi101 => (simp only [List.getElem?_toArray]; exact rfl)
                  case hq101 => exact fun _ _ _ h => h
                  case hw101 => rfl
                  case hy101 => (intro w hSw; (try dsimp only at hSw); go_simp; try exact rfl)
                  simp only [Act.put, List.setIfInBounds_toArray, List.set_cons_zero, List.set_cons_succ]
                  refine wpAnyH_take (i := 3) (oi := ?o102) (v := ?v102) ?hi102 (by kernel_rfl) (by kernel_rfl) (by kernel_rfl) ?hq102 (Or.inl ⟨?hw102, ?hy102⟩) (by assumption) ?r102
                  case hi102 => (simp only [List.getElem?_toArray]; exact rfl)
                  case hq102 => exact fun _ _ _ h => h
                  case hw102 => rfl
                  case hy102 => (intro w hSw; (try dsimp only at hSw); go_simp; try exact rfl)
                  simp only [Act.put, List.setIfInBounds_toArray, List.set_cons_zero, List.set_cons_succ]
                  refine wpAnyH_take (i := 4) (oi := ?o103) (v := ?v103) ?hi103 (by kernel_rfl) (by kernel_rfl) (by kernel_rfl) ?hq103 (Or.inl ⟨?hw103, ?hy103⟩) (by assumption) ?r103
                  case hi103 => (simp only [List.getElem?_toArray]; exact rfl)
                  case hq103 => exact fun _ _ _ h => h
                  case hw103 => rfl
                  case hy103 => (intro w hSw; (try dsimp only at hSw); go_simp; try exact rfl)
                  simp only [Act.put, List.setIfInBounds_toArray, List.set_cons_zero, List.set_cons_succ]
                  refine wpAnyH_take (i := 5) (oi := ?o104) (v := ?v104) ?hi104 (by kernel_rfl) (by kernel_rfl) (by kernel_rfl) ?hq104 (Or.inl ⟨?hw104, ?hy104⟩) (by assumption) ?r104
                  case hi104 => (simp only [List.getElem?_toArray]; exact rfl)
                  case hq104 => exact fun _ _ _ h => h
                  case hw104 => rfl
                  case hy104 => (intro w hSw; (try dsimp only at hSw); go_simp; try exact rfl)
                  simp only [Act.put, List.setIfInBounds_toArray, List.set_cons_zero, List.set_cons_succ]
                  refine wpAnyH_done (by kernel_rfl) ?_ _
                  refine NoPanic.normal ?_
                  clear ZC
                  go_wp2
                  go_roundw
                  case rel => exact ⟨p + 1, by omega, by go_num, L, XS, B⟩
                  case measure => simp [Go.RowKit.intOf]; omega
                · have hpn' : ¬ (p : Int) < ln := by omega
                  obtain rfl : p = ln := by omega
                  have hge : getB s.b (p : Int) = (noE, false) := by
                    unfold getB
                    rw [if_neg (fun h => by have := (hasE_iff.1 h).2; rw [HLN.out] at this; omega)]
                  rw [hge] at KG
                  unfold GetPost evV at KG
                  have KG2 : Kept (Calls Tryz.prog 24 #[.pointer (some ⟨x, 0, none⟩), .int .i64 p] wr fun e w' => e = .returned (.tuple #[.agg #[.int .i64 0, .int .i64 0, .int .i64 0, .int .i64 0, .int .i64 0, .int .i64 0, .string ⟨#[]⟩, .string ⟨#[]⟩], .bool false]) ∧ Below wr.heap.size wr w') := ⟨KG⟩
                  clear KG hge XS
                  go_wp2_with fail
                  refine KG2.out.mono ?_
                  rintro e w9 ⟨rfl, b⟩
                  have bx : Below w9.heap.size w9 (w9.alloc (.cells #[.int .i64 0, .int .i64 0, .int .i64 0, .int .i64 0, .int .i64 0, .int .i64 0, .string ⟨#[]⟩, .string ⟨#[]⟩] 67)) := (Below.refl _ _).alloc (Nat.le_refl _) _
                  replace B := Kept.mk ((B.out.trans (b.mono B.out.size)).trans (bx.mono (Nat.le_trans B.out.size b.size)))
                  clear KG2 b bx
                  go_upto_region 48 with (fail)
                  generalize w9.alloc (.cells #[.int .i64 0, .int .i64 0, .int .i64 0, .int .i64 0, .int .i64 0, .int .i64 0, .string ⟨#[]⟩, .string ⟨#[]⟩] 67) = w10 at *
                  have KF := Kept.mk (first_any api w10)
                  unfold Holds at KF
                  go_wp2_with fail
                  refine KF.out.mono ?_
                  rintro e w11 ⟨rfl, b⟩
                  replace B := Kept.mk (B.out.trans (b.mono B.out.size))
                  clear KF b
                  go_wp2
                  go_ret
                  exact ⟨rfl, B.out⟩
end
end Go.Proofs.YtjjonbpgggldmaaGreat.Ledger
