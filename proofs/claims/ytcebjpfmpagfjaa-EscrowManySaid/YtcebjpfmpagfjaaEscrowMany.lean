/-
  The law EscrowMany, walked.
-/
import Derived.Test.YtcebjpfmpagfjaaPart18
import Derived.Test.YtcebjpfmpagfjaaPart9
import Derived.Test.YtcebjpfmpagfjaaPart26
import Derived.Test.YtcebjpfmpagfjaaPart6
namespace Go.Proofs.Ytcebjpfmpagfjaa.Escrow
open Go.RowKit Go.Proofs.Ytcebjpfmpagfjaa.Sha Go.Proofs.Ytcebjpfmpagfjaa.Purse Go.Proofs.Ytcebjpfmpagfjaa.Num

--PLAINHI
def threeX (_ : Nat) : List Int := [100000]
def threeW (w : World) : World := (((w.alloc (.cells #[.int .i64 100000] 3)).alloc (.cells #[.int .i64 100000] 3)).alloc (.cells #[.int .i64 100000] 3)).alloc (.cells #[.slice (some ⟨w.heap.size, 0, none⟩) 1 1, .slice (some ⟨w.heap.size + 1, 0, none⟩) 1 1, .slice (some ⟨w.heap.size + 2, 0, none⟩) 1 1] 45)
theorem threeW_below (w : World) : Below w.heap.size w (threeW w) := ((((Below.refl _ w).alloc (Nat.le_refl _) _).alloc (by simp) _).alloc (by simp; omega) _).alloc (by simp; omega) _
theorem three_rows (w : World) : Rwi (threeW w) (some ⟨w.heap.size + 3, 0, none⟩) 3 threeX := by
  refine .inr ⟨_, _, rfl, fun r hr => ?_⟩
  have h1 : Blk (threeW w) w.heap.size 3 #[.int .i64 100000] := (((Blk.new w 3 #[.int .i64 100000]).alloc _).alloc _).alloc _
  have h2 : Blk (threeW w) (w.heap.size + 1) 3 #[.int .i64 100000] := ((Blk.new_at (w.alloc (.cells #[.int .i64 100000] 3)) 3 #[.int .i64 100000] (w.heap.size + 1) (by simp)).alloc _).alloc _
  have h3 : Blk (threeW w) (w.heap.size + 2) 3 #[.int .i64 100000] := (Blk.new_at ((w.alloc (.cells #[.int .i64 100000] 3)).alloc (.cells #[.int .i64 100000] 3)) 3 #[.int .i64 100000] (w.heap.size + 2) (by simp)).alloc _
  have h4 : Blk (threeW w) (w.heap.size + 3) 45 #[.slice (some ⟨w.heap.size, 0, none⟩) 1 1, .slice (some ⟨w.heap.size + 1, 0, none⟩) 1 1, .slice (some ⟨w.heap.size + 2, 0, none⟩) 1 1] := Blk.new_at (((w.alloc (.cells #[.int .i64 100000] 3)).alloc (.cells #[.int .i64 100000] 3)).alloc (.cells #[.int .i64 100000] 3)) _ _ _ (by simp)
  match r, hr with
  | 0, _ => exact ⟨_, 1, 1, h4.cell 0, by omega, by omega, rfl, .inr ⟨_, 0, rfl, fun i hi => by
      obtain rfl : i = 0 := by omega
      exact h1.cell 0⟩⟩
  | 1, _ => exact ⟨_, 1, 1, h4.cell 1, by omega, by omega, rfl, .inr ⟨_, 0, rfl, fun i hi => by
      obtain rfl : i = 0 := by omega
      exact h2.cell 0⟩⟩
  | 2, _ => exact ⟨_, 1, 1, h4.cell 2, by omega, by omega, rfl, .inr ⟨_, 0, rfl, fun i hi => by
      obtain rfl : i = 0 := by omega
      exact h3.cell 0⟩⟩
theorem three_ok : newOk 3 threeX := ⟨⟨by omega, by omega⟩, ⟨by simp [threeX], by simp [threeX]⟩, fun i _ => rfl, fun q hq => by
  have hl : (threeX 0).length = 1 := rfl
  obtain rfl : q = 0 := by omega
  show sumE [100000, 100000, 100000] = 0
  decide⟩
theorem ms_start (Z : Nat → Int) (C : Nat → Bool) (H S : List Int) (w : WF (newP 3 threeX)) : MS Z C H S 0 0 ⟨newP 3 threeX, []⟩ := by
  refine ⟨rfl, rfl, wb_of_wf w, rfl, fun i hi => absurd hi (Nat.not_lt_zero _), fun p hp => ?_, ?_⟩
  · rw [wantN_zero]
    show startV threeX p 0 = 100000 - (0 - 0)
    rfl
  · show totP (newP 3 threeX) ((0 : Nat) : Int) + 0 = 300000
    rw [totP_nat (by decide)]
    decide
def wants (Z : Nat → Int) (C : Nat → Bool) (j : Nat) : List Int := [wantN Z C 0 j, wantN Z C 1 j, wantN Z C 2 j]
theorem wants_at {Z : Nat → Int} {C : Nat → Bool} {j m : Nat} (h : m < 3) : at_ (wants Z C j) m = wantN Z C m j := by
  match m, h with
  | 0, _ => rfl
  | 1, _ => rfl
  | 2, _ => rfl
theorem wants_next {Z : Nat → Int} {C : Nat → Bool} {j : Nat} (c : C j = true) : ((wants Z C j).set (j % 3) (wantN Z C (j % 3) j - Z j)).set ((j + 1) % 3) (wantN Z C ((j + 1) % 3) j + Z j) = wants Z C (j + 1) := by
  have h : ∀ p, wantN Z C p (j + 1) = wantN Z C p j + ((if (j + 1) % 3 = p then Z j else 0) - (if j % 3 = p then Z j else 0)) := fun p => by
    show wantN Z C p j + (if C j = true then _ else 0) = _
    rw [if_pos c]
  unfold wants
  rw [h, h, h]
  have e : j % 3 = 0 ∧ (j + 1) % 3 = 1 ∨ j % 3 = 1 ∧ (j + 1) % 3 = 2 ∨ j % 3 = 2 ∧ (j + 1) % 3 = 0 := by omega
  rcases e with ⟨e1, e2⟩ | ⟨e1, e2⟩ | ⟨e1, e2⟩ <;> rw [e1, e2] <;> simp <;> omega
theorem wants_other {Z : Nat → Int} {C : Nat → Bool} {j : Nat} (c : ¬ C j = true) : wants Z C (j + 1) = wants Z C j := by
  have h : ∀ p, wantN Z C p (j + 1) = wantN Z C p j := fun p => by
    show wantN Z C p j + (if C j = true then _ else 0) = _
    rw [if_neg c, Int.add_zero]
  unfold wants
  rw [h, h, h]
theorem wantN_bd {Z : Nat → Int} {C : Nat → Bool} {p n : Nat} (hZ : ∀ i, i < n → 1 ≤ Z i ∧ Z i ≤ 1000) : ∀ {j : Nat}, j ≤ n → 100000 - 1000 * (j : Int) ≤ wantN Z C p j ∧ wantN Z C p j ≤ 100000 + 1000 * (j : Int)
  | 0, _ => by rw [wantN_zero]; omega
  | j + 1, h => by
    have h1 := wantN_bd (C := C) (p := p) hZ (j := j) (by omega)
    have h2 := hZ j (by omega)
    show _ ≤ wantN Z C p j + (if C j = true then (if (j + 1) % 3 = p then Z j else 0) - (if j % 3 = p then Z j else 0) else 0) ∧ wantN Z C p j + (if C j = true then (if (j + 1) % 3 = p then Z j else 0) - (if j % 3 = p then Z j else 0) else 0) ≤ _
    split
    · (repeat' split) <;> omega
    · omega
section
variable {Ck : World → List Nat → Nat → Nat → BS → Prop}
set_option maxRecDepth 100000 in
set_option maxHeartbeats 4000000 in
theorem many_walk (api : EscrowApi Ck) (A : Option Addr) (len cap : Nat) (zs : List Int) (A2 : Option Addr) (len2 cap2 : Nat) (cs : List Bool) (w : World) (hr : Ri w A len zs) (hc : Rb w A2 len2 cs) : Calls Try.prog 5 #[.slice A len cap, .slice A2 len2 cap2] w (Holds w) := by
  obtain ⟨Z, hZ⟩ : ∃ Z : Nat → Int, ∀ i, at_ zs i = Z i := ⟨_, fun _ => rfl⟩
  obtain ⟨C, hC⟩ : ∃ C : Nat → Bool, ∀ i, cs.getD i false = C i := ⟨_, fun _ => rfl⟩
  have HR : Kept (∀ wr, Below w.heap.size w wr → ∀ i, i < len → ∃ b o, A = some ⟨b, o, none⟩ ∧ wr.cell? ⟨b, o + i, none⟩ = some (.int .i64 (Z i))) := ⟨fun wr bb i hi => by
    obtain ⟨b, o, hA, hh⟩ := (hr.below bb).2.resolve_left (by omega)
    exact ⟨b, o, hA, by rw [hh i hi, hZ]⟩⟩
  have HC : Kept (∀ wr, Below w.heap.size w wr → ∀ i, i < len2 → ∃ b o, A2 = some ⟨b, o, none⟩ ∧ wr.cell? ⟨b, o + i, none⟩ = some (.bool (C i))) := ⟨fun wr bb i hi => by
    obtain ⟨b, o, hA, hh⟩ := (hc.below bb).2.resolve_left (by omega)
    exact ⟨b, o, hA, by rw [hh i hi, hC]⟩⟩
  clear hr hc hZ hC
  obtain ⟨S, hS⟩ : ∃ S, secretOf 3 = S := ⟨_, rfl⟩
  obtain ⟨H, hH⟩ : ∃ H, sha S = H := ⟨_, rfl⟩
  have SBy := Kept.mk (secretOf_bytes (s := 3) (by omega))
  have LS := Kept.mk (secretOf_len 3)
  have TS := Kept.mk (fun w => secret_any w 3 (by omega))
  have TX : Kept (∀ w, Calls Try.prog 13 #[.agg (opC ⟨0, 0, 0, 0, 0, 0, 0, 0, [], true, 3⟩)] w (StrPost w (sha (secretOf 3)))) := ⟨fun w => text_any w ⟨0, 0, 0, 0, 0, 0, 0, 0, [], true, 3⟩ ⟨by decide, by intro x hx; cases hx⟩⟩
  rw [hS] at SBy LS TS TX
  rw [hH] at TX
  have BH : Kept (Bytes H) := ⟨by rw [← hH]; exact sha_bytes S⟩
  have LH : Kept (H.length = 32) := ⟨by rw [← hH]; exact sha_len S⟩
  have HH := Kept.mk hH
  clear hS hH
  go_enter Try.func5, Try.ntmps5
  go_wp2_with fail
  refine (first_any api w).mono ?_
  rintro e w1 ⟨rfl, b1⟩
  have B := Kept.mk b1
  clear b1
  by_cases h60 : 60 < len
  · have h60' : 60 < (len : Int) := by omega
    go_wp2_with fail
    refine (first_any api w1).mono ?_
    rintro e w3 ⟨rfl, b3⟩
    replace B := step_below B b3
    go_wp2
    go_ret
    exact ⟨rfl, B.out⟩
  · have h60' : ¬ 60 < (len : Int) := by omega
    by_cases hl2 : len2 < len
    · have hl2' : (len2 : Int) < len := by omega
      go_wp2_with fail
      refine (first_any api w1).mono ?_
      rintro e w3 ⟨rfl, b3⟩
      replace B := step_below B b3
      go_wp2
      go_ret
      exact ⟨rfl, B.out⟩
    · have hl2' : ¬ (len2 : Int) < len := by omega
      have Ma := Kept.mk (made_any api _ 3 3 _ _ (three_rows w1))
      have BT := Kept.mk (threeW_below w1)
      replace B := step_below B BT.out
      clear BT
      go_wp2_with fail
      refine Ma.out.mono ?_
      rintro e w2 (⟨hn, -, -⟩ | ⟨-, x, q, F, rfl, hc, fp⟩)
      · exact absurd three_ok hn
      obtain ⟨B, L⟩ := step_fp B fp (none_least _)
      have CB : Kept (Ck w2 F x q ⟨newP 3 threeX, []⟩) := ⟨hc⟩
      have M : Kept (MS Z C H S 0 0 ⟨newP 3 threeX, []⟩) := ⟨ms_start _ _ _ _ (by obtain ⟨G, -, hp⟩ := api.purse hc; exact hp.1)⟩
      clear hc fp Ma
      go_wp2_with fail
      refine (api.purseOf CB.out).mono ?_
      rintro e _ ⟨rfl, d, rfl⟩
      have b3 := below_drewN (Below.refl w2.heap.size w2) d
      replace CB := api.below CB b3
      replace B := step_below B b3
      clear b3
      generalize w2.drewN d = w3 at *
      go_upto_region 9 with fail
      have WB : Kept (Blk (w3.alloc (.cells #[.int .i64 100000, .int .i64 100000, .int .i64 100000] 3)) w3.heap.size 3 (arr .i64 (wants Z C 0))) := ⟨Blk.new _ _ _⟩
      have b3 : Below w3.heap.size w3 (w3.alloc (.cells #[.int .i64 100000, .int .i64 100000, .int .i64 100000] 3)) := (Below.refl _ _).alloc (Nat.le_refl _) _
      have NF : Kept (w3.heap.size ∉ F) := ⟨fun hm => Nat.lt_irrefl _ (api.lts CB.out _ hm)⟩
      have NW : Kept (w.heap.size ≤ w3.heap.size) := ⟨B.out.size⟩
      replace CB := api.below CB b3
      replace B := step_below B b3
      clear b3
      generalize (w3.alloc (.cells #[.int .i64 100000, .int .i64 100000, .int .i64 100000] 3)) = w4 at *
      generalize w3.heap.size = N at *
      go_wp2_with fail
      refine (TX.out _).mono ?_
      rintro e w5 ⟨rfl, b3⟩
      replace WB := Kept.mk (WB.out.below b3 WB.out.lt)
      replace CB := api.below CB b3
      replace B := step_below B b3
      clear b3 TX
      go_wp2
      generalize (⟨newP 3 threeX, []⟩ : BS) = s0 at *
      go_loopw [8, 9] (fun n i wr => ∃ (k : Nat) (F : List Nat) (s : BS), k ≤ len ∧ n = .int .i64 k ∧ i = .int .i64 k ∧ Kept (Ck wr F x q s) ∧ Kept (MS Z C H S k 0 s) ∧ Kept (∀ i, i < k → 1 ≤ Z i ∧ Z i ≤ 1000) ∧ Kept (Blk wr N 3 (arr .i64 (wants Z C 0))) ∧ Kept (N ∉ F) ∧ Kept (Below w.heap.size w wr) ∧ Kept (∀ k ∈ F, w.heap.size ≤ k)) (fun _ i _ => len - (Go.RowKit.intOf i).toNat)
      case atStart => exact ⟨0, F, _, by omega, rfl, rfl, CB, M, ⟨fun i hi => absurd hi (Nat.not_lt_zero _)⟩, WB, NF, B, L⟩
      case round =>
        clear CB M WB NF B L
        obtain ⟨k, F, s, hk, rfl, rfl, CB, M, HZ, WB, NF, B, L⟩ := hrel
        by_cases hkn : k < len
        · have hkn' : (k : Int) < len := by omega
          obtain ⟨bb, oo, rfl, hz⟩ := HR.out wr B.out k hkn
          by_cases z1 : Z k < 1
          · go_wp2_with fail
            refine (first_any api wr).mono ?_
            rintro e w3 ⟨rfl, b3⟩
            replace B := step_below B b3
            go_wp2
            go_ret
            exact ⟨rfl, B.out⟩
          · by_cases z2 : 1000 < Z k
            · go_wp2_with fail
              refine (first_any api wr).mono ?_
              rintro e w3 ⟨rfl, b3⟩
              replace B := step_below B b3
              go_wp2
              go_ret
              exact ⟨rfl, B.out⟩
            · replace HZ : Kept (∀ i, i < k + 1 → 1 ≤ Z i ∧ Z i ≤ 1000) := ⟨fun i hi => by
                by_cases e : i < k
                · exact HZ.out i e
                · obtain rfl : i = k := by omega
                  omega⟩
              obtain ⟨s2, he, hm⟩ := M.out.lock HZ.out (by omega) BH.out LH.out
              have M2 := Kept.mk hm
              have HE := Kept.mk he
              clear hm he
              have e1 : (k : Int).tmod 3 = ((k % 3 : Nat) : Int) := (Int.ofNat_tmod k 3).symm
              have e2 : ((k : Int) + 1).tmod 3 = (((k + 1) % 3 : Nat) : Int) := (Int.ofNat_tmod (k + 1) 3).symm
              have KC := api.lock (k % 3 : Nat) ((k + 1) % 3 : Nat) 0 (Z k) H (10 + k) 1 CB.out BH.out (by rw [M.out.len]; omega)
              rw [HE.out] at KC
              have KC := Kept.mk KC
              go_wp2_with fail
              refine KC.out.mono ?_
              rintro e w7 ⟨rfl, F2, hc, fp⟩
              have LTW := WB.out.lt
              replace WB := Kept.mk (WB.out.bar fp.1 NF.out)
              replace NF : Kept (N ∉ F2) := ⟨fun hm => by
                rcases fp.2 N hm with h1 | h1
                · exact NF.out h1
                · omega⟩
              obtain ⟨B, L⟩ := step_fp B fp L
              replace CB : Kept (Ck w7 F2 x q s2) := ⟨hc⟩
              clear hc fp KC LTW HE
              go_wp2
              go_roundw
              case rel => exact ⟨k + 1, F2, s2, by omega, by go_num, by go_num, CB, M2, HZ, WB, NF, B, L⟩
              case measure => simp [Go.RowKit.intOf]; omega
        · have hkn' : ¬ (k : Int) < len := by omega
          obtain rfl : len = k := by omega
          clear hkn hkn' hk
          go_wp2
          go_loopw [12] (fun i wr => ∃ (j : Nat) (F : List Nat) (s : Escrow.BS), j ≤ len ∧ i = .int .i64 j ∧ Kept (Ck wr F x q s) ∧ Kept (MS Z C H S len j s) ∧ Kept (Blk wr N 3 (arr .i64 (wants Z C j))) ∧ Kept (N ∉ F) ∧ Kept (Below w.heap.size w wr) ∧ Kept (∀ k ∈ F, w.heap.size ≤ k)) (fun i _ => len - (Go.RowKit.intOf i).toNat)
          case atStart => exact ⟨0, F, s, by omega, rfl, CB, M, WB, NF, B, L⟩
          case round =>
            clear CB M WB NF B L
            obtain ⟨j, F, s, hj, rfl, CB, M, WB, NF, B, L⟩ := hrel
            by_cases hjn : j < len
            · have hjn' : (j : Int) < len := by omega
              obtain ⟨bb, oo, rfl, hc0⟩ := HC.out _ B.out j (by omega)
              obtain ⟨p1, hp1⟩ : ∃ p1, j % 3 = p1 := ⟨_, rfl⟩
              obtain ⟨p2, hp2⟩ : ∃ p2, (j + 1) % 3 = p2 := ⟨_, rfl⟩
              have e1 : (j : Int) % 3 = (p1 : Int) := by omega
              have e2 : ((j : Int) + 1) % 3 = (p2 : Int) := by omega
              have t1 : (j : Int).tmod 3 = (p1 : Int) := by rw [← e1]; exact Int.tmod_eq_emod_of_nonneg (by omega)
              have t2 : ((j : Int) + 1).tmod 3 = (p2 : Int) := by rw [← e2]; exact Int.tmod_eq_emod_of_nonneg (by omega)
              have m1 : p1 < 3 := by omega
              have m2 : p2 < 3 := by omega
              have m1' : (p1 : Int) < 3 := by omega
              have m2' : (p2 : Int) < 3 := by omega
              have Q1 := Kept.mk hp1
              have Q2 := Kept.mk hp2
              clear hp1 hp2
              by_cases c : C j = true
              · rw [c] at hc0
                obtain ⟨s2, he, hm⟩ := M.out.claim hjn (by omega) c SBy.out LS.out HH.out
                have M2 := Kept.mk hm
                have HE := Kept.mk he
                clear hm he
                go_wp2_with fail
                refine (TS.out _).mono ?_
                rintro e w6 ⟨rfl, b3⟩
                replace WB := Kept.mk (WB.out.below b3 WB.out.lt)
                replace CB := api.below CB b3
                replace B := step_below B b3
                clear b3
                have KC := api.claim ((j + 1) % 3 : Nat) j S (9 + j) CB.out SBy.out (fun i hi => (M.out.wb.each i hi).2.2.2.2.2.1)
                rw [HE.out, Q2.out] at KC
                go_wp2_with fail
                refine KC.mono ?_
                rintro e w7 ⟨rfl, F2, hc, fp⟩
                have LTW := WB.out.lt
                replace WB := Kept.mk (WB.out.bar fp.1 NF.out)
                replace NF : Kept (N ∉ F2) := ⟨fun hm => by
                  rcases fp.2 N hm with h1 | h1
                  · exact NF.out h1
                  · omega⟩
                obtain ⟨B, L⟩ := step_fp B fp L
                replace CB : Kept (Ck w7 F2 x q s2) := ⟨hc⟩
                clear hc fp KC LTW
                clear HE M hc0
                have d1 := wantN_bd (C := C) (p := p1) HZ.out (j := j) (by omega)
                have d2 := wantN_bd (C := C) (p := p2) HZ.out (j := j) (by omega)
                have dz := HZ.out j hjn
                obtain ⟨u1, hu1⟩ : ∃ u1, wantN Z C p1 j = u1 := ⟨_, rfl⟩
                obtain ⟨u2, hu2⟩ : ∃ u2, wantN Z C p2 j = u2 := ⟨_, rfl⟩
                obtain ⟨zj, hzj⟩ : ∃ zj, Z j = zj := ⟨_, rfl⟩
                rw [hu1] at d1
                rw [hu2] at d2
                rw [hzj] at dz
                have d1a : 40000 ≤ u1 := by omega
                have d1b : u1 ≤ 160000 := by omega
                have d2a : 40000 ≤ u2 := by omega
                have d2b : u2 ≤ 160000 := by omega
                have dza : 1 ≤ zj := dz.1
                have dzb : zj ≤ 1000 := dz.2
                have U1 := Kept.mk hu1
                have U2 := Kept.mk hu2
                have UZ := Kept.mk hzj
                clear hu1 hu2 hzj d1 d2 dz
                go_upto_region 26 with fail
                obtain ⟨ba, oa, hA, hz⟩ := HR.out w7 B.out j hjn
                obtain rfl : A = _ := hA
                rw [UZ.out] at hz
                have x0 := WB.out.at_ (p1) (by simp [wants]; omega)
                rw [wants_at m1, U1.out] at x0
                have z0 := WB.out.frozen (p1)
                refine wp_region_still_tail 11 (by kernel_rfl) (by kernel_rfl) ?_
                simp only [List.take_succ_cons, List.take_zero, List.drop_succ_cons, List.drop_zero]
                repeat still_step
                refine wpStill_nil ?_
                change wpList _ _ _ _ _ w7.drew
                go_wp2_with fail
                have bs : Bar [N] w7 (w7.setCell ⟨N, p1, none⟩ (.int .i64 (u1 - zj))).drew := ((Bar.refl [N] w7).setCell (by simp) _).drew
                have wb : Blk (w7.setCell ⟨N, p1, none⟩ (.int .i64 (u1 - zj))).drew N 3 (arr .i64 ((wants Z C j).set (p1) (u1 - zj))) := by
                  have h := WB.out.set_ (p1) (.int .i64 (u1 - zj))
                  rw [arr_set] at h
                  exact h.drew
                replace WB := Kept.mk wb
                replace CB := Kept.mk (api.keep CB.out bs (fun z hz hm => by rw [List.mem_singleton] at hm; exact NF.out (hm ▸ hz)))
                replace B : Kept (Below w.heap.size w (w7.setCell ⟨N, p1, none⟩ (.int .i64 (u1 - zj))).drew) := ⟨(B.out.setCell NW.out _).drew⟩
                clear bs wb x0 z0 hz
                generalize (w7.setCell ⟨N, p1, none⟩ (.int .i64 (u1 - zj))).drew = w8 at *
                go_upto_region 27 with fail
                obtain ⟨bz, oz, hA, hz⟩ := HR.out w8 B.out j hjn
                injection hA with hA
                injection hA with hA1 hA2
                subst hA1 hA2
                rw [UZ.out] at hz
                have x0 := WB.out.at_ p2 (by simp [wants]; omega)
                rw [at_set _ _ _ _ (by simp [wants]; omega), if_neg (by have := Q1.out; have := Q2.out; omega), wants_at m2, U2.out] at x0
                have z0 := WB.out.frozen p2
                have hw : IntKind.i64.wrap ((j : Int) + 1) = j + 1 := by simp only [IntKind.wrap_i64]; omega
                refine wp_region_still_tail 12 (by kernel_rfl) (by kernel_rfl) ?_
                simp only [List.take_succ_cons, List.take_zero, List.drop_succ_cons, List.drop_zero]
                repeat still_step
                refine wpStill_nil ?_
                change wpList _ _ _ _ _ w8.drew
                go_wp2_with fail
                have bs : Bar [N] w8 (w8.setCell ⟨N, p2, none⟩ (.int .i64 (u2 + zj))).drew := ((Bar.refl [N] w8).setCell (by simp) _).drew
                have wb : Blk (w8.setCell ⟨N, p2, none⟩ (.int .i64 (u2 + zj))).drew N 3 (arr .i64 (((wants Z C j).set p1 (u1 - zj)).set (p2) (u2 + zj))) := by
                  have h := WB.out.set_ (p2) (.int .i64 (u2 + zj))
                  rw [arr_set] at h
                  exact h.drew
                replace WB := Kept.mk wb
                replace CB := Kept.mk (api.keep CB.out bs (fun z hz hm => by rw [List.mem_singleton] at hm; exact NF.out (hm ▸ hz)))
                replace B : Kept (Below w.heap.size w (w8.setCell ⟨N, p2, none⟩ (.int .i64 (u2 + zj))).drew) := ⟨(B.out.setCell NW.out _).drew⟩
                clear bs wb x0 z0 hz
                generalize (w8.setCell ⟨N, p2, none⟩ (.int .i64 (u2 + zj))).drew = w9 at *
                clear hw
                have WN := wants_next (Z := Z) (C := C) c
                rw [Q1.out, Q2.out, U1.out, U2.out, UZ.out] at WN
                rw [WN] at WB
                clear WN U1 U2 UZ d1a d1b d2a d2b dza dzb
                go_wp2_with fail
                refine (TS.out _).mono ?_
                rintro e w11 ⟨rfl, b3⟩
                replace WB := Kept.mk (WB.out.below b3 WB.out.lt)
                replace CB := api.below CB b3
                replace B := step_below B b3
                clear b3
                have KC := api.claim p2 j S 1 CB.out SBy.out (fun i hi => (M2.out.wb.each i hi).2.2.2.2.2.1)
                have AG := (M2.out.again hjn 1).1
                rw [Q2.out] at AG
                rw [AG] at KC
                go_wp2_with fail
                refine KC.mono ?_
                rintro e w12 ⟨rfl, F3, hc, fp⟩
                have LTW := WB.out.lt
                replace WB := Kept.mk (WB.out.bar fp.1 NF.out)
                replace NF : Kept (N ∉ F3) := ⟨fun hm => by
                  rcases fp.2 N hm with h1 | h1
                  · exact NF.out h1
                  · omega⟩
                obtain ⟨B, L⟩ := step_fp B fp L
                replace CB : Kept (Ck w12 F3 x q s2) := ⟨hc⟩
                clear hc fp KC LTW
                have KC := api.refund p1 j 500 CB.out
                have AG2 := (M2.out.again hjn 500).2
                rw [Q1.out] at AG2
                rw [AG2] at KC
                go_wp2_with fail
                refine KC.mono ?_
                rintro e w13 ⟨rfl, F4, hc, fp⟩
                have LTW := WB.out.lt
                replace WB := Kept.mk (WB.out.bar fp.1 NF.out)
                replace NF : Kept (N ∉ F4) := ⟨fun hm => by
                  rcases fp.2 N hm with h1 | h1
                  · exact NF.out h1
                  · omega⟩
                obtain ⟨B, L⟩ := step_fp B fp L
                replace CB : Kept (Ck w13 F4 x q s2) := ⟨hc⟩
                clear hc fp KC LTW
                have KO := api.open_ CB.out
                rw [M2.out.open_ hjn] at KO
                clear AG AG2
                go_wp2_with fail
                refine KO.mono ?_
                rintro e w14 ⟨rfl, b3⟩
                replace WB := Kept.mk (WB.out.below b3 WB.out.lt)
                replace CB := api.below CB b3
                replace B := step_below B b3
                clear b3
                clear KO
                go_wp2
                go_roundw
                case rel => exact ⟨j + 1, F4, s2, by omega, by go_num, CB, M2, WB, NF, B, L⟩
                case measure => simp [Go.RowKit.intOf]; omega
              · have cf : C j = false := by simpa using c
                rw [cf] at hc0
                obtain ⟨s2, he, hm⟩ := M.out.refund hjn (by omega) c
                have M2 := Kept.mk hm
                have HE := Kept.mk he
                clear hm he
                have KC := api.refund (j % 3 : Nat) j (10 + j) CB.out
                rw [HE.out, Q1.out] at KC
                go_wp2_with fail
                refine KC.mono ?_
                rintro e w7 ⟨rfl, F2, hc, fp⟩
                have LTW := WB.out.lt
                replace WB := Kept.mk (WB.out.bar fp.1 NF.out)
                replace NF : Kept (N ∉ F2) := ⟨fun hm => by
                  rcases fp.2 N hm with h1 | h1
                  · exact NF.out h1
                  · omega⟩
                obtain ⟨B, L⟩ := step_fp B fp L
                replace CB : Kept (Ck w7 F2 x q s2) := ⟨hc⟩
                clear hc fp KC LTW
                clear HE M hc0
                rw [← wants_other c] at WB
                go_wp2_with fail
                refine (TS.out _).mono ?_
                rintro e w11 ⟨rfl, b3⟩
                replace WB := Kept.mk (WB.out.below b3 WB.out.lt)
                replace CB := api.below CB b3
                replace B := step_below B b3
                clear b3
                have KC := api.claim p2 j S 1 CB.out SBy.out (fun i hi => (M2.out.wb.each i hi).2.2.2.2.2.1)
                have AG := (M2.out.again hjn 1).1
                rw [Q2.out] at AG
                rw [AG] at KC
                go_wp2_with fail
                refine KC.mono ?_
                rintro e w12 ⟨rfl, F3, hc, fp⟩
                have LTW := WB.out.lt
                replace WB := Kept.mk (WB.out.bar fp.1 NF.out)
                replace NF : Kept (N ∉ F3) := ⟨fun hm => by
                  rcases fp.2 N hm with h1 | h1
                  · exact NF.out h1
                  · omega⟩
                obtain ⟨B, L⟩ := step_fp B fp L
                replace CB : Kept (Ck w12 F3 x q s2) := ⟨hc⟩
                clear hc fp KC LTW
                have KC := api.refund p1 j 500 CB.out
                have AG2 := (M2.out.again hjn 500).2
                rw [Q1.out] at AG2
                rw [AG2] at KC
                go_wp2_with fail
                refine KC.mono ?_
                rintro e w13 ⟨rfl, F4, hc, fp⟩
                have LTW := WB.out.lt
                replace WB := Kept.mk (WB.out.bar fp.1 NF.out)
                replace NF : Kept (N ∉ F4) := ⟨fun hm => by
                  rcases fp.2 N hm with h1 | h1
                  · exact NF.out h1
                  · omega⟩
                obtain ⟨B, L⟩ := step_fp B fp L
                replace CB : Kept (Ck w13 F4 x q s2) := ⟨hc⟩
                clear hc fp KC LTW
                have KO := api.open_ CB.out
                rw [M2.out.open_ hjn] at KO
                clear AG AG2
                go_wp2_with fail
                refine KO.mono ?_
                rintro e w14 ⟨rfl, b3⟩
                replace WB := Kept.mk (WB.out.below b3 WB.out.lt)
                replace CB := api.below CB b3
                replace B := step_below B b3
                clear b3
                clear KO
                go_wp2
                go_roundw
                case rel => exact ⟨j + 1, F4, s2, by omega, by go_num, CB, M2, WB, NF, B, L⟩
                case measure => simp [Go.RowKit.intOf]; omega
            · have hjn' : ¬ (j : Int) < len := by omega
              obtain rfl : len = j := by omega
              clear hjn hjn' hj
              go_wp2
              go_loopw [13] (fun i wr => ∃ p : Nat, p ≤ 3 ∧ i = .int .i64 p ∧ Kept (Ck wr F x q s) ∧ Kept (Blk wr N 3 (arr .i64 (wants Z C len))) ∧ Kept (Below w.heap.size w wr)) (fun i _ => 3 - (Go.RowKit.intOf i).toNat)
              case atStart => exact ⟨0, by omega, rfl, CB, WB, B⟩
              case round =>
                clear CB WB B
                obtain ⟨p, hp, rfl, CB, WB, B⟩ := hrel
                by_cases hp3 : p < 3
                · have hp3' : (p : Int) < 3 := by omega
                  go_upto_region 35 with fail
                  have x0 := WB.out.at_ p (by simp [wants]; omega)
                  rw [wants_at hp3] at x0
                  refine wp_region_noPanic ?_
                  refine wp_region_held_drew (S := fun w' : World => w'.cell? ⟨N, p, none⟩ = some (.int .i64 (wantN Z C p len))) (by kernel_rfl) x0 (fun hHeld => ?_)
                  have bd : Below wr.heap.size wr wr.drew := (Below.refl _ _).drew
                  replace WB := Kept.mk (WB.out.below bd WB.out.lt)
                  replace CB := api.below CB bd
                  replace B := step_below B bd
                  clear bd x0
                  generalize wr.drew = w15 at *
                  refine wpAnyH_take (i := 0) (oi := ?o109) (v := ?v109) ?hi109 (by kernel_rfl) (by kernel_rfl) (by kernel_rfl) ?hq109 (Or.inl ⟨?hw109, ?hy109⟩) (by assumption) ?r109
                  case hi109 => (simp only [List.getElem?_toArray]; exact rfl)
                  case hq109 => exact fun _ _ _ h => h
                  case hw109 => rfl
                  case hy109 => (intro w hSw; (try dsimp only at hSw); go_simp; try exact rfl)
                  simp only [Act.put, List.setIfInBounds_toArray, List.set_cons_zero, List.set_cons_succ]
                  refine wpAnyH_take (i := 2) (oi := ?o110) (v := ?v110) ?hi110 (by kernel_rfl) (by kernel_rfl) (by kernel_rfl) ?hq110 (Or.inl ⟨?hw110, ?hy110⟩) (by assumption) ?r110
                  case hi110 => (simp only [List.getElem?_toArray]; exact rfl)
                  case hq110 => exact fun _ _ _ h => h
                  case hw110 => rfl
                  case hy110 => (intro w hSw; (try dsimp only at hSw); go_simp; try exact rfl)
                  simp only [Act.put, List.setIfInBounds_toArray, List.set_cons_zero, List.set_cons_succ]
                  refine wpAnyH_take (i := 4) (oi := ?o111) (v := ?v111) ?hi111 (by kernel_rfl) (by kernel_rfl) (by kernel_rfl) ?hq111 (Or.inl ⟨?hw111, ?hy111⟩) (by assumption) ?r111
                  case hi111 => (simp only [List.getElem?_toArray]; exact rfl)
                  case hq111 => exact fun _ _ _ h => h
                  case hw111 => rfl
                  case hy111 => (intro w hSw; (try dsimp only at hSw); go_simp; try exact rfl)
                  simp only [Act.put, List.setIfInBounds_toArray, List.set_cons_zero, List.set_cons_succ]
                  refine wpAnyH_take (i := 5) (oi := ?o112) (v := ?v112) ?hi112 (by kernel_rfl) (by kernel_rfl) (by kernel_rfl) ?hq112 (Or.inl ⟨?hw112, ?hy112⟩) (by assumption) ?r112
                  case hi112 => (simp only [List.getElem?_toArray]; exact rfl)
                  case hq112 => exact fun _ _ _ h => h
                  case hw112 => rfl
                  case hy112 => (intro w hSw; (try dsimp only at hSw); go_simp; try exact rfl)
                  simp only [Act.put, List.setIfInBounds_toArray, List.set_cons_zero, List.set_cons_succ]
                  refine wpAnyH_take (i := 6) (oi := ?o113) (v := ?v113) ?hi113 (by kernel_rfl) (by kernel_rfl) (by kernel_rfl) ?hq113 (Or.inl ⟨?hw113, ?hy113⟩) (by assumption) ?r113
                  case hi113 => (simp only [List.getElem?_toArray]; exact rfl)
                  case hq113 => exact fun _ _ _ h => h
                  case hw113 => rfl
                  case hy113 => (intro w hSw; (try dsimp only at hSw); go_simp; try exact rfl)
                  simp only [Act.put, List.setIfInBounds_toArray, List.set_cons_zero, List.set_cons_succ]
                  refine wpAnyH_take (i := 7) (oi := ?o114) (v := ?v114) ?hi114 (by kernel_rfl) (by kernel_rfl) (by kernel_rfl) ?hq114 (Or.inl ⟨?hw114, ?hy114⟩) (by assumption) ?r114
                  case hi114 => (simp only [List.getElem?_toArray]; exact rfl)
                  case hq114 => exact fun _ _ _ h => h
                  case hw114 => rfl
                  case hy114 => (intro w hSw; (try dsimp only at hSw); go_simp; try exact rfl)
                  simp only [Act.put, List.setIfInBounds_toArray, List.set_cons_zero, List.set_cons_succ]
                  refine wpAnyH_ready (rs := [1]) (by kernel_rfl) (by simp) ?_
                  refine AllReadyH.cons (o := ?o116) ?hi116 (fun K hK => ?_) AllReadyH.nil
                  case hi116 => (simp only [List.getElem?_toArray]; exact rfl)
                  go_simp
                  go_at_call 10
                  refine (api.purseOf CB.out).mono ?_
                  rintro e _ ⟨rfl, d, rfl⟩
                  have b3 := below_drewN (Below.refl w15.heap.size w15) d
                  replace WB := Kept.mk (WB.out.below b3 WB.out.lt)
                  replace CB := api.below CB b3
                  replace B := step_below B b3
                  clear b3
                  clear hHeld
                  generalize w15.drewN d = w16 at *
                  have x0 := WB.out.at_ p (by simp [wants]; omega)
                  rw [wants_at hp3] at x0
                  refine hK.out _ _ x0 (fun hHeld => ?_)
                  clear hK
                  try simp only [Act.put, List.setIfInBounds_toArray, List.set_cons_zero, List.set_cons_succ]
                  obtain ⟨GP, -, hpc⟩ := api.purse CB.out
                  have HS := has_any hpc p 0
                  rw [M.out.has hp3] at HS
                  refine wpAnyH_ready (rs := [3]) (by kernel_rfl) (by simp) ?_
                  refine AllReadyH.cons (o := ?o117) ?hi117 (fun K hK => ?_) AllReadyH.nil
                  case hi117 => (simp only [List.getElem?_toArray]; exact rfl)
                  go_simp
                  go_at_call 21
                  refine HS.mono ?_
                  rintro e _ ⟨rfl, rfl⟩
                  refine hK.out _ _ hHeld (fun _ => ?_)
                  clear hK
                  try simp only [Act.put, List.setIfInBounds_toArray, List.set_cons_zero, List.set_cons_succ]
                  refine wpAnyH_take (i := 8) (oi := ?o115) (v := ?v115) ?hi115 (by kernel_rfl) (by kernel_rfl) (by kernel_rfl) ?hq115 (Or.inl ⟨?hw115, ?hy115⟩) (by assumption) ?r115
                  case hi115 => (simp only [List.getElem?_toArray]; exact rfl)
                  case hq115 => exact fun _ _ _ h => h
                  case hw115 => rfl
                  case hy115 => (intro w hSw; (try dsimp only at hSw); go_simp; try exact rfl)
                  simp only [Act.put, List.setIfInBounds_toArray, List.set_cons_zero, List.set_cons_succ]
                  refine wpAnyH_done (by kernel_rfl) ?_ _
                  refine NoPanic.normal ?_
                  clear hHeld x0 hpc HS
                  go_wp2
                  go_roundw
                  case rel => exact ⟨p + 1, by omega, by go_num, CB, WB, B⟩
                  case measure => simp [Go.RowKit.intOf]; omega
                · have hp3' : ¬ (p : Int) < 3 := by omega
                  go_wp2_with fail
                  refine (first_any api wr).mono ?_
                  rintro e w17 ⟨rfl, b3⟩
                  replace WB := Kept.mk (WB.out.below b3 WB.out.lt)
                  replace CB := api.below CB b3
                  replace B := step_below B b3
                  clear b3
                  have KT := api.total 0 CB.out M.out.wb
                  rw [M.out.tot] at KT
                  go_wp2_with fail
                  refine KT.mono ?_
                  rintro e w18 ⟨rfl, b3⟩
                  replace WB := Kept.mk (WB.out.below b3 WB.out.lt)
                  replace CB := api.below CB b3
                  replace B := step_below B b3
                  clear b3
                  have KL := api.len CB.out
                  rw [M.out.len] at KL
                  go_wp2_with fail
                  refine KL.mono ?_
                  rintro e _ ⟨rfl, d, rfl⟩
                  go_wp2
                  go_ret
                  exact ⟨rfl, below_drewN B.out d⟩
end
end Go.Proofs.Ytcebjpfmpagfjaa.Escrow
