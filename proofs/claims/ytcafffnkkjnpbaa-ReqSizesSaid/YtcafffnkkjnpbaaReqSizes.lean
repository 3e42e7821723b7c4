/-
  The law ReqSizes, walked over contracts.
-/
import Derived.Test.YtcafffnkkjnpbaaPart8
import Derived.Test.YtcafffnkkjnpbaaPart2
namespace Go.Proofs.Ytcafffnkkjnpbaa.Req
open Go.RowKit Go.Proofs.Ytcafffnkkjnpbaa.Sha Go.Proofs.Ytcafffnkkjnpbaa.Wire

theorem rdB_tail {x : BV} (h : OkB x) (t : List Int) : rdB (bytesB x ++ t) = (x, (0, t)) := by
  obtain ⟨seen, l⟩ := x
  obtain ⟨h1, h2, h3⟩ := h
  dsimp only at h1 h2 h3
  have hl : B8 (l.length : Int) := ⟨by omega, by omega⟩
  have hm := many_back getR putR l t (fun x hx t => getR_back (h3 x hx) t)
  have e := nb1 (l.flatMap putR ++ t) hl
  rw [Int.toNat_natCast] at e
  unfold rdB bytesB
  simp only [List.append_assoc, nb2 _ h1, e, Int.toNat_natCast, hm]
theorem decB_more {x : BV} {b c : List Int} (h : encB x = (0, b)) (hc : c ≠ []) : ∀ y, encB y ≠ (0, b ++ c) := by
  intro y hy
  obtain ⟨k1, e1⟩ := encB_inv h
  obtain ⟨k2, e2⟩ := encB_inv hy
  have r1 := rdB_tail k1 c
  have r2 := rdB_tail k2 []
  rw [List.append_nil, ← e2, e1, r1] at r2
  injection r2 with _ r2
  injection r2 with _ r2
  exact hc r2
theorem decB_less {x : BV} {b : List Int} {k : Nat} (h : encB x = (0, b)) (hk : k < b.length) : ∀ y, encB y ≠ (0, b.take k) := by
  intro y hy
  refine decB_more (c := b.drop k) hy (fun e => ?_) x (by rw [List.take_append_drop]; exact h)
  have := congrArg List.length e
  simp at this
  omega
theorem decB_none {b : List Int} {e : Int} {x : BV} (h : DecB b e x) (hn : ∀ y, encB y ≠ (0, b)) : e = 2 := by
  rcases h with ⟨-, h⟩ | ⟨h, -⟩
  · exact absurd h (hn _)
  · exact h
theorem rd_zero (w : World) : Rd (w.alloc (.cells #[.int .u8 0] 5)) (some ⟨w.heap.size, 0, none⟩) 1 [0] := rd_one w 0 (by omega)

set_option maxRecDepth 100000 in
set_option maxHeartbeats 4000000 in
theorem reqsizes_walk (api : ReqApi) (s1 : Int) (A1 : Option Addr) (n1 c1 : Nat) (l1 : List RV) (cut : Int) (w : World) (h1 : Rr w A1 n1 l1) (hc1 : n1 ≤ c1) (hm1 : c1 ≤ 9223372036854775807) (o1 : ∀ r ∈ l1, r.ok) :
    Calls Try.prog 6 #[.agg #[.int .i64 s1, .slice A1 n1 c1], .int .i64 cut] w (Yes w) := by
  obtain ⟨N, hN⟩ : ∃ N, w.heap.size = N := ⟨_, rfl⟩
  have X : Kept (Blk (w.alloc (.cells #[.int .i64 s1, .slice A1 n1 c1] 24)) N 24 #[.int .i64 s1, .slice A1 n1 c1]) := ⟨Blk.new_at w _ _ N hN.symm⟩
  have B : Kept (Below w.heap.size w (w.alloc (.cells #[.int .i64 s1, .slice A1 n1 c1] 24))) := ⟨(Below.refl _ _).alloc (Nat.le_refl _) _⟩
  have H1 := Kept.mk (h1.below B.out)
  have O1 := Kept.mk o1
  clear h1 o1
  go_enter Try.func6, Try.ntmps6
  go_upto_region 1 with (fail)
  generalize (w.alloc (.cells #[.int .i64 s1, .slice A1 n1 c1] 24)) = w1 at *
  go_wp2_with fail
  refine (first_any api _).mono ?_
  rintro e w2 ⟨rfl, bb⟩
  replace X := Kept.mk (X.out.below bb X.out.lt); replace H1 := Kept.mk (H1.out.below bb); replace B := Kept.mk (B.out.trans (bb.mono B.out.size))
  clear bb
  have x0 := X.out.cell 0; have x1 := X.out.cell 1
  have KF := few_any s1 A1 n1 c1 l1 w2 H1.out (by omega)
  unfold FewPost at KF
  have KF2 := Kept.mk KF
  clear KF
  go_wp2_with fail
  refine KF2.out.mono ?_
  rintro e w3 ⟨t, rfl, ht, bb⟩
  replace X := Kept.mk (X.out.below bb X.out.lt); replace H1 := Kept.mk (H1.out.below bb); replace B := Kept.mk (B.out.trans (bb.mono B.out.size))
  have Q1 := Kept.mk ht
  clear bb ht KF2 x0 x1
  cases t with
  | false =>
    go_wp2_with fail
    refine (first_any api _).mono ?_
    rintro e w4 ⟨rfl, bb⟩
    replace X := Kept.mk (X.out.below bb X.out.lt); replace H1 := Kept.mk (H1.out.below bb); replace B := Kept.mk (B.out.trans (bb.mono B.out.size))
    clear bb
    go_wp2
    go_ret
    exact ⟨rfl, B.out⟩
  | true =>
    obtain ⟨few1, sm1⟩ := Q1.out rfl
    have S1 := Kept.mk sm1
    clear sm1
    have x0 := X.out.cell 0; have x1 := X.out.cell 1
    have KE := api.encb s1 H1.out hc1 hm1 (by omega) O1.out S1.out
    obtain ⟨⟨ra, ba⟩, hR⟩ : ∃ R, encB ⟨s1, l1⟩ = R := ⟨_, rfl⟩
    rw [hR] at KE
    unfold EncPost at KE
    have KE2 := Kept.mk KE
    have ER := Kept.mk hR
    clear KE hR
    go_wp2_with fail
    refine KE2.out.mono ?_
    rintro e w4 ⟨Pa, pa, ka, rfl, hka, hma, rr, bb⟩
    (try dsimp only at rr)
    replace X := Kept.mk (X.out.below bb X.out.lt); replace H1 := Kept.mk (H1.out.below bb); replace B := Kept.mk (B.out.trans (bb.mono B.out.size))
    have R := Kept.mk rr
    clear rr bb KE2 x0 x1
    by_cases hz : ra = 0
    · subst hz
      obtain ⟨hok, hbs⟩ := encB_inv ER.out
      have OKB := Kept.mk hok
      have hlen : ba.length = 3 + (l1.flatMap putR).length := by rw [hbs]; simp only [bytesB, List.length_append, be_len]; omega
      have HLEN := Kept.mk hlen
      have hb4 := encB_len ⟨s1, l1⟩
      rw [ER.out] at hb4
      (try dsimp only at hb4)
      have hpl := R.out.1
      have HPA : Kept (pa ≤ 4000) := ⟨by omega⟩
      clear hok hbs hlen hb4 hpl
      go_wp2
      go_loopw [7, 8] (fun s i wr => ∃ k : Nat, k ≤ n1 ∧ s = .int .i64 ((3 + ((l1.take k).flatMap putR).length : Nat) : Int) ∧ i = .int .i64 k ∧ Kept (Blk wr N 24 #[.int .i64 s1, .slice A1 n1 c1]) ∧ Kept (Rr wr A1 n1 l1) ∧ Kept (Rd wr Pa pa ba) ∧ Kept (Below w.heap.size w wr)) (fun _ i _ => n1 - (Go.RowKit.intOf i).toNat)
      case atStart => exact ⟨0, by omega, by simp, rfl, X, H1, R, B⟩
      case round =>
        clear X H1 R B
        obtain ⟨k, hk, rfl, rfl, X, H1, R, B⟩ := hrel
        have x1 := X.out.cell 1
        by_cases hkn : k < n1
        · have hkn' : (k : Int) < n1 := by omega
          obtain ⟨b, o, r, rfl, hx, hcell⟩ := H1.out.at_ hkn
          have hmay := OKB.out.2.2 r (List.mem_of_getElem? hx)
          have hs := flat_snoc' (f := putR) hx
          have hl5 := flat_len (f := putR) (m := 51) (l := l1.take k) (fun r hr => putR_len (OKB.out.2.2 r (List.mem_of_mem_take hr)))
          rw [List.length_take] at hl5
          have hi := putR_is hmay
          have hlen2 : ((l1.take (k + 1)).flatMap putR).length = ((l1.take k).flatMap putR).length + (putR r).length := by rw [hs, List.length_append]
          rw [hi] at hlen2
          have y0 := hcell 0 _ rfl
          rw [Nat.add_zero] at y0
          have hkind : r.kind = 1 ∨ r.kind = 2 ∨ r.kind = 3 ∨ r.kind = 4 := by
            rcases hmay with h | h | h | h
            · exact .inl h.1
            · exact .inr (.inl h.1)
            · exact .inr (.inr (.inl h.1))
            · exact .inr (.inr (.inr h.1))
          have hq : 3 + ((l1.take k).flatMap putR).length ≤ 6000 := by omega
          obtain ⟨z, hz⟩ : ∃ z, 3 + ((l1.take k).flatMap putR).length = z := ⟨_, rfl⟩
          obtain ⟨z2, hz2⟩ : ∃ z2, 3 + ((l1.take (k + 1)).flatMap putR).length = z2 := ⟨_, rfl⟩
          have HZ2 := Kept.mk hz2
          have HK : Kept ((r.kind = 1 → z2 = z + 11) ∧ (r.kind = 2 → z2 = z + 51) ∧ (r.kind = 3 → z2 = z + 35) ∧ (r.kind = 4 → z2 = z + 3)) := ⟨by
            refine ⟨fun h => ?_, fun h => ?_, fun h => ?_, fun h => ?_⟩ <;> (rw [h] at hlen2; simp only [Int.reduceEq, if_true, if_false] at hlen2; omega)⟩
          rw [hz] at hq ⊢
          clear hcell hx hmay hs hl5 hi hlen2 hz hz2
          obtain ⟨kind, dst, asset, amount, id, due, hash, sec⟩ := r
          dsimp only at y0 HK hkind
          rcases hkind with rfl | rfl | rfl | rfl
          · have hz3 : z2 = z + 11 := HK.out.1 rfl
            go_wp2
            go_roundw
            case rel => exact ⟨k + 1, by omega, by rw [HZ2.out, hz3]; go_num, by go_num, X, H1, R, B⟩
            case measure => simp [Go.RowKit.intOf]; omega
          · have hz3 : z2 = z + 51 := HK.out.2.1 rfl
            go_wp2
            go_roundw
            case rel => exact ⟨k + 1, by omega, by rw [HZ2.out, hz3]; go_num, by go_num, X, H1, R, B⟩
            case measure => simp [Go.RowKit.intOf]; omega
          · have hz3 : z2 = z + 35 := HK.out.2.2.1 rfl
            go_wp2
            go_roundw
            case rel => exact ⟨k + 1, by omega, by rw [HZ2.out, hz3]; go_num, by go_num, X, H1, R, B⟩
            case measure => simp [Go.RowKit.intOf]; omega
          · have hz3 : z2 = z + 3 := HK.out.2.2.2 rfl
            go_wp2
            go_roundw
            case rel => exact ⟨k + 1, by omega, by rw [HZ2.out, hz3]; go_num, by go_num, X, H1, R, B⟩
            case measure => simp [Go.RowKit.intOf]; omega
        · have hkn' : ¬ (k : Int) < n1 := by omega
          obtain rfl : k = n1 := by omega
          have hz : 3 + ((l1.take k).flatMap putR).length = pa := by rw [List.take_of_length_le (Nat.le_of_eq H1.out.1), ← HLEN.out]; exact R.out.1
          rw [hz]
          clear hz
          have hpa := HPA.out
          have KC := copy_any Pa pa ka ba wr R.out (by omega)
          unfold CopyPost at KC
          have KC2 := Kept.mk KC
          clear KC
          go_wp2_with fail
          refine KC2.out.mono ?_
          rintro e w20 ⟨v, rfl, own, bb⟩
          have OW := Kept.mk own
          have hsz := bb.size
          clear own KC2 x1
          go_wp2_with ((with_reducible refine sel 65 ?_); refine wpList_append_rd rfl (.tmp 63) (.tmp 64) 25 rfl wr.heap.size 5 Try.underlying25 info_u8 v pa _ rfl (OW.out.alloc _) (some ⟨w20.heap.size, 0, none⟩) 1 1 [0] rfl (rd_zero w20) (by omega) (by simp; omega) ?_; intro v7 w21 o7 g7)
          have BT : Below wr.heap.size wr w21 := (bb.alloc hsz (.cells #[.int .u8 0] 5)).grown g7 (by simp; omega) (fun k hk => (OW.out.lt k hk).1)
          obtain ⟨A7, c7, rfl, h7a, h7b, r7⟩ := own_rd (xs := ba ++ [0]) (n := pa + 1) (by rw [ints_append]; exact o7.out) (R.out.2.1.append (by intro x hx; rw [List.mem_singleton] at hx; omega))
          replace X := Kept.mk (X.out.below BT X.out.lt); replace H1 := Kept.mk (H1.out.below BT); replace R := Kept.mk (R.out.below BT); replace B := Kept.mk (B.out.trans (BT.mono B.out.size))
          clear BT bb g7 o7 OW hsz
          have KD := api.decb r7 h7a h7b (by omega)
          unfold DecBPost at KD
          refine KD.mono ?_
          rintro e w22 ⟨e7, s7, A8, n8, c8, l8, rfl, -, -, -, -, dd, bb⟩
          obtain rfl : e7 = 2 := decB_none dd (decB_more ER.out (by simp))
          replace X := Kept.mk (X.out.below bb X.out.lt); replace H1 := Kept.mk (H1.out.below bb); replace R := Kept.mk (R.out.below bb); replace B := Kept.mk (B.out.trans (bb.mono B.out.size))
          clear dd bb KD r7
          go_upto_region 22 with (fail)
          have bb : Below w22.heap.size w22 (w22.alloc (.cells #[.int .i64 s7, .slice A8 n8 c8] 24)) := (Below.refl _ _).alloc (Nat.le_refl _) _
          replace X := Kept.mk (X.out.below bb X.out.lt); replace H1 := Kept.mk (H1.out.below bb); replace R := Kept.mk (R.out.below bb); replace B := Kept.mk (B.out.trans (bb.mono B.out.size))
          clear bb
          generalize w22.alloc (.cells #[.int .i64 s7, .slice A8 n8 c8] 24) = w23 at *
          by_cases hc0 : cut < 0
          · skip
            go_wp2_with fail
            refine (first_any api _).mono ?_
            rintro e w24 ⟨rfl, bb⟩
            replace X := Kept.mk (X.out.below bb X.out.lt); replace H1 := Kept.mk (H1.out.below bb); replace R := Kept.mk (R.out.below bb); replace B := Kept.mk (B.out.trans (bb.mono B.out.size))
            clear bb
            go_wp2
            go_ret
            exact ⟨rfl, B.out⟩
          · by_cases hcn : (pa : Int) ≤ cut
            · skip
              go_wp2_with fail
              refine (first_any api _).mono ?_
              rintro e w24 ⟨rfl, bb⟩
              replace X := Kept.mk (X.out.below bb X.out.lt); replace H1 := Kept.mk (H1.out.below bb); replace R := Kept.mk (R.out.below bb); replace B := Kept.mk (B.out.trans (bb.mono B.out.size))
              clear bb
              go_wp2
              go_ret
              exact ⟨rfl, B.out⟩
            · skip
              have hcn' : ¬ (pa : Int) ≤ cut := hcn
              obtain ⟨kk, rfl⟩ : ∃ kk : Nat, cut = kk := ⟨cut.toNat, by omega⟩
              obtain ⟨A9, hsl, r9, -⟩ := slice_h R.out hka kk (by omega) kk rfl
              have KD := api.decb r9 (by omega) hma (by omega)
              unfold DecBPost at KD
              have KD2 := Kept.mk KD
              have hlt : kk < ba.length := by have := R.out.1; omega
              have LESS := Kept.mk (decB_less ER.out hlt)
              clear KD r9 hlt
              go_wp2_with fail
              refine KD2.out.mono ?_
              rintro e w24 ⟨e7, s9, A10, n10, c10, l10, rfl, -, -, -, -, dd, bb⟩
              obtain rfl : e7 = 2 := decB_none dd LESS.out
              replace X := Kept.mk (X.out.below bb X.out.lt); replace H1 := Kept.mk (H1.out.below bb); replace R := Kept.mk (R.out.below bb); replace B := Kept.mk (B.out.trans (bb.mono B.out.size))
              clear dd bb KD2 hsl
              go_upto_region 27 with (fail)
              have bb : Below w24.heap.size w24 (w24.alloc (.cells #[.int .i64 s9, .slice A10 n10 c10] 24)) := (Below.refl _ _).alloc (Nat.le_refl _) _
              replace X := Kept.mk (X.out.below bb X.out.lt); replace H1 := Kept.mk (H1.out.below bb); replace R := Kept.mk (R.out.below bb); replace B := Kept.mk (B.out.trans (bb.mono B.out.size))
              clear bb
              generalize w24.alloc (.cells #[.int .i64 s9, .slice A10 n10 c10] 24) = w25 at *
              go_wp2_with fail
              refine (first_any api _).mono ?_
              rintro e w26 ⟨rfl, bb⟩
              replace X := Kept.mk (X.out.below bb X.out.lt); replace H1 := Kept.mk (H1.out.below bb); replace R := Kept.mk (R.out.below bb); replace B := Kept.mk (B.out.trans (bb.mono B.out.size))
              clear bb
              go_wp2
              go_ret
              exact ⟨rfl, B.out⟩
    · have hz' : (ra != 0) = true := by simpa using hz
      have hnil : ba = [] := by
        have := ER.out
        unfold encB at this
        split at this
        · injection this with h1; exact absurd h1.symm hz
        · injection this with _ h2; exact h2.symm
      obtain rfl : pa = 0 := by rw [← R.out.1, hnil]; rfl
      clear hnil
      go_wp2_with fail
      refine (first_any api _).mono ?_
      rintro e w5 ⟨rfl, bb⟩
      replace X := Kept.mk (X.out.below bb X.out.lt); replace H1 := Kept.mk (H1.out.below bb); replace R := Kept.mk (R.out.below bb); replace B := Kept.mk (B.out.trans (bb.mono B.out.size))
      clear bb
      go_wp2
      go_ret
      exact ⟨rfl, B.out⟩
end Go.Proofs.Ytcafffnkkjnpbaa.Req
