/-
  Parts laid together: ReqREnc ReqRDec ReqCGet.
-/
import Derived.Test.YtcafffnkkjnpbaaPart12
import Derived.Test.YtcafffnkkjnpbaaPart8
import Derived.Test.YtcafffnkkjnpbaaPart1
import Derived.Test.YtcafffnkkjnpbaaPart7
import Derived.LoopN
import Derived.Test.YtcafffnkkjnpbaaPart3
import Derived.Test.YtcafffnkkjnpbaaPart14
import Derived.Deep.AppendLies
import Derived.Test.YtcafffnkkjnpbaaPart10
import Derived.Test.YtcafffnkkjnpbaaPart6
import Derived.Deep.CutBlock
import Derived.Deep.CutRange
import Derived.Deep.RegionHeld3

namespace Go.Proofs.Ytcafffnkkjnpbaa.Req
open Go.RowKit Go.Proofs.Ytcafffnkkjnpbaa.Sha Go.Proofs.Ytcafffnkkjnpbaa.Wire Go.Proofs.Ytcafffnkkjnpbaa.Num

/-- an Enc that is new -/
theorem en_new {w w' : World} {e : Nat} (hb : Blk w e 62 #[.slice none 0 0, .int .i64 0]) (b : Below w.heap.size w w') : En 62 w' [e] e (0, []) :=
  ⟨.slice none 0 0, hb.below b hb.lt, World.ownsRow_nil _ _ _ _, rfl⟩
theorem take_snoc {α : Type} {l : List α} {k : Nat} {x : α} (h : l[k]? = some x) : l.take (k + 1) = l.take k ++ [x] := by
  have hk := (List.getElem?_eq_some_iff.1 h)
  obtain ⟨hk, rfl⟩ := hk
  exact List.take_succ_eq_append_getElem hk
theorem flat_snoc {α : Type} {f : α → List Int} {l : List α} {k : Nat} {x : α} (h : l[k]? = some x) : (l.take (k + 1)).flatMap f = (l.take k).flatMap f ++ f x := by
  rw [take_snoc h]; simp
theorem all_snoc {α : Type} {p : α → Prop} {l : List α} {k : Nat} {x : α} (h : l[k]? = some x) (ha : ∀ r ∈ l.take k, p r) (hx : p x) : ∀ r ∈ l.take (k + 1), p r := by
  rw [take_snoc h]
  intro r hr
  rcases List.mem_append.1 hr with h1 | h1
  · exact ha r h1
  · rw [List.mem_singleton] at h1; subst h1; exact hx

set_option maxRecDepth 100000 in
set_option maxHeartbeats 4000000 in
theorem rencb_any (seen : Int) (A : Option Addr) (n c : Nat) (l : List RV) (w : World) (hr : Rr w A n l) (hok : ∀ r ∈ l, r.ok) (hc : n ≤ 9223372036854775807) : Calls Try.prog 12 #[.agg #[.int .i64 seen, .slice A n c]] w (EncPost (encB ⟨seen, l⟩) w) := by
  have HR := Kept.mk hr
  have HO := Kept.mk hok
  have LN := Kept.mk hr.1
  have hb0 := encB_bytes (x := ⟨seen, l⟩) hok
  obtain ⟨R, hR⟩ : ∃ R, encB ⟨seen, l⟩ = R := ⟨_, rfl⟩
  rw [hR] at hb0 ⊢
  have HE := Kept.mk hR
  have HB := Kept.mk hb0
  clear hr hok hR hb0
  obtain ⟨N, hN⟩ : ∃ N, w.heap.size = N := ⟨_, rfl⟩
  have B0 : Below w.heap.size w (w.alloc (.cells #[.int .i64 seen, .slice A n c] 24)) := (Below.refl _ _).alloc (Nat.le_refl _) _
  have X : Kept (Blk (w.alloc (.cells #[.int .i64 seen, .slice A n c] 24)) N 24 #[.int .i64 seen, .slice A n c]) := ⟨Blk.new_at w _ _ N hN.symm⟩
  replace HR := Kept.mk (HR.out.below B0)
  have B := Kept.mk B0
  clear B0
  by_cases h0 : 0 ≤ seen ∧ seen ≤ 65535 ∧ n ≤ 64
  · obtain ⟨h0, h1, h2⟩ := h0
    have h2' : (n : Int) ≤ 64 := by omega
    go_enter Try.func12, Try.ntmps12
    go_upto_region 1 with (fail)
    generalize w.alloc (.cells #[.int .i64 seen, .slice A n c] 24) = w1 at *
    have x0 := X.out.cell 0; have x1 := X.out.cell 1
    go_wp2
    have HQ : Kept ((true = true → ∀ r ∈ l.take 0, MayR r) ∧ (true = false → ¬ ∀ r ∈ l, MayR r)) := ⟨by simp, by simp⟩
    clear x0 x1
    go_loopw [4, 5] (fun ok i wr => ∃ (q : Bool) (k : Nat), k ≤ n ∧ ok = .bool q ∧ i = .int .i64 k ∧ Kept ((q = true → ∀ r ∈ l.take k, MayR r) ∧ (q = false → ¬ ∀ r ∈ l, MayR r)) ∧ Kept (Blk wr N 24 #[.int .i64 seen, .slice A n c]) ∧ Kept (Rr wr A n l) ∧ Kept (Below w.heap.size w wr)) (fun _ i _ => n - (Go.RowKit.intOf i).toNat)
    case atStart => exact ⟨true, 0, by omega, rfl, rfl, HQ, X, HR, B⟩
    case round =>
      clear HQ X HR B
      obtain ⟨q, k, hk, rfl, rfl, HQ, X, HR, B⟩ := hrel
      have x0 := X.out.cell 0; have x1 := X.out.cell 1
      cases q with
      | false =>
        obtain rfl : (1, []) = R := by rw [← HE.out]; exact (encB_no (fun h => HQ.out.2 rfl h.2.2)).symm
        go_wp2
        go_ret2
        exact ⟨none, 0, 0, rfl, Nat.le_refl _, by omega, Rd.nil_, B.out⟩
      | true =>
        by_cases hkn : k < n
        · have hkn' : (k : Int) < n := by omega
          obtain ⟨b, o, r, rfl, hx, hcell⟩ := HR.out.at_ hkn
          have hrm := List.mem_of_getElem? hx
          have KM := rmay_any r (HO.out r hrm)
          have HM : Kept ((decide (MayR r) = true → ∀ r ∈ l.take (k + 1), MayR r) ∧ (decide (MayR r) = false → ¬ ∀ r ∈ l, MayR r)) := ⟨fun h => all_snoc hx (HQ.out.1 rfl) (of_decide_eq_true h), fun h ha => of_decide_eq_false h (ha r hrm)⟩
          generalize decide (MayR r) = q2 at *
          obtain ⟨kind, dst, asset, amount, id, due, hash, sec⟩ := r
          have y0 := hcell 0 _ rfl; have y1 := hcell 1 _ rfl; have y2 := hcell 2 _ rfl; have y3 := hcell 3 _ rfl; have y4 := hcell 4 _ rfl; have y5 := hcell 5 _ rfl; have y6 := hcell 6 _ rfl; have y7 := hcell 7 _ rfl
          rw [Nat.add_zero] at y0
          dsimp only at y0 y1 y2 y3 y4 y5 y6 y7
          unfold rqv at KM
          dsimp only at KM
          have KM2 := Kept.mk KM
          clear hcell hx hrm KM
          go_wp2_with fail
          refine (KM2.out _).mono ?_
          rintro e w2 ⟨rfl, b2⟩
          replace X := Kept.mk (X.out.below b2 X.out.lt); replace HR := Kept.mk (HR.out.below b2); replace B := Kept.mk (B.out.trans (b2.mono B.out.size))
          clear b2 KM2 x0 x1 y0 y1 y2 y3 y4 y5 y6 y7
          go_wp2
          go_roundw
          case rel => exact ⟨q2, k + 1, by omega, rfl, by go_num, HM, X, HR, B⟩
          case measure => simp [Go.RowKit.intOf]; omega
        · have hkn' : ¬ (k : Int) < n := by omega
          obtain rfl : k = n := by omega
          have hL := LN.out
          have hall : ∀ r ∈ l, MayR r := by
            have := HQ.out.1 rfl
            rwa [← hL, List.take_length] at this
          obtain rfl : (0, bytesB ⟨seen, l⟩) = R := by rw [← HE.out]; exact (encB_yes ⟨⟨h0, h1⟩, by dsimp only; omega, hall⟩).symm
          have HA := Kept.mk hall
          clear hall hL HQ
          go_upto_region 9 with (fail)
          clear x0 x1
          obtain ⟨M, hM⟩ : ∃ M, wr.heap.size = M := ⟨_, rfl⟩
          have hMw : w.heap.size ≤ M := by rw [← hM]; exact B.out.size
          have b1 : Below M wr (wr.alloc (.cells #[.slice none 0 0, .int .i64 0] 62)) := (Below.refl _ _).alloc (by omega) _
          have E : Kept (En 62 (wr.alloc (.cells #[.slice none 0 0, .int .i64 0] 62)) [M] M (0, [])) := ⟨en_new (Blk.new_at wr _ _ M hM.symm) (Below.refl _ _)⟩
          have AF : Kept (∀ f ∈ [M], M ≤ f) := ⟨by simp⟩
          have XN : Kept (∀ w', Below M wr w' → Blk w' N 24 #[.int .i64 seen, .slice A k c]) := ⟨fun w' b => X.out.below b (by have := X.out.lt; omega)⟩
          have RN : Kept (∀ w', Below M wr w' → Rr w' A k l) := ⟨fun w' b => HR.out.below (hM ▸ b)⟩
          have BN : Kept (∀ w', Below M wr w' → Below w.heap.size w w') := ⟨fun w' b => B.out.trans (b.mono hMw)⟩
          have B2 := Kept.mk b1
          rw [hM]
          clear X HR B b1
          generalize wr.alloc (.cells #[.slice none 0 0, .int .i64 0] 62) = w2 at *
          have hMs : M ≤ wr.heap.size := by omega
          have x0 := (XN.out _ B2.out).cell 0
          have KC := rnum_any w2 [M] M seen 2 (0, []) E.out (by simp)
          rw [rn2 _ ⟨h0, h1⟩] at KC
          go_wp2_with fail
          refine KC.mono ?_
          rintro x w3 ⟨rfl, F3, he, fp⟩
          have b := fp.below AF.out (by have := B2.out.size; omega)
          replace AF := Kept.mk (fp.least AF.out (by have := B2.out.size; omega))
          replace E := Kept.mk he
          replace B2 := Kept.mk (B2.out.trans b)
          clear he fp b KC x0
          have x1 := (XN.out _ B2.out).cell 1
          have KC := rnum_any w3 F3 M (k : Int) 1 (0, [] ++ be seen.toNat 2) E.out (by simp only [List.length_append, be_len, List.length_nil]; omega)
          rw [rn1 _ ⟨by omega, by omega⟩] at KC
          go_wp2_with fail
          refine KC.mono ?_
          rintro x w4 ⟨rfl, F4, he, fp⟩
          have b := fp.below AF.out (by have := B2.out.size; omega)
          replace AF := Kept.mk (fp.least AF.out (by have := B2.out.size; omega))
          replace E : Kept (En 62 w4 F4 M (0, be seen.toNat 2 ++ (be k 1 ++ (l.take 0).flatMap putR))) := ⟨by simpa [List.append_assoc] using he⟩
          replace B2 := Kept.mk (B2.out.trans b)
          clear he fp b KC x1
          go_wp2
          go_loopw [7] (fun i wq => ∃ (j : Nat) (F : List Nat), j ≤ k ∧ i = .int .i64 j ∧ Kept (En 62 wq F M (0, be seen.toNat 2 ++ (be k 1 ++ (l.take j).flatMap putR))) ∧ Kept (∀ f ∈ F, M ≤ f) ∧ Kept (Below M wr wq)) (fun i _ => k - (Go.RowKit.intOf i).toNat)
          case atStart => exact ⟨0, F4, by omega, rfl, E, AF, B2⟩
          case round =>
            clear E AF B2
            obtain ⟨j, F, hj, rfl, E, AF, B2⟩ := hrel
            have x1 := (XN.out _ B2.out).cell 1
            by_cases hjk : j < k
            · have hjk' : (j : Int) < k := by omega
              obtain ⟨b, o, r, rfl, hx, hcell⟩ := (RN.out _ B2.out).at_ hjk
              have hrm := List.mem_of_getElem? hx
              have KC := rputr_any E.out (HA.out r hrm) (HO.out r hrm) (by
                have h2 := flat_len (f := putR) (l := l.take j) (fun r hr => putR_len (HA.out r (List.mem_of_mem_take hr)))
                rw [List.length_take] at h2
                simp only [List.length_append, be_len]; omega)
              have hs := flat_snoc (f := putR) hx
              have HS : Kept ((be seen.toNat 2 ++ (be k 1 ++ (l.take j).flatMap putR)) ++ putR r = be seen.toNat 2 ++ (be k 1 ++ (l.take (j + 1)).flatMap putR)) := ⟨by rw [hs]; simp only [List.append_assoc]⟩
              rw [HS.out] at KC
              clear HS hs
              obtain ⟨kind, dst, asset, amount, id, due, hash, sec⟩ := r
              have y0 := hcell 0 _ rfl; have y1 := hcell 1 _ rfl; have y2 := hcell 2 _ rfl; have y3 := hcell 3 _ rfl; have y4 := hcell 4 _ rfl; have y5 := hcell 5 _ rfl; have y6 := hcell 6 _ rfl; have y7 := hcell 7 _ rfl
              rw [Nat.add_zero] at y0
              dsimp only at y0 y1 y2 y3 y4 y5 y6 y7
              unfold rqv at KC
              dsimp only at KC
              have KC2 := Kept.mk KC
              clear hcell hx hrm KC
              go_wp2_with fail
              refine KC2.out.mono ?_
              rintro x w5 ⟨rfl, F5, he, fp⟩
              have b := fp.below AF.out (by have := B2.out.size; omega)
              replace AF := Kept.mk (fp.least AF.out (by have := B2.out.size; omega))
              replace E := Kept.mk he
              replace B2 := Kept.mk (B2.out.trans b)
              clear he fp b KC2 x1 y0 y1 y2 y3 y4 y5 y6 y7
              go_wp2
              go_roundw
              case rel => exact ⟨j + 1, F5, by omega, by go_num, E, AF, B2⟩
              case measure => simp [Go.RowKit.intOf]; omega
            · have hjk' : ¬ (j : Int) < k := by omega
              obtain rfl : j = k := by omega
              have hL := LN.out
              have he := E.out
              rw [← hL, List.take_length] at he
              have KC := rdone2_any _ _ M _ he (fun _ => HB.out)
              unfold RDonePost2 at KC
              have KC2 := Kept.mk KC
              clear he hL KC
              go_wp2_with fail
              refine KC2.out.mono ?_
              rintro x w6 ⟨A9, n9, c9, rfl, hc9, hm9, r9, b9⟩
              simp only [if_true] at r9
              have R9 := Kept.mk r9
              replace B2 := Kept.mk (B2.out.trans (b9.mono (by have := B2.out.size; omega)))
              clear r9 b9 KC2 x1
              go_wp2
              go_ret2
              exact ⟨A9, n9, c9, rfl, hc9, hm9, R9.out, BN.out _ B2.out⟩
  · obtain rfl : (1, []) = R := by
      rw [← HE.out]
      exact (encB_no (fun h => h0 ⟨h.1.1, h.1.2, by have := h.2.1; have := LN.out; dsimp only at *; omega⟩)).symm
    by_cases h1 : 0 ≤ seen
    · by_cases h2 : seen ≤ 65535
      · have h3 : ¬ (n : Int) ≤ 64 := by omega
        go_enter Try.func12, Try.ntmps12
        go_upto_region 1 with (fail)
        generalize w.alloc (.cells #[.int .i64 seen, .slice A n c] 24) = w1 at *
        have x0 := X.out.cell 0; have x1 := X.out.cell 1
        go_wp2
        refine wp_loop_rounds 1 ?_
        rw [rounds_succ]
        go_wp2
        go_ret2
        exact ⟨none, 0, 0, rfl, Nat.le_refl _, by omega, Rd.nil_, B.out⟩
      · go_enter Try.func12, Try.ntmps12
        go_upto_region 1 with (fail)
        generalize w.alloc (.cells #[.int .i64 seen, .slice A n c] 24) = w1 at *
        have x0 := X.out.cell 0; have x1 := X.out.cell 1
        go_wp2
        refine wp_loop_rounds 1 ?_
        rw [rounds_succ]
        go_wp2
        go_ret2
        exact ⟨none, 0, 0, rfl, Nat.le_refl _, by omega, Rd.nil_, B.out⟩
    · go_enter Try.func12, Try.ntmps12
      go_upto_region 1 with (fail)
      generalize w.alloc (.cells #[.int .i64 seen, .slice A n c] 24) = w1 at *
      have x0 := X.out.cell 0; have x1 := X.out.cell 1
      go_wp2
      refine wp_loop_rounds 1 ?_
      rw [rounds_succ]
      go_wp2
      go_ret2
      exact ⟨none, 0, 0, rfl, Nat.le_refl _, by omega, Rd.nil_, B.out⟩
end Go.Proofs.Ytcafffnkkjnpbaa.Req

namespace Go.Proofs.Ytcafffnkkjnpbaa.Req
open Go.RowKit Go.Proofs.Ytcafffnkkjnpbaa.Sha Go.Proofs.Ytcafffnkkjnpbaa.Wire Go.Proofs.Ytcafffnkkjnpbaa.Num

def zeroR : Value := .agg #[.int .i64 0, .int .i64 0, .int .i64 0, .int .i64 0, .int .i64 0, .int .i64 0, .string ⟨#[]⟩, .string ⟨#[]⟩]
theorem info_req : (Try.prog.info? 48).map (fun i => (i.zero, i.size, i.bytes)) = some (some zeroR, 8, 80) := by kernel_rfl

--PLAINHI
set_option maxRecDepth 100000 in
set_option maxHeartbeats 4000000 in
theorem rdecb_any (A : Option Addr) (n c : Nat) (b : List Int) (w : World) (hr : Rd w A n b) (hc : n ≤ c) (hm : c ≤ 9223372036854775807) (hn : n < 2147483648) : Calls Try.prog 14 #[.slice A n c] w (DecBPost b w) := by
  obtain ⟨N, hN⟩ : ∃ N, w.heap.size = N := ⟨_, rfl⟩
  obtain ⟨G, hG, hGo⟩ := arg_block hr
  have HR := Kept.mk hr
  have hbl := hr.1
  have BB := Kept.mk hr.2.1
  have w1b : Below N w ((w.alloc (.cells #[.int .i64 0, .slice none 0 0] 24)).alloc (.cells #[.slice A n c, .int .i64 0] 72)) := ((Below.refl _ _).alloc (by omega) _).alloc (by simp; omega) _
  have Y : Kept (Blk ((w.alloc (.cells #[.int .i64 0, .slice none 0 0] 24)).alloc (.cells #[.slice A n c, .int .i64 0] 72)) N 24 #[.int .i64 0, .slice none 0 0]) := ⟨(Blk.new_at w _ _ N hN.symm).alloc _⟩
  have D0 : Kept (De 72 ((w.alloc (.cells #[.int .i64 0, .slice none 0 0] 24)).alloc (.cells #[.slice A n c, .int .i64 0] 72)) (N + 1) G (0, b)) := ⟨by
    refine ⟨fun k hk => Nat.lt_of_lt_of_le (hG k hk) w1b.size, A, c, ?_, ?_, ?_, hm, ?_⟩
    · dsimp only; rw [hbl]; exact Blk.new_at _ _ _ (N + 1) (by simp [hN])
    · dsimp only; rw [hbl]; exact hr.below (hN ▸ w1b)
    · dsimp only; omega
    · dsimp only; rw [hbl]; exact hGo⟩
  have hd : N + 1 ∉ G := fun hm => by have := hG _ hm; omega
  have GN : Kept (∀ k ∈ G, k < N) := ⟨fun k hk => hN ▸ hG k hk⟩
  have W := Kept.mk w1b
  have HBL := Kept.mk hbl
  clear hr hG hGo w1b hbl
  go_enter Try.func14, Try.ntmps14
  go_wp2_with fail
  generalize ((w.alloc (.cells #[.int .i64 0, .slice none 0 0] 24)).alloc (.cells #[.slice A n c, .int .i64 0] 72)) = w1 at *
  have KC := rdnum_any w1 (N + 1) G 2 (0, b) D0.out hd
  have hL := decNum_left (0, b) 2
  obtain ⟨seen, s1, e1⟩ : ∃ a s, decNum (0, b) 2 = (a, s) := ⟨_, _, rfl⟩
  rw [e1] at KC hL
  have E1 := Kept.mk e1
  dsimp only at hL
  clear e1
  refine KC.mono ?_
  rintro x w2 ⟨rfl, he, bb⟩
  replace D0 := Kept.mk he; replace W := Kept.mk (W.out.trans (bb.below (by have := W.out.size; omega) (by intro k hk; rw [List.mem_singleton] at hk; omega))) ; replace Y := Kept.mk (Y.out.bar bb (by simp))
  clear he bb KC
  go_upto_region 3 with (fail)
  obtain ⟨M, hM⟩ : ∃ M, w2.heap.size = M := ⟨_, rfl⟩
  have hNM : N + 1 < M := by rw [← hM]; exact D0.out.lt
  (try rw [hM])
  have B1 : Below M w2 (w2.alloc (.cells #[.int .i64 seen, .slice none 0 0] 24)) := (Below.refl _ _).alloc (by omega) _
  have X : Kept (Blk (w2.alloc (.cells #[.int .i64 seen, .slice none 0 0] 24)) M 24 #[.int .i64 seen, .slice none 0 0]) := ⟨Blk.new_at w2 _ _ M hM.symm⟩
  replace D0 := Kept.mk (D0.out.below (hM ▸ B1)); replace Y := Kept.mk (Y.out.below B1 (by omega)); replace W := Kept.mk (W.out.trans (B1.mono (by omega)))
  generalize w2.alloc (.cells #[.int .i64 seen, .slice none 0 0] 24) = w3 at *
  clear B1 hM
  have KC := rdnum_any w3 (N + 1) G 1 s1 D0.out hd
  have hL2 := decNum_left s1 1
  have hm0 := decNum_size0 s1 D0.out.bytes
  obtain ⟨m, s2, e2⟩ : ∃ a s, decNum s1 1 = (a, s) := ⟨_, _, rfl⟩
  rw [e2] at KC hL2 hm0
  have E2 := Kept.mk e2
  dsimp only at hL2 hm0
  obtain ⟨m, rfl⟩ : ∃ q : Nat, m = q := ⟨m.toNat, by omega⟩
  replace hL := Nat.le_trans hL2 hL
  clear e2 hL2
  go_wp2_with fail
  refine KC.mono ?_
  rintro x w4 ⟨rfl, he, bb⟩
  replace D0 := Kept.mk he; replace W := Kept.mk (W.out.trans (bb.below (by have := W.out.size; omega) (by intro k hk; rw [List.mem_singleton] at hk; omega))) ; replace Y := Kept.mk (Y.out.bar bb (by simp)); replace X := Kept.mk (X.out.bar bb (by simp; omega))
  clear he bb KC
  have O : Kept (w4.ownsRow N 48 8 (.slice none 0 0) (many getR 0 s2).1.length ((many getR 0 s2).1.flatMap rvC)) := ⟨World.ownsRow_nil _ _ _ _⟩
  have OK : Kept (∀ r ∈ (many getR 0 s2).1, r.ok) := ⟨by intro r hr; simp [many] at hr⟩
  have LS : Kept (∀ k, (many getR k s2).2.2.length ≤ n) := ⟨fun k => by rw [← HBL.out]; exact Nat.le_trans (many_left k s2) hL⟩
  go_wp2
  go_loopw [7] (fun i wr => ∃ (k : Nat) (v : Value), k ≤ m ∧ i = .int .i64 k ∧ Kept (De 72 wr (N + 1) G (many getR k s2).2) ∧ Kept (Blk wr M 24 #[.int .i64 seen, v]) ∧ Kept (wr.ownsRow N 48 8 v (many getR k s2).1.length ((many getR k s2).1.flatMap rvC)) ∧ Kept (∀ r ∈ (many getR k s2).1, r.ok) ∧ Kept (Blk wr N 24 #[.int .i64 0, .slice none 0 0]) ∧ Kept (Below N w wr)) (fun i _ => m - (Go.RowKit.intOf i).toNat)
  case atStart => exact ⟨0, _, by omega, rfl, D0, X, O, OK, Y, W⟩
  case round =>
    clear D0 X O OK Y W
    obtain ⟨k, v, hk, rfl, D0, X, O, OK, Y, W⟩ := hrel
    have ll := many_len getR k s2
    have HSQ := Kept.mk (fun (h : (many getR k s2).2.1 = 0) => many_next getR h)
    have HST := Kept.mk (fun (h : (many getR k s2).2.1 ≠ 0) j => many_stop getR k h j)
    have LSk := LS.out k
    obtain ⟨L, err, ys, hK0⟩ : ∃ L err ys, many getR k s2 = (L, (err, ys)) := ⟨_, _, _, rfl⟩
    have HMK := Kept.mk hK0
    rw [hK0] at D0 O OK ll HSQ HST LSk
    dsimp only at D0 O OK ll HSQ HST LSk
    clear hK0
    obtain ⟨Ad, cd, d1⟩ : ∃ Ad cd, wr.cell? ⟨N + 1, 1, none⟩ = some (.int .i64 err) ∧ wr.cell? ⟨N + 1, 0, none⟩ = some (.slice Ad ys.length cd) := by
      obtain ⟨-, Ad, cd, hb, -⟩ := D0.out
      exact ⟨Ad, cd, hb.cell 1, hb.cell 0⟩
    replace d1 := d1.1
    by_cases hkm : k < m
    · have hkm' : (k : Int) < m := by omega
      by_cases herr : err = 0
      · subst herr
        have x1 := X.out.cell 1
        go_upto_region 7 with (fail)
        clear x1 d1
        have bd : Below wr.heap.size wr wr.drew := (Below.refl _ _).drew
        replace D0 := Kept.mk (D0.out.below bd); replace X := Kept.mk (X.out.below bd X.out.lt); replace Y := Kept.mk (Y.out.below bd Y.out.lt); replace O : Kept (wr.drew.ownsRow N 48 8 v L.length (L.flatMap rvC)) := ⟨own_keep O.out (barOf bd []) (by simp)⟩; replace W := Kept.mk (W.out.drew)
        clear bd
        refine wp_region_noPanic ?_
        refine wp_region_U 7 (S := fun w' : World => w'.cell? ⟨M, 1, none⟩ = some v) (by kernel_rfl) (X.out.cell 1) (fun hS0 => ?_)
        generalize wr.drew = w5 at *
        have KG := rgetr_any D0.out hd (by dsimp only; omega)
        unfold getRPost at KG
        obtain ⟨⟨kind, dst, asset, amount, id, due, hash, sec⟩, st9, hg⟩ : ∃ r st9, getR (0, ys) = (r, st9) := ⟨_, _, rfl⟩
        rw [hg] at KG
        unfold rqv at KG
        dsimp only at KG
        have HN1 : Kept (many getR (k + 1) s2 = (L ++ [⟨kind, dst, asset, amount, id, due, hash, sec⟩], st9)) := ⟨by rw [HSQ.out rfl, hg]⟩
        have KG2 := Kept.mk KG
        clear hg KG HSQ HST
        have gl : Kept (∀ g ∈ v.ownBlock.toList, N ≤ g ∧ g < w5.heap.size) := ⟨fun g hg => O.out.lt g (Option.mem_toList.1 hg)⟩
        have far1 : Kept (∀ g ∈ v.ownBlock.toList, g ≠ N + 1) := ⟨fun g hg e => by subst e; obtain ⟨-, Ad, cd, hb, -⟩ := D0.out; exact own_far O.out hb (by decide) (Option.mem_toList.1 hg)⟩
        have far2 : Kept (∀ g ∈ v.ownBlock.toList, g ≠ M) := ⟨fun g hg e => by subst e; exact own_far O.out X.out (by decide) (Option.mem_toList.1 hg)⟩
        have far3 : Kept (∀ g ∈ v.ownBlock.toList, g ≠ N) := ⟨fun g hg e => by subst e; exact own_far O.out Y.out (by decide) (Option.mem_toList.1 hg)⟩
        refine wpAnyU_take (i := 0) (oi := ?o41) (v := ?v41) ?hi41 (by kernel_rfl) (by kernel_rfl) (by kernel_rfl) (by kernel_rfl) ?hq41 (Or.inl ⟨?hw41, ?hy41⟩) (by assumption) ?r41
        case hi41 => (simp only [List.getElem?_toArray]; exact rfl)
        case hq41 => exact fun _ _ _ h => h
        case hw41 => rfl
        case hy41 => (intro w hSw; (try dsimp only at hSw); go_simp; try exact rfl)
        simp only [Act.put, List.setIfInBounds_toArray, List.set_cons_zero, List.set_cons_succ]
        refine wpAnyU_take (i := 1) (oi := ?o42) (v := ?v42) ?hi42 (by kernel_rfl) (by kernel_rfl) (by kernel_rfl) (by kernel_rfl) ?hq42 (Or.inl ⟨?hw42, ?hy42⟩) (by assumption) ?r42
        case hi42 => (simp only [List.getElem?_toArray]; exact rfl)
        case hq42 => exact fun _ _ _ h => h
        case hw42 => rfl
        case hy42 => (intro w hSw; (try dsimp only at hSw); go_simp; try exact rfl)
        simp only [Act.put, List.setIfInBounds_toArray, List.set_cons_zero, List.set_cons_succ]
        refine wpAnyU_take (i := 2) (oi := ?o43) (v := ?v43) ?hi43 (by kernel_rfl) (by kernel_rfl) (by kernel_rfl) (by kernel_rfl) ?hq43 (Or.inl ⟨?hw43, ?hy43⟩) (by assumption) ?r43
        case hi43 => (simp only [List.getElem?_toArray]; exact rfl)
        case hq43 => exact fun _ _ _ h => h
        case hw43 => rfl
        case hy43 => (intro w hSw; (try dsimp only at hSw); go_simp; try exact rfl)
        simp only [Act.put, List.setIfInBounds_toArray, List.set_cons_zero, List.set_cons_succ]
        refine wpAnyU_ready (rs := [3]) (by kernel_rfl) (by simp) ?_
        refine AllReadyU.cons (o := ?o44) ?hi44 (fun K hK => ?_) AllReadyU.nil
        case hi44 => (simp only [List.getElem?_toArray]; exact rfl)
        go_simp
        go_at_call 41
        refine KG2.out.mono ?_
        rintro x w6 ⟨rfl, rok, he, bb⟩
        have ROK := Kept.mk rok
        have ws := W.out.size
        replace D0 := Kept.mk he; replace O : Kept (w6.ownsRow N 48 8 v L.length (L.flatMap rvC)) := ⟨own_keep O.out bb (fun g hg hm => far1.out g hg (by simpa using hm))⟩; replace X := Kept.mk (X.out.bar bb (by simp; omega)); replace Y := Kept.mk (Y.out.bar bb (by simp)); replace W := Kept.mk (W.out.trans (bb.below (by omega) (by intro k hk; rw [List.mem_singleton] at hk; omega)))
        clear rok he bb KG2 ws
        have hS6 : w6.cell? ⟨M, 1, none⟩ = some v := X.out.cell 1
        refine hK.out _ _ (fun _ => hS6) (fun _ => ?_)
        clear hK K hS0
        try simp only [Act.put, List.setIfInBounds_toArray, List.set_cons_zero, List.set_cons_succ]
        refine wpAnyU_ready (rs := [4]) (by kernel_rfl) (by simp) ?_
        refine AllReadyU.cons (o := ?o45) ?hi45 (fun K hK => ?_) AllReadyU.nil
        case hi45 => (simp only [List.getElem?_toArray]; exact rfl)
        go_simp
        have b5 : Below w6.heap.size w6 (w6.alloc (.cells #[.int .i64 kind, .int .i64 dst, .int .i64 asset, .int .i64 amount, .int .i64 id, .int .i64 due, .string (strOfNums hash), .string (strOfNums sec)] 48)) := (Below.refl _ _).alloc (Nat.le_refl _) _
        have NW := Kept.mk (World.news_of_block (cs := #[.int .i64 kind, .int .i64 dst, .int .i64 asset, .int .i64 amount, .int .i64 id, .int .i64 due, .string (strOfNums hash), .string (strOfNums sec)]) (t := 48) (fr := (0, 0)) (heap_alloc_new w6 _))
        have ws := W.out.size
        replace D0 := Kept.mk (D0.out.below b5); replace O : Kept ((w6.alloc (.cells #[.int .i64 kind, .int .i64 dst, .int .i64 asset, .int .i64 amount, .int .i64 id, .int .i64 due, .string (strOfNums hash), .string (strOfNums sec)] 48)).ownsRow N 48 8 v L.length (L.flatMap rvC)) := ⟨own_keep O.out (barOf b5 []) (by simp)⟩; replace X := Kept.mk (X.out.below b5 X.out.lt); replace Y := Kept.mk (Y.out.below b5 Y.out.lt); replace W := Kept.mk (W.out.trans (b5.mono (by omega)))
        refine hK.out _ _ (fun _ => X.out.cell 1) (fun _ => ?_)
        clear hK K b5 hS6 ws
        try simp only [Act.put, List.setIfInBounds_toArray, List.set_cons_zero, List.set_cons_succ]
        generalize w6.alloc (.cells #[.int .i64 kind, .int .i64 dst, .int .i64 asset, .int .i64 amount, .int .i64 id, .int .i64 due, .string (strOfNums hash), .string (strOfNums sec)] 48) = w7 at *
        generalize w6.heap.size = gB at *
        obtain ⟨iu, hi, hz0, hz1, hz2⟩ := info_parts info_req
        have ws : N ≤ w7.heap.size := by have := W.out.size; omega
        refine wpAnyU_ready (rs := [5]) (by kernel_rfl) (by simp) ?_
        refine AllReadyU.cons (o := ?o48) ?hi48 (fun K hK => ?_) AllReadyU.nil
        case hi48 => (simp only [List.getElem?_toArray]; exact rfl)
        refine step_append_lies _ (by rfl) _ _ _ (by rfl) N 48 iu zeroR 8 80 Try.underlying22 hi hz0 hz1 hz2 rfl (by omega) v L.length (L.flatMap rvC) (by rfl) O.out
          ⟨gB, 0, none⟩ 1 1 (rvC ⟨kind, dst, asset, amount, id, due, hash, sec⟩) (by rfl) (by rfl) NW.out (rvC_one _) (by omega) (by unfold maxLen; omega) (by omega) ws w7.heap.size rfl ?_
        intro gg cg w8 hown hgrow hat hlt
        have gb := Bar.grownRow hgrow
        have X8 := Kept.mk (X.out.bar gb (fun hm => far2.out M hm rfl))
        have x6 : w8.cell? ⟨M, 1, none⟩ = some v := X8.out.cell 1
        have f6 := X8.out.frozen 1
        have bs : Bar [M] w8 (w8.setCell ⟨M, 1, none⟩ (.slice (some ⟨gg, 0, none⟩) (L.length + 1) cg)) := (Bar.refl _ _).setCell (by simp) _
        have D9 := Kept.mk ((D0.out.keep gb (fun hm => far1.out _ hm rfl) (fun k hk hm => by have := GN.out k hk; have := (gl.out k hm).1; omega)).keep bs (by simp; omega) (fun k hk hm => by rw [List.mem_singleton] at hm; have := GN.out k hk; omega))
        have Y9 := Kept.mk ((Y.out.bar gb (fun hm => far3.out N hm rfl)).bar bs (by simp; omega))
        have X9 : Kept (Blk (w8.setCell ⟨M, 1, none⟩ (.slice (some ⟨gg, 0, none⟩) (L.length + 1) cg)) M 24 #[.int .i64 seen, .slice (some ⟨gg, 0, none⟩) (L.length + 1) cg]) := ⟨X8.out.set_ 1 _⟩
        have O9 := Kept.mk (own_keep hown bs (fun g hg hm => by rw [List.mem_singleton] at hm; subst hm; exact own_far hown X8.out (by decide) (Option.mem_toList.1 hg)))
        have W9 : Kept (Below N w (w8.setCell ⟨M, 1, none⟩ (.slice (some ⟨gg, 0, none⟩) (L.length + 1) cg))) := ⟨(W.out.grown hgrow ws (fun k hk => (gl.out k (by simp [hk])).1)).setCell (by show N ≤ M; omega) _⟩
        clear hown hgrow hat hlt gb bs NW hi hz0 hz1 hz2 D0 X Y O W X8
        refine hK.out _ _ (fun _ => x6) (fun _ => ?_)
        clear hK K
        try simp only [Act.put, List.setIfInBounds_toArray, List.set_cons_zero, List.set_cons_succ]
        refine wpAnyU_ready (rs := [6]) (by kernel_rfl) (by simp) ?_
        refine AllReadyU.cons (o := ?o46) ?hi46 (fun K hK => ?_) AllReadyU.nil
        case hi46 => (simp only [List.getElem?_toArray]; exact rfl)
        go_simp
        refine hK.out _ _ (fun _ => x6) (fun _ => ?_)
        clear hK K
        try simp only [Act.put, List.setIfInBounds_toArray, List.set_cons_zero, List.set_cons_succ]
        refine wpAnyU_ready (rs := [7]) (by kernel_rfl) (by simp) ?_
        refine AllReadyU.cons (o := ?o47) ?hi47 (fun K hK => ?_) AllReadyU.nil
        case hi47 => (simp only [List.getElem?_toArray]; exact rfl)
        go_simp
        refine hK.out _ _ (fun h => absurd rfl h) (fun _ => ?_)
        clear hK K
        try simp only [Act.put, List.setIfInBounds_toArray, List.set_cons_zero, List.set_cons_succ]
        refine wpAnyU_done (by kernel_rfl) ?_ _
        refine NoPanic.normal ?_
        clear x6 f6
        generalize (w8.setCell ⟨M, 1, none⟩ (.slice (some ⟨gg, 0, none⟩) (L.length + 1) cg)) = w9 at *
        have OK9 : Kept (∀ r ∈ (many getR (k + 1) s2).1, r.ok) := ⟨by
          rw [HN1.out]
          intro r hr
          rcases List.mem_append.1 hr with h1 | h1
          · exact OK.out r h1
          · rw [List.mem_singleton] at h1; subst h1; exact ROK.out⟩
        have O10 : Kept (w9.ownsRow N 48 8 (.slice (some ⟨gg, 0, none⟩) (L.length + 1) cg) (many getR (k + 1) s2).1.length ((many getR (k + 1) s2).1.flatMap rvC)) := ⟨by
          rw [HN1.out]
          have e1 : (L ++ [(⟨kind, dst, asset, amount, id, due, hash, sec⟩ : RV)]).flatMap rvC = L.flatMap rvC ++ rvC ⟨kind, dst, asset, amount, id, due, hash, sec⟩ := by simp
          dsimp only
          rw [List.length_append, List.length_singleton, e1]
          exact O9.out⟩
        have D10 : Kept (De 72 w9 (N + 1) G (many getR (k + 1) s2).2) := ⟨by rw [HN1.out]; exact D9.out⟩
        clear O9 D9 OK HN1
        go_wp2
        go_roundw
        case rel => exact ⟨k + 1, _, by omega, by go_num, D10, X9, O10, OK9, Y9, W9⟩
        case measure => simp [Go.RowKit.intOf]; omega
      · have herr' : (err == 0) = false := beq_eq_false_iff_ne.2 herr
        have HALL : Kept (many getR m s2 = (L, (err, ys))) := ⟨by have := HST.out herr (m - k); rw [show k + (m - k) = m by omega] at this; exact this⟩
        have HRD : Kept (rdB b = (⟨seen, L⟩, (err, ys))) := ⟨by unfold rdB; simp only [E1.out, E2.out, Int.toNat_natCast, HALL.out]⟩
        have HDR := DecB.read b
        rw [HRD.out] at HDR
        dsimp only at HDR
        have AN0 := fun A2 c2 (hv : v = .slice A2 L.length c2) o (ho : A2 = some ⟨N, o, none⟩) => (show False by subst hv; subst ho; exact own_far O.out Y.out (by decide) rfl)
        obtain ⟨A2, c2, rfl, hl2, hc2, rr⟩ := Rc.own (C := rvC) (s := 8) (fun _ => rfl) O.out rfl
        have AN : Kept (∀ o, A2 ≠ some ⟨N, o, none⟩) := ⟨fun o ho => AN0 A2 c2 rfl o ho⟩
        clear AN0
        have RR := Kept.mk rr
        have x0 := X.out.cell 0; have x1 := X.out.cell 1
        have KE := rencb_any seen A2 L.length c2 L wr rr OK.out (by omega)
        obtain ⟨R, hR⟩ : ∃ R, encB ⟨seen, L⟩ = R := ⟨_, rfl⟩
        rw [hR] at KE HDR
        have HDK := Kept.mk HDR
        have KE2 := Kept.mk KE
        unfold EncPost at KE2
        clear rr KE hR HDR HSQ HST O HMK LSk HALL HRD
        go_wp2_with fail
        refine KE2.out.mono ?_
        rintro x w5 ⟨A9, n9, c9, rfl, -, -, r9, b9⟩
        obtain ⟨R1, R2⟩ := R
        dsimp only at r9 HDK
        replace X := Kept.mk (X.out.below b9 X.out.lt); replace Y := Kept.mk (Y.out.below b9 Y.out.lt); replace D0 := Kept.mk (D0.out.below b9); replace RR := Kept.mk (RR.out.below b9); replace W := Kept.mk (W.out.trans (b9.mono (by have := W.out.size; omega)))
        have KD := Kept.mk (rdend_any w5 (N + 1) G (err, ys) D0.out)
        have KB := Kept.mk (bytes_any A9 A n9 n c9 c R2 b w5 r9 (HR.out.below (hN ▸ W.out)))
        have EB : Kept (sameB R2 b = true ↔ R2 = b) := ⟨by simp [sameB]⟩
        clear r9 b9 KE2 x0 x1 D0 d1
        have x0 := X.out.cell 0; have x1 := X.out.cell 1; have y0 := Y.out.cell 0; have y1 := Y.out.cell 1; have z0 := Y.out.frozen 0; have z1 := Y.out.frozen 1
        obtain ⟨z, hz⟩ : ∃ z, endOf (err, ys) = z := ⟨_, rfl⟩
        rw [hz] at KD HDK
        clear hz
        generalize sameB R2 b = q at *
        by_cases hz : z = 0
        · subst hz
          by_cases hR1 : R1 = 0
          · subst hR1
            cases q with
            | true =>
              obtain rfl : R2 = b := EB.out.1 rfl
              have HF := HDK.out
              rw [if_pos ⟨rfl, rfl⟩, if_pos ⟨rfl, rfl⟩] at HF
              replace HF := Kept.mk HF
              have P2 : Kept (Blk ((w5.setCell ⟨N, 0, none⟩ (.int .i64 seen)).setCell ⟨N, 1, none⟩ (.slice A2 L.length c2)) N 24 #[.int .i64 seen, .slice A2 L.length c2]) := ⟨(Y.out.set_ 0 _).set_ 1 _⟩
              have PB : Kept (Bar [N] w5 ((w5.setCell ⟨N, 0, none⟩ (.int .i64 seen)).setCell ⟨N, 1, none⟩ (.slice A2 L.length c2))) := ⟨((Bar.refl [N] w5).setCell (p := ⟨N, 0, none⟩) (by simp) _).setCell (p := ⟨N, 1, none⟩) (by simp) _⟩
              clear X Y
              go_wp2_with (first | (go_at_call 42; (with_reducible refine KD.out.mono ?_); rintro e w' ⟨rfl, rfl⟩) | (go_at_call 15; (with_reducible refine KB.out.mono ?_); rintro e w' ⟨rfl, rfl⟩))
              (try simp only [Exit.inBlock, Exit.then])
              refine bodyPost_ret (results_row_tmp rfl _ _ N 24 #[.int .i64 seen, .slice A2 L.length c2] (0, 0) _ rfl P2.out Try.underlying24 rfl batch_size) rfl ?_
              exact ⟨0, seen, A2, L.length, c2, L, rfl, hl2, hc2, RR.out.bar PB.out (fun x hx => .inr (fun o ho => by rw [List.mem_singleton] at hx; subst hx; exact AN.out o ho)), OK.out, HF.out, by rw [hN]; exact W.out.trans (PB.out.below (by have := W.out.size; omega) (by intro k hk; rw [List.mem_singleton] at hk; omega))⟩
            | false =>
              have HF := HDK.out
              have hne : ¬ ((0 : Int) = 0 ∧ ((0 : Int), R2) = (0, b)) := fun h => by have := EB.out.2 (by injection h.2); cases this
              rw [if_neg hne, if_neg hne] at HF
              replace HF := Kept.mk HF
              clear hne
              have P2 : Kept (Blk ((w5.setCell ⟨N, 0, none⟩ (.int .i64 0)).setCell ⟨N, 1, none⟩ (.slice none 0 0)) N 24 #[.int .i64 0, .slice none 0 0]) := ⟨(Y.out.set_ 0 _).set_ 1 _⟩
              have PB : Kept (Bar [N] w5 ((w5.setCell ⟨N, 0, none⟩ (.int .i64 0)).setCell ⟨N, 1, none⟩ (.slice none 0 0))) := ⟨((Bar.refl [N] w5).setCell (p := ⟨N, 0, none⟩) (by simp) _).setCell (p := ⟨N, 1, none⟩) (by simp) _⟩
              clear X Y
              go_wp2_with (first | (go_at_call 42; (with_reducible refine KD.out.mono ?_); rintro e w' ⟨rfl, rfl⟩) | (go_at_call 15; (with_reducible refine KB.out.mono ?_); rintro e w' ⟨rfl, rfl⟩))
              (try simp only [Exit.inBlock, Exit.then])
              refine bodyPost_ret (results_row_tmp rfl _ _ N 24 #[.int .i64 0, .slice none 0 0] (0, 0) _ rfl P2.out Try.underlying24 rfl batch_size) rfl ?_
              exact ⟨2, 0, none, 0, 0, [], rfl, Nat.le_refl _, by omega, Rc.nil, by simp, HF.out, by rw [hN]; exact W.out.trans (PB.out.below (by have := W.out.size; omega) (by intro k hk; rw [List.mem_singleton] at hk; omega))⟩
          · have hR2 : (R1 != 0) = true := by simpa using hR1
            have HF := HDK.out
            have hne : ¬ ((0 : Int) = 0 ∧ (R1, R2) = (0, b)) := fun h => hR1 (by injection h.2)
            rw [if_neg hne, if_neg hne] at HF
            replace HF := Kept.mk HF
            clear hne
            have P2 : Kept (Blk ((w5.setCell ⟨N, 0, none⟩ (.int .i64 0)).setCell ⟨N, 1, none⟩ (.slice none 0 0)) N 24 #[.int .i64 0, .slice none 0 0]) := ⟨(Y.out.set_ 0 _).set_ 1 _⟩
            have PB : Kept (Bar [N] w5 ((w5.setCell ⟨N, 0, none⟩ (.int .i64 0)).setCell ⟨N, 1, none⟩ (.slice none 0 0))) := ⟨((Bar.refl [N] w5).setCell (p := ⟨N, 0, none⟩) (by simp) _).setCell (p := ⟨N, 1, none⟩) (by simp) _⟩
            clear X Y
            go_wp2_with (first | (go_at_call 42; (with_reducible refine KD.out.mono ?_); rintro e w' ⟨rfl, rfl⟩) | (go_at_call 15; (with_reducible refine KB.out.mono ?_); rintro e w' ⟨rfl, rfl⟩))
            (try simp only [Exit.inBlock, Exit.then])
            refine bodyPost_ret (results_row_tmp rfl _ _ N 24 #[.int .i64 0, .slice none 0 0] (0, 0) _ rfl P2.out Try.underlying24 rfl batch_size) rfl ?_
            exact ⟨2, 0, none, 0, 0, [], rfl, Nat.le_refl _, by omega, Rc.nil, by simp, HF.out, by rw [hN]; exact W.out.trans (PB.out.below (by have := W.out.size; omega) (by intro k hk; rw [List.mem_singleton] at hk; omega))⟩
        · have hz2 : (z != 0) = true := by simpa using hz
          have HF := HDK.out
          have hne : ¬ (z = 0 ∧ (R1, R2) = (0, b)) := fun h => hz h.1
          rw [if_neg hne, if_neg hne] at HF
          replace HF := Kept.mk HF
          clear hne
          have P2 : Kept (Blk ((w5.setCell ⟨N, 0, none⟩ (.int .i64 0)).setCell ⟨N, 1, none⟩ (.slice none 0 0)) N 24 #[.int .i64 0, .slice none 0 0]) := ⟨(Y.out.set_ 0 _).set_ 1 _⟩
          have PB : Kept (Bar [N] w5 ((w5.setCell ⟨N, 0, none⟩ (.int .i64 0)).setCell ⟨N, 1, none⟩ (.slice none 0 0))) := ⟨((Bar.refl [N] w5).setCell (p := ⟨N, 0, none⟩) (by simp) _).setCell (p := ⟨N, 1, none⟩) (by simp) _⟩
          clear X Y
          go_wp2_with (first | (go_at_call 42; (with_reducible refine KD.out.mono ?_); rintro e w' ⟨rfl, rfl⟩) | (go_at_call 15; (with_reducible refine KB.out.mono ?_); rintro e w' ⟨rfl, rfl⟩))
          (try simp only [Exit.inBlock, Exit.then])
          refine bodyPost_ret (results_row_tmp rfl _ _ N 24 #[.int .i64 0, .slice none 0 0] (0, 0) _ rfl P2.out Try.underlying24 rfl batch_size) rfl ?_
          exact ⟨2, 0, none, 0, 0, [], rfl, Nat.le_refl _, by omega, Rc.nil, by simp, HF.out, by rw [hN]; exact W.out.trans (PB.out.below (by have := W.out.size; omega) (by intro k hk; rw [List.mem_singleton] at hk; omega))⟩
    · have hkm' : ¬ (k : Int) < m := by omega
      obtain rfl : k = m := by omega
      have HALL := HMK
      have HRD : Kept (rdB b = (⟨seen, L⟩, (err, ys))) := ⟨by unfold rdB; simp only [E1.out, E2.out, Int.toNat_natCast, HALL.out]⟩
      have HDR := DecB.read b
      rw [HRD.out] at HDR
      dsimp only at HDR
      have AN0 := fun A2 c2 (hv : v = .slice A2 L.length c2) o (ho : A2 = some ⟨N, o, none⟩) => (show False by subst hv; subst ho; exact own_far O.out Y.out (by decide) rfl)
      obtain ⟨A2, c2, rfl, hl2, hc2, rr⟩ := Rc.own (C := rvC) (s := 8) (fun _ => rfl) O.out rfl
      have AN : Kept (∀ o, A2 ≠ some ⟨N, o, none⟩) := ⟨fun o ho => AN0 A2 c2 rfl o ho⟩
      clear AN0
      have RR := Kept.mk rr
      have x0 := X.out.cell 0; have x1 := X.out.cell 1
      have KE := rencb_any seen A2 L.length c2 L wr rr OK.out (by omega)
      obtain ⟨R, hR⟩ : ∃ R, encB ⟨seen, L⟩ = R := ⟨_, rfl⟩
      rw [hR] at KE HDR
      have HDK := Kept.mk HDR
      have KE2 := Kept.mk KE
      unfold EncPost at KE2
      clear rr KE hR HDR HSQ HST O HMK LSk HALL HRD
      go_wp2_with fail
      refine KE2.out.mono ?_
      rintro x w5 ⟨A9, n9, c9, rfl, -, -, r9, b9⟩
      obtain ⟨R1, R2⟩ := R
      dsimp only at r9 HDK
      replace X := Kept.mk (X.out.below b9 X.out.lt); replace Y := Kept.mk (Y.out.below b9 Y.out.lt); replace D0 := Kept.mk (D0.out.below b9); replace RR := Kept.mk (RR.out.below b9); replace W := Kept.mk (W.out.trans (b9.mono (by have := W.out.size; omega)))
      have KD := Kept.mk (rdend_any w5 (N + 1) G (err, ys) D0.out)
      have KB := Kept.mk (bytes_any A9 A n9 n c9 c R2 b w5 r9 (HR.out.below (hN ▸ W.out)))
      have EB : Kept (sameB R2 b = true ↔ R2 = b) := ⟨by simp [sameB]⟩
      clear r9 b9 KE2 x0 x1 D0 d1
      have x0 := X.out.cell 0; have x1 := X.out.cell 1; have y0 := Y.out.cell 0; have y1 := Y.out.cell 1; have z0 := Y.out.frozen 0; have z1 := Y.out.frozen 1
      obtain ⟨z, hz⟩ : ∃ z, endOf (err, ys) = z := ⟨_, rfl⟩
      rw [hz] at KD HDK
      clear hz
      generalize sameB R2 b = q at *
      by_cases hz : z = 0
      · subst hz
        by_cases hR1 : R1 = 0
        · subst hR1
          cases q with
          | true =>
            obtain rfl : R2 = b := EB.out.1 rfl
            have HF := HDK.out
            rw [if_pos ⟨rfl, rfl⟩, if_pos ⟨rfl, rfl⟩] at HF
            replace HF := Kept.mk HF
            have P2 : Kept (Blk ((w5.setCell ⟨N, 0, none⟩ (.int .i64 seen)).setCell ⟨N, 1, none⟩ (.slice A2 L.length c2)) N 24 #[.int .i64 seen, .slice A2 L.length c2]) := ⟨(Y.out.set_ 0 _).set_ 1 _⟩
            have PB : Kept (Bar [N] w5 ((w5.setCell ⟨N, 0, none⟩ (.int .i64 seen)).setCell ⟨N, 1, none⟩ (.slice A2 L.length c2))) := ⟨((Bar.refl [N] w5).setCell (p := ⟨N, 0, none⟩) (by simp) _).setCell (p := ⟨N, 1, none⟩) (by simp) _⟩
            clear X Y
            go_wp2_with (first | (go_at_call 42; (with_reducible refine KD.out.mono ?_); rintro e w' ⟨rfl, rfl⟩) | (go_at_call 15; (with_reducible refine KB.out.mono ?_); rintro e w' ⟨rfl, rfl⟩))
            (try simp only [Exit.inBlock, Exit.then])
            refine bodyPost_ret (results_row_tmp rfl _ _ N 24 #[.int .i64 seen, .slice A2 L.length c2] (0, 0) _ rfl P2.out Try.underlying24 rfl batch_size) rfl ?_
            exact ⟨0, seen, A2, L.length, c2, L, rfl, hl2, hc2, RR.out.bar PB.out (fun x hx => .inr (fun o ho => by rw [List.mem_singleton] at hx; subst hx; exact AN.out o ho)), OK.out, HF.out, by rw [hN]; exact W.out.trans (PB.out.below (by have := W.out.size; omega) (by intro k hk; rw [List.mem_singleton] at hk; omega))⟩
          | false =>
            have HF := HDK.out
            have hne : ¬ ((0 : Int) = 0 ∧ ((0 : Int), R2) = (0, b)) := fun h => by have := EB.out.2 (by injection h.2); cases this
            rw [if_neg hne, if_neg hne] at HF
            replace HF := Kept.mk HF
            clear hne
            have P2 : Kept (Blk ((w5.setCell ⟨N, 0, none⟩ (.int .i64 0)).setCell ⟨N, 1, none⟩ (.slice none 0 0)) N 24 #[.int .i64 0, .slice none 0 0]) := ⟨(Y.out.set_ 0 _).set_ 1 _⟩
            have PB : Kept (Bar [N] w5 ((w5.setCell ⟨N, 0, none⟩ (.int .i64 0)).setCell ⟨N, 1, none⟩ (.slice none 0 0))) := ⟨((Bar.refl [N] w5).setCell (p := ⟨N, 0, none⟩) (by simp) _).setCell (p := ⟨N, 1, none⟩) (by simp) _⟩
            clear X Y
            go_wp2_with (first | (go_at_call 42; (with_reducible refine KD.out.mono ?_); rintro e w' ⟨rfl, rfl⟩) | (go_at_call 15; (with_reducible refine KB.out.mono ?_); rintro e w' ⟨rfl, rfl⟩))
            (try simp only [Exit.inBlock, Exit.then])
            refine bodyPost_ret (results_row_tmp rfl _ _ N 24 #[.int .i64 0, .slice none 0 0] (0, 0) _ rfl P2.out Try.underlying24 rfl batch_size) rfl ?_
            exact ⟨2, 0, none, 0, 0, [], rfl, Nat.le_refl _, by omega, Rc.nil, by simp, HF.out, by rw [hN]; exact W.out.trans (PB.out.below (by have := W.out.size; omega) (by intro k hk; rw [List.mem_singleton] at hk; omega))⟩
        · have hR2 : (R1 != 0) = true := by simpa using hR1
          have HF := HDK.out
          have hne : ¬ ((0 : Int) = 0 ∧ (R1, R2) = (0, b)) := fun h => hR1 (by injection h.2)
          rw [if_neg hne, if_neg hne] at HF
          replace HF := Kept.mk HF
          clear hne
          have P2 : Kept (Blk ((w5.setCell ⟨N, 0, none⟩ (.int .i64 0)).setCell ⟨N, 1, none⟩ (.slice none 0 0)) N 24 #[.int .i64 0, .slice none 0 0]) := ⟨(Y.out.set_ 0 _).set_ 1 _⟩
          have PB : Kept (Bar [N] w5 ((w5.setCell ⟨N, 0, none⟩ (.int .i64 0)).setCell ⟨N, 1, none⟩ (.slice none 0 0))) := ⟨((Bar.refl [N] w5).setCell (p := ⟨N, 0, none⟩) (by simp) _).setCell (p := ⟨N, 1, none⟩) (by simp) _⟩
          clear X Y
          go_wp2_with (first | (go_at_call 42; (with_reducible refine KD.out.mono ?_); rintro e w' ⟨rfl, rfl⟩) | (go_at_call 15; (with_reducible refine KB.out.mono ?_); rintro e w' ⟨rfl, rfl⟩))
          (try simp only [Exit.inBlock, Exit.then])
          refine bodyPost_ret (results_row_tmp rfl _ _ N 24 #[.int .i64 0, .slice none 0 0] (0, 0) _ rfl P2.out Try.underlying24 rfl batch_size) rfl ?_
          exact ⟨2, 0, none, 0, 0, [], rfl, Nat.le_refl _, by omega, Rc.nil, by simp, HF.out, by rw [hN]; exact W.out.trans (PB.out.below (by have := W.out.size; omega) (by intro k hk; rw [List.mem_singleton] at hk; omega))⟩
      · have hz2 : (z != 0) = true := by simpa using hz
        have HF := HDK.out
        have hne : ¬ (z = 0 ∧ (R1, R2) = (0, b)) := fun h => hz h.1
        rw [if_neg hne, if_neg hne] at HF
        replace HF := Kept.mk HF
        clear hne
        have P2 : Kept (Blk ((w5.setCell ⟨N, 0, none⟩ (.int .i64 0)).setCell ⟨N, 1, none⟩ (.slice none 0 0)) N 24 #[.int .i64 0, .slice none 0 0]) := ⟨(Y.out.set_ 0 _).set_ 1 _⟩
        have PB : Kept (Bar [N] w5 ((w5.setCell ⟨N, 0, none⟩ (.int .i64 0)).setCell ⟨N, 1, none⟩ (.slice none 0 0))) := ⟨((Bar.refl [N] w5).setCell (p := ⟨N, 0, none⟩) (by simp) _).setCell (p := ⟨N, 1, none⟩) (by simp) _⟩
        clear X Y
        go_wp2_with (first | (go_at_call 42; (with_reducible refine KD.out.mono ?_); rintro e w' ⟨rfl, rfl⟩) | (go_at_call 15; (with_reducible refine KB.out.mono ?_); rintro e w' ⟨rfl, rfl⟩))
        (try simp only [Exit.inBlock, Exit.then])
        refine bodyPost_ret (results_row_tmp rfl _ _ N 24 #[.int .i64 0, .slice none 0 0] (0, 0) _ rfl P2.out Try.underlying24 rfl batch_size) rfl ?_
        exact ⟨2, 0, none, 0, 0, [], rfl, Nat.le_refl _, by omega, Rc.nil, by simp, HF.out, by rw [hN]; exact W.out.trans (PB.out.below (by have := W.out.size; omega) (by intro k hk; rw [List.mem_singleton] at hk; omega))⟩
end Go.Proofs.Ytcafffnkkjnpbaa.Req

namespace Go.Proofs.Ytcafffnkkjnpbaa.Req
open Go.RowKit Go.Proofs.Ytcafffnkkjnpbaa.Sha Go.Proofs.Ytcafffnkkjnpbaa.Wire

--PLAINHI
theorem creq_size : (Try.prog.info? 48).map (·.size) = some 8 := by kernel_rfl
theorem cev_size : (Try.prog.info? 76).map (·.size) = some 9 := by kernel_rfl
theorem cReq_ok (st : St) (hb : Bytes st.2) : (cReq st).1.ok := by
  have n0 : Bytes [] := by intro x hx; simp at hx
  have h1 := decNum_bytes st 1 hb
  have h2 := cMove_rest _ h1
  have h3 := decNum_bytes _ 2 h1
  unfold cReq
  split
  · exact ⟨n0, n0⟩
  · split
    · exact ⟨iter_bytes1 32 _ h2, n0⟩
    · split
      · exact ⟨n0, iter_bytes1 32 _ h3⟩
      · split
        · exact ⟨n0, n0⟩
        · exact ⟨n0, n0⟩
theorem cEv_ok (st : St) (hb : Bytes st.2) : (cEv st).1.ok := by
  have n0 : Bytes [] := by intro x hx; simp at hx
  have h1 := decNum_bytes st 1 hb
  have h2 := decNum_bytes _ 2 (cMove_rest _ (decNum_bytes _ 1 h1))
  have h3 := decNum_bytes _ 2 h1
  unfold cEv
  split
  · exact ⟨n0, n0⟩
  · split
    · exact ⟨iter_bytes1 32 _ h2, n0⟩
    · split
      · exact ⟨n0, iter_bytes1 32 _ h3⟩
      · split
        · exact ⟨n0, n0⟩
        · exact ⟨n0, n0⟩
set_option maxRecDepth 100000 in
set_option maxHeartbeats 4000000 in
theorem cgetr_any {w : World} {d : Nat} {G : List Nat} {st : St} (h : De 104 w d G st) (hd : d ∉ G) : Calls Try.prog 38 #[.pointer (some ⟨d, 0, none⟩)] w fun x w' => x = .returned (.tuple #[rqv (cReq st).1, .bool (decide (HoldR (cReq st).1))]) ∧ (cReq st).1.ok ∧ De 104 w' d G (cReq st).2 ∧ Bar [d] w w' := by
  have hby := h.bytes
  have hok := cReq_ok st hby
  have hby1 := decNum_bytes st 1 hby
  obtain ⟨R, hR⟩ : ∃ R, cReq st = R := ⟨_, rfl⟩
  rw [hR] at hok ⊢
  have HOK := Kept.mk hok
  obtain ⟨N, hN⟩ : ∃ N, w.heap.size = N := ⟨_, rfl⟩
  have hdN : d < N := by rw [← hN]; exact h.lt
  have hGN : ∀ g ∈ G, g < N := by rw [← hN]; exact h.1
  have B0 : Below w.heap.size w (w.alloc (.cells #[.int .i64 0, .int .i64 0, .int .i64 0, .int .i64 0, .int .i64 0, .int .i64 0, .string ⟨#[]⟩, .string ⟨#[]⟩] 48)) := (Below.refl _ _).alloc (Nat.le_refl _) _
  have Y : Kept (Blk (w.alloc (.cells #[.int .i64 0, .int .i64 0, .int .i64 0, .int .i64 0, .int .i64 0, .int .i64 0, .string ⟨#[]⟩, .string ⟨#[]⟩] 48)) N 48 #[.int .i64 0, .int .i64 0, .int .i64 0, .int .i64 0, .int .i64 0, .int .i64 0, .string ⟨#[]⟩, .string ⟨#[]⟩]) := ⟨Blk.new_at w _ _ N hN.symm⟩
  have KC := dnum_any _ d G 1 st (h.below B0) hd
  have B : Kept (Bar [d] w (w.alloc (.cells #[.int .i64 0, .int .i64 0, .int .i64 0, .int .i64 0, .int .i64 0, .int .i64 0, .string ⟨#[]⟩, .string ⟨#[]⟩] 48))) := ⟨barOf B0 _⟩
  obtain ⟨s, hs⟩ : ∃ s, decNum st 1 = s := ⟨_, rfl⟩
  rw [hs] at KC hby1
  have HR := Kept.mk hR; have HS := Kept.mk hs
  have HG := Kept.mk hGN
  have HW := Kept.mk (Nat.le_of_eq hN)
  clear h hby hok hR hs B0 hGN
  obtain ⟨z, s1⟩ := s
  dsimp only at KC hby1
  go_enter Try.func38, Try.ntmps38
  go_upto_region 1 with (fail)
  generalize w.alloc (.cells #[.int .i64 0, .int .i64 0, .int .i64 0, .int .i64 0, .int .i64 0, .int .i64 0, .string ⟨#[]⟩, .string ⟨#[]⟩] 48) = w0 at *
  have KK := Kept.mk KC
  clear KC
  go_wp2_with fail
  refine KK.out.mono ?_
  rintro x w1 ⟨rfl, he, b⟩
  replace B := Kept.mk (B.out.trans b (fun x hx => .inl hx))
  have hNd : N ∉ [d] := by simp; omega
  have HND := Kept.mk hNd
  have hY := Y.out.bar b hNd
  obtain ⟨M, hM⟩ : ∃ M, w1.heap.size = M := ⟨_, rfl⟩
  have hNM : N < M := by rw [← hM]; exact hY.lt
  have b1 : Below w1.heap.size w1 (w1.alloc (.cells #[.int .i64 z, .int .i64 0, .int .i64 0, .int .i64 0, .int .i64 0, .int .i64 0, .string ⟨#[]⟩, .string ⟨#[]⟩] 48)) := (Below.refl _ _).alloc (Nat.le_refl _) _
  replace Y := Kept.mk (hY.below b1 hY.lt)
  have X : Kept (Blk (w1.alloc (.cells #[.int .i64 z, .int .i64 0, .int .i64 0, .int .i64 0, .int .i64 0, .int .i64 0, .string ⟨#[]⟩, .string ⟨#[]⟩] 48)) M 48 #[.int .i64 z, .int .i64 0, .int .i64 0, .int .i64 0, .int .i64 0, .int .i64 0, .string ⟨#[]⟩, .string ⟨#[]⟩]) := ⟨Blk.new_at w1 _ _ M hM.symm⟩
  have HD : Kept (De 104 (w1.alloc (.cells #[.int .i64 z, .int .i64 0, .int .i64 0, .int .i64 0, .int .i64 0, .int .i64 0, .string ⟨#[]⟩, .string ⟨#[]⟩] 48)) d G s1) := ⟨he.below b1⟩
  replace B := Kept.mk (B.out.trans (barOf b1 [d]) (fun x hx => .inl hx))
  clear he b hY b1 hNd KK
  go_upto_block 0 with (fail)
  generalize w1.alloc (.cells #[.int .i64 z, .int .i64 0, .int .i64 0, .int .i64 0, .int .i64 0, .int .i64 0, .string ⟨#[]⟩, .string ⟨#[]⟩] 48) = w2 at *
  have DM : Kept (d ∉ [M] ∧ Disj G [M] ∧ M ∉ [d] ∧ N ≠ M) := ⟨by simp; omega, fun g hg hm => by have := HG.out g hg; simp at hm; omega, by simp; omega, by omega⟩
  have DL : Kept (w.heap.size ≤ M) := ⟨by omega⟩
  go_cut [9] from 10 to 50 (fun _ wx => Kept (Blk wx N 48 #[.int .i64 0, .int .i64 0, .int .i64 0, .int .i64 0, .int .i64 0, .int .i64 0, .string ⟨#[]⟩, .string ⟨#[]⟩]) ∧ Kept (Blk wx M 48 (rvC R.1).toArray) ∧ Kept (De 104 wx d G R.2) ∧ Kept (Bar [d] w wx))
  case first =>
    by_cases hk1 : z = 1
    · subst hk1
      obtain ⟨m1, hm1⟩ : ∃ m, cMove s1 = m := ⟨_, rfl⟩
      obtain rfl : (⟨1, m1.1.1, m1.1.2.1, m1.1.2.2, 0, 0, [], []⟩, m1.2) = R := by
        rw [← HR.out]; unfold cReq; rw [HS.out]; simp only [hm1, if_true]
      replace hm1 := Kept.mk hm1
      have KC := cgetmove_any HD.out hd
      rw [hm1.out] at KC
      have x0 := X.out.cell 0
      have KK := Kept.mk KC
      clear KC
      go_wp2_with fail
      refine KK.out.mono ?_
      rintro x w3 ⟨rfl, he, b⟩
      clear x0
      replace B := Kept.mk (B.out.trans b (fun x hx => .inl hx)); replace X := Kept.mk (X.out.bar b DM.out.2.2.1); replace Y := Kept.mk (Y.out.bar b HND.out); replace HD := Kept.mk he
      clear he b KK
      have x1 := X.out.cell 1; have f1 := X.out.frozen 1; have x2 := X.out.cell 2; have f2 := X.out.frozen 2; have x3 := X.out.cell 3; have f3 := X.out.frozen 3
      have hbM : Bar [M] w3 (((w3.setCell ⟨M, 1, none⟩ (.int .i64 m1.1.1)).setCell ⟨M, 2, none⟩ (.int .i64 m1.1.2.1)).setCell ⟨M, 3, none⟩ (.int .i64 m1.1.2.2)) := (Bar.setCell (Bar.setCell (Bar.setCell (Bar.refl _ _) (p := ⟨M, 1, none⟩) (.inl (by simp)) (.int .i64 m1.1.1)) (p := ⟨M, 2, none⟩) (.inl (by simp)) (.int .i64 m1.1.2.1)) (p := ⟨M, 3, none⟩) (.inl (by simp)) (.int .i64 m1.1.2.2))
      replace X : Kept (Blk (((w3.setCell ⟨M, 1, none⟩ (.int .i64 m1.1.1)).setCell ⟨M, 2, none⟩ (.int .i64 m1.1.2.1)).setCell ⟨M, 3, none⟩ (.int .i64 m1.1.2.2)) M 48 #[.int .i64 1, .int .i64 m1.1.1, .int .i64 m1.1.2.1, .int .i64 m1.1.2.2, .int .i64 0, .int .i64 0, .string ⟨#[]⟩, .string ⟨#[]⟩]) := ⟨(Blk.set_ (Blk.set_ (Blk.set_ X.out 1 (.int .i64 m1.1.1)) 2 (.int .i64 m1.1.2.1)) 3 (.int .i64 m1.1.2.2))⟩
      replace Y : Kept (Blk (((w3.setCell ⟨M, 1, none⟩ (.int .i64 m1.1.1)).setCell ⟨M, 2, none⟩ (.int .i64 m1.1.2.1)).setCell ⟨M, 3, none⟩ (.int .i64 m1.1.2.2)) N 48 #[.int .i64 0, .int .i64 0, .int .i64 0, .int .i64 0, .int .i64 0, .int .i64 0, .string ⟨#[]⟩, .string ⟨#[]⟩]) := ⟨Y.out.bar hbM (by simpa using DM.out.2.2.2)⟩
      replace HD : Kept (De 104 (((w3.setCell ⟨M, 1, none⟩ (.int .i64 m1.1.1)).setCell ⟨M, 2, none⟩ (.int .i64 m1.1.2.1)).setCell ⟨M, 3, none⟩ (.int .i64 m1.1.2.2)) d G m1.2) := ⟨HD.out.keep hbM DM.out.1 DM.out.2.1⟩
      replace B : Kept (Bar [d] w (((w3.setCell ⟨M, 1, none⟩ (.int .i64 m1.1.1)).setCell ⟨M, 2, none⟩ (.int .i64 m1.1.2.1)).setCell ⟨M, 3, none⟩ (.int .i64 m1.1.2.2))) := ⟨B.out.trans hbM (fun x hx => .inr (by simp at hx; subst hx; exact DL.out))⟩
      clear hbM
      go_wp2
      go_meet
      case rel => exact ⟨Y, ⟨X.out⟩, HD, B⟩
    by_cases hk2 : z = 2
    · subst hk2
      obtain ⟨m1, hm1⟩ : ∃ m, cMove s1 = m := ⟨_, rfl⟩
      obtain ⟨m2, hm2⟩ : ∃ m, cText m1.2 = m := ⟨_, rfl⟩
      obtain ⟨m3, hm3⟩ : ∃ m, decNum m2.2 8 = m := ⟨_, rfl⟩
      obtain rfl : (⟨2, m1.1.1, m1.1.2.1, m1.1.2.2, 0, m3.1, m2.1, []⟩, m3.2) = R := by
        rw [← HR.out]; unfold cReq; rw [HS.out]; simp only [hm1, hm2, hm3, if_true]
        simp
      replace hm1 := Kept.mk hm1
      replace hm2 := Kept.mk hm2
      replace hm3 := Kept.mk hm3
      have KC := cgetmove_any HD.out hd
      rw [hm1.out] at KC
      have x0 := X.out.cell 0
      have KK := Kept.mk KC
      clear KC
      go_wp2_with fail
      refine KK.out.mono ?_
      rintro x w3 ⟨rfl, he, b⟩
      clear x0
      replace B := Kept.mk (B.out.trans b (fun x hx => .inl hx)); replace X := Kept.mk (X.out.bar b DM.out.2.2.1); replace Y := Kept.mk (Y.out.bar b HND.out); replace HD := Kept.mk he
      clear he b KK
      have x1 := X.out.cell 1; have f1 := X.out.frozen 1; have x2 := X.out.cell 2; have f2 := X.out.frozen 2; have x3 := X.out.cell 3; have f3 := X.out.frozen 3
      have hbM : Bar [M] w3 (((w3.setCell ⟨M, 1, none⟩ (.int .i64 m1.1.1)).setCell ⟨M, 2, none⟩ (.int .i64 m1.1.2.1)).setCell ⟨M, 3, none⟩ (.int .i64 m1.1.2.2)) := (Bar.setCell (Bar.setCell (Bar.setCell (Bar.refl _ _) (p := ⟨M, 1, none⟩) (.inl (by simp)) (.int .i64 m1.1.1)) (p := ⟨M, 2, none⟩) (.inl (by simp)) (.int .i64 m1.1.2.1)) (p := ⟨M, 3, none⟩) (.inl (by simp)) (.int .i64 m1.1.2.2))
      replace X : Kept (Blk (((w3.setCell ⟨M, 1, none⟩ (.int .i64 m1.1.1)).setCell ⟨M, 2, none⟩ (.int .i64 m1.1.2.1)).setCell ⟨M, 3, none⟩ (.int .i64 m1.1.2.2)) M 48 #[.int .i64 2, .int .i64 m1.1.1, .int .i64 m1.1.2.1, .int .i64 m1.1.2.2, .int .i64 0, .int .i64 0, .string ⟨#[]⟩, .string ⟨#[]⟩]) := ⟨(Blk.set_ (Blk.set_ (Blk.set_ X.out 1 (.int .i64 m1.1.1)) 2 (.int .i64 m1.1.2.1)) 3 (.int .i64 m1.1.2.2))⟩
      replace Y : Kept (Blk (((w3.setCell ⟨M, 1, none⟩ (.int .i64 m1.1.1)).setCell ⟨M, 2, none⟩ (.int .i64 m1.1.2.1)).setCell ⟨M, 3, none⟩ (.int .i64 m1.1.2.2)) N 48 #[.int .i64 0, .int .i64 0, .int .i64 0, .int .i64 0, .int .i64 0, .int .i64 0, .string ⟨#[]⟩, .string ⟨#[]⟩]) := ⟨Y.out.bar hbM (by simpa using DM.out.2.2.2)⟩
      replace HD : Kept (De 104 (((w3.setCell ⟨M, 1, none⟩ (.int .i64 m1.1.1)).setCell ⟨M, 2, none⟩ (.int .i64 m1.1.2.1)).setCell ⟨M, 3, none⟩ (.int .i64 m1.1.2.2)) d G m1.2) := ⟨HD.out.keep hbM DM.out.1 DM.out.2.1⟩
      replace B : Kept (Bar [d] w (((w3.setCell ⟨M, 1, none⟩ (.int .i64 m1.1.1)).setCell ⟨M, 2, none⟩ (.int .i64 m1.1.2.1)).setCell ⟨M, 3, none⟩ (.int .i64 m1.1.2.2))) := ⟨B.out.trans hbM (fun x hx => .inr (by simp at hx; subst hx; exact DL.out))⟩
      clear hbM
      have KC := cgettext_any HD.out hd
      rw [hm2.out] at KC
      have KK := Kept.mk KC
      clear KC
      go_wp2_with fail
      refine KK.out.mono ?_
      rintro x w4 ⟨rfl, he, b⟩
      replace B := Kept.mk (B.out.trans b (fun x hx => .inl hx)); replace X := Kept.mk (X.out.bar b DM.out.2.2.1); replace Y := Kept.mk (Y.out.bar b HND.out); replace HD := Kept.mk he
      clear he b KK
      have x6 := X.out.cell 6; have f6 := X.out.frozen 6
      have hbM : Bar [M] w4 (w4.setCell ⟨M, 6, none⟩ (.string (strOfNums m2.1))) := (Bar.setCell (Bar.refl _ _) (p := ⟨M, 6, none⟩) (.inl (by simp)) (.string (strOfNums m2.1)))
      replace X : Kept (Blk (w4.setCell ⟨M, 6, none⟩ (.string (strOfNums m2.1))) M 48 #[.int .i64 2, .int .i64 m1.1.1, .int .i64 m1.1.2.1, .int .i64 m1.1.2.2, .int .i64 0, .int .i64 0, .string (strOfNums m2.1), .string ⟨#[]⟩]) := ⟨(Blk.set_ X.out 6 (.string (strOfNums m2.1)))⟩
      replace Y : Kept (Blk (w4.setCell ⟨M, 6, none⟩ (.string (strOfNums m2.1))) N 48 #[.int .i64 0, .int .i64 0, .int .i64 0, .int .i64 0, .int .i64 0, .int .i64 0, .string ⟨#[]⟩, .string ⟨#[]⟩]) := ⟨Y.out.bar hbM (by simpa using DM.out.2.2.2)⟩
      replace HD : Kept (De 104 (w4.setCell ⟨M, 6, none⟩ (.string (strOfNums m2.1))) d G m2.2) := ⟨HD.out.keep hbM DM.out.1 DM.out.2.1⟩
      replace B : Kept (Bar [d] w (w4.setCell ⟨M, 6, none⟩ (.string (strOfNums m2.1)))) := ⟨B.out.trans hbM (fun x hx => .inr (by simp at hx; subst hx; exact DL.out))⟩
      clear hbM
      have KC := dnum_any _ d G 8 _ HD.out hd
      rw [hm3.out] at KC
      have KK := Kept.mk KC
      clear KC
      go_wp2_with fail
      refine KK.out.mono ?_
      rintro x w5 ⟨rfl, he, b⟩
      replace B := Kept.mk (B.out.trans b (fun x hx => .inl hx)); replace X := Kept.mk (X.out.bar b DM.out.2.2.1); replace Y := Kept.mk (Y.out.bar b HND.out); replace HD := Kept.mk he
      clear he b KK
      have x5 := X.out.cell 5; have f5 := X.out.frozen 5
      have hbM : Bar [M] w5 (w5.setCell ⟨M, 5, none⟩ (.int .i64 m3.1)) := (Bar.setCell (Bar.refl _ _) (p := ⟨M, 5, none⟩) (.inl (by simp)) (.int .i64 m3.1))
      replace X : Kept (Blk (w5.setCell ⟨M, 5, none⟩ (.int .i64 m3.1)) M 48 #[.int .i64 2, .int .i64 m1.1.1, .int .i64 m1.1.2.1, .int .i64 m1.1.2.2, .int .i64 0, .int .i64 m3.1, .string (strOfNums m2.1), .string ⟨#[]⟩]) := ⟨(Blk.set_ X.out 5 (.int .i64 m3.1))⟩
      replace Y : Kept (Blk (w5.setCell ⟨M, 5, none⟩ (.int .i64 m3.1)) N 48 #[.int .i64 0, .int .i64 0, .int .i64 0, .int .i64 0, .int .i64 0, .int .i64 0, .string ⟨#[]⟩, .string ⟨#[]⟩]) := ⟨Y.out.bar hbM (by simpa using DM.out.2.2.2)⟩
      replace HD : Kept (De 104 (w5.setCell ⟨M, 5, none⟩ (.int .i64 m3.1)) d G m3.2) := ⟨HD.out.keep hbM DM.out.1 DM.out.2.1⟩
      replace B : Kept (Bar [d] w (w5.setCell ⟨M, 5, none⟩ (.int .i64 m3.1))) := ⟨B.out.trans hbM (fun x hx => .inr (by simp at hx; subst hx; exact DL.out))⟩
      clear hbM
      go_wp2
      go_meet
      case rel => exact ⟨Y, ⟨X.out⟩, HD, B⟩
    by_cases hk3 : z = 3
    · subst hk3
      obtain ⟨m1, hm1⟩ : ∃ m, decNum s1 2 = m := ⟨_, rfl⟩
      obtain ⟨m2, hm2⟩ : ∃ m, cText m1.2 = m := ⟨_, rfl⟩
      obtain rfl : (⟨3, 0, 0, 0, m1.1, 0, [], m2.1⟩, m2.2) = R := by
        rw [← HR.out]; unfold cReq; rw [HS.out]; simp only [hm1, hm2, if_true]
        simp
      replace hm1 := Kept.mk hm1
      replace hm2 := Kept.mk hm2
      have KC := dnum_any _ d G 2 _ HD.out hd
      rw [hm1.out] at KC
      have x0 := X.out.cell 0
      have KK := Kept.mk KC
      clear KC
      go_wp2_with fail
      refine KK.out.mono ?_
      rintro x w3 ⟨rfl, he, b⟩
      clear x0
      replace B := Kept.mk (B.out.trans b (fun x hx => .inl hx)); replace X := Kept.mk (X.out.bar b DM.out.2.2.1); replace Y := Kept.mk (Y.out.bar b HND.out); replace HD := Kept.mk he
      clear he b KK
      have x4 := X.out.cell 4; have f4 := X.out.frozen 4
      have hbM : Bar [M] w3 (w3.setCell ⟨M, 4, none⟩ (.int .i64 m1.1)) := (Bar.setCell (Bar.refl _ _) (p := ⟨M, 4, none⟩) (.inl (by simp)) (.int .i64 m1.1))
      replace X : Kept (Blk (w3.setCell ⟨M, 4, none⟩ (.int .i64 m1.1)) M 48 #[.int .i64 3, .int .i64 0, .int .i64 0, .int .i64 0, .int .i64 m1.1, .int .i64 0, .string ⟨#[]⟩, .string ⟨#[]⟩]) := ⟨(Blk.set_ X.out 4 (.int .i64 m1.1))⟩
      replace Y : Kept (Blk (w3.setCell ⟨M, 4, none⟩ (.int .i64 m1.1)) N 48 #[.int .i64 0, .int .i64 0, .int .i64 0, .int .i64 0, .int .i64 0, .int .i64 0, .string ⟨#[]⟩, .string ⟨#[]⟩]) := ⟨Y.out.bar hbM (by simpa using DM.out.2.2.2)⟩
      replace HD : Kept (De 104 (w3.setCell ⟨M, 4, none⟩ (.int .i64 m1.1)) d G m1.2) := ⟨HD.out.keep hbM DM.out.1 DM.out.2.1⟩
      replace B : Kept (Bar [d] w (w3.setCell ⟨M, 4, none⟩ (.int .i64 m1.1))) := ⟨B.out.trans hbM (fun x hx => .inr (by simp at hx; subst hx; exact DL.out))⟩
      clear hbM
      have KC := cgettext_any HD.out hd
      rw [hm2.out] at KC
      have KK := Kept.mk KC
      clear KC
      go_wp2_with fail
      refine KK.out.mono ?_
      rintro x w4 ⟨rfl, he, b⟩
      replace B := Kept.mk (B.out.trans b (fun x hx => .inl hx)); replace X := Kept.mk (X.out.bar b DM.out.2.2.1); replace Y := Kept.mk (Y.out.bar b HND.out); replace HD := Kept.mk he
      clear he b KK
      have x7 := X.out.cell 7; have f7 := X.out.frozen 7
      have hbM : Bar [M] w4 (w4.setCell ⟨M, 7, none⟩ (.string (strOfNums m2.1))) := (Bar.setCell (Bar.refl _ _) (p := ⟨M, 7, none⟩) (.inl (by simp)) (.string (strOfNums m2.1)))
      replace X : Kept (Blk (w4.setCell ⟨M, 7, none⟩ (.string (strOfNums m2.1))) M 48 #[.int .i64 3, .int .i64 0, .int .i64 0, .int .i64 0, .int .i64 m1.1, .int .i64 0, .string ⟨#[]⟩, .string (strOfNums m2.1)]) := ⟨(Blk.set_ X.out 7 (.string (strOfNums m2.1)))⟩
      replace Y : Kept (Blk (w4.setCell ⟨M, 7, none⟩ (.string (strOfNums m2.1))) N 48 #[.int .i64 0, .int .i64 0, .int .i64 0, .int .i64 0, .int .i64 0, .int .i64 0, .string ⟨#[]⟩, .string ⟨#[]⟩]) := ⟨Y.out.bar hbM (by simpa using DM.out.2.2.2)⟩
      replace HD : Kept (De 104 (w4.setCell ⟨M, 7, none⟩ (.string (strOfNums m2.1))) d G m2.2) := ⟨HD.out.keep hbM DM.out.1 DM.out.2.1⟩
      replace B : Kept (Bar [d] w (w4.setCell ⟨M, 7, none⟩ (.string (strOfNums m2.1)))) := ⟨B.out.trans hbM (fun x hx => .inr (by simp at hx; subst hx; exact DL.out))⟩
      clear hbM
      go_wp2
      go_meet
      case rel => exact ⟨Y, ⟨X.out⟩, HD, B⟩
    by_cases hk4 : z = 4
    · subst hk4
      obtain ⟨m1, hm1⟩ : ∃ m, decNum s1 2 = m := ⟨_, rfl⟩
      obtain rfl : (⟨4, 0, 0, 0, m1.1, 0, [], []⟩, m1.2) = R := by
        rw [← HR.out]; unfold cReq; rw [HS.out]; simp only [hm1, if_true]
        simp
      replace hm1 := Kept.mk hm1
      have KC := dnum_any _ d G 2 _ HD.out hd
      rw [hm1.out] at KC
      have x0 := X.out.cell 0
      have KK := Kept.mk KC
      clear KC
      go_wp2_with fail
      refine KK.out.mono ?_
      rintro x w3 ⟨rfl, he, b⟩
      clear x0
      replace B := Kept.mk (B.out.trans b (fun x hx => .inl hx)); replace X := Kept.mk (X.out.bar b DM.out.2.2.1); replace Y := Kept.mk (Y.out.bar b HND.out); replace HD := Kept.mk he
      clear he b KK
      have x4 := X.out.cell 4; have f4 := X.out.frozen 4
      have hbM : Bar [M] w3 (w3.setCell ⟨M, 4, none⟩ (.int .i64 m1.1)) := (Bar.setCell (Bar.refl _ _) (p := ⟨M, 4, none⟩) (.inl (by simp)) (.int .i64 m1.1))
      replace X : Kept (Blk (w3.setCell ⟨M, 4, none⟩ (.int .i64 m1.1)) M 48 #[.int .i64 4, .int .i64 0, .int .i64 0, .int .i64 0, .int .i64 m1.1, .int .i64 0, .string ⟨#[]⟩, .string ⟨#[]⟩]) := ⟨(Blk.set_ X.out 4 (.int .i64 m1.1))⟩
      replace Y : Kept (Blk (w3.setCell ⟨M, 4, none⟩ (.int .i64 m1.1)) N 48 #[.int .i64 0, .int .i64 0, .int .i64 0, .int .i64 0, .int .i64 0, .int .i64 0, .string ⟨#[]⟩, .string ⟨#[]⟩]) := ⟨Y.out.bar hbM (by simpa using DM.out.2.2.2)⟩
      replace HD : Kept (De 104 (w3.setCell ⟨M, 4, none⟩ (.int .i64 m1.1)) d G m1.2) := ⟨HD.out.keep hbM DM.out.1 DM.out.2.1⟩
      replace B : Kept (Bar [d] w (w3.setCell ⟨M, 4, none⟩ (.int .i64 m1.1))) := ⟨B.out.trans hbM (fun x hx => .inr (by simp at hx; subst hx; exact DL.out))⟩
      clear hbM
      go_wp2
      go_meet
      case rel => exact ⟨Y, ⟨X.out⟩, HD, B⟩
    obtain rfl : (⟨z, 0, 0, 0, 0, 0, [], []⟩, s1) = R := by
      rw [← HR.out]; unfold cReq; rw [HS.out]; simp only [if_neg hk1, if_neg hk2, if_neg hk3, if_neg hk4]
    have d1 : (z == 1) = false := beq_eq_false_iff_ne.2 hk1
    have d2 : (z == 2) = false := beq_eq_false_iff_ne.2 hk2
    have d3 : (z == 3) = false := beq_eq_false_iff_ne.2 hk3
    have d4 : (z == 4) = false := beq_eq_false_iff_ne.2 hk4
    go_wp2
    go_meet
    case rel => exact ⟨Y, ⟨X.out⟩, HD, B⟩
  case rest =>
    clear X Y HD B
    obtain ⟨Y, X, HD, B⟩ := hcut
    generalize wc = w2 at *
    have HOLD := Kept.mk (fun w => holdR_any R.1 HOK.out w)
    obtain ⟨D, hD⟩ : ∃ D, decide (HoldR R.1) = D := ⟨_, rfl⟩
    rw [hD] at HOLD
    have KD := Kept.mk hD
    clear hD HR HS
    obtain ⟨R, st2⟩ := R
    obtain ⟨kind, dst, asset, amount, id, due, hash, sec⟩ := R
    unfold rqv at HOLD
    unfold rvC at X
    dsimp only at HOLD HOK X HD KD
    replace X : Kept (Blk w2 M 48 #[.int .i64 kind, .int .i64 dst, .int .i64 asset, .int .i64 amount, .int .i64 id, .int .i64 due, .string (strOfNums hash), .string (strOfNums sec)]) := ⟨X.out⟩
    have DN : Kept (d ∉ [N] ∧ Disj G [N] ∧ M ≠ N) := ⟨by simp; omega, fun g hg hm => by have := HG.out g hg; simp at hm; omega, by omega⟩
    go_upto_region 14 with (fail)
    have CS : ∀ {u : World}, Blk u M 48 #[.int .i64 kind, .int .i64 dst, .int .i64 asset, .int .i64 amount, .int .i64 id, .int .i64 due, .string (strOfNums hash), .string (strOfNums sec)] → u.cell? ⟨M, 0, none⟩ = some (.int .i64 kind) ∧ u.cell? ⟨M, 1, none⟩ = some (.int .i64 dst) ∧ u.cell? ⟨M, 2, none⟩ = some (.int .i64 asset) ∧ u.cell? ⟨M, 3, none⟩ = some (.int .i64 amount) ∧ u.cell? ⟨M, 4, none⟩ = some (.int .i64 id) ∧ u.cell? ⟨M, 5, none⟩ = some (.int .i64 due) ∧ u.cell? ⟨M, 6, none⟩ = some (.string (strOfNums hash)) ∧ u.cell? ⟨M, 7, none⟩ = some (.string (strOfNums sec)) := fun h => ⟨h.cell 0, h.cell 1, h.cell 2, h.cell 3, h.cell 4, h.cell 5, h.cell 6, h.cell 7⟩
    refine wp_region_noPanic ?_
    refine wp_region_held_drew (S := fun w' : World => w'.cell? ⟨M, 0, none⟩ = some (.int .i64 kind) ∧ w'.cell? ⟨M, 1, none⟩ = some (.int .i64 dst) ∧ w'.cell? ⟨M, 2, none⟩ = some (.int .i64 asset) ∧ w'.cell? ⟨M, 3, none⟩ = some (.int .i64 amount) ∧ w'.cell? ⟨M, 4, none⟩ = some (.int .i64 id) ∧ w'.cell? ⟨M, 5, none⟩ = some (.int .i64 due) ∧ w'.cell? ⟨M, 6, none⟩ = some (.string (strOfNums hash)) ∧ w'.cell? ⟨M, 7, none⟩ = some (.string (strOfNums sec))) (by kernel_rfl) (CS X.out.drew) (fun _ => ?_)
    replace X := Kept.mk X.out.drew; replace Y := Kept.mk Y.out.drew; replace B := Kept.mk B.out.drew; replace HD := Kept.mk (HD.out.keep ((Bar.refl [] w2).drew) (by simp) (fun _ _ => by simp))
    generalize w2.drew = w3 at *
    refine wpAnyH_take (i := 0) (oi := ?o284) (v := ?v284) ?hi284 (by kernel_rfl) (by kernel_rfl) (by kernel_rfl) ?hq284 (Or.inl ⟨?hw284, ?hy284⟩) (by assumption) ?r284
    case hi284 => (simp only [List.getElem?_toArray]; exact rfl)
    case hq284 => exact fun _ _ _ h => h
    case hw284 => rfl
    case hy284 => (intro w hSw; (try dsimp only at hSw); go_simp; try exact rfl)
    simp only [Act.put, List.setIfInBounds_toArray, List.set_cons_zero, List.set_cons_succ]
    refine wpAnyH_take (i := 1) (oi := ?o285) (v := ?v285) ?hi285 (by kernel_rfl) (by kernel_rfl) (by kernel_rfl) ?hq285 (Or.inl ⟨?hw285, ?hy285⟩) (by assumption) ?r285
    case hi285 => (simp only [List.getElem?_toArray]; exact rfl)
    case hq285 => exact fun _ _ _ h => h
    case hw285 => rfl
    case hy285 => (intro w hSw; (try dsimp only at hSw); go_simp; try exact rfl)
    simp only [Act.put, List.setIfInBounds_toArray, List.set_cons_zero, List.set_cons_succ]
    refine wpAnyH_ready (rs := [2]) (by kernel_rfl) (by simp) ?_
    refine AllReadyH.cons (o := ?o287) ?hi287 (fun K hK => ?_) AllReadyH.nil
    case hi287 => (simp only [List.getElem?_toArray]; exact rfl)
    go_simp
    go_at_call 65
    refine (HOLD.out _).mono ?_
    rintro x w4 ⟨rfl, b4⟩
    replace X := Kept.mk (X.out.below b4 X.out.lt); replace Y := Kept.mk (Y.out.below b4 Y.out.lt); replace HD := Kept.mk (HD.out.below b4); replace B := Kept.mk (B.out.trans (barOf b4 [d]) (fun x hx => .inl hx))
    refine hK.out _ _ (CS X.out) (fun _ => ?_)
    clear hK K b4 HOLD
    have c0 : w4.cell? ⟨N, 0, none⟩ = some (.int .i64 0) := Y.out.cell 0; have g0 := Y.out.frozen 0
    have c1 : w4.cell? ⟨N, 1, none⟩ = some (.int .i64 0) := Y.out.cell 1; have g1 := Y.out.frozen 1
    have c2 : w4.cell? ⟨N, 2, none⟩ = some (.int .i64 0) := Y.out.cell 2; have g2 := Y.out.frozen 2
    have c3 : w4.cell? ⟨N, 3, none⟩ = some (.int .i64 0) := Y.out.cell 3; have g3 := Y.out.frozen 3
    have c4 : w4.cell? ⟨N, 4, none⟩ = some (.int .i64 0) := Y.out.cell 4; have g4 := Y.out.frozen 4
    have c5 : w4.cell? ⟨N, 5, none⟩ = some (.int .i64 0) := Y.out.cell 5; have g5 := Y.out.frozen 5
    have c6 : w4.cell? ⟨N, 6, none⟩ = some (.string ⟨#[]⟩) := Y.out.cell 6; have g6 := Y.out.frozen 6
    have c7 : w4.cell? ⟨N, 7, none⟩ = some (.string ⟨#[]⟩) := Y.out.cell 7; have g7 := Y.out.frozen 7
    refine wpAnyH_ready (rs := [3]) (by kernel_rfl) (by simp) ?_
    refine AllReadyH.cons (o := ?o288) ?hi288 (fun K hK => ?_) AllReadyH.nil
    case hi288 => (simp only [List.getElem?_toArray]; exact rfl)
    go_simp
    have hbN : Bar [N] w4 ((((((((w4.setCell ⟨N, 0, none⟩ (.int .i64 kind)).setCell ⟨N, 1, none⟩ (.int .i64 dst)).setCell ⟨N, 2, none⟩ (.int .i64 asset)).setCell ⟨N, 3, none⟩ (.int .i64 amount)).setCell ⟨N, 4, none⟩ (.int .i64 id)).setCell ⟨N, 5, none⟩ (.int .i64 due)).setCell ⟨N, 6, none⟩ (.string (strOfNums hash))).setCell ⟨N, 7, none⟩ (.string (strOfNums sec))) := (Bar.setCell (Bar.setCell (Bar.setCell (Bar.setCell (Bar.setCell (Bar.setCell (Bar.setCell (Bar.setCell (Bar.refl _ _) (p := ⟨N, 0, none⟩) (.inl (by simp)) (.int .i64 kind)) (p := ⟨N, 1, none⟩) (.inl (by simp)) (.int .i64 dst)) (p := ⟨N, 2, none⟩) (.inl (by simp)) (.int .i64 asset)) (p := ⟨N, 3, none⟩) (.inl (by simp)) (.int .i64 amount)) (p := ⟨N, 4, none⟩) (.inl (by simp)) (.int .i64 id)) (p := ⟨N, 5, none⟩) (.inl (by simp)) (.int .i64 due)) (p := ⟨N, 6, none⟩) (.inl (by simp)) (.string (strOfNums hash))) (p := ⟨N, 7, none⟩) (.inl (by simp)) (.string (strOfNums sec)))
    replace Y : Kept (Blk ((((((((w4.setCell ⟨N, 0, none⟩ (.int .i64 kind)).setCell ⟨N, 1, none⟩ (.int .i64 dst)).setCell ⟨N, 2, none⟩ (.int .i64 asset)).setCell ⟨N, 3, none⟩ (.int .i64 amount)).setCell ⟨N, 4, none⟩ (.int .i64 id)).setCell ⟨N, 5, none⟩ (.int .i64 due)).setCell ⟨N, 6, none⟩ (.string (strOfNums hash))).setCell ⟨N, 7, none⟩ (.string (strOfNums sec))) N 48 #[.int .i64 kind, .int .i64 dst, .int .i64 asset, .int .i64 amount, .int .i64 id, .int .i64 due, .string (strOfNums hash), .string (strOfNums sec)]) := ⟨(Blk.set_ (Blk.set_ (Blk.set_ (Blk.set_ (Blk.set_ (Blk.set_ (Blk.set_ (Blk.set_ Y.out 0 (.int .i64 kind)) 1 (.int .i64 dst)) 2 (.int .i64 asset)) 3 (.int .i64 amount)) 4 (.int .i64 id)) 5 (.int .i64 due)) 6 (.string (strOfNums hash))) 7 (.string (strOfNums sec)))⟩
    replace X := Kept.mk (X.out.bar hbN (by simpa using DN.out.2.2))
    replace HD := Kept.mk (HD.out.keep hbN DN.out.1 DN.out.2.1)
    replace B := Kept.mk (B.out.trans hbN (fun x hx => .inr (by simp at hx; subst hx; exact HW.out)))
    refine hK.out _ _ (CS X.out) (fun _ => ?_)
    clear hK K hbN c0 g0 c1 g1 c2 g2 c3 g3 c4 g4 c5 g5 c6 g6 c7 g7
    generalize ((((((((w4.setCell ⟨N, 0, none⟩ (.int .i64 kind)).setCell ⟨N, 1, none⟩ (.int .i64 dst)).setCell ⟨N, 2, none⟩ (.int .i64 asset)).setCell ⟨N, 3, none⟩ (.int .i64 amount)).setCell ⟨N, 4, none⟩ (.int .i64 id)).setCell ⟨N, 5, none⟩ (.int .i64 due)).setCell ⟨N, 6, none⟩ (.string (strOfNums hash))).setCell ⟨N, 7, none⟩ (.string (strOfNums sec))) = w5 at *
    refine wpAnyH_take (i := 4) (oi := ?o286) (v := ?v286) ?hi286 (by kernel_rfl) (by kernel_rfl) (by kernel_rfl) ?hq286 (Or.inl ⟨?hw286, ?hy286⟩) (by assumption) ?r286
    case hi286 => (simp only [List.getElem?_toArray]; exact rfl)
    case hq286 => exact fun _ _ _ h => h
    case hw286 => rfl
    case hy286 => (intro w hSw; (try dsimp only at hSw); go_simp; try exact rfl)
    simp only [Act.put, List.setIfInBounds_toArray, List.set_cons_zero, List.set_cons_succ]
    refine wpAnyH_done (by kernel_rfl) ?_ _
    refine NoPanic.normal ?_
    go_wp2
    (try simp only [Exit.inBlock, Exit.then])
    refine bodyPost_ret (results_row_tmp rfl _ _ N 48 #[.int .i64 kind, .int .i64 dst, .int .i64 asset, .int .i64 amount, .int .i64 id, .int .i64 due, .string (strOfNums hash), .string (strOfNums sec)] (0, 0) _ rfl Y.out Try.underlying48 rfl creq_size) rfl ?_
    exact ⟨by rw [KD.out]; rfl, HOK.out, HD.out, B.out⟩
end Go.Proofs.Ytcafffnkkjnpbaa.Req
