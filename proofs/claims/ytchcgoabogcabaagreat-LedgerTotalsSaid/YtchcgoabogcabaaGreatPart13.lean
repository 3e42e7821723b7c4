/-
  Parts laid together: ReqCAll ReqCEnc ReqCodeDec LedgerRead ReqCEncA.
-/
import Derived.Test.YtchcgoabogcabaaGreatPart12
import Derived.Test.YtchcgoabogcabaaGreatPart7
import Derived.Test.YtchcgoabogcabaaGreatPart11
import Derived.Test.YtchcgoabogcabaaGreatPart2
import Derived.Test.YtchcgoabogcabaaGreatPart5

namespace Go.Proofs.YtchcgoabogcabaaGreat.Req
open Go.RowKit Go.Proofs.YtchcgoabogcabaaGreat.Sha Go.Proofs.YtchcgoabogcabaaGreat.Wire

set_option maxRecDepth 100000 in
set_option maxHeartbeats 1000000 in
theorem cputp_any {w : World} {F : List Nat} {e : Nat} {st : St} {r : PV} (h : En 143 w F e st) (hl : st.2.length ≤ 900000000) : Calls Tryz.prog 90 #[.pointer (some ⟨e, 0, none⟩), pqv r] w fun x w' => x = .returned (.bool true) ∧ ∃ F', En 143 w' F' e (wRep st r) ∧ Fp F F' w w' := by
  have l1 := encNum_len st r.code 1
  obtain ⟨code, id⟩ := r
  unfold pqv
  dsimp only at l1 ⊢
  have hN : w.heap.size ∉ F := fun hm => by have := h.lt _ hm; omega
  have bz : Below w.heap.size w (w.alloc (.cells #[.int .i64 code, .int .i64 id] 63)) := (Below.refl _ _).alloc (Nat.le_refl _) _
  have NF := Kept.mk hN
  have HE := Kept.mk (h.below bz)
  have FP : Kept (Fp F F w (w.alloc (.cells #[.int .i64 code, .int .i64 id] 63))) := ⟨⟨barOf bz F, fun _ hk => .inl hk⟩⟩
  have X := Kept.mk (Blk.new w 63 #[.int .i64 code, .int .i64 id])
  obtain ⟨N, hN2⟩ : ∃ N, w.heap.size = N := ⟨_, rfl⟩
  rw [hN2] at NF X
  clear hN bz h
  go_enter Tryz.func90, Tryz.ntmps90
  go_upto_region 1 with (fail)
  generalize w.alloc (.cells #[.int .i64 code, .int .i64 id] 63) = w0 at *
  have x0 := X.out.cell 0
  have KC := num_any w0 F e code 1 st HE.out (by omega)
  go_wp2_with fail
  refine KC.mono ?_
  rintro x w1 ⟨rfl, F1, he, fp⟩
  have hlt := X.out.lt
  replace X := Kept.mk (X.out.bar fp.1 NF.out); replace NF := Kept.mk (cnotin_step fp NF.out hlt); replace FP := Kept.mk (FP.out.trans fp)
  have KC2 := num_any w1 F1 e id 2 _ he (by omega)
  clear he fp KC hlt x0 HE
  have x1 := X.out.cell 1
  go_wp2_with fail
  refine KC2.mono ?_
  rintro x w2 ⟨rfl, F2, he, fp⟩
  replace FP := Kept.mk (FP.out.trans fp)
  have HE := Kept.mk he
  clear he fp KC2 x1
  go_wp2
  go_ret
  exact ⟨rfl, F2, HE.out, FP.out⟩
/-- what putAll answers -/
def CPutPost (T : TypeId) (F : List Nat) (e : Nat) (st : St) (p : Prop) (w : World) (x : Ending) (w' : World) : Prop := ∃ q F', x = .returned (.bool q) ∧ Fp F F' w w' ∧ (q = true ↔ p) ∧ (q = true → En T w' F' e st)
theorem ctake_snoc {α : Type} {l : List α} {k : Nat} {x : α} (h : l[k]? = some x) : l.take (k + 1) = l.take k ++ [x] := by
  have hk := (List.getElem?_eq_some_iff.1 h)
  obtain ⟨hk, rfl⟩ := hk
  exact List.take_succ_eq_append_getElem hk
theorem call_snoc {α : Type} {p : α → Prop} {l : List α} {k : Nat} {x : α} (h : l[k]? = some x) (ha : ∀ r ∈ l.take k, p r) (hx : p x) : ∀ r ∈ l.take (k + 1), p r := by
  rw [ctake_snoc h]
  intro r hr
  rcases List.mem_append.1 hr with h1 | h1
  · exact ha r h1
  · rw [List.mem_singleton] at h1; subst h1; exact hx

set_option maxRecDepth 100000 in
set_option maxHeartbeats 2000000 in
theorem putallr_any {w : World} {F : List Nat} {e B : Nat} {st : St} {A : Option Addr} {n c : Nat} {l : List RV} (h : En 143 w F e st) (hl : st.2.length ≤ 800000000) (hB : B ≤ w.heap.size) (hF : ∀ f ∈ F, B ≤ f) (hR : ∀ w', Below B w w' → Rr w' A n l) (hok : ∀ r ∈ l, r.ok) :
    Calls Tryz.prog 117 #[.pointer (some ⟨e, 0, none⟩), .slice A n c, .int .i64 1, .int .i64 64, .func (.func 118) #[] #[]] w (CPutPost 143 F e (wAll wReq (encNum st n 1) l) (n ≤ 64 ∧ ∀ r ∈ l, HoldR r) w) := by
  have LN := Kept.mk (hR w (Below.refl _ _)).1
  have RN := Kept.mk hR
  have HO := Kept.mk hok
  have LE := encNum_len st n 1
  generalize hP : (n ≤ 64 ∧ ∀ r ∈ l, HoldR r) = P
  have HP := Kept.mk hP
  clear hP
  by_cases hm : n ≤ 64
  · have hm' : (n : Int) ≤ 64 := by omega
    have KC := num_any w F e (n : Int) 1 st h (by omega)
    obtain ⟨s1, hst⟩ : ∃ s1, encNum st (n : Int) 1 = s1 := ⟨_, rfl⟩
    rw [hst] at KC LE ⊢
    have HB := Kept.mk hB; have HF := Kept.mk hF
    clear hst h hR hB hF hok
    go_enter Tryz.func117, Tryz.ntmps117
    go_wp2_with fail
    refine KC.mono ?_
    rintro x w1 ⟨rfl, F1, he, fp⟩
    have BW : Kept (Below B w w1) := ⟨fp.below HF.out HB.out⟩
    have AF : Kept (∀ f ∈ F1, B ≤ f) := ⟨fp.least HF.out HB.out⟩
    have FP := Kept.mk fp
    have LS : Kept (∀ k, k ≤ n → (∀ r ∈ l.take k, HoldR r) → (wAll wReq s1 (l.take k)).2.length ≤ 900000000) := ⟨fun k hk hh => by
      have := wAll_len (f := wReq) (m := 54) (l := l.take k) (st := s1) (fun st x hx => wReq_len (hh x hx))
      rw [List.length_take] at this
      have h2 : min k l.length ≤ 64 := by omega
      have h3 : 54 * min k l.length ≤ 54 * 64 := Nat.mul_le_mul_left _ h2
      omega⟩
    have HE : Kept (En 143 w1 F1 e (wAll wReq s1 (l.take 0))) := ⟨by simpa [wAll] using he⟩
    have HH : Kept (∀ r ∈ l.take 0, HoldR r) := ⟨by simp⟩
    clear he fp KC LE hl
    go_wp2
    go_loopw [24] (fun i wr => ∃ (k : Nat) (F' : List Nat), k ≤ n ∧ i = .int .i64 k ∧ Kept (En 143 wr F' e (wAll wReq s1 (l.take k))) ∧ Kept (Fp F F' w wr) ∧ Kept (∀ f ∈ F', B ≤ f) ∧ Kept (Below B w wr) ∧ Kept (∀ r ∈ l.take k, HoldR r)) (fun i _ => n - (Go.RowKit.intOf i).toNat)
    case atStart => exact ⟨0, F1, by omega, rfl, HE, FP, AF, BW, HH⟩
    case round =>
      clear HE FP AF BW HH
      obtain ⟨k, F', hk, rfl, HE, FP, AF, BW, HH⟩ := hrel
      by_cases hkn : k < n
      · have hkn' : (k : Int) < n := by omega
        obtain ⟨b, o, r, rfl, hx, hcell⟩ := (RN.out _ BW.out).at_ hkn
        have hrm := List.mem_of_getElem? hx
        have HX := Kept.mk hx
        have LK := LS.out k hk HH.out
        obtain ⟨M, hM⟩ : ∃ M, wr.heap.size = M := ⟨_, rfl⟩
        obtain ⟨kind, dst, asset, amount, id, due, hash, sec⟩ := r
        have y0 := hcell 0 _ rfl; have y1 := hcell 1 _ rfl; have y2 := hcell 2 _ rfl; have y3 := hcell 3 _ rfl; have y4 := hcell 4 _ rfl; have y5 := hcell 5 _ rfl; have y6 := hcell 6 _ rfl; have y7 := hcell 7 _ rfl
        rw [Nat.add_zero] at y0
        dsimp only at y0 y1 y2 y3 y4 y5 y6 y7
        have bz : Below M wr (wr.alloc (.cells #[.int .i64 kind, .int .i64 dst, .int .i64 asset, .int .i64 amount, .int .i64 id, .int .i64 due, .string (strOfNums hash), .string (strOfNums sec)] 65)) := (Below.refl _ _).alloc (by omega) _
        have XB : Kept (Blk (wr.alloc (.cells #[.int .i64 kind, .int .i64 dst, .int .i64 asset, .int .i64 amount, .int .i64 id, .int .i64 due, .string (strOfNums hash), .string (strOfNums sec)] 65)) M 65 #[.int .i64 kind, .int .i64 dst, .int .i64 asset, .int .i64 amount, .int .i64 id, .int .i64 due, .string (strOfNums hash), .string (strOfNums sec)]) := ⟨Blk.new_at wr _ _ M hM.symm⟩
        have hE2 := HE.out.keep (barOf (hM ▸ bz) []) (fun _ _ => by simp)
        have hFP : Fp F' F' wr (wr.alloc (.cells #[.int .i64 kind, .int .i64 dst, .int .i64 asset, .int .i64 amount, .int .i64 id, .int .i64 due, .string (strOfNums hash), .string (strOfNums sec)] 65)) := ⟨barOf (hM ▸ bz) F', fun _ hk => .inl hk⟩
        have hBW := hFP.below AF.out (by have := BW.out.size; have := HB.out; omega)
        have KC := cputr_any (r := ⟨kind, dst, asset, amount, id, due, hash, sec⟩) hE2 (HO.out _ hrm) LK
        unfold rqv at KC
        dsimp only at KC
        replace HE := Kept.mk hE2; replace FP := Kept.mk (FP.out.trans hFP); replace BW := Kept.mk (BW.out.trans hBW)
        have KK := Kept.mk KC
        clear KC hE2 hFP hBW bz LK hx hcell hrm
        go_upto_region 7 with (fail)
        generalize wr.alloc (.cells #[.int .i64 kind, .int .i64 dst, .int .i64 asset, .int .i64 amount, .int .i64 id, .int .i64 due, .string (strOfNums hash), .string (strOfNums sec)] 65) = w2 at *
        clear y0 y1 y2 y3 y4 y5 y6 y7
        have x0 := XB.out.cell 0; have x1 := XB.out.cell 1; have x2 := XB.out.cell 2; have x3 := XB.out.cell 3; have x4 := XB.out.cell 4; have x5 := XB.out.cell 5; have x6 := XB.out.cell 6; have x7 := XB.out.cell 7
        have HQ : Kept (l.take (k + 1) = l.take k ++ [⟨kind, dst, asset, amount, id, due, hash, sec⟩]) := ⟨ctake_snoc HX.out⟩
        have HM : Kept (⟨kind, dst, asset, amount, id, due, hash, sec⟩ ∈ l) := ⟨List.mem_of_getElem? HX.out⟩
        have HS : Kept (HoldR ⟨kind, dst, asset, amount, id, due, hash, sec⟩ → ∀ r ∈ l.take (k + 1), HoldR r) := ⟨fun h => call_snoc HX.out HH.out h⟩
        by_cases hh : HoldR ⟨kind, dst, asset, amount, id, due, hash, sec⟩
        · have KD := KK.out
          rw [if_pos hh, decide_eq_true hh] at KD
          replace HH := Kept.mk (HS.out hh)
          rw [← wAll_snoc wReq, ← HQ.out] at KD
          clear KK HS HM hh
          have KK := Kept.mk KD
          clear KD
          go_wp2_with fail
          refine KK.out.mono ?_
          rintro x w3 ⟨rfl, F2, he, fp⟩
          have BW2 := Kept.mk (BW.out.trans (fp.below AF.out (by have := BW.out.size; have := HB.out; omega)))
          have AF2 := Kept.mk (fp.least AF.out (by have := BW.out.size; have := HB.out; omega))
          replace AF := AF2; replace BW := BW2; replace FP := Kept.mk (FP.out.trans fp); replace HE := Kept.mk he
          clear he fp KK AF2 BW2 x0 x1 x2 x3 x4 x5 x6 x7
          go_wp2
          go_roundw
          case rel => exact ⟨k + 1, F2, by omega, by go_num, HE, FP, AF, BW, HH⟩
          case measure => simp [Go.RowKit.intOf]; omega
        · have KD := KK.out
          rw [if_neg hh, decide_eq_false hh] at KD
          have NO : Kept (¬ P) := ⟨fun h => by rw [← HP.out] at h; exact hh (h.2 _ HM.out)⟩
          have KK2 := Kept.mk KD
          clear KD KK HS HM hh
          go_wp2_with fail
          refine KK2.out.mono ?_
          rintro x w3 ⟨rfl, F2, he, fp⟩
          replace FP := Kept.mk (FP.out.trans fp)
          clear he fp KK2 x0 x1 x2 x3 x4 x5 x6 x7
          go_wp2
          go_ret
          exact ⟨false, F2, rfl, FP.out, ⟨fun h => (by cases h), fun h => (NO.out h).elim⟩, fun h => (by cases h)⟩
      · have hkn' : ¬ (k : Int) < n := by omega
        obtain rfl : k = n := by omega
        have hh : l.take k = l := by rw [← LN.out]; exact List.take_length
        rw [hh] at HE HH
        have YES : Kept P := ⟨by rw [← HP.out]; exact ⟨hm, HH.out⟩⟩
        go_wp2
        go_ret
        exact ⟨true, F', rfl, FP.out, ⟨fun _ => YES.out, fun _ => rfl⟩, fun _ => HE.out⟩
  · have hm' : ¬ (n : Int) ≤ 64 := by omega
    have NO : Kept (¬ P) := ⟨fun h => by rw [← HP.out] at h; exact hm h.1⟩
    clear hm
    have hm2 : (64 : Int) < n := by omega
    clear h LE
    go_enter Tryz.func117, Tryz.ntmps117
    go_wp2
    go_ret
    exact ⟨false, F, rfl, Fp.refl _ _, ⟨fun h => (by cases h), fun h => (NO.out h).elim⟩, fun h => (by cases h)⟩

set_option maxRecDepth 100000 in
set_option maxHeartbeats 2000000 in
theorem putallp_any {w : World} {F : List Nat} {e B : Nat} {st : St} {A : Option Addr} {n c : Nat} {l : List PV} (h : En 143 w F e st) (hl : st.2.length ≤ 800000000) (hB : B ≤ w.heap.size) (hF : ∀ f ∈ F, B ≤ f) (hR : ∀ w', Below B w w' → Rp w' A n l) :
    Calls Tryz.prog 89 #[.pointer (some ⟨e, 0, none⟩), .slice A n c, .int .i64 1, .int .i64 64, .func (.func 90) #[] #[]] w (CPutPost 143 F e (wAll wRep (encNum st n 1) l) (n ≤ 64) w) := by
  have LN := Kept.mk (hR w (Below.refl _ _)).1
  have RN := Kept.mk hR
  have LE := encNum_len st n 1
  generalize hP : (n ≤ 64) = P
  have HP := Kept.mk hP
  clear hP
  by_cases hm : n ≤ 64
  · have hm' : (n : Int) ≤ 64 := by omega
    have KC := num_any w F e (n : Int) 1 st h (by omega)
    obtain ⟨s1, hst⟩ : ∃ s1, encNum st (n : Int) 1 = s1 := ⟨_, rfl⟩
    rw [hst] at KC LE ⊢
    have HB := Kept.mk hB; have HF := Kept.mk hF
    clear hst h hR hB hF
    go_enter Tryz.func89, Tryz.ntmps89
    go_wp2_with fail
    refine KC.mono ?_
    rintro x w1 ⟨rfl, F1, he, fp⟩
    have BW : Kept (Below B w w1) := ⟨fp.below HF.out HB.out⟩
    have AF : Kept (∀ f ∈ F1, B ≤ f) := ⟨fp.least HF.out HB.out⟩
    have FP := Kept.mk fp
    have LS : Kept (∀ k, k ≤ n → (wAll wRep s1 (l.take k)).2.length ≤ 900000000) := ⟨fun k hk => by
      have := wAll_len (f := wRep) (m := 54) (l := l.take k) (st := s1) (fun st x hx => wRep_len)
      rw [List.length_take] at this
      have h2 : min k l.length ≤ 64 := by omega
      have h3 : 54 * min k l.length ≤ 54 * 64 := Nat.mul_le_mul_left _ h2
      omega⟩
    have HE : Kept (En 143 w1 F1 e (wAll wRep s1 (l.take 0))) := ⟨by simpa [wAll] using he⟩
    clear he fp KC LE hl
    go_wp2
    go_loopw [24] (fun i wr => ∃ (k : Nat) (F' : List Nat), k ≤ n ∧ i = .int .i64 k ∧ Kept (En 143 wr F' e (wAll wRep s1 (l.take k))) ∧ Kept (Fp F F' w wr) ∧ Kept (∀ f ∈ F', B ≤ f) ∧ Kept (Below B w wr)) (fun i _ => n - (Go.RowKit.intOf i).toNat)
    case atStart => exact ⟨0, F1, by omega, rfl, HE, FP, AF, BW⟩
    case round =>
      clear HE FP AF BW
      obtain ⟨k, F', hk, rfl, HE, FP, AF, BW⟩ := hrel
      by_cases hkn : k < n
      · have hkn' : (k : Int) < n := by omega
        obtain ⟨b, o, r, rfl, hx, hcell⟩ := (RN.out _ BW.out).at_ hkn
        have HX := Kept.mk hx
        have LK := LS.out k hk
        obtain ⟨M, hM⟩ : ∃ M, wr.heap.size = M := ⟨_, rfl⟩
        obtain ⟨code, id⟩ := r
        have y0 := hcell 0 _ rfl; have y1 := hcell 1 _ rfl
        rw [Nat.add_zero] at y0
        dsimp only at y0 y1
        have bz : Below M wr (wr.alloc (.cells #[.int .i64 code, .int .i64 id] 63)) := (Below.refl _ _).alloc (by omega) _
        have XB : Kept (Blk (wr.alloc (.cells #[.int .i64 code, .int .i64 id] 63)) M 63 #[.int .i64 code, .int .i64 id]) := ⟨Blk.new_at wr _ _ M hM.symm⟩
        have hE2 := HE.out.keep (barOf (hM ▸ bz) []) (fun _ _ => by simp)
        have hFP : Fp F' F' wr (wr.alloc (.cells #[.int .i64 code, .int .i64 id] 63)) := ⟨barOf (hM ▸ bz) F', fun _ hk => .inl hk⟩
        have hBW := hFP.below AF.out (by have := BW.out.size; have := HB.out; omega)
        have KC := cputp_any (r := ⟨code, id⟩) hE2 LK
        unfold pqv at KC
        dsimp only at KC
        replace HE := Kept.mk hE2; replace FP := Kept.mk (FP.out.trans hFP); replace BW := Kept.mk (BW.out.trans hBW)
        have KK := Kept.mk KC
        clear KC hE2 hFP hBW bz LK hx hcell
        go_upto_region 7 with (fail)
        generalize wr.alloc (.cells #[.int .i64 code, .int .i64 id] 63) = w2 at *
        clear y0 y1
        have x0 := XB.out.cell 0; have x1 := XB.out.cell 1
        have KD := KK.out
        rw [← wAll_snoc wRep, ← ctake_snoc HX.out] at KD
        clear KK
        have KK := Kept.mk KD
        clear KD
        go_wp2_with fail
        refine KK.out.mono ?_
        rintro x w3 ⟨rfl, F2, he, fp⟩
        have BW2 := Kept.mk (BW.out.trans (fp.below AF.out (by have := BW.out.size; have := HB.out; omega)))
        have AF2 := Kept.mk (fp.least AF.out (by have := BW.out.size; have := HB.out; omega))
        replace AF := AF2; replace BW := BW2; replace FP := Kept.mk (FP.out.trans fp); replace HE := Kept.mk he
        clear he fp KK AF2 BW2 x0 x1
        go_wp2
        go_roundw
        case rel => exact ⟨k + 1, F2, by omega, by go_num, HE, FP, AF, BW⟩
        case measure => simp [Go.RowKit.intOf]; omega
      · have hkn' : ¬ (k : Int) < n := by omega
        obtain rfl : k = n := by omega
        have hh : l.take k = l := by rw [← LN.out]; exact List.take_length
        rw [hh] at HE
        have YES : Kept P := ⟨by rw [← HP.out]; exact hm⟩
        go_wp2
        go_ret
        exact ⟨true, F', rfl, FP.out, ⟨fun _ => YES.out, fun _ => rfl⟩, fun _ => HE.out⟩
  · have hm' : ¬ (n : Int) ≤ 64 := by omega
    have NO : Kept (¬ P) := ⟨fun h => by rw [← HP.out] at h; exact hm h⟩
    clear hm
    have hm2 : (64 : Int) < n := by omega
    clear h LE
    go_enter Tryz.func89, Tryz.ntmps89
    go_wp2
    go_ret
    exact ⟨false, F, rfl, Fp.refl _ _, ⟨fun h => (by cases h), fun h => (NO.out h).elim⟩, fun h => (by cases h)⟩

set_option maxRecDepth 100000 in
set_option maxHeartbeats 2000000 in
theorem putallv_any {w : World} {F : List Nat} {e B : Nat} {st : St} {A : Option Addr} {n c : Nat} {l : List VV} (h : En 143 w F e st) (hl : st.2.length ≤ 800000000) (hB : B ≤ w.heap.size) (hF : ∀ f ∈ F, B ≤ f) (hR : ∀ w', Below B w w' → Rv w' A n l) (hok : ∀ r ∈ l, r.ok) :
    Calls Tryz.prog 91 #[.pointer (some ⟨e, 0, none⟩), .slice A n c, .int .i64 2, .int .i64 400, .func (.func 92) #[] #[]] w (CPutPost 143 F e (wAll wEv (encNum st n 2) l) (n ≤ 400 ∧ ∀ r ∈ l, HoldV r) w) := by
  have LN := Kept.mk (hR w (Below.refl _ _)).1
  have RN := Kept.mk hR
  have HO := Kept.mk hok
  have LE := encNum_len st n 2
  generalize hP : (n ≤ 400 ∧ ∀ r ∈ l, HoldV r) = P
  have HP := Kept.mk hP
  clear hP
  by_cases hm : n ≤ 400
  · have hm' : (n : Int) ≤ 400 := by omega
    have KC := num_any w F e (n : Int) 2 st h (by omega)
    obtain ⟨s1, hst⟩ : ∃ s1, encNum st (n : Int) 2 = s1 := ⟨_, rfl⟩
    rw [hst] at KC LE ⊢
    have HB := Kept.mk hB; have HF := Kept.mk hF
    clear hst h hR hB hF hok
    go_enter Tryz.func91, Tryz.ntmps91
    go_wp2_with fail
    refine KC.mono ?_
    rintro x w1 ⟨rfl, F1, he, fp⟩
    have BW : Kept (Below B w w1) := ⟨fp.below HF.out HB.out⟩
    have AF : Kept (∀ f ∈ F1, B ≤ f) := ⟨fp.least HF.out HB.out⟩
    have FP := Kept.mk fp
    have LS : Kept (∀ k, k ≤ n → (∀ r ∈ l.take k, HoldV r) → (wAll wEv s1 (l.take k)).2.length ≤ 900000000) := ⟨fun k hk hh => by
      have := wAll_len (f := wEv) (m := 54) (l := l.take k) (st := s1) (fun st x hx => wEv_len (hh x hx))
      rw [List.length_take] at this
      have h2 : min k l.length ≤ 400 := by omega
      have h3 : 54 * min k l.length ≤ 54 * 400 := Nat.mul_le_mul_left _ h2
      omega⟩
    have HE : Kept (En 143 w1 F1 e (wAll wEv s1 (l.take 0))) := ⟨by simpa [wAll] using he⟩
    have HH : Kept (∀ r ∈ l.take 0, HoldV r) := ⟨by simp⟩
    clear he fp KC LE hl
    go_wp2
    go_loopw [24] (fun i wr => ∃ (k : Nat) (F' : List Nat), k ≤ n ∧ i = .int .i64 k ∧ Kept (En 143 wr F' e (wAll wEv s1 (l.take k))) ∧ Kept (Fp F F' w wr) ∧ Kept (∀ f ∈ F', B ≤ f) ∧ Kept (Below B w wr) ∧ Kept (∀ r ∈ l.take k, HoldV r)) (fun i _ => n - (Go.RowKit.intOf i).toNat)
    case atStart => exact ⟨0, F1, by omega, rfl, HE, FP, AF, BW, HH⟩
    case round =>
      clear HE FP AF BW HH
      obtain ⟨k, F', hk, rfl, HE, FP, AF, BW, HH⟩ := hrel
      by_cases hkn : k < n
      · have hkn' : (k : Int) < n := by omega
        obtain ⟨b, o, r, rfl, hx, hcell⟩ := (RN.out _ BW.out).at_ hkn
        have hrm := List.mem_of_getElem? hx
        have HX := Kept.mk hx
        have LK := LS.out k hk HH.out
        obtain ⟨M, hM⟩ : ∃ M, wr.heap.size = M := ⟨_, rfl⟩
        obtain ⟨kind, src, dst, asset, amount, id, due, hash, sec⟩ := r
        have y0 := hcell 0 _ rfl; have y1 := hcell 1 _ rfl; have y2 := hcell 2 _ rfl; have y3 := hcell 3 _ rfl; have y4 := hcell 4 _ rfl; have y5 := hcell 5 _ rfl; have y6 := hcell 6 _ rfl; have y7 := hcell 7 _ rfl; have y8 := hcell 8 _ rfl
        rw [Nat.add_zero] at y0
        dsimp only at y0 y1 y2 y3 y4 y5 y6 y7 y8
        have bz : Below M wr (wr.alloc (.cells #[.int .i64 kind, .int .i64 src, .int .i64 dst, .int .i64 asset, .int .i64 amount, .int .i64 id, .int .i64 due, .string (strOfNums hash), .string (strOfNums sec)] 71)) := (Below.refl _ _).alloc (by omega) _
        have XB : Kept (Blk (wr.alloc (.cells #[.int .i64 kind, .int .i64 src, .int .i64 dst, .int .i64 asset, .int .i64 amount, .int .i64 id, .int .i64 due, .string (strOfNums hash), .string (strOfNums sec)] 71)) M 71 #[.int .i64 kind, .int .i64 src, .int .i64 dst, .int .i64 asset, .int .i64 amount, .int .i64 id, .int .i64 due, .string (strOfNums hash), .string (strOfNums sec)]) := ⟨Blk.new_at wr _ _ M hM.symm⟩
        have hE2 := HE.out.keep (barOf (hM ▸ bz) []) (fun _ _ => by simp)
        have hFP : Fp F' F' wr (wr.alloc (.cells #[.int .i64 kind, .int .i64 src, .int .i64 dst, .int .i64 asset, .int .i64 amount, .int .i64 id, .int .i64 due, .string (strOfNums hash), .string (strOfNums sec)] 71)) := ⟨barOf (hM ▸ bz) F', fun _ hk => .inl hk⟩
        have hBW := hFP.below AF.out (by have := BW.out.size; have := HB.out; omega)
        have KC := cputv_any (r := ⟨kind, src, dst, asset, amount, id, due, hash, sec⟩) hE2 (HO.out _ hrm) LK
        unfold vqv at KC
        dsimp only at KC
        replace HE := Kept.mk hE2; replace FP := Kept.mk (FP.out.trans hFP); replace BW := Kept.mk (BW.out.trans hBW)
        have KK := Kept.mk KC
        clear KC hE2 hFP hBW bz LK hx hcell hrm
        go_upto_region 7 with (fail)
        generalize wr.alloc (.cells #[.int .i64 kind, .int .i64 src, .int .i64 dst, .int .i64 asset, .int .i64 amount, .int .i64 id, .int .i64 due, .string (strOfNums hash), .string (strOfNums sec)] 71) = w2 at *
        clear y0 y1 y2 y3 y4 y5 y6 y7 y8
        have x0 := XB.out.cell 0; have x1 := XB.out.cell 1; have x2 := XB.out.cell 2; have x3 := XB.out.cell 3; have x4 := XB.out.cell 4; have x5 := XB.out.cell 5; have x6 := XB.out.cell 6; have x7 := XB.out.cell 7; have x8 := XB.out.cell 8
        have HQ : Kept (l.take (k + 1) = l.take k ++ [⟨kind, src, dst, asset, amount, id, due, hash, sec⟩]) := ⟨ctake_snoc HX.out⟩
        have HM : Kept (⟨kind, src, dst, asset, amount, id, due, hash, sec⟩ ∈ l) := ⟨List.mem_of_getElem? HX.out⟩
        have HS : Kept (HoldV ⟨kind, src, dst, asset, amount, id, due, hash, sec⟩ → ∀ r ∈ l.take (k + 1), HoldV r) := ⟨fun h => call_snoc HX.out HH.out h⟩
        by_cases hh : HoldV ⟨kind, src, dst, asset, amount, id, due, hash, sec⟩
        · have KD := KK.out
          rw [if_pos hh, decide_eq_true hh] at KD
          replace HH := Kept.mk (HS.out hh)
          rw [← wAll_snoc wEv, ← HQ.out] at KD
          clear KK HS HM hh
          have KK := Kept.mk KD
          clear KD
          go_wp2_with fail
          refine KK.out.mono ?_
          rintro x w3 ⟨rfl, F2, he, fp⟩
          have BW2 := Kept.mk (BW.out.trans (fp.below AF.out (by have := BW.out.size; have := HB.out; omega)))
          have AF2 := Kept.mk (fp.least AF.out (by have := BW.out.size; have := HB.out; omega))
          replace AF := AF2; replace BW := BW2; replace FP := Kept.mk (FP.out.trans fp); replace HE := Kept.mk he
          clear he fp KK AF2 BW2 x0 x1 x2 x3 x4 x5 x6 x7 x8
          go_wp2
          go_roundw
          case rel => exact ⟨k + 1, F2, by omega, by go_num, HE, FP, AF, BW, HH⟩
          case measure => simp [Go.RowKit.intOf]; omega
        · have KD := KK.out
          rw [if_neg hh, decide_eq_false hh] at KD
          have NO : Kept (¬ P) := ⟨fun h => by rw [← HP.out] at h; exact hh (h.2 _ HM.out)⟩
          have KK2 := Kept.mk KD
          clear KD KK HS HM hh
          go_wp2_with fail
          refine KK2.out.mono ?_
          rintro x w3 ⟨rfl, F2, he, fp⟩
          replace FP := Kept.mk (FP.out.trans fp)
          clear he fp KK2 x0 x1 x2 x3 x4 x5 x6 x7 x8
          go_wp2
          go_ret
          exact ⟨false, F2, rfl, FP.out, ⟨fun h => (by cases h), fun h => (NO.out h).elim⟩, fun h => (by cases h)⟩
      · have hkn' : ¬ (k : Int) < n := by omega
        obtain rfl : k = n := by omega
        have hh : l.take k = l := by rw [← LN.out]; exact List.take_length
        rw [hh] at HE HH
        have YES : Kept P := ⟨by rw [← HP.out]; exact ⟨hm, HH.out⟩⟩
        go_wp2
        go_ret
        exact ⟨true, F', rfl, FP.out, ⟨fun _ => YES.out, fun _ => rfl⟩, fun _ => HE.out⟩
  · have hm' : ¬ (n : Int) ≤ 400 := by omega
    have NO : Kept (¬ P) := ⟨fun h => by rw [← HP.out] at h; exact hm h.1⟩
    clear hm
    have hm2 : (400 : Int) < n := by omega
    clear h LE
    go_enter Tryz.func91, Tryz.ntmps91
    go_wp2
    go_ret
    exact ⟨false, F, rfl, Fp.refl _ _, ⟨fun h => (by cases h), fun h => (NO.out h).elim⟩, fun h => (by cases h)⟩

end Go.Proofs.YtchcgoabogcabaaGreat.Req

namespace Go.Proofs.YtchcgoabogcabaaGreat.Req
open Go.RowKit Go.Proofs.YtchcgoabogcabaaGreat.Sha Go.Proofs.YtchcgoabogcabaaGreat.Wire

set_option maxRecDepth 100000 in
set_option maxHeartbeats 2000000 in
theorem cencb_any (seen : Int) {A : Option Addr} {n c : Nat} {l : List RV} {w : World} (hr : Rr w A n l) (hok : ∀ r ∈ l, r.ok) : Calls Tryz.prog 93 #[.agg #[.int .i64 seen, .slice A n c]] w (EncPost (encB ⟨seen, l⟩) w) := by
  have LN := Kept.mk hr.1
  have hb0 := encB_bytes (x := ⟨seen, l⟩) hok
  have hl0 := encB_len ⟨seen, l⟩
  have EC : Kept (n ≤ 64 ∧ (∀ r ∈ l, HoldR r) → wAll wReq (encNum (encNum (0, []) seen 2) n 1) l = encB ⟨seen, l⟩) := ⟨fun h => by
    rw [← hr.1] at h ⊢; exact encB_code h.1 h.2⟩
  have EN : Kept (¬ (n ≤ 64 ∧ ∀ r ∈ l, HoldR r) → encB ⟨seen, l⟩ = (1, [])) := ⟨fun h => encB_no (fun k => h ⟨by rw [← hr.1]; exact k.2.1, fun r hm => (mayR_iff.1 (k.2.2 r hm)).1⟩)⟩
  generalize encB ⟨seen, l⟩ = R at *
  have HB := Kept.mk hb0
  have HO := Kept.mk hok
  obtain ⟨N, hN⟩ : ∃ N, w.heap.size = N := ⟨_, rfl⟩
  have B0 : Below N w (w.alloc (.cells #[.int .i64 seen, .slice A n c] 53)) := (Below.refl _ _).alloc (by omega) _
  have X : Kept (Blk (w.alloc (.cells #[.int .i64 seen, .slice A n c] 53)) N 53 #[.int .i64 seen, .slice A n c]) := ⟨Blk.new_at w _ _ N hN.symm⟩
  have HR := Kept.mk (hr.below (hN ▸ B0))
  have B := Kept.mk B0
  have HN := Kept.mk hN
  clear B0 hr hok hb0
  go_enter Tryz.func93, Tryz.ntmps93
  go_upto_region 1 with (fail)
  generalize w.alloc (.cells #[.int .i64 seen, .slice A n c] 53) = w1 at *
  have KN := newenc_any w1
  obtain ⟨M, hM⟩ : ∃ M, w1.heap.size = M := ⟨_, rfl⟩
  have hNM : N < M := by rw [← hM]; exact X.out.lt
  have HX : Kept (∀ w', Below M w1 w' → Blk w' N 53 #[.int .i64 seen, .slice A n c]) := ⟨fun w' b => X.out.below b hNM⟩
  have RX : Kept (∀ w', Below M w1 w' → Rr w' A n l) := ⟨fun w' b => HR.out.below (hM ▸ b)⟩
  rw [hM] at KN
  go_wp2_with fail
  refine KN.mono ?_
  rintro x w2 ⟨rfl, he, fp⟩
  have BW := Kept.mk (fp.below (B := M) (by simp) (by omega))
  have KC := num_any w2 [M] M seen 2 (0, []) he (by simp)
  have LE := encNum_len (0, []) seen 2
  obtain ⟨s1, hs1⟩ : ∃ s, encNum (0, []) seen 2 = s := ⟨_, rfl⟩
  rw [hs1] at KC LE EC
  clear hs1 he fp KN X HR
  have x0 := (HX.out _ BW.out).cell 0
  go_wp2_with fail
  refine KC.mono ?_
  rintro x w3 ⟨rfl, F3, he, fp⟩
  have AF := fp.least (B := M) (by simp) (by have := BW.out.size; omega)
  replace BW := Kept.mk (BW.out.trans (fp.below (B := M) (by simp) (by have := BW.out.size; omega)))
  have KP := putallr_any (B := M) (c := c) he (by have h0 : ([] : List Int).length = 0 := rfl; simp only [h0] at LE; omega) (by have := BW.out.size; omega) AF (fun w' b => RX.out w' (BW.out.trans b)) HO.out
  have KP2 := Kept.mk KP
  unfold CPutPost at KP2
  have AF2 := Kept.mk AF
  clear he fp KC x0 KP AF LE
  have x1 := (HX.out _ BW.out).cell 1
  go_wp2_with fail
  refine KP2.out.mono ?_
  rintro x w4 ⟨q, F4, rfl, fp, hq, he⟩
  replace BW := Kept.mk (BW.out.trans (fp.below AF2.out (by have := BW.out.size; omega)))
  have BE : Kept (Below N w w4) := ⟨B.out.trans (BW.out.mono (by omega))⟩
  clear fp KP2 x1
  cases q with
  | true =>
    have he2 := he rfl
    rw [EC.out (hq.1 rfl)] at he2
    have KD := done_any w4 F4 M R he2 HB.out (by omega)
    obtain ⟨R1, R2⟩ := R
    clear he he2 hq
    go_wp2_with fail
    refine KD.mono ?_
    rintro x w5 ⟨v, rfl, own, b5⟩
    obtain ⟨A5, c5, rfl, h1, h2, r5⟩ := own_rd own HB.out
    have R5 := Kept.mk r5
    replace BE := Kept.mk (BE.out.trans (b5.mono (by have := BE.out.size; omega)))
    clear KD own b5 r5
    go_wp2
    go_ret2
    exact ⟨A5, _, c5, rfl, h1, h2, R5.out, by rw [HN.out]; exact BE.out⟩
  | false =>
    obtain rfl := EN.out (fun h => by have := hq.2 h; cases this)
    clear he hq
    go_wp2
    go_ret2
    exact ⟨none, 0, 0, rfl, Nat.le_refl _, by omega, Rd.nil_, by rw [HN.out]; exact BE.out⟩
end Go.Proofs.YtchcgoabogcabaaGreat.Req

namespace Go.Proofs.YtchcgoabogcabaaGreat.Req
open Go.Proofs.YtchcgoabogcabaaGreat.Sha Go.Proofs.YtchcgoabogcabaaGreat.Wire

/-- k of them, one behind the other, whatever comes -/
def iter {α : Type} (g : St → α × St) : Nat → St → List α × St
  | 0, st => ([], st)
  | k + 1, st => ((iter g k st).1 ++ [(g (iter g k st).2).1], (g (iter g k st).2).2)
theorem iter_len {α : Type} (g : St → α × St) (k : Nat) (st : St) : (iter g k st).1.length = k := by
  induction k with
  | zero => rfl
  | succ k ih => simp [iter, ih]
/-- a text, byte by byte -/
def cText (st : St) : List Int × St := iter (fun s => decNum s 1) 32 st
def cMove (st : St) : (Int × Int × Int) × St :=
  (((decNum st 1).1, (decNum (decNum st 1).2 1).1, (decNum (decNum (decNum st 1).2 1).2 8).1), (decNum (decNum (decNum st 1).2 1).2 8).2)
/-- what is read, and how: all bytes are one way -/
structure Way {α : Type} (g : St → α × St) (p : α → List Int) (hold may : α → Prop) : Prop where
  rest : ∀ st, Bytes st.2 → Bytes (g st).2.2
  one : ∀ st, Bytes st.2 → (g st).2.1 = 0 → hold (g st).1 → st.1 = 0 ∧ st.2 = p (g st).1 ++ (g st).2.2 ∧ may (g st).1
  back : ∀ x t, may x → Bytes (p x ++ t) → g (0, p x ++ t) = (x, (0, t))
theorem bytes_of_append {a b : List Int} (h : Bytes (a ++ b)) : Bytes a ∧ Bytes b :=
  ⟨fun x hx => h x (List.mem_append_left _ hx), fun x hx => h x (List.mem_append_right _ hx)⟩
theorem Way.iter {α : Type} {g : St → α × St} {p : α → List Int} {hold may : α → Prop} (W : Way g p hold may) (k : Nat) (st : St) (hb : Bytes st.2) :
    Bytes (Req.iter g k st).2.2 ∧ ((Req.iter g k st).2.1 = 0 → (∀ x ∈ (Req.iter g k st).1, hold x) → st.1 = 0 ∧ st.2 = (Req.iter g k st).1.flatMap p ++ (Req.iter g k st).2.2 ∧ ∀ x ∈ (Req.iter g k st).1, may x) := by
  induction k with
  | zero => exact ⟨hb, fun h _ => ⟨h, by simp [Req.iter], by simp [Req.iter]⟩⟩
  | succ k ih =>
    obtain ⟨h1, h2⟩ := ih
    refine ⟨W.rest _ h1, fun he hh => ?_⟩
    simp only [Req.iter] at he hh ⊢
    obtain ⟨k1, k2, k3⟩ := W.one _ h1 he (hh _ (by simp))
    obtain ⟨j1, j2, j3⟩ := h2 k1 (fun x hx => hh x (List.mem_append_left _ hx))
    refine ⟨j1, ?_, fun x hx => ?_⟩
    · rw [List.flatMap_append, List.flatMap_singleton, List.append_assoc, ← k2]
      exact j2
    · rcases List.mem_append.1 hx with hx | hx
      · exact j3 x hx
      · rw [List.mem_singleton] at hx; subst hx; exact k3
theorem Way.iter_back {α : Type} {g : St → α × St} {p : α → List Int} {hold may : α → Prop} (W : Way g p hold may) (l : List α) (t : List Int) (hm : ∀ x ∈ l, may x) (hb : Bytes (l.flatMap p ++ t)) :
    ∀ k, k ≤ l.length → Req.iter g k (0, l.flatMap p ++ t) = (l.take k, (0, (l.drop k).flatMap p ++ t)) := by
  intro k
  induction k with
  | zero => intro _; simp [Req.iter]
  | succ k ih =>
    intro hk
    have h1 := ih (by omega)
    have hx : k < l.length := by omega
    rw [Req.iter, h1]
    have hd : l.drop k = l[k] :: l.drop (k + 1) := List.drop_eq_getElem_cons hx
    have hbk : Bytes ((l.drop k).flatMap p ++ t) := by
      have e : l.flatMap p ++ t = (l.take k).flatMap p ++ ((l.drop k).flatMap p ++ t) := by
        rw [← List.append_assoc, ← List.flatMap_append, List.take_append_drop]
      rw [e] at hb
      exact (bytes_of_append hb).2
    rw [hd, List.flatMap_cons, List.append_assoc] at hbk ⊢
    rw [W.back _ _ (hm _ (List.getElem_mem hx)) hbk, List.take_succ_eq_append_getElem hx]
theorem Way.whole {α : Type} {g : St → α × St} {p : α → List Int} {hold may : α → Prop} (W : Way g p hold may) (l : List α) (t : List Int) (hm : ∀ x ∈ l, may x) (hb : Bytes (l.flatMap p ++ t)) :
    Req.iter g l.length (0, l.flatMap p ++ t) = (l, (0, t)) := by
  rw [W.iter_back l t hm hb _ (Nat.le_refl _)]
  simp
/-- a number -/
theorem dn_val {st : St} {s : Nat} (hb : Bytes st.2) (h : (decNum st s).2.1 = 0) : st.1 = 0 ∧ 0 ≤ (decNum st s).1 ∧ (decNum st s).1 ≤ 4611686018427387904 ∧ (decNum st s).1.toNat < 256 ^ s ∧ st.2 = be (decNum st s).1.toNat s ++ (decNum st s).2.2 := by
  unfold decNum at h ⊢
  by_cases h0 : st.1 = 0
  · rw [if_pos h0] at h ⊢
    by_cases hs : 1 ≤ (s : Int) ∧ (s : Int) ≤ 8
    · rw [if_pos hs] at h ⊢
      simp only [Int.toNat_natCast] at h ⊢
      by_cases hv : s ≤ st.2.length ∧ val (st.2.take s) ≤ 4611686018427387904
      · rw [if_pos hv] at h ⊢
        have h1 := val_take_lt st.2 hb s hv.1
        have h2 := be_val (st.2.take s) (hb.take s)
        rw [List.length_take, Nat.min_eq_left hv.1] at h2
        refine ⟨h0, by simp, by simpa using (show ((val (st.2.take s) : Nat) : Int) ≤ 4611686018427387904 by omega), by simpa using h1, ?_⟩
        simp only [Int.toNat_natCast, h2, List.take_append_drop]
      · rw [if_neg hv] at h; simp at h
    · rw [if_neg hs] at h; simp at h
  · rw [if_neg h0] at h; exact absurd h h0
theorem dn1 {st : St} (hb : Bytes st.2) (h : (decNum st 1).2.1 = 0) : st.1 = 0 ∧ B8 (decNum st 1).1 ∧ st.2 = be (decNum st 1).1.toNat 1 ++ (decNum st 1).2.2 := by
  obtain ⟨h1, h2, h3, h4, h5⟩ := dn_val (s := 1) hb h
  exact ⟨h1, ⟨h2, by have : (decNum st 1).1.toNat < 256 := h4; omega⟩, h5⟩
theorem dn2 {st : St} (hb : Bytes st.2) (h : (decNum st 2).2.1 = 0) : st.1 = 0 ∧ I16 (decNum st 2).1 ∧ st.2 = be (decNum st 2).1.toNat 2 ++ (decNum st 2).2.2 := by
  obtain ⟨h1, h2, h3, h4, h5⟩ := dn_val (s := 2) hb h
  exact ⟨h1, ⟨h2, by have : (decNum st 2).1.toNat < 65536 := h4; omega⟩, h5⟩
theorem dn8 {st : St} (hb : Bytes st.2) (h : (decNum st 8).2.1 = 0) : st.1 = 0 ∧ Amt (decNum st 8).1 ∧ st.2 = be (decNum st 8).1.toNat 8 ++ (decNum st 8).2.2 := by
  obtain ⟨h1, h2, h3, h4, h5⟩ := dn_val (s := 8) hb h
  exact ⟨h1, ⟨h2, h3⟩, h5⟩
theorem b80 : B8 0 := by decide
theorem i160 : I16 0 := by decide
theorem amt0 : Amt 0 := by decide
/-- a byte -/
theorem byte_way : Way (fun s => decNum s 1) (fun x : Int => [x]) (fun _ => True) B8 where
  rest st hb := decNum_bytes st 1 hb
  one st hb h _ := by
    obtain ⟨h1, h2, h3⟩ := dn1 hb h
    refine ⟨h1, ?_, h2⟩
    rw [h3]
    congr 1
    simp only [be, Nat.pow_zero, Nat.div_one]
    congr 1
    have := h2.1; have := h2.2
    omega
  back x t h hb := by
    have := nb1 t h
    have e : be x.toNat 1 = [x] := by
      simp only [be, Nat.pow_zero, Nat.div_one]
      congr 1
      have := h.1; have := h.2
      omega
    rwa [e] at this
theorem flat_one (l : List Int) : l.flatMap (fun x => [x]) = l := by induction l <;> simp [*]
theorem cText_rest (st : St) (hb : Bytes st.2) : Bytes (cText st).2.2 := (byte_way.iter 32 st hb).1
theorem cText_one {st : St} (hb : Bytes st.2) (h : (cText st).2.1 = 0) : st.1 = 0 ∧ st.2 = (cText st).1 ++ (cText st).2.2 := by
  obtain ⟨h1, h2, h3⟩ := (byte_way.iter 32 st hb).2 h (fun _ _ => trivial)
  rw [flat_one] at h2
  exact ⟨h1, h2⟩
theorem cText_back (b t : List Int) (hl : b.length = 32) (hb : Bytes (b ++ t)) : cText (0, b ++ t) = (b, (0, t)) := by
  have := byte_way.whole b t (fun x hx => (bytes_of_append hb).1 x hx) (by rw [flat_one]; exact hb)
  rwa [flat_one, hl] at this
theorem iter_bytes1 (k : Nat) (st : St) (hb : Bytes st.2) : Bytes (iter (fun s => decNum s 1) k st).1 := by
  induction k with
  | zero => intro x hx; simp [iter] at hx
  | succ k ih =>
    intro x hx
    rcases List.mem_append.1 hx with h | h
    · exact ih x h
    · rw [List.mem_singleton] at h
      subst h
      exact decNum_size0 _ ((byte_way.iter k st hb).1)
theorem cMove_rest (st : St) (hb : Bytes st.2) : Bytes (cMove st).2.2 := decNum_bytes _ _ (decNum_bytes _ _ (decNum_bytes _ _ hb))
theorem cMove_one {st : St} (hb : Bytes st.2) (h : (cMove st).2.1 = 0) : st.1 = 0 ∧ B8 (cMove st).1.1 ∧ B8 (cMove st).1.2.1 ∧ Amt (cMove st).1.2.2 ∧ st.2 = be (cMove st).1.1.toNat 1 ++ (be (cMove st).1.2.1.toNat 1 ++ (be (cMove st).1.2.2.toNat 8 ++ (cMove st).2.2)) := by
  unfold cMove at h ⊢
  dsimp only at h ⊢
  obtain ⟨h1, h2, h3⟩ := dn8 (decNum_bytes _ _ (decNum_bytes _ _ hb)) h
  obtain ⟨k1, k2, k3⟩ := dn1 (decNum_bytes _ _ hb) h1
  obtain ⟨j1, j2, j3⟩ := dn1 hb k1
  refine ⟨j1, j2, k2, h2, ?_⟩
  rw [← h3, ← k3, ← j3]
theorem cMove_back {a b c : Int} (t : List Int) (ha : B8 a) (hb : B8 b) (hc : Amt c) : cMove (0, be a.toNat 1 ++ (be b.toNat 1 ++ (be c.toNat 8 ++ t))) = ((a, b, c), (0, t)) := by
  unfold cMove
  simp only [nb1 _ ha, nb1 _ hb, nb8 _ hc]
/-- a request is read -/
def cReq (st : St) : RV × St :=
  if (decNum st 1).1 = 1 then (⟨1, (cMove (decNum st 1).2).1.1, (cMove (decNum st 1).2).1.2.1, (cMove (decNum st 1).2).1.2.2, 0, 0, [], []⟩, (cMove (decNum st 1).2).2)
  else if (decNum st 1).1 = 2 then (⟨2, (cMove (decNum st 1).2).1.1, (cMove (decNum st 1).2).1.2.1, (cMove (decNum st 1).2).1.2.2, 0, (decNum (cText (cMove (decNum st 1).2).2).2 8).1, (cText (cMove (decNum st 1).2).2).1, []⟩, (decNum (cText (cMove (decNum st 1).2).2).2 8).2)
  else if (decNum st 1).1 = 3 then (⟨3, 0, 0, 0, (decNum (decNum st 1).2 2).1, 0, [], (cText (decNum (decNum st 1).2 2).2).1⟩, (cText (decNum (decNum st 1).2 2).2).2)
  else if (decNum st 1).1 = 4 then (⟨4, 0, 0, 0, (decNum (decNum st 1).2 2).1, 0, [], []⟩, (decNum (decNum st 1).2 2).2)
  else (⟨(decNum st 1).1, 0, 0, 0, 0, 0, [], []⟩, (decNum st 1).2)
def cEv (st : St) : VV × St :=
  if (decNum st 1).1 = 1 then (⟨1, (decNum (decNum st 1).2 1).1, (cMove (decNum (decNum st 1).2 1).2).1.1, (cMove (decNum (decNum st 1).2 1).2).1.2.1, (cMove (decNum (decNum st 1).2 1).2).1.2.2, 0, 0, [], []⟩, (cMove (decNum (decNum st 1).2 1).2).2)
  else if (decNum st 1).1 = 2 then (⟨2, (decNum (decNum st 1).2 1).1, (cMove (decNum (decNum st 1).2 1).2).1.1, (cMove (decNum (decNum st 1).2 1).2).1.2.1, (cMove (decNum (decNum st 1).2 1).2).1.2.2, (decNum (cMove (decNum (decNum st 1).2 1).2).2 2).1,
    (decNum (cText (decNum (cMove (decNum (decNum st 1).2 1).2).2 2).2).2 8).1, (cText (decNum (cMove (decNum (decNum st 1).2 1).2).2 2).2).1, []⟩, (decNum (cText (decNum (cMove (decNum (decNum st 1).2 1).2).2 2).2).2 8).2)
  else if (decNum st 1).1 = 3 then (⟨3, 0, 0, 0, 0, (decNum (decNum st 1).2 2).1, 0, [], (cText (decNum (decNum st 1).2 2).2).1⟩, (cText (decNum (decNum st 1).2 2).2).2)
  else if (decNum st 1).1 = 4 then (⟨4, 0, 0, 0, 0, (decNum (decNum st 1).2 2).1, 0, [], []⟩, (decNum (decNum st 1).2 2).2)
  else (⟨(decNum st 1).1, 0, 0, 0, 0, 0, 0, [], []⟩, (decNum st 1).2)
def cRep (st : St) : PV × St := (⟨(decNum st 1).1, (decNum (decNum st 1).2 2).1⟩, (decNum (decNum st 1).2 2).2)
theorem rep_way : Way cRep putP (fun _ => True) MayP where
  rest st hb := decNum_bytes _ _ (decNum_bytes _ _ hb)
  one st hb h _ := by
    unfold cRep at h ⊢
    dsimp only at h ⊢
    obtain ⟨k1, k2, k3⟩ := dn2 (decNum_bytes _ _ hb) h
    obtain ⟨j1, j2, j3⟩ := dn1 hb k1
    refine ⟨j1, ?_, j2, k2⟩
    unfold putP
    rw [List.append_assoc, ← k3, ← j3]
  back x t h hb := by
    unfold cRep putP
    simp only [List.append_assoc, nb1 _ h.1, nb2 _ h.2]
theorem req_rest (st : St) (hb : Bytes st.2) : Bytes (cReq st).2.2 := by
  have h0 := decNum_bytes st 1 hb
  unfold cReq
  split
  · (try dsimp only); exact cMove_rest _ h0
  · split
    · (try dsimp only); exact decNum_bytes _ _ (cText_rest _ (cMove_rest _ h0))
    · split
      · (try dsimp only); exact cText_rest _ (decNum_bytes _ _ h0)
      · split
        · (try dsimp only); exact decNum_bytes _ _ h0
        · (try dsimp only); exact h0
theorem req_one (st : St) (hb : Bytes st.2) (h : (cReq st).2.1 = 0) (hh : HoldR (cReq st).1) : st.1 = 0 ∧ st.2 = putR (cReq st).1 ++ (cReq st).2.2 ∧ MayR (cReq st).1 := by
  have h0 := decNum_bytes st 1 hb
  rw [mayR_iff]
  unfold cReq at h hh ⊢
  by_cases e1 : (decNum st 1).1 = 1
  · simp only [if_pos e1] at h hh ⊢
    obtain ⟨k1, k2, k3, k4, k5⟩ := cMove_one h0 h
    obtain ⟨j1, j2, j3⟩ := dn1 hb k1
    refine ⟨j1, ?_, hh, k2, k3, k4, i160⟩
    rw [j3, e1, k5]; simp [putR]
  · by_cases e2 : (decNum st 1).1 = 2
    · simp only [if_neg e1, if_pos e2] at h hh ⊢
      obtain ⟨a1, a2, a3⟩ := dn8 (cText_rest _ (cMove_rest _ h0)) h
      obtain ⟨b1, b2⟩ := cText_one (cMove_rest _ h0) a1
      obtain ⟨k1, k2, k3, k4, k5⟩ := cMove_one h0 b1
      obtain ⟨j1, j2, j3⟩ := dn1 hb k1
      refine ⟨j1, ?_, hh, k2, k3, k4, i160⟩
      rw [j3, e2, k5, b2, a3]; simp [putR]
    · by_cases e3 : (decNum st 1).1 = 3
      · simp only [if_neg e1, if_neg e2, if_pos e3] at h hh ⊢
        obtain ⟨b1, b2⟩ := cText_one (decNum_bytes _ _ h0) h
        obtain ⟨k1, k2, k3⟩ := dn2 h0 b1
        obtain ⟨j1, j2, j3⟩ := dn1 hb k1
        refine ⟨j1, ?_, hh, b80, b80, amt0, k2⟩
        rw [j3, e3, k3, b2]; simp [putR]
      · by_cases e4 : (decNum st 1).1 = 4
        · simp only [if_neg e1, if_neg e2, if_neg e3, if_pos e4] at h hh ⊢
          obtain ⟨k1, k2, k3⟩ := dn2 h0 h
          obtain ⟨j1, j2, j3⟩ := dn1 hb k1
          refine ⟨j1, ?_, hh, b80, b80, amt0, k2⟩
          rw [j3, e4, k3]; simp [putR]
        · simp only [if_neg e1, if_neg e2, if_neg e3, if_neg e4] at hh
          rcases hh with hh | hh | hh | hh
          · exact absurd hh.1 e1
          · exact absurd hh.1 e2
          · exact absurd hh.1 e3
          · exact absurd hh.1 e4
theorem req_back (r : RV) (t : List Int) (h : MayR r) (hb : Bytes (putR r ++ t)) : cReq (0, putR r ++ t) = (r, (0, t)) := by
  obtain ⟨kind, dst, asset, amount, id, due, hash, sec⟩ := r
  have hk : B8 kind := by rcases h with h | h | h | h <;> have := h.1 <;> exact ⟨by dsimp only at this; omega, by dsimp only at this; omega⟩
  have ha : ∀ u, decNum (0, be kind.toNat 1 ++ u) 1 = (kind, (0, u)) := fun u => nb1 u hk
  unfold putR at hb ⊢
  unfold cReq
  simp only [List.append_assoc, ha]
  rcases h with ⟨h1, h2, h3, h4, h5, h6, h7, h8⟩ | ⟨h1, h2, h3, h4, h5, h6, h7, h8⟩ | ⟨h1, h2, h3, h4, h5, h6, h7, h8⟩ | ⟨h1, h2, h3, h4, h5, h6, h7, h8⟩ <;> dsimp only at h1 h2 h3 h4 h5 h6 h7 h8
  · subst h1 h5 h6 h7 h8
    simp [List.append_assoc, cMove_back _ h2 h3 h4]
  · subst h1 h5 h8
    have hb2 : Bytes (hash ++ (be due.toNat 8 ++ t)) := by
      simp only [List.append_assoc] at hb
      replace hb := (bytes_of_append hb).2
      simp only [or_true, if_true] at hb
      replace hb := (bytes_of_append hb).2
      simpa using hb
    simp [List.append_assoc, cMove_back _ h2 h3 h4, cText_back hash _ h7 hb2, nb8 _ h6.amt]
  · subst h1 h2 h3 h4 h6 h7
    have hb2 : Bytes (sec ++ t) := by
      simp only [List.append_assoc] at hb
      replace hb := (bytes_of_append hb).2
      simp at hb
      exact (bytes_of_append hb).2
    simp [nb2 _ h5, cText_back sec _ h8 hb2]
  · subst h1 h2 h3 h4 h6 h7 h8
    simp [nb2 _ h5]
theorem req_way : Way cReq putR HoldR MayR := ⟨req_rest, req_one, req_back⟩
theorem ev_rest (st : St) (hb : Bytes st.2) : Bytes (cEv st).2.2 := by
  have h0 := decNum_bytes st 1 hb
  have h1 := decNum_bytes _ 1 h0
  unfold cEv
  split
  · (try dsimp only); exact cMove_rest _ h1
  · split
    · (try dsimp only); exact decNum_bytes _ _ (cText_rest _ (decNum_bytes _ _ (cMove_rest _ h1)))
    · split
      · (try dsimp only); exact cText_rest _ (decNum_bytes _ _ h0)
      · split
        · (try dsimp only); exact decNum_bytes _ _ h0
        · (try dsimp only); exact h0
theorem ev_one (st : St) (hb : Bytes st.2) (h : (cEv st).2.1 = 0) (hh : HoldV (cEv st).1) : st.1 = 0 ∧ st.2 = putV (cEv st).1 ++ (cEv st).2.2 ∧ MayV (cEv st).1 := by
  have h0 := decNum_bytes st 1 hb
  have h1 := decNum_bytes _ 1 h0
  rw [mayV_iff]
  unfold cEv at h hh ⊢
  by_cases e1 : (decNum st 1).1 = 1
  · simp only [if_pos e1] at h hh ⊢
    obtain ⟨k1, k2, k3, k4, k5⟩ := cMove_one h1 h
    obtain ⟨s1, s2, s3⟩ := dn1 h0 k1
    obtain ⟨j1, j2, j3⟩ := dn1 hb s1
    refine ⟨j1, ?_, hh, s2, k2, k3, k4, i160⟩
    rw [j3, e1, s3, k5]; simp [putV]
  · by_cases e2 : (decNum st 1).1 = 2
    · simp only [if_neg e1, if_pos e2] at h hh ⊢
      obtain ⟨a1, a2, a3⟩ := dn8 (cText_rest _ (decNum_bytes _ _ (cMove_rest _ h1))) h
      obtain ⟨b1, b2⟩ := cText_one (decNum_bytes _ _ (cMove_rest _ h1)) a1
      obtain ⟨i1, i2, i3⟩ := dn2 (cMove_rest _ h1) b1
      obtain ⟨k1, k2, k3, k4, k5⟩ := cMove_one h1 i1
      obtain ⟨s1, s2, s3⟩ := dn1 h0 k1
      obtain ⟨j1, j2, j3⟩ := dn1 hb s1
      refine ⟨j1, ?_, hh, s2, k2, k3, k4, i2⟩
      rw [j3, e2, s3, k5, i3, b2, a3]; simp [putV]
    · by_cases e3 : (decNum st 1).1 = 3
      · simp only [if_neg e1, if_neg e2, if_pos e3] at h hh ⊢
        obtain ⟨b1, b2⟩ := cText_one (decNum_bytes _ _ h0) h
        obtain ⟨k1, k2, k3⟩ := dn2 h0 b1
        obtain ⟨j1, j2, j3⟩ := dn1 hb k1
        refine ⟨j1, ?_, hh, b80, b80, b80, amt0, k2⟩
        rw [j3, e3, k3, b2]; simp [putV]
      · by_cases e4 : (decNum st 1).1 = 4
        · simp only [if_neg e1, if_neg e2, if_neg e3, if_pos e4] at h hh ⊢
          obtain ⟨k1, k2, k3⟩ := dn2 h0 h
          obtain ⟨j1, j2, j3⟩ := dn1 hb k1
          refine ⟨j1, ?_, hh, b80, b80, b80, amt0, k2⟩
          rw [j3, e4, k3]; simp [putV]
        · simp only [if_neg e1, if_neg e2, if_neg e3, if_neg e4] at hh
          rcases hh with hh | hh | hh | hh
          · exact absurd hh.1 e1
          · exact absurd hh.1 e2
          · exact absurd hh.1 e3
          · exact absurd hh.1 e4
theorem ev_back (r : VV) (t : List Int) (h : MayV r) (hb : Bytes (putV r ++ t)) : cEv (0, putV r ++ t) = (r, (0, t)) := by
  obtain ⟨kind, src, dst, asset, amount, id, due, hash, sec⟩ := r
  have hk : B8 kind := by rcases h with h | h | h | h <;> have := h.1 <;> exact ⟨by dsimp only at this; omega, by dsimp only at this; omega⟩
  have ha : ∀ u, decNum (0, be kind.toNat 1 ++ u) 1 = (kind, (0, u)) := fun u => nb1 u hk
  unfold putV at hb ⊢
  unfold cEv
  simp only [List.append_assoc, ha]
  rcases h with ⟨h1, hs, h2, h3, h4, h5, h6, h7, h8⟩ | ⟨h1, hs, h2, h3, h4, h5, h6, h7, h8⟩ | ⟨h1, hs, h2, h3, h4, h5, h6, h7, h8⟩ | ⟨h1, hs, h2, h3, h4, h5, h6, h7, h8⟩ <;> dsimp only at h1 hs h2 h3 h4 h5 h6 h7 h8
  · subst h1 h5 h6 h7 h8
    simp [List.append_assoc, nb1 _ hs, cMove_back _ h2 h3 h4]
  · subst h1 h8
    have hb2 : Bytes (hash ++ (be due.toNat 8 ++ t)) := by
      simp only [List.append_assoc] at hb
      replace hb := (bytes_of_append hb).2
      rw [if_pos (by decide)] at hb
      replace hb := (bytes_of_append hb).2
      rw [if_pos (by decide)] at hb
      replace hb := (bytes_of_append hb).2
      simpa using hb
    simp [List.append_assoc, nb1 _ hs, nb2 _ h5, cMove_back _ h2 h3 h4, cText_back hash _ h7 hb2, nb8 _ h6.amt]
  · subst h1 hs h2 h3 h4 h6 h7
    have hb2 : Bytes (sec ++ t) := by
      simp only [List.append_assoc] at hb
      replace hb := (bytes_of_append hb).2
      simp at hb
      exact (bytes_of_append hb).2
    simp [nb2 _ h5, cText_back sec _ h8 hb2]
  · subst h1 hs h2 h3 h4 h6 h7 h8
    simp [nb2 _ h5]
theorem ev_way : Way cEv putV HoldV MayV := ⟨ev_rest, ev_one, ev_back⟩
/-- Decode, in the code's words -/
def DecBC (b : List Int) : Prop :=
  (decNum (decNum (0, b) 2).2 1).1 ≤ 64 ∧ (∀ r ∈ (iter cReq (decNum (decNum (0, b) 2).2 1).1.toNat (decNum (decNum (0, b) 2).2 1).2).1, HoldR r) ∧ endOf (iter cReq (decNum (decNum (0, b) 2).2 1).1.toNat (decNum (decNum (0, b) 2).2 1).2).2 = 0
theorem endOf_zero {st : St} (h : endOf st = 0) : st.1 = 0 ∧ st.2 = [] := by
  unfold endOf at h
  split at h
  · rename_i h0
    refine ⟨h0, ?_⟩
    split at h
    · rename_i h1; exact List.length_eq_zero_iff.1 h1
    · omega
  · rename_i h0; exact absurd h h0
theorem decB_yes {b : List Int} (hb : Bytes b) (h : DecBC b) : DecB b 0 ⟨(decNum (0, b) 2).1, (iter cReq (decNum (decNum (0, b) 2).2 1).1.toNat (decNum (decNum (0, b) 2).2 1).2).1⟩ := by
  obtain ⟨h1, h2, h3⟩ := h
  have k0 := decNum_bytes (0, b) 2 hb
  have k1 := decNum_bytes _ 1 k0
  obtain ⟨e1, e2⟩ := endOf_zero h3
  obtain ⟨i1, i2, i3⟩ := (req_way.iter _ _ k1).2 e1 h2
  have il := iter_len cReq (decNum (decNum (0, b) 2).2 1).1.toNat (decNum (decNum (0, b) 2).2 1).2
  obtain ⟨n1, n2, n3⟩ := dn1 k0 i1
  obtain ⟨s1, s2, s3⟩ := dn2 hb n1
  generalize (iter cReq (decNum (decNum (0, b) 2).2 1).1.toNat (decNum (decNum (0, b) 2).2 1).2) = it at *
  generalize decNum (decNum (0, b) 2).2 1 = n at *
  generalize decNum (0, b) 2 = s at *
  refine .inl ⟨rfl, ?_⟩
  have hn := n2.1
  rw [encB_yes (x := ⟨s.1, it.1⟩) ⟨s2, by dsimp only; omega, i3⟩]
  unfold bytesB
  dsimp only at s3 ⊢
  rw [s3, n3, i2, e2, il, List.append_nil]
theorem decB_no {b : List Int} (hb : Bytes b) (h : ¬ DecBC b) : DecB b 2 ⟨0, []⟩ := by
  refine .inr ⟨rfl, rfl, fun y hy => h ?_⟩
  obtain ⟨k, e⟩ := encB_inv hy
  obtain ⟨seen, l⟩ := y
  obtain ⟨k1, k2, k3⟩ := k
  dsimp only at k1 k2 k3
  have e1 := nb2 (be l.length 1 ++ l.flatMap putR) k1
  have e2 := nb1 (n := l.length) (l.flatMap putR) ⟨by omega, by omega⟩
  rw [Int.toNat_natCast] at e2
  have hb2 : Bytes (l.flatMap putR ++ []) := by
    rw [e, bytesB] at hb
    simpa using (bytes_of_append (bytes_of_append hb).2).2
  have e3 := req_way.whole l [] k3 hb2
  rw [List.append_nil] at e3
  unfold DecBC
  rw [e, bytesB]
  simp only [e1, e2, Int.toNat_natCast, e3]
  exact ⟨by omega, fun r hr => (mayR_iff.1 (k3 r hr)).1, rfl⟩
/-- the states behind clock and seen, the replies' number, the replies, the events' number, the events -/
def dA0 (b : List Int) : St := (decNum (decNum (0, b) 8).2 2).2
def dA1 (b : List Int) : Int × St := decNum (dA0 b) 1
def dA2 (b : List Int) : List PV × St := iter cRep (dA1 b).1.toNat (dA1 b).2
def dA3 (b : List Int) : Int × St := decNum (dA2 b).2 2
def dA4 (b : List Int) : List VV × St := iter cEv (dA3 b).1.toNat (dA3 b).2
def DecAC (b : List Int) : Prop := Tck (decNum (0, b) 8).1 ∧ (dA1 b).1 ≤ 64 ∧ (dA3 b).1 ≤ 400 ∧ (∀ r ∈ (dA4 b).1, HoldV r) ∧ endOf (dA4 b).2 = 0
theorem decA_yes {b : List Int} (hb : Bytes b) (h : DecAC b) : DecA b 0 ⟨(decNum (0, b) 8).1, (decNum (decNum (0, b) 8).2 2).1, (dA2 b).1, (dA4 b).1⟩ := by
  obtain ⟨h0, h1, h2, h3, h4⟩ := h
  have b0 := decNum_bytes (0, b) 8 hb
  have b1 : Bytes (dA0 b).2 := decNum_bytes _ 2 b0
  have b2 : Bytes (dA1 b).2.2 := decNum_bytes _ 1 b1
  have b3 : Bytes (dA2 b).2.2 := (rep_way.iter _ _ b2).1
  have b4 : Bytes (dA3 b).2.2 := decNum_bytes _ 2 b3
  obtain ⟨e1, e2⟩ := endOf_zero h4
  obtain ⟨v1, v2, v3⟩ := (ev_way.iter (dA3 b).1.toNat _ b4).2 e1 h3
  have vl : (dA4 b).1.length = (dA3 b).1.toNat := iter_len _ _ _
  obtain ⟨m1, m2, m3⟩ := dn2 b3 v1
  obtain ⟨p1, p2, p3⟩ := (rep_way.iter (dA1 b).1.toNat _ b2).2 m1 (fun _ _ => trivial)
  have pl : (dA2 b).1.length = (dA1 b).1.toNat := iter_len _ _ _
  obtain ⟨n1, n2, n3⟩ := dn1 b1 p1
  obtain ⟨s1, s2, s3⟩ := dn2 b0 n1
  obtain ⟨c1, c2, c3⟩ := dn8 hb s1
  refine .inl ⟨rfl, ?_⟩
  have hn := n2.1; have hm := m2.1
  rw [encA_yes (x := ⟨(decNum (0, b) 8).1, (decNum (decNum (0, b) 8).2 2).1, (dA2 b).1, (dA4 b).1⟩) ⟨h0, s2, by dsimp only; omega, by dsimp only; omega, p3, v3⟩]
  unfold bytesA
  dsimp only
  have q1 : (dA2 b).1.flatMap putP ++ (dA2 b).2.2 = (dA1 b).2.2 := p2.symm
  have q2 : (dA4 b).1.flatMap putV ++ (dA4 b).2.2 = (dA3 b).2.2 := v2.symm
  have q3 : be (dA3 b).1.toNat 2 ++ (dA3 b).2.2 = (dA2 b).2.2 := m3.symm
  have q4 : be (dA1 b).1.toNat 1 ++ (dA1 b).2.2 = (dA0 b).2 := n3.symm
  have q5 : be (decNum (decNum (0, b) 8).2 2).1.toNat 2 ++ (dA0 b).2 = (decNum (0, b) 8).2.2 := s3.symm
  rw [e2, List.append_nil] at q2
  rw [pl, vl, q2, q3, q1, q4, q5]
  exact congrArg (Prod.mk 0) c3.symm
theorem decA_no {b : List Int} (hb : Bytes b) (h : ¬ DecAC b) : DecA b 2 ⟨0, 0, [], []⟩ := by
  refine .inr ⟨rfl, rfl, fun y hy => h ?_⟩
  obtain ⟨k, e⟩ := encA_inv hy
  obtain ⟨clock, seen, p, v⟩ := y
  obtain ⟨k1, k2, k3, k4, k5, k6⟩ := k
  dsimp only at k1 k2 k3 k4 k5 k6
  have e0 := nb8 (be seen.toNat 2 ++ (be p.length 1 ++ (p.flatMap putP ++ (be v.length 2 ++ v.flatMap putV)))) k1.amt
  have e1 := nb2 (be p.length 1 ++ (p.flatMap putP ++ (be v.length 2 ++ v.flatMap putV))) k2
  have e2 := nb1 (n := p.length) (p.flatMap putP ++ (be v.length 2 ++ v.flatMap putV)) ⟨by omega, by omega⟩
  have e3 := nb2 (n := v.length) (v.flatMap putV) ⟨by omega, by omega⟩
  rw [Int.toNat_natCast] at e2 e3
  have hb2 : Bytes (p.flatMap putP ++ (be v.length 2 ++ v.flatMap putV)) := by
    rw [e, bytesA] at hb
    exact (bytes_of_append (bytes_of_append (bytes_of_append hb).2).2).2
  have hb3 : Bytes (v.flatMap putV ++ []) := by
    simpa using (bytes_of_append (bytes_of_append hb2).2).2
  have e4 := rep_way.whole p _ k5 hb2
  have e5 := ev_way.whole v [] k6 hb3
  rw [List.append_nil] at e5
  unfold DecAC dA4 dA3 dA2 dA1 dA0
  rw [e, bytesA]
  simp only [e0, e1, e2, e3, e4, e5, Int.toNat_natCast]
  exact ⟨k1, by omega, by omega, fun r hr => (mayV_iff.1 (k6 r hr)).1, rfl⟩
end Go.Proofs.YtchcgoabogcabaaGreat.Req

namespace Go.Proofs.YtchcgoabogcabaaGreat.Ledger
open Go.Proofs.YtchcgoabogcabaaGreat.Num Go.Proofs.YtchcgoabogcabaaGreat.Sha Go.Proofs.YtchcgoabogcabaaGreat.Purse Go.Proofs.YtchcgoabogcabaaGreat.Escrow Go.Proofs.YtchcgoabogcabaaGreat.Wire Go.Proofs.YtchcgoabogcabaaGreat.Req

/-- what an Answer of one event has ahead of it -/
def hdr : List Int := [0, 0, 0, 0, 0, 0, 0, 0, 0, 0, 0, 0, 1]
theorem hdr_is : be 0 8 ++ (be 0 2 ++ (be 0 1 ++ be 1 2)) = hdr := by decide
theorem hdr_bytes : Bytes hdr := by rw [← hdr_is]; exact (be_bytes _ _).append ((be_bytes _ _).append ((be_bytes _ _).append (be_bytes _ _)))
theorem hdr_app (l : List Int) : hdr ++ l = be 0 8 ++ (be 0 2 ++ (be 0 1 ++ (be 1 2 ++ l))) := by
  rw [← hdr_is]; simp only [List.append_assoc]
theorem bytesA_one (v : VV) : bytesA ⟨0, 0, [], [v]⟩ = hdr ++ putV v := by
  rw [hdr_app]
  show be 0 8 ++ (be 0 2 ++ (be 0 1 ++ ([] ++ (be 1 2 ++ ([v] : List VV).flatMap putV)))) = _
  rw [List.nil_append, List.flatMap_singleton]
theorem okA_one {v : VV} (h : MayV v) : OkA ⟨0, 0, [], [v]⟩ :=
  ⟨(by decide : Tck 0), (by decide : I16 0), (by decide : (0 : Nat) ≤ 64), (by decide : (1 : Nat) ≤ 400), (by intro p hp; cases hp), by intro u hu; rw [List.mem_singleton] at hu; exact hu ▸ h⟩
theorem encA_one {v : VV} (h : MayV v) : encA ⟨0, 0, [], [v]⟩ = (0, hdr ++ putV v) := by rw [encA_yes (okA_one h), bytesA_one]
/-- bytes with that ahead are an Answer of one event alone -/
theorem dec_one {l : List Int} {x : AV} (h : DecA (hdr ++ l) 0 x) : ∃ v, x.v = [v] ∧ MayV v := by
  rcases h with ⟨-, h⟩ | ⟨h, -⟩
  · obtain ⟨ok, hb⟩ := encA_inv h
    have e := rdA_back ok
    rw [← hb, hdr_app] at e
    have n8 := nb8 (n := 0) (be 0 2 ++ (be 0 1 ++ (be 1 2 ++ l))) (by decide)
    have n2 := nb2 (n := 0) (be 0 1 ++ (be 1 2 ++ l)) (by decide)
    have n1 := nb1 (n := 0) (be 1 2 ++ l) (by decide)
    have m2 := nb2 (n := 1) l (by decide)
    have t0 : (Int.toNat 0) = 0 := rfl
    have t1 : (Int.toNat 1) = 1 := rfl
    rw [t0] at n8 n2 n1
    rw [t1] at m2
    have hv : (rdA (be 0 8 ++ (be 0 2 ++ (be 0 1 ++ (be 1 2 ++ l))))).1.v = [(getV (0, l)).1] := by
      unfold rdA
      simp only [n8, n2, n1, t0, many, m2, t1, if_true]
    rw [e] at hv
    exact ⟨_, hv, ok.2.2.2.2.2 _ (by rw [hv]; exact List.mem_singleton.2 rfl)⟩
  · exact absurd h (by decide)
theorem dec_put {v : VV} (h : MayV v) {e : Int} {x : AV} (k : DecA (hdr ++ putV v) e x) : e = 0 ∧ x = ⟨0, 0, [], [v]⟩ := k.one (.inl ⟨rfl, encA_one h⟩)
/-- how many bytes an event has behind its kind -/
def bhL (k : Int) : Nat := if k = 1 then 11 else if k = 2 then 53 else if k = 3 then 34 else if k = 4 then 2 else 0
theorem bhL_le (k : Int) : bhL k ≤ 53 := by unfold bhL; (repeat' split) <;> omega
/-- the bytes that are read for an event -/
def rawE (st : St) : List Int × St := ((decNum st 1).1 :: (iter (fun s => decNum s 1) (bhL (decNum st 1).1) (decNum st 1).2).1, (iter (fun s => decNum s 1) (bhL (decNum st 1).1) (decNum st 1).2).2)
theorem putV_cons {v : VV} (h : MayV v) : ∃ l, putV v = be v.kind.toNat 1 ++ l ∧ l.length = bhL v.kind ∧ B8 v.kind := by
  refine ⟨_, rfl, ?_, ?_⟩
  · rcases h with ⟨h1, h2, h3, h4, h5, h6, h7, h8, h9⟩ | ⟨h1, h2, h3, h4, h5, h6, h7, h8, h9⟩ | ⟨h1, h2, h3, h4, h5, h6, h7, h8, h9⟩ | ⟨h1, h2, h3, h4, h5, h6, h7, h8, h9⟩ <;> simp [h1, h8, h9, bhL, be_len]
  · rcases h with ⟨h1, -⟩ | ⟨h1, -⟩ | ⟨h1, -⟩ | ⟨h1, -⟩ <;> rw [h1] <;> decide
theorem b8_be {n : Int} (h : B8 n) : be n.toNat 1 = [n] := by
  obtain ⟨k, rfl⟩ : ∃ k : Nat, n = k := ⟨n.toNat, by have := h.1; omega⟩
  have := h.2
  simp only [be, Int.toNat_natCast, Nat.pow_zero, Nat.div_one]
  rw [Nat.mod_eq_of_lt (by omega)]
theorem rawE_back {v : VV} (h : MayV v) (hk : v.ok) (t : List Int) (ht : Bytes t) : rawE (0, putV v ++ t) = (putV v, (0, t)) := by
  obtain ⟨l, h1, h2, h3⟩ := putV_cons h
  have hb := putV_bytes hk
  rw [h1] at hb ⊢
  have hl : Bytes l := (bytes_of_append hb).2
  unfold rawE
  rw [List.append_assoc, nb1 _ h3]
  dsimp only
  have e := byte_way.whole l t (fun x hx => by have := hl x hx; exact ⟨this.1, by omega⟩) (by rw [flat_one]; exact hl.append ht)
  rw [flat_one, h2] at e
  rw [e, b8_be h3]
  rfl
theorem rawE_rest (st : St) (hb : Bytes st.2) : Bytes (rawE st).2.2 := (byte_way.iter _ _ (decNum_bytes _ _ hb)).1
theorem rawE_bytes (st : St) (hb : Bytes st.2) : Bytes (rawE st).1 := by
  intro x hx
  rcases List.mem_cons.1 hx with rfl | hx
  · have := decNum_size0 st hb; exact ⟨this.1, by omega⟩
  · exact iter_bytes1 _ _ (decNum_bytes _ _ hb) x hx
theorem rawE_len (st : St) : (rawE st).1.length ≤ 54 := by
  show (_ :: _ : List Int).length ≤ 54
  rw [List.length_cons, iter_len]; have := bhL_le (decNum st 1).1; omega
/-- an event is read: what getEvent tells -/
def EvAns (b : List Int) (v : VV) (ok : Bool) : Prop := (ok = true ∧ MayV v ∧ v.ok ∧ ∃ x : AV, DecA (hdr ++ b) 0 x ∧ x.v = [v]) ∨ (ok = false ∧ v = V0 ∧ ∀ x, ¬ DecA (hdr ++ b) 0 x)
theorem evAns_put {u v : VV} {ok : Bool} (h : MayV u) (k : EvAns (putV u) v ok) : ok = true ∧ v = u := by
  rcases k with ⟨h1, -, -, x, h2, h3⟩ | ⟨-, -, h2⟩
  · obtain ⟨-, rfl⟩ := dec_put h h2
    dsimp only at h3
    injection h3 with h3
    exact ⟨h1, h3.symm⟩
  · exact absurd (.inl ⟨rfl, encA_one h⟩) (h2 _)
theorem MayV.req {v : VV} (h : MayV v) : v.kind = 1 ∨ v.kind = 2 ∨ v.kind = 3 ∨ v.kind = 4 := by
  rcases h with ⟨h1, -⟩ | ⟨h1, -⟩ | ⟨h1, -⟩ | ⟨h1, -⟩
  · exact .inl h1
  · exact .inr (.inl h1)
  · exact .inr (.inr (.inl h1))
  · exact .inr (.inr (.inr h1))
theorem reqOf_ok {v : VV} (h : v.ok) : (reqOf v).ok := h
theorem reqOf_small {v : VV} (h : MayV v) : (reqOf v).small := MayV.small h
/-- how far a Save has been gone through: k events are done, st is left to be read -/
def Gone (s0 : LS) (b : List Int) (k : Nat) (s : LS) (st : St) : Prop := ∀ s', Reach s0 s' → saveL s' = b → k ≤ s'.e.length ∧ s = preE s0 (s'.e.take k) ∧ st = (0, (s'.e.drop k).flatMap putLE)
/-- the numbers ahead -/
def cl0 (b : List Int) : Int × St := decNum (0, b) 8
def n0 (b : List Int) : Int × St := decNum (cl0 b).2 2
theorem save_head {s : LS} (w : WL s) : cl0 (saveL s) = (s.clock, (0, be s.e.length 2 ++ s.e.flatMap putLE)) ∧ n0 (saveL s) = (((s.e.length : Nat) : Int), (0, s.e.flatMap putLE)) := by
  have h1 : cl0 (saveL s) = (s.clock, (0, be s.e.length 2 ++ s.e.flatMap putLE)) := nb8 _ w.clock.amt
  refine ⟨h1, ?_⟩
  unfold n0
  rw [h1]
  have := nb2 (n := (s.e.length : Nat)) (s.e.flatMap putLE) ⟨by omega, by have := w.len; omega⟩
  rwa [Int.toNat_natCast] at this
theorem gone_start {s0 : LS} (w : WL s0) (wi : WI s0) (b : List Int) : Gone s0 b 0 s0 (n0 b).2 := by
  intro s' hr hs
  subst hs
  rw [(save_head (hr.keeps w wi).wl).2]
  exact ⟨Nat.zero_le _, rfl, rfl⟩
theorem drop_cons {α : Type} {l : List α} {k : Nat} (h : k < l.length) : l.drop k = l[k] :: l.drop (k + 1) := List.drop_eq_getElem_cons h
/-- one event further: who, when, which -/
theorem gone_step {s0 : LS} (w : WL s0) (wi : WI s0) (h0 : s0.e = []) {b : List Int} {k : Nat} {s : LS} {st : St} (g : Gone s0 b k s st) {v : VV} {ok : Bool} (hv : EvAns (rawE (decNum (decNum st 1).2 8).2).1 v ok) :
    (∀ s', Reach s0 s' → saveL s' = b → k < s'.e.length → ok = true ∧ (oneL (clockL s (decNum (decNum st 1).2 8).1) (decNum st 1).1 (reqOf v)).1.code = 0) ∧
    (∀ n : Nat, (n : Int) = (n0 b).1 → k < n → Gone s0 b (k + 1) (oneL (clockL s (decNum (decNum st 1).2 8).1) (decNum st 1).1 (reqOf v)).2 (rawE (decNum (decNum st 1).2 8).2).2) := by
  have key : ∀ s', Reach s0 s' → saveL s' = b → k < s'.e.length → ok = true ∧ (oneL (clockL s (decNum (decNum st 1).2 8).1) (decNum st 1).1 (reqOf v)).1.code = 0 ∧ (oneL (clockL s (decNum (decNum st 1).2 8).1) (decNum st 1).1 (reqOf v)).2 = preE s0 (s'.e.take (k + 1)) ∧ (rawE (decNum (decNum st 1).2 8).2).2 = (0, (s'.e.drop (k + 1)).flatMap putLE) := by
    intro s' hr hs hk
    obtain ⟨-, h1, h2⟩ := g s' hr hs
    have W := (hr.keeps w wi).wl
    have H := hr.hist w wi h0
    have hx : s'.e[k] ∈ s'.e := List.getElem_mem hk
    have he := W.each _ hx
    rw [drop_cons hk, List.flatMap_cons] at h2
    obtain ⟨x, hxe⟩ : ∃ x, s'.e[k] = x := ⟨_, rfl⟩
    rw [hxe] at h2 hx he
    have hw := W.who hx
    have e1 : decNum st 1 = (x.who, (0, be x.at_.toNat 8 ++ (putV x.v ++ (s'.e.drop (k + 1)).flatMap putLE))) := by
      rw [h2]; unfold putLE
      rw [List.append_assoc, List.append_assoc]
      exact nb1 _ hw
    have e2 : decNum (decNum st 1).2 8 = (x.at_, (0, putV x.v ++ (s'.e.drop (k + 1)).flatMap putLE)) := by
      rw [e1]; exact nb8 _ he.2.2.2.amt
    have hrest : Bytes ((s'.e.drop (k + 1)).flatMap putLE) := flat_bytes fun y hy => (be_bytes _ _).append ((be_bytes _ _).append (putV_bytes (W.each y (List.mem_of_mem_drop hy)).2.1))
    have e3 : rawE (decNum (decNum st 1).2 8).2 = (putV x.v, (0, (s'.e.drop (k + 1)).flatMap putLE)) := by
      rw [e2]; exact rawE_back he.1 he.2.1 _ hrest
    rw [e3] at hv
    obtain ⟨ho, rfl⟩ := evAns_put he.1 hv
    have hst : (oneL (clockL s (decNum (decNum st 1).2 8).1) (decNum st 1).1 (reqOf x.v)).2 = preE s0 (s'.e.take (k + 1)) := by
      rw [e2, e1, List.take_succ_eq_append_getElem hk, preE_snoc, hxe, ← h1]; rfl
    refine ⟨ho, ?_, hst, by rw [e3]⟩
    apply Classical.byContradiction
    intro hc
    have hsame : (oneL (clockL s (decNum (decNum st 1).2 8).1) (decNum st 1).1 (reqOf x.v)).2 = clockL s (decNum (decNum st 1).2 8).1 := by
      unfold oneL at hc ⊢
      split
      · rename_i q1
        rw [if_pos q1] at hc
        split
        · rename_i q2
          rw [if_pos q2] at hc
          exact absurd rfl hc
        · rfl
      · rfl
    have l1 := congrArg LS.e (hst.symm.trans hsame)
    rw [clockL_e, h1, H.each _ (by omega), H.each _ (by omega)] at l1
    have l2 := congrArg List.length l1
    simp only [List.length_take] at l2
    omega
  refine ⟨fun s' hr hs hk => ⟨(key s' hr hs hk).1, (key s' hr hs hk).2.1⟩, fun n hn hk s' hr hs => ?_⟩
  have W := (hr.keeps w wi).wl
  have hl : n = s'.e.length := by
    subst hs
    rw [(save_head W).2] at hn
    dsimp only at hn
    omega
  have := key s' hr hs (by omega)
  exact ⟨by omega, this.2.2.1, this.2.2.2⟩
/-- all were gone through -/
theorem gone_end {s0 : LS} (w : WL s0) (wi : WI s0) (h0 : s0.e = []) {b : List Int} {k : Nat} {s : LS} {st : St} (g : Gone s0 b k s st) (hk : (n0 b).1 ≤ k) : ∀ s', Reach s0 s' → saveL s' = b → clockL s (cl0 b).1 = s' := by
  intro s' hr hs
  obtain ⟨h1, h2, -⟩ := g s' hr hs
  have W := (hr.keeps w wi).wl
  obtain ⟨⟨c, e1, e2⟩, -, -⟩ := hr.hist w wi h0
  subst hs
  rw [(save_head W).2] at hk
  dsimp only at hk
  obtain rfl : k = s'.e.length := by omega
  rw [List.take_length] at h2
  rw [(save_head W).1, h2, e1]
  dsimp only
  unfold clockL
  by_cases hc : c < s'.clock
  · rw [if_pos ⟨W.clock, hc⟩]
  · rw [if_neg (fun q => hc q.2)]
    have : c = s'.clock := by omega
    subst this; rfl
end Go.Proofs.YtchcgoabogcabaaGreat.Ledger

namespace Go.Proofs.YtchcgoabogcabaaGreat.Req
open Go.RowKit Go.Proofs.YtchcgoabogcabaaGreat.Sha Go.Proofs.YtchcgoabogcabaaGreat.Wire Go.Proofs.YtchcgoabogcabaaGreat.Num

/-- as EncPost, and the bytes are new memory -/
def EncNPost (r : Int × List Int) (w : World) (x : Ending) (w' : World) : Prop := ∃ A n c, x = .returned (.tuple #[.slice A n c, .int .i64 r.1]) ∧ n ≤ c ∧ c ≤ 9223372036854775807 ∧ Rd w' A n r.2 ∧ Below w.heap.size w w' ∧ ∀ b o, A = some ⟨b, o, none⟩ → w.heap.size ≤ b
set_option maxRecDepth 100000 in
set_option maxHeartbeats 3000000 in
theorem cencan_any (clock seen : Int) {A : Option Addr} {n c : Nat} {l : List PV} {D : Option Addr} {m d : Nat} {v : List VV} {w : World} (hr : Rp w A n l) (hv : Rv w D m v) (hok : ∀ r ∈ v, r.ok) : Calls Tryz.prog 63 #[.agg #[.int .i64 clock, .int .i64 seen, .slice A n c, .slice D m d]] w (EncNPost (encA ⟨clock, seen, l, v⟩) w) := by
  have hb0 := encA_bytes (x := ⟨clock, seen, l, v⟩) hok
  have hl0 := encA_len ⟨clock, seen, l, v⟩
  have EC : Kept (Tck clock → n ≤ 64 → (m ≤ 400 ∧ ∀ r ∈ v, HoldV r) → wAll wEv (encNum (wAll wRep (encNum (encNum (encNum (0, []) clock 8) seen 2) n 1) l) m 2) v = encA ⟨clock, seen, l, v⟩) := ⟨fun hc h k => by
    rw [← hr.1] at h ⊢; rw [← hv.1] at k ⊢; exact encA_code hc h k.1 k.2⟩
  have E0 : Kept (¬ Tck clock → encA ⟨clock, seen, l, v⟩ = (1, [])) := ⟨fun h => encA_no (fun k => h k.1)⟩
  have E1 : Kept (¬ n ≤ 64 → encA ⟨clock, seen, l, v⟩ = (1, [])) := ⟨fun h => encA_no (fun k => h (by rw [← hr.1]; exact k.2.2.1))⟩
  have E2 : Kept (¬ (m ≤ 400 ∧ ∀ r ∈ v, HoldV r) → encA ⟨clock, seen, l, v⟩ = (1, [])) := ⟨fun h => encA_no (fun k => h ⟨by rw [← hv.1]; exact k.2.2.2.1, fun r hm => (mayV_iff.1 (k.2.2.2.2.2 r hm)).1⟩)⟩
  generalize encA ⟨clock, seen, l, v⟩ = R at *
  have HB := Kept.mk hb0
  have HO := Kept.mk hok
  have HL := Kept.mk hr.1
  have KT := Kept.mk (fun w => tick_any clock w)
  rw [ctick_iff] at KT
  obtain ⟨N, hN⟩ : ∃ N, w.heap.size = N := ⟨_, rfl⟩
  have B0 : Below N w (w.alloc (.cells #[.int .i64 clock, .int .i64 seen, .slice A n c, .slice D m d] 59)) := (Below.refl _ _).alloc (by omega) _
  have X : Kept (Blk (w.alloc (.cells #[.int .i64 clock, .int .i64 seen, .slice A n c, .slice D m d] 59)) N 59 #[.int .i64 clock, .int .i64 seen, .slice A n c, .slice D m d]) := ⟨Blk.new_at w _ _ N hN.symm⟩
  have HR := Kept.mk (hr.below (hN ▸ B0)); have HV := Kept.mk (hv.below (hN ▸ B0))
  have B := Kept.mk B0
  have HN := Kept.mk hN
  clear B0 hr hv hok hb0
  go_enter Tryz.func63, Tryz.ntmps63
  go_upto_region 1 with (fail)
  generalize w.alloc (.cells #[.int .i64 clock, .int .i64 seen, .slice A n c, .slice D m d] 59) = w1 at *
  by_cases hc : Tck clock
  · rw [decide_eq_true hc] at KT
    have KN := newenc_any w1
    obtain ⟨M, hM⟩ : ∃ M, w1.heap.size = M := ⟨_, rfl⟩
    have hNM : N < M := by rw [← hM]; exact X.out.lt
    have HX : Kept (∀ w', Below M w1 w' → Blk w' N 59 #[.int .i64 clock, .int .i64 seen, .slice A n c, .slice D m d]) := ⟨fun w' b => X.out.below b hNM⟩
    have RX : Kept (∀ w', Below M w1 w' → Rp w' A n l) := ⟨fun w' b => HR.out.below (hM ▸ b)⟩
    have VX : Kept (∀ w', Below M w1 w' → Rv w' D m v) := ⟨fun w' b => HV.out.below (hM ▸ b)⟩
    have x0 := X.out.cell 0
    rw [hM] at KN
    have KN2 := Kept.mk KN
    clear KN
    go_wp2_with (go_at_call 69; refine (KT.out _).mono ?_; rintro x w' ⟨rfl, rfl⟩)
    refine KN2.out.mono ?_
    rintro x w2 ⟨rfl, he, fp⟩
    have BW := Kept.mk (fp.below (B := M) (by simp) (by omega))
    have KC := num_any w2 [M] M clock 8 (0, []) he (by simp)
    have LE := encNum_len (0, []) clock 8
    obtain ⟨s1, hs1⟩ : ∃ s, encNum (0, []) clock 8 = s := ⟨_, rfl⟩
    rw [hs1] at KC LE EC
    clear hs1 he fp KN2 X HR HV x0
    have x0 := (HX.out _ BW.out).cell 0
    go_wp2_with fail
    refine KC.mono ?_
    rintro x w3 ⟨rfl, F3, he, fp⟩
    have AF := fp.least (B := M) (by simp) (by have := BW.out.size; omega)
    replace BW := Kept.mk (BW.out.trans (fp.below (B := M) (by simp) (by have := BW.out.size; omega)))
    have KC2 := num_any w3 F3 M seen 2 s1 he (by have h0 : ([] : List Int).length = 0 := rfl; simp only [h0] at LE; omega)
    have LE2 := encNum_len s1 seen 2
    obtain ⟨s2, hs2⟩ : ∃ s, encNum s1 seen 2 = s := ⟨_, rfl⟩
    rw [hs2] at KC2 LE2 EC
    have LS : s2.2.length ≤ 16 := by have h0 : ([] : List Int).length = 0 := rfl; simp only [h0] at LE; omega
    have AF1 := Kept.mk AF
    clear hs2 he fp KC x0 AF LE LE2
    have x1 := (HX.out _ BW.out).cell 1
    go_wp2_with fail
    refine KC2.mono ?_
    rintro x w4 ⟨rfl, F4, he, fp⟩
    have AF := fp.least AF1.out (by have := BW.out.size; omega)
    replace BW := Kept.mk (BW.out.trans (fp.below AF1.out (by have := BW.out.size; omega)))
    have KP := putallp_any (B := M) (c := c) he (by omega) (by have := BW.out.size; omega) AF (fun w' b => RX.out w' (BW.out.trans b))
    have KP2 := Kept.mk KP
    unfold CPutPost at KP2
    have AF2 := Kept.mk AF
    have LW : Kept (n ≤ 64 → (wAll wRep (encNum s2 n 1) l).2.length ≤ 4000) := ⟨fun h => by
      have h1 := encNum_len s2 n 1
      have h2 := wAll_len (f := wRep) (m := 54) (l := l) (st := encNum s2 n 1) (fun st x _ => wRep_len)
      have h3 := HL.out
      have h4 : 54 * l.length ≤ 54 * 64 := Nat.mul_le_mul_left _ (by omega)
      omega⟩
    clear he fp KC2 x1 KP AF AF1
    have x2 := (HX.out _ BW.out).cell 2
    go_wp2_with fail
    refine KP2.out.mono ?_
    rintro x w5 ⟨q, F5, rfl, fp, hq, he⟩
    have AF := fp.least AF2.out (by have := BW.out.size; omega)
    replace BW := Kept.mk (BW.out.trans (fp.below AF2.out (by have := BW.out.size; omega)))
    clear fp KP2 x2 AF2
    cases q with
    | true =>
      have hn64 := hq.1 rfl
      have KP := putallv_any (B := M) (c := d) (he rfl) (by have := LW.out hn64; omega) (by have := BW.out.size; omega) AF (fun w' b => VX.out w' (BW.out.trans b)) HO.out
      have KP2 := Kept.mk KP
      unfold CPutPost at KP2
      have AF2 := Kept.mk AF
      have HQ := Kept.mk hn64
      clear KP AF he hq hn64
      have x3 := (HX.out _ BW.out).cell 3
      go_wp2_with fail
      refine KP2.out.mono ?_
      rintro x w6 ⟨q, F6, rfl, fp, hq, he⟩
      replace BW := Kept.mk (BW.out.trans (fp.below AF2.out (by have := BW.out.size; omega)))
      have BE : Kept (Below N w w6) := ⟨B.out.trans (BW.out.mono (by omega))⟩
      clear fp KP2 x3 AF2
      cases q with
      | true =>
        have he2 := he rfl
        rw [EC.out hc HQ.out (hq.1 rfl)] at he2
        have KD := done_any w6 F6 M R he2 HB.out (by omega)
        obtain ⟨R1, R2⟩ := R
        clear he he2 hq
        go_wp2_with fail
        refine KD.mono ?_
        rintro x w7 ⟨v7, rfl, own, b5⟩
        obtain ⟨A5, c5, rfl, h1, h2, r5⟩ := own_rd own HB.out
        have R5 := Kept.mk r5
        have NW5 : Kept (∀ b o, A5 = some ⟨b, o, none⟩ → N ≤ b) := ⟨fun b o hh => by subst hh; have h1 := BE.out.size; have h2 := HN.out; have h3 := (own.lt b rfl).1; omega⟩
        replace BE := Kept.mk (BE.out.trans (b5.mono (by have := BE.out.size; omega)))
        clear KD own b5 r5
        go_wp2
        go_ret2
        exact ⟨A5, _, c5, rfl, h1, h2, R5.out, by rw [HN.out]; exact BE.out, by rw [HN.out]; exact NW5.out⟩
      | false =>
        obtain rfl := E2.out (fun h => by have := hq.2 h; cases this)
        clear he hq
        go_wp2
        go_ret2
        exact ⟨none, 0, 0, rfl, Nat.le_refl _, by omega, Rd.nil_, by rw [HN.out]; exact BE.out, fun b o h => by (cases h)⟩
    | false =>
      obtain rfl := E1.out (fun h => by have := hq.2 h; cases this)
      have BE : Kept (Below N w w5) := ⟨B.out.trans (BW.out.mono (by omega))⟩
      clear he hq AF
      go_wp2
      go_ret2
      exact ⟨none, 0, 0, rfl, Nat.le_refl _, by omega, Rd.nil_, by rw [HN.out]; exact BE.out, fun b o h => by (cases h)⟩
  · rw [decide_eq_false hc] at KT
    obtain rfl := E0.out hc
    have x0 := X.out.cell 0
    go_wp2_with (go_at_call 69; refine (KT.out _).mono ?_; rintro x w' ⟨rfl, rfl⟩)
    go_ret2
    exact ⟨none, 0, 0, rfl, Nat.le_refl _, by omega, Rd.nil_, by rw [HN.out]; exact B.out, fun b o h => by (cases h)⟩
theorem cenca_any (clock seen : Int) {A : Option Addr} {n c : Nat} {l : List PV} {D : Option Addr} {m d : Nat} {v : List VV} {w : World} (hr : Rp w A n l) (hv : Rv w D m v) (hok : ∀ r ∈ v, r.ok) : Calls Tryz.prog 63 #[.agg #[.int .i64 clock, .int .i64 seen, .slice A n c, .slice D m d]] w (EncPost (encA ⟨clock, seen, l, v⟩) w) := by
  refine (cencan_any clock seen hr hv hok).mono ?_
  rintro x w' ⟨A, n, c, h1, h2, h3, h4, h5, -⟩
  exact ⟨A, n, c, h1, h2, h3, h4, h5⟩
end Go.Proofs.YtchcgoabogcabaaGreat.Req
