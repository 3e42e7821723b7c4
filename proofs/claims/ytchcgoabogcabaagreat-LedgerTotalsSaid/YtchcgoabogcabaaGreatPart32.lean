/-
  Parts laid together: LedgerC8.
-/
import Derived.Test.YtchcgoabogcabaaGreatPart19
import Derived.Test.YtchcgoabogcabaaGreatPart31
import Derived.Test.YtchcgoabogcabaaGreatPart2
import Derived.Test.YtchcgoabogcabaaGreatPart13
import Derived.Test.YtchcgoabogcabaaGreatPart11
import Derived.Test.YtchcgoabogcabaaGreatPart8

namespace Go.Proofs.YtchcgoabogcabaaGreat.Ledger
open Go.RowKit Go.Proofs.YtchcgoabogcabaaGreat.Num Go.Proofs.YtchcgoabogcabaaGreat.Sha Go.Proofs.YtchcgoabogcabaaGreat.Purse Go.Proofs.YtchcgoabogcabaaGreat.Escrow Go.Proofs.YtchcgoabogcabaaGreat.Wire Go.Proofs.YtchcgoabogcabaaGreat.Req

section
variable {w : World} {t x b q : Nat} {F G : List Nat} {v d : Value} {s : LS}
/-- one byte more -/
theorem enc_byte (l : List Int) (z : Int) (h : B8 z) : encNum (0, l) z 1 = (0, l ++ [z]) := by
  rw [wr1]
  unfold wr
  rw [if_pos rfl, if_pos h, b8_be h]
theorem enc1 (l : List Int) {z : Int} (h : B8 z) : encNum (0, l) z 1 = (0, l ++ be z.toNat 1) := by
  rw [wr1]; unfold wr; rw [if_pos rfl, if_pos h]
theorem enc2 (l : List Int) {z : Int} (h : I16 z) : encNum (0, l) z 2 = (0, l ++ be z.toNat 2) := by
  rw [wr2]; unfold wr; rw [if_pos rfl, if_pos h]
theorem enc8 (l : List Int) {z : Int} (h : Amt z) : encNum (0, l) z 8 = (0, l ++ be z.toNat 8) := by
  rw [wr8]; unfold wr; rw [if_pos rfl, if_pos h]
set_option maxRecDepth 100000 in
set_option maxHeartbeats 2000000 in
theorem putev_any {F : List Nat} {e : Nat} {l : List Int} (V : VV) (h : En 143 w F e (0, l)) (hl : l.length ≤ 100000) (hm : MayV V) (hk : V.ok) : Calls Tryz.prog 39 #[.pointer (some ⟨e, 0, none⟩), vqv V] w fun y w' => y = .returned (.int .i64 0) ∧ ∃ F', En 143 w' F' e (0, l ++ putV V) ∧ Fp F F' w w' := by
  have HE := encA_one hm
  have HPL := putV_len hm
  have HPB := putV_bytes hk
  have HP1 : 1 ≤ (putV V).length := by
    obtain ⟨l, h1, -, -⟩ := putV_cons hm
    rw [h1, List.length_append, be_len]; omega
  obtain ⟨pv, hpv⟩ : ∃ pv, putV V = pv := ⟨_, rfl⟩
  rw [hpv] at HPL HPB HE HP1 ⊢
  have HEA := Kept.mk HE
  have HB := Kept.mk HPB
  have HOK := Kept.mk hk
  obtain ⟨ek, es, ed, ea, en, ei, eu, eh, ec⟩ := V
  unfold vqv
  dsimp only
  obtain ⟨N, hN⟩ : ∃ N, w.heap.size = N := ⟨_, rfl⟩
  have b0 : Below w.heap.size w (w.alloc (.cells #[.int .i64 ek, .int .i64 es, .int .i64 ed, .int .i64 ea, .int .i64 en, .int .i64 ei, .int .i64 eu, .string (strOfNums eh), .string (strOfNums ec)] 71)) := (Below.refl _ _).alloc (Nat.le_refl _) _
  have X : Kept (Blk (w.alloc (.cells #[.int .i64 ek, .int .i64 es, .int .i64 ed, .int .i64 ea, .int .i64 en, .int .i64 ei, .int .i64 eu, .string (strOfNums eh), .string (strOfNums ec)] 71)) N 71 #[.int .i64 ek, .int .i64 es, .int .i64 ed, .int .i64 ea, .int .i64 en, .int .i64 ei, .int .i64 eu, .string (strOfNums eh), .string (strOfNums ec)]) := ⟨Blk.new_at w _ _ N hN.symm⟩
  have LF := Kept.mk h.lt
  have L := Kept.mk (h.below b0)
  have B := Kept.mk b0
  clear h b0 hm hk HE hpv HPB
  go_enter Tryz.func39, Tryz.ntmps39
  go_upto_region 1 with (fail)
  generalize (w.alloc (.cells #[.int .i64 ek, .int .i64 es, .int .i64 ed, .int .i64 ea, .int .i64 en, .int .i64 ei, .int .i64 eu, .string (strOfNums eh), .string (strOfNums ec)] 71)) = w1 at *
  have b1 : Below w1.heap.size w1 (w1.alloc (.cells #[.int .i64 ek, .int .i64 es, .int .i64 ed, .int .i64 ea, .int .i64 en, .int .i64 ei, .int .i64 eu, .string (strOfNums eh), .string (strOfNums ec)] 71)) := (Below.refl _ _).alloc (Nat.le_refl _) _
  have RV := rc_one (C := vvC) (z := 9) ⟨ek, es, ed, ea, en, ei, eu, eh, ec⟩ (Blk.new w1 71 #[.int .i64 ek, .int .i64 es, .int .i64 ed, .int .i64 ea, .int .i64 en, .int .i64 ei, .int .i64 eu, .string (strOfNums eh), .string (strOfNums ec)]) rfl
  have KE := cencan_any (A := none) (n := 0) (c := 0) (l := []) (m := 1) (d := 1) (v := [⟨ek, es, ed, ea, en, ei, eu, eh, ec⟩]) 0 0 Rc.nil RV (by intro r hr; rw [List.mem_singleton] at hr; exact hr ▸ HOK.out)
  rw [HEA.out] at KE
  unfold EncNPost at KE
  dsimp only at KE
  have KE2 := Kept.mk KE
  have y0 := X.out.cell 0; have y1 := X.out.cell 1; have y2 := X.out.cell 2; have y3 := X.out.cell 3; have y4 := X.out.cell 4; have y5 := X.out.cell 5; have y6 := X.out.cell 6; have y7 := X.out.cell 7; have y8 := X.out.cell 8
  replace L := Kept.mk (L.out.below b1); replace B := Kept.mk (B.out.trans (b1.mono B.out.size))
  clear KE RV b1
  go_wp2_with fail
  refine KE2.out.mono ?_
  rintro y w2 ⟨A, n, c, rfl, h1, h2, h3, bb, hnew⟩
  replace L := Kept.mk (L.out.below bb)
  have hn : (hdr ++ pv).length = n := h3.1
  have hn13 : n = 13 + pv.length := by rw [← hn, List.length_append]; rfl
  obtain ⟨m, hm⟩ : ∃ m, pv.length = m := ⟨_, rfl⟩
  rw [hm] at hn13 HPL HP1
  obtain ⟨g, go, hA, hcell⟩ : ∃ g go, A = some ⟨g, go, none⟩ ∧ ∀ i, i < n → w2.cell? ⟨g, go + i, none⟩ = some (.int .u8 (at_ (hdr ++ pv) i)) := h3.2.2.resolve_left (by omega)
  subst hA
  have hg := hnew g go rfl
  have hg2 : w.heap.size ≤ g := by have := B.out.size; omega
  replace B := Kept.mk (B.out.trans (bb.mono B.out.size))
  have hgF : g ∉ F := fun hm => by have := LF.out g hm; omega
  have RD : Kept (Rd w2 (some ⟨g, go + 13, none⟩) m pv) := ⟨hm, HB.out, .inr ⟨g, go + 13, rfl, fun i hi => by
    rw [show go + 13 + i = go + (13 + i) by omega, hcell (13 + i) (by omega)]
    congr 2
    unfold at_
    rw [List.getD_eq_getElem?_getD, List.getD_eq_getElem?_getD, List.getElem?_append_right (by show hdr.length ≤ _; exact Nat.le_add_right 13 i)]
    congr 2
    show 13 + i - 13 = i
    omega⟩⟩
  have OFF : Kept (Off (some ⟨g, go + 13, none⟩) m F) := ⟨.inr ⟨g, go + 13, rfl, hgF⟩⟩
  have HSL := slice_l_at g go n c 13 (by omega) (by omega) 13 rfl
  obtain ⟨c2, hc2⟩ : ∃ c2, c - 13 = c2 := ⟨_, rfl⟩
  rw [show n - 13 = m by omega, hc2] at HSL
  have L0 : Kept (En 143 w2 F e (0, l ++ pv.take 0)) := ⟨by rw [List.take_zero, List.append_nil]; exact L.out⟩
  have FP : Kept (Fp F F w w2) := ⟨barOf B.out _, fun _ hk => .inl hk⟩
  have HM := Kept.mk hm
  have hm54 : m ≤ 54 := HPL
  have hmc : m ≤ c2 := by omega
  have hcm : c2 ≤ 9223372036854775807 := by omega
  clear h3 hnew hcell hn hn13 hgF bb KE2 L B y0 y1 y2 y3 y4 y5 y6 y7 y8 hm hc2 HPL HP1
  go_wp2
  clear HSL
  go_loopw [22] (fun i wr => ∃ (k : Nat) (F2 : List Nat), k ≤ m ∧ i = .int .i64 k ∧ Kept (En 143 wr F2 e (0, l ++ pv.take k)) ∧ Kept (Fp F F2 w wr) ∧ Kept (Rd wr (some ⟨g, go + 13, none⟩) m pv) ∧ Kept (Off (some ⟨g, go + 13, none⟩) m F2)) (fun i _ => m - (Go.RowKit.intOf i).toNat)
  case atStart => exact ⟨0, F, by omega, rfl, L0, FP, RD, OFF⟩
  case round =>
    clear L0 FP RD OFF
    obtain ⟨k, F2, hk, rfl, L, FP, RD, OFF⟩ := hrel
    by_cases hkm : k < m
    · have hkm' : (k : Int) < m := by omega
      obtain ⟨hl2, hb2, hc3⟩ := RD.out
      have hcell : wr.cell? ⟨g, go + 13 + k, none⟩ = some (.int .u8 (at_ pv k)) := by
        rcases hc3 with h0 | ⟨b', o', hA, hc⟩
        · omega
        · injection hA with hA; injection hA with e1 e2; subst e1 e2; exact hc k hkm
      have hat : pv[k]? = some (at_ pv k) := by
        unfold at_
        rw [List.getD_eq_getElem?_getD, List.getElem?_eq_getElem (by omega)]; rfl
      obtain ⟨z, hz⟩ : ∃ z, at_ pv k = z := ⟨_, rfl⟩
      rw [hz] at hcell hat
      have hzb : 0 ≤ z ∧ z ≤ 255 := by
        have := HB.out z (List.mem_of_getElem? hat)
        exact ⟨this.1, by omega⟩
      obtain ⟨hz0, hz1⟩ := hzb
      have HT := Kept.mk (ctake_next hat)
      have KN := num_any wr F2 e z 1 (0, l ++ pv.take k) L.out (by simp only [List.length_append, List.length_take]; omega)
      rw [enc_byte _ z ⟨hz0, hz1⟩, List.append_assoc, ← HT.out] at KN
      have KN2 := Kept.mk KN
      clear KN hc3 hat hz hl2 hb2
      go_wp2_with fail
      refine KN2.out.mono ?_
      rintro y w3 ⟨rfl, F3, he, fp⟩
      replace L := Kept.mk he
      have OFF3 := Kept.mk (OFF.out.step RD.out fp)
      replace RD := Kept.mk (RD.out.far fp.1 OFF.out)
      replace FP := Kept.mk (FP.out.trans fp)
      clear KN2 he fp OFF hcell hz0 hz1
      go_wp2
      go_roundw
      case rel => exact ⟨k + 1, F3, by omega, by go_num, L, FP, RD, OFF3⟩
      case measure => simp [Go.RowKit.intOf]; omega
    · have hkm' : ¬ (k : Int) < m := by omega
      obtain rfl : k = m := by omega
      go_wp2
      go_ret
      have := L.out
      rw [← HM.out, List.take_length] at this
      exact ⟨rfl, F2, this, FP.out⟩
set_option maxRecDepth 100000 in
set_option maxHeartbeats 2000000 in
theorem lsave_any (W : WL s) (h : Lp w t x b q G v d s) : Calls Tryz.prog 15 #[.pointer (some ⟨x, 0, none⟩)] w (SavePost s w) := by
  obtain ⟨A, c, rfl, x3, hc, hcm, hrc⟩ := h.list
  have x2 := h.c2
  have hlen := W.len
  have HSB := Kept.mk (saveL_bytes W); have HSL := Kept.mk (saveL_len W)
  have HW := Kept.mk W; have HRC := Kept.mk hrc
  have XL : Kept (x < w.heap.size) := ⟨h.blk.lt⟩
  have CX : Kept (∀ w', Below w.heap.size w w' → w'.cell? ⟨x, 2, none⟩ = some (.int .i64 s.clock) ∧ w'.cell? ⟨x, 3, none⟩ = some (.slice A s.e.length c)) := ⟨fun w' b => ⟨(h.below b).c2, (h.below b).blk.cell 3⟩⟩
  have HCK := Kept.mk (enc8 [] W.clock.amt)
  have HLE := Kept.mk (enc2 (be s.clock.toNat 8) (z := (s.e.length : Nat)) ⟨by omega, by omega⟩)
  rw [List.nil_append] at HCK
  clear W h hrc x2 x3
  obtain ⟨E, hE⟩ : ∃ E, w.heap.size = E := ⟨_, rfl⟩
  have KN := Kept.mk (newenc_any w)
  go_enter Tryz.func15, Tryz.ntmps15
  go_wp2_with fail
  refine KN.out.mono ?_
  rintro y w1 ⟨rfl, he, fp⟩
  have BW := Kept.mk (fp.below (B := w.heap.size) (by simp) (Nat.le_refl _))
  have AF := Kept.mk (fp.least (B := w.heap.size) (by simp) (Nat.le_refl _))
  rw [hE] at he AF
  have KC := num_any w1 [E] E s.clock 8 (0, []) he (by simp)
  rw [HCK.out] at KC
  have KC2 := Kept.mk KC
  have x2 := (CX.out _ BW.out).1
  clear KN he fp KC
  go_wp2_with fail
  refine KC2.out.mono ?_
  rintro y w2 ⟨rfl, F2, he, fp⟩
  have SZ1 : Kept (E ≤ w1.heap.size) := ⟨by rw [← hE]; exact BW.out.size⟩
  replace BW := Kept.mk (BW.out.trans (fp.below (B := w.heap.size) (by rw [hE]; exact AF.out) BW.out.size))
  replace AF := Kept.mk (fp.least (B := E) AF.out SZ1.out)
  have KC := num_any w2 F2 E (s.e.length : Nat) 2 (0, be s.clock.toNat 8) he (by simp [be_len])
  rw [HLE.out] at KC
  have KC3 := Kept.mk KC
  clear KC2 he fp KC x2
  have x3 := (CX.out _ BW.out).2
  go_wp2_with fail
  refine KC3.out.mono ?_
  rintro y w3 ⟨rfl, F3, he, fp⟩
  have SZ2 : Kept (E ≤ w2.heap.size) := ⟨by rw [← hE]; exact BW.out.size⟩
  replace BW := Kept.mk (BW.out.trans (fp.below (B := w.heap.size) (by rw [hE]; exact AF.out) BW.out.size))
  replace AF := Kept.mk (fp.least (B := E) AF.out SZ2.out)
  have L : Kept (En 143 w3 F3 E (0, be s.clock.toNat 8 ++ (be s.e.length 2 ++ (s.e.take 0).flatMap putLE))) := ⟨by
    rw [List.take_zero, List.flatMap_nil, List.append_nil]; exact he⟩
  clear KC3 he fp x3 SZ2
  have x3 := (CX.out _ BW.out).2
  obtain ⟨n, hn⟩ : ∃ n, s.e.length = n := ⟨_, rfl⟩
  obtain ⟨hd, hhd⟩ : ∃ hd, be s.clock.toNat 8 ++ be n 2 = hd := ⟨_, rfl⟩
  have HHD : Kept (∀ z, be s.clock.toNat 8 ++ (be n 2 ++ z) = hd ++ z) := ⟨fun z => by rw [← hhd, List.append_assoc]⟩
  have HDL : Kept (hd.length = 10) := ⟨by rw [← hhd, List.length_append, be_len, be_len]⟩
  rw [hn] at x3 hc hlen HRC L
  rw [HHD.out] at L
  have HN := Kept.mk hn
  have HPL : Kept (∀ k, ((s.e.take k).flatMap putLE).length ≤ 63 * n) := ⟨fun k => by
    have h2 := flat_len (f := putLE) (m := 63) (l := s.e.take k) (fun y hy => by
      have := putV_len (HW.out.each y (List.mem_of_mem_take hy)).1
      simp only [putLE, List.length_append, be_len]; omega)
    have h3 : (s.e.take k).length ≤ n := by rw [List.length_take, HN.out]; omega
    have : 63 * (s.e.take k).length ≤ 63 * n := Nat.mul_le_mul_left _ h3
    omega⟩
  clear hn hhd
  go_wp2
  clear x3
  go_loopw [27] (fun i wr => ∃ (k : Nat) (F4 : List Nat), k ≤ n ∧ i = .int .i64 k ∧ Kept (En 143 wr F4 E (0, hd ++ (s.e.take k).flatMap putLE)) ∧ Kept (Below w.heap.size w wr) ∧ Kept (∀ z ∈ F4, E ≤ z)) (fun i _ => n - (Go.RowKit.intOf i).toNat)
  case atStart => exact ⟨0, F3, by omega, rfl, L, BW, AF⟩
  case round =>
    clear L BW AF
    obtain ⟨k, F4, hk, rfl, L, BW, AF⟩ := hrel
    by_cases hkn : k < n
    · have hkn' : (k : Int) < n := by omega
      obtain ⟨g, go, y, hA, hy, hyc⟩ := (HRC.out.below BW.out).at_ hkn
      subst hA
      have HT := Kept.mk (ctake_next hy)
      have hmem := List.mem_of_getElem? hy
      have HY := Kept.mk (HW.out.each y hmem)
      have HWHO := Kept.mk (HW.out.who hmem)
      have HLE2 : Kept (putLE y = be y.who.toNat 1 ++ (be y.at_.toNat 8 ++ putV y.v)) := ⟨rfl⟩
      obtain ⟨V, who, at_⟩ := y
      dsimp only at HY HWHO HLE2
      obtain ⟨ek, es, ed, ea, en, ei, eu, eh, ec⟩ := V
      have y0 : wr.cell? ⟨g, go + k * 11, none⟩ = some (.int .i64 who) := hyc 0 _ rfl; have y1 : wr.cell? ⟨g, go + k * 11 + 1, none⟩ = some (.int .i64 at_) := hyc 1 _ rfl; have y2 : wr.cell? ⟨g, go + k * 11 + 2, none⟩ = some (.int .i64 ek) := hyc 2 _ rfl; have y3 : wr.cell? ⟨g, go + k * 11 + 3, none⟩ = some (.int .i64 es) := hyc 3 _ rfl; have y4 : wr.cell? ⟨g, go + k * 11 + 4, none⟩ = some (.int .i64 ed) := hyc 4 _ rfl; have y5 : wr.cell? ⟨g, go + k * 11 + 5, none⟩ = some (.int .i64 ea) := hyc 5 _ rfl; have y6 : wr.cell? ⟨g, go + k * 11 + 6, none⟩ = some (.int .i64 en) := hyc 6 _ rfl; have y7 : wr.cell? ⟨g, go + k * 11 + 7, none⟩ = some (.int .i64 ei) := hyc 7 _ rfl; have y8 : wr.cell? ⟨g, go + k * 11 + 8, none⟩ = some (.int .i64 eu) := hyc 8 _ rfl; have y9 : wr.cell? ⟨g, go + k * 11 + 9, none⟩ = some (.string (strOfNums eh)) := hyc 9 _ rfl; have y10 : wr.cell? ⟨g, go + k * 11 + 10, none⟩ = some (.string (strOfNums ec)) := hyc 10 _ rfl
      clear hyc hy hmem
      have b1 : Below wr.heap.size wr (wr.alloc (.cells #[.int .i64 who, .int .i64 at_, .int .i64 ek, .int .i64 es, .int .i64 ed, .int .i64 ea, .int .i64 en, .int .i64 ei, .int .i64 eu, .string (strOfNums eh), .string (strOfNums ec)] 119)) := (Below.refl _ _).alloc (Nat.le_refl _) _
      obtain ⟨M, hM⟩ : ∃ M, wr.heap.size = M := ⟨_, rfl⟩
      have X : Kept (Blk (wr.alloc (.cells #[.int .i64 who, .int .i64 at_, .int .i64 ek, .int .i64 es, .int .i64 ed, .int .i64 ea, .int .i64 en, .int .i64 ei, .int .i64 eu, .string (strOfNums eh), .string (strOfNums ec)] 119)) M 119 #[.int .i64 who, .int .i64 at_, .int .i64 ek, .int .i64 es, .int .i64 ed, .int .i64 ea, .int .i64 en, .int .i64 ei, .int .i64 eu, .string (strOfNums eh), .string (strOfNums ec)]) := ⟨Blk.new_at _ _ _ M hM.symm⟩
      have MF : Kept (M ∉ F4) := ⟨fun hm => by have := L.out.lt M hm; omega⟩
      go_upto_region 7 with (fail)
      replace L := Kept.mk (L.out.below b1); replace BW := Kept.mk (BW.out.trans (b1.mono BW.out.size))
      clear y0 y1 y2 y3 y4 y5 y6 y7 y8 y9 y10 b1
      generalize wr.alloc (.cells #[.int .i64 who, .int .i64 at_, .int .i64 ek, .int .i64 es, .int .i64 ed, .int .i64 ea, .int .i64 en, .int .i64 ei, .int .i64 eu, .string (strOfNums eh), .string (strOfNums ec)] 119) = w4 at *
      obtain ⟨L0, hL0⟩ : ∃ L0, hd ++ (s.e.take k).flatMap putLE = L0 := ⟨_, rfl⟩
      have HL0 : Kept (L0.length ≤ 10 + 63 * 400) := ⟨by rw [← hL0, List.length_append, HDL.out]; have := HPL.out k; omega⟩
      rw [hL0] at L
      have HLZ := Kept.mk hL0
      clear hL0
      have KC := num_any w4 F4 E who 1 (0, L0) L.out (by have := HL0.out; simp only []; omega)
      rw [enc1 _ HWHO.out] at KC
      have KC2 := Kept.mk KC
      have y0 := X.out.cell 0
      clear KC
      go_wp2_with fail
      refine KC2.out.mono ?_
      rintro y w5 ⟨rfl, F5, he, fp⟩
      have SZ : Kept (E ≤ w4.heap.size) := ⟨by rw [← hE]; exact BW.out.size⟩
      replace BW := Kept.mk (BW.out.trans (fp.below (B := w.heap.size) (by rw [hE]; exact AF.out) BW.out.size))
      replace AF := Kept.mk (fp.least (B := E) AF.out SZ.out)
      have MF5 := Kept.mk (off_step MF.out X.out.lt fp)
      replace X := Kept.mk (X.out.bar fp.1 MF.out)
      replace L := Kept.mk he
      clear KC2 he fp y0 MF SZ
      have KC := num_any w5 F5 E at_ 8 (0, L0 ++ be who.toNat 1) L.out (by have := HL0.out; simp only [List.length_append, be_len]; omega)
      rw [enc8 _ HY.out.2.2.2.amt] at KC
      have KC2 := Kept.mk KC
      have y1 := X.out.cell 1
      clear KC
      go_wp2_with fail
      refine KC2.out.mono ?_
      rintro y w6 ⟨rfl, F6, he, fp⟩
      have SZ : Kept (E ≤ w5.heap.size) := ⟨by rw [← hE]; exact BW.out.size⟩
      replace BW := Kept.mk (BW.out.trans (fp.below (B := w.heap.size) (by rw [hE]; exact AF.out) BW.out.size))
      replace AF := Kept.mk (fp.least (B := E) AF.out SZ.out)
      have MF6 := Kept.mk (off_step MF5.out X.out.lt fp)
      replace X := Kept.mk (X.out.bar fp.1 MF5.out)
      replace L := Kept.mk he
      clear KC2 he fp y1 MF5 SZ
      have KP := putev_any ⟨ek, es, ed, ea, en, ei, eu, eh, ec⟩ L.out (by have := HL0.out; simp only [List.length_append, be_len]; omega) HY.out.1 HY.out.2.1
      rw [List.append_assoc, List.append_assoc, ← HLE2.out, ← HLZ.out, List.append_assoc] at KP
      have HSN : Kept ((s.e.take k).flatMap putLE ++ putLE ⟨⟨ek, es, ed, ea, en, ei, eu, eh, ec⟩, who, at_⟩ = (s.e.take (k + 1)).flatMap putLE) := ⟨by rw [HT.out, List.flatMap_append, List.flatMap_singleton]⟩
      rw [HSN.out] at KP
      unfold vqv at KP
      dsimp only at KP
      have KP2 := Kept.mk KP
      have y2 : w6.cell? ⟨M, 2, none⟩ = some (.int .i64 ek) := X.out.cell 2; have y3 : w6.cell? ⟨M, 3, none⟩ = some (.int .i64 es) := X.out.cell 3; have y4 : w6.cell? ⟨M, 4, none⟩ = some (.int .i64 ed) := X.out.cell 4; have y5 : w6.cell? ⟨M, 5, none⟩ = some (.int .i64 ea) := X.out.cell 5; have y6 : w6.cell? ⟨M, 6, none⟩ = some (.int .i64 en) := X.out.cell 6; have y7 : w6.cell? ⟨M, 7, none⟩ = some (.int .i64 ei) := X.out.cell 7; have y8 : w6.cell? ⟨M, 8, none⟩ = some (.int .i64 eu) := X.out.cell 8; have y9 : w6.cell? ⟨M, 9, none⟩ = some (.string (strOfNums eh)) := X.out.cell 9; have y10 : w6.cell? ⟨M, 10, none⟩ = some (.string (strOfNums ec)) := X.out.cell 10
      clear KP
      go_wp2_with fail
      refine KP2.out.mono ?_
      rintro y w7 ⟨rfl, F7, he, fp⟩
      have SZ : Kept (E ≤ w6.heap.size) := ⟨by rw [← hE]; exact BW.out.size⟩
      replace BW := Kept.mk (BW.out.trans (fp.below (B := w.heap.size) (by rw [hE]; exact AF.out) BW.out.size))
      replace AF := Kept.mk (fp.least (B := E) AF.out SZ.out)
      replace L := Kept.mk he
      clear KP2 he fp X MF6 SZ y2 y3 y4 y5 y6 y7 y8 y9 y10
      go_wp2
      go_roundw
      case rel => exact ⟨k + 1, F7, by omega, by go_num, L, BW, AF⟩
      case measure => simp [Go.RowKit.intOf]; omega
    · have hkn' : ¬ (k : Int) < n := by omega
      obtain rfl : k = n := by omega
      have hL := L.out
      rw [← HN.out, List.take_length, ← HHD.out] at hL
      have hS : be s.clock.toNat 8 ++ (be k 2 ++ s.e.flatMap putLE) = saveL s := by rw [← HN.out]; rfl
      rw [hS] at hL
      have KD := Kept.mk (done_any wr F4 E (0, saveL s) hL HSB.out (by have := HSL.out; simp only []; omega))
      clear hL hS
      go_wp2_with fail
      refine KD.out.mono ?_
      rintro y w5 ⟨v5, rfl, own, b5⟩
      obtain ⟨A5, c5, rfl, h1, h2, r5⟩ := own_rd own HSB.out
      have R5 := Kept.mk r5
      have NW5 : Kept (∀ b o, A5 = some ⟨b, o, none⟩ → w.heap.size ≤ b) := ⟨fun b o hh => by subst hh; have h1 := BW.out.size; have h3 := (own.lt b rfl).1; omega⟩
      replace BW := Kept.mk (BW.out.trans (b5.mono BW.out.size))
      clear KD own b5 r5
      go_wp2
      go_ret2
      exact ⟨A5, _, c5, rfl, h1, h2, R5.out, fun b o hh => ⟨NW5.out b o hh, by simp⟩, BW.out⟩
end
end Go.Proofs.YtchcgoabogcabaaGreat.Ledger
