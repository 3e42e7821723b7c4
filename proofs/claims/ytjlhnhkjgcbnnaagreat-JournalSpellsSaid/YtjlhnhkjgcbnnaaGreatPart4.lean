/-
  Parts laid together: FrameLift WireNewDec WireFst WireDNum FrameRHead BytesEq FrameCGet FrameCode DiskSpec JournalSpec JournalKeep JournalLay JournalMore JournalTop JWriteSpec.
-/
import Derived.Test.YtjlhnhkjgcbnnaaGreatPart2
import Derived.Lib.SmallJoins
import Derived.Test.YtjlhnhkjgcbnnaaGreatPart3
import Derived.Lib.QuietBelow
import Derived.Deep.RegionHeld3
import Derived.Deep.AppendLies
import Derived.Laws.BitsAllLaws
import Derived.Test.YtjlhnhkjgcbnnaaGreatPart1
import Derived.Laws.BytesArg
import Derived.Lib.Bytes

/-
  Package frame: lift.
-/







namespace Go.Proofs.YtjlhnhkjgcbnnaaGreat.Frame
open Go.RowKit Go.Proofs.YtjlhnhkjgcbnnaaGreat.Sha Go.Proofs.YtjlhnhkjgcbnnaaGreat.Wire

theorem rd_mid {w : World} {g o n : Nat} {xs : List Int} (r : Rd w (some ⟨g, o, none⟩) n xs) (l k : Nat) (h : l + k ≤ n) : Rd w (some ⟨g, o + l, none⟩) k ((xs.drop l).take k) := by
  refine ⟨by have := r.1; rw [List.length_take, List.length_drop]; omega, (r.2.1.drop _).take _, .inr ⟨g, o + l, rfl, fun i hi => ?_⟩⟩
  rw [at_take hi, at_drop, Nat.add_assoc]
  exact rd_cell r (l + i) (by omega)
/-- do so many sectors stand there, with their marks? -/
def liftOk (b : List Int) (S : Nat) : Bool := decide (64 * S ≤ b.length ∧ ∀ i, i < S → at_ b (64 * i) = mk i)
def LiftPost (b : List Int) (S : Nat) (w : World) (e : Ending) (w' : World) : Prop :=
  (liftOk b S = true ∧ ∃ A n c, n = 63 * S ∧ e = .returned (.tuple #[.slice A n c, .bool true]) ∧ n ≤ c ∧ c ≤ 9223372036854775807 ∧ Rd w' A n (allF b S) ∧ (∀ F : List Nat, (∀ k ∈ F, k < w.heap.size) → Off A n F) ∧ Below w.heap.size w w') ∨
  (liftOk b S = false ∧ e = .returned (.tuple #[.slice none 0 0, .bool false]) ∧ Below w.heap.size w w')
theorem make_cap (w : World) (n : Nat) (hn : n ≤ 16777216) : ∃ w', (Instr.makeSlice 38 (.int .i64 0) (.int .i64 (n : Int))).run Tryz.prog w = .ok (.slice (some ⟨w.heap.size, 0, none⟩) 0 n) w' ∧ w'.ownsRow w.heap.size 5 1 (.slice (some ⟨w.heap.size, 0, none⟩) 0 n) 0 [] ∧ Below w.heap.size w w' := by
  obtain ⟨iu, hi, hz0, hz1, hz2⟩ := info_parts info_u8
  obtain ⟨w', hm, own, gr⟩ := run_make_own (P := Tryz.prog) w w.heap.size 38 5 iu _ 1 Tryz.underlying38 hi hz0 hz1 .i64 .i64 n (by rw [hz2]; omega) (by unfold maxLen; omega) (Nat.le_refl _)
  exact ⟨w', hm, own, ⟨gr.os, gr.tape, gr.output, gr.size, fun k hk => gr.block k hk (by simp)⟩⟩

set_option maxRecDepth 100000 in
set_option maxHeartbeats 1000000 in
theorem lift_any (A : Option Addr) (n c S : Nat) (b : List Int) (w : World) (hr : Rd w A n b) (hc : n ≤ c) (hn : n ≤ 1000000) (hS1 : 1 ≤ S) (hS9 : S ≤ 2000) :
    Calls Tryz.prog 73 #[.slice A n c, .int .i64 S] w (LiftPost b S w) := by
  obtain ⟨N, hN⟩ : ∃ N, w.heap.size = N := ⟨_, rfl⟩
  have hlen := hr.1
  have W1 : wrap64 ((S : Int) * 64) = (S : Int) * 64 := by unfold wrap64; omega
  by_cases hns : n < 64 * S
  · have hns' : (n : Int) < (S : Int) * 64 := by omega
    have PF : Kept (LiftPost b S w (.returned (.tuple #[.slice none 0 0, .bool false])) w) := ⟨.inr ⟨by unfold liftOk; rw [decide_eq_false_iff_not]; rintro ⟨h, -⟩; omega, rfl, Below.refl _ _⟩⟩
    clear hr hlen
    go_enter Tryz.func73, Tryz.ntmps73
    go_wp2
    go_ret2
    exact PF.out
  · have hns' : ¬ (n : Int) < (S : Int) * 64 := by omega
    have W2 : wrap64 ((S : Int) * 63) = (S : Int) * 63 := by unfold wrap64; omega
    obtain ⟨w1, hmk, o1, b1⟩ := make_cap w (63 * S) (by omega)
    rw [show ((63 * S : Nat) : Int) = (S : Int) * 63 by omega] at hmk
    rw [hN] at hmk o1 b1
    obtain ⟨g, o, rfl, hcell⟩ := hr.2.2.resolve_left (by omega)
    have HR := Kept.mk hr
    have O1 := Kept.mk o1; have B1 := Kept.mk b1
    have PF : Kept (∀ w', ¬ (∀ i, i < S → at_ b (64 * i) = mk i) → Below N w w' → LiftPost b S w (.returned (.tuple #[.slice none 0 0, .bool false])) w') :=
      ⟨fun w' h1 h2 => .inr ⟨by unfold liftOk; rw [decide_eq_false_iff_not]; rintro ⟨-, h⟩; exact h1 h, rfl, hN.symm ▸ h2⟩⟩
    have PT : Kept (∀ v w', (∀ i, i < S → at_ b (64 * i) = mk i) → w'.ownsRow N 5 1 v (63 * S) (ints .u8 (allF b S)) → Below N w w' → LiftPost b S w (.returned (.tuple #[v, .bool true])) w') := ⟨fun v w' h1 h2 h3 => by
      obtain ⟨Av, cv, rfl, k1, k2, k3⟩ := own_rd h2 (allF_bytes HR.out.2.1 S)
      refine .inl ⟨by unfold liftOk; rw [decide_eq_true_iff]; exact ⟨by omega, h1⟩, Av, 63 * S, cv, rfl, rfl, k1, k2, k3, fun F hF => ?_, by rw [hN]; exact h3⟩
      exact own_off h2 (fun k hk hk2 => by have := (h2.lt k (by simpa using hk)).1; have := hF k hk2; omega)⟩
    clear hr hcell o1 b1
    go_enter Tryz.func73, Tryz.ntmps73
    go_wp2
    go_loopw [6, 7, 8, 18] (fun v _i _s j wr => ∃ m : Nat, m ≤ S ∧ j = .int .i64 m ∧ Kept (∀ i, i < m → at_ b (64 * i) = mk i) ∧ Kept (wr.ownsRow N 5 1 v (63 * m) (ints .u8 (allF b m))) ∧ Kept (Below N w wr)) (fun _ _ _ j _ => S - (Go.RowKit.intOf j).toNat)
    case atStart => exact ⟨0, by omega, rfl, ⟨fun i hi => by omega⟩, O1, B1⟩
    case round =>
      clear O1 B1 hmk
      obtain ⟨m, hm, rfl, M, O, B⟩ := hrel
      by_cases hmS : m < S
      · have hmS' : (m : Int) < S := by omega
        have c1 := Kept.mk (sector_any g o n c m wr (by omega) hc (by omega))
        have c2 := Kept.mk fun w => mark_any m w
        have r1 : Rd wr (some ⟨g, o, none⟩) n b := HR.out.below (by rw [hN]; exact B.out)
        have x0 := rd_cell r1 (64 * m) (by omega)
        have r3 := rd_mid r1 (64 * m + 1) 63 (by omega)
        rw [← Nat.add_assoc] at r3
        have hs4 := slice_l_at g (o + 64 * m) 64 (c - 64 * m) 1 (by omega) (by omega) 1 rfl
        have R3 := Kept.mk r3
        clear r1 r3
        by_cases hmk : at_ b (64 * m) = mk m
        · have M2 : Kept (∀ i, i < m + 1 → at_ b (64 * i) = mk i) := ⟨fun i hi => by
            by_cases h : i = m
            · subst h; exact hmk
            · exact M.out i (by omega)⟩
          rw [hmk] at x0
          clear hmk M
          go_wp2_with fail
          refine c1.out.mono ?_
          rintro e w' ⟨rfl, rfl⟩
          clear c1
          go_wp2
          go_quiet ((first | (go_at_call 92; exact Calls.quiet_of_same (still_of (c2.out _)))))
          have O2 : Kept ((wr.drewN nq).ownsRow N 5 1 u6 (63 * m) (ints .u8 (allF b m))) := ⟨O.out⟩
          have B2 : Kept (Below N w (wr.drewN nq)) := ⟨below_drewN B.out _⟩
          have R4 : Kept (Rd (wr.drewN nq) (some ⟨g, o + 64 * m + 1, none⟩) 63 ((b.drop (64 * m + 1)).take 63)) := ⟨R3.out⟩
          clear O B R3 x0
          generalize wr.drewN nq = w2 at *
          go_wp2_with ((with_reducible refine sel 33 ?_); refine wpList_append_rda rfl (.tmp 30) (.tmp 32) 38 rfl N 5 Tryz.underlying38 info_u8 _ (63 * m) _ rfl O2.out (some ⟨g, o + 64 * m + 1, none⟩) 63 _ _ rfl R4.out (by omega) (by rw [← hN]; exact B2.out.size) ?_; intro v7 w7 o7 g7 a7; have B7 := Kept.mk (B2.out.trans (own_below O2.out g7 (by rw [← hN]; exact B2.out.size))); clear g7 a7)
          go_roundw
          case rel =>
            refine ⟨m + 1, by omega, by go_num, M2, ⟨?_⟩, B7⟩
            have := o7.out
            rw [← ints_append] at this
            exact this
          case measure => simp [Go.RowKit.intOf]; omega
        · have PF2 : Kept (∀ w', Below N w w' → LiftPost b S w (.returned (.tuple #[.slice none 0 0, .bool false])) w') := ⟨fun w' h => PF.out w' (fun k => hmk (k m hmS)) h⟩
          have hmk2 : (at_ b (64 * m) == mk m) = false := by simpa using hmk
          generalize at_ b (64 * m) = y at *
          generalize mk m = z at *
          clear PF
          go_wp2_with fail
          refine c1.out.mono ?_
          rintro e w' ⟨rfl, rfl⟩
          clear c1
          go_wp2
          go_quiet ((first | (go_at_call 92; exact Calls.quiet_of_same (still_of (c2.out _)))))
          have PG := Kept.mk (PF2.out _ (below_drewN B.out nq))
          clear PF2 B O R3
          generalize wr.drewN nq = w2 at *
          go_wp2
          go_ret2
          exact PG.out
      · obtain rfl : m = S := by omega
        have hmS' : ¬ (m : Int) < m := by omega
        have PG := Kept.mk (PT.out _ _ M.out O.out B.out)
        obtain ⟨A6, c6, rfl⟩ := own_shape O.out
        clear PT PF O
        go_wp2
        go_ret2
        exact PG.out
end Go.Proofs.YtjlhnhkjgcbnnaaGreat.Frame

/-
  NewDec.
-/




namespace Go.Proofs.YtjlhnhkjgcbnnaaGreat.Wire
open Go.RowKit Go.Proofs.YtjlhnhkjgcbnnaaGreat.Sha

set_option maxRecDepth 100000 in
set_option maxHeartbeats 1000000 in
theorem newdec_any (A : Option Addr) (n c : Nat) (xs : List Int) (w : World) (hr : Rd w A n xs) (hn : n < 2147483648) :
    Calls Tryz.prog 93 #[.slice A n c] w fun x w' => ∃ d G, x = .returned (.pointer (some ⟨d, 0, none⟩)) ∧ De 173 w' d G (0, xs) ∧ w.heap.size ≤ d ∧ (∀ k ∈ G, w.heap.size ≤ k ∧ k < w'.heap.size) ∧ d ∉ G ∧ Below w.heap.size w w' := by
  have LX := hr.1
  have BX := Kept.mk hr.2.1
  have hcl := Kept.mk (clone_any A n c xs w hr hn)
  clear hr
  go_enter Tryz.func93, Tryz.ntmps93
  go_wp2_with fail
  refine hcl.out.mono ?_
  rintro x w1 ⟨v, rfl, own, b1⟩
  obtain ⟨A1, c1, rfl, h1, h2, r1⟩ := own_rd own BX.out
  subst LX
  have hD : De 173 (w1.alloc (.cells #[.slice A1 xs.length c1, .int .i64 0] 173)) w1.heap.size (Value.slice A1 xs.length c1).ownBlock.toList (0, xs) :=
    ⟨fun k hk => by have := (own.lt k (by simpa using hk)).2; simp; omega, A1, c1, Blk.new _ _ _, r1.below ((Below.refl _ w1).alloc (Nat.le_refl _) _), h1, h2, fun F hF => own_off own hF⟩
  have HD := Kept.mk hD
  have B1 := Kept.mk b1; have HL := Kept.mk own.lt
  clear hcl own r1 b1 hD
  go_wp2
  go_ret
  refine ⟨_, _, rfl, HD.out, B1.out.size, fun k hk => ?_, fun hk => ?_, B1.out.alloc B1.out.size _⟩
  · have := HL.out k (by simpa using hk)
    simp; omega
  · have := HL.out w1.heap.size (by simpa using hk)
    omega
end Go.Proofs.YtjlhnhkjgcbnnaaGreat.Wire

/-
  first: a number in front of bytes.
-/





namespace Go.Proofs.YtjlhnhkjgcbnnaaGreat.Wire
open Go.RowKit Go.Proofs.YtjlhnhkjgcbnnaaGreat.Sha

set_option maxRecDepth 100000 in
set_option maxHeartbeats 1000000 in
theorem first_any (A : Option Addr) (n c s : Nat) (xs : List Int) (w : World) (hr : Rd w A n xs) (hc : n ≤ c) (hs : 1 ≤ s) (h8 : s ≤ 8) :
    Calls Tryz.prog 117 #[.slice A n c, .int .i64 s] w fun x w' => x = .returned (.tuple #[.int .i64 (frst xs s).1, .bool (frst xs s).2]) ∧ w = w' := by
  by_cases hsn : s ≤ n
  · obtain ⟨A', hsl, r', -⟩ := slice_h hr hc s hsn s rfl
    have HR := Kept.mk r'
    have LX := hr.1
    have BX := Kept.mk hr.2.1
    clear hr r'
    have hsn' : ¬ (n : Int) < s := by omega
    go_enter Tryz.func117, Tryz.ntmps117
    go_wp2
    go_loop [6, 8, 17] (fun u x i => ∃ k : Nat, k ≤ s ∧ u = .int .u64 (val (xs.take k) : Nat) ∧ i = .int .i64 k) (fun _ _ i => s - (Go.RowKit.intOf i).toNat)
    case atStart => exact ⟨0, by omega, rfl, rfl⟩
    case round =>
      obtain ⟨k, hk, rfl, rfl⟩ := hrel
      by_cases hks : k < s
      · have hks' : (k : Int) < s := by omega
        obtain ⟨b, o, rfl, hcell⟩ := HR.out.2.2.resolve_left (by omega)
        have x0 := hcell k hks
        rw [at_take hks] at x0
        have hx := BX.out.at_ k
        have hst := val_step xs k (by omega)
        have hlt := val_take_lt xs BX.out k (by omega)
        have hlt7 : 256 ^ k ≤ 256 ^ 7 := Nat.pow_le_pow_right (by omega) (by omega)
        generalize at_ xs k = x at *
        generalize val (xs.take k) = v at *
        have ho := or_step v x hx (by omega)
        rw [← hst] at ho
        have hw : IntKind.u64.wrap ((v : Int) * 256) = (v : Int) * 256 := by rw [IntKind.wrap_u64]; omega
        have hw2 : IntKind.u64.wrap x = x := by rw [IntKind.wrap_u64]; omega
        clear hcell hst
        go_wp2
        go_round
        case rel => exact ⟨k + 1, by omega, rfl, by go_num⟩
        case measure => simp [Go.RowKit.intOf]; omega
      · have hks' : ¬ (k : Int) < s := by omega
        obtain rfl : k = s := by omega
        have hlt := val_take_lt xs BX.out k (by omega)
        have hlt8 : 256 ^ k ≤ 256 ^ 8 := Nat.pow_le_pow_right (by omega) (by omega)
        obtain ⟨v, hv0⟩ : ∃ v, val (xs.take k) = v := ⟨_, rfl⟩
        rw [hv0] at hlt ⊢
        have HV := Kept.mk hv0
        clear hv0
        by_cases hv : v ≤ 4611686018427387904
        · have hv' : ¬ (4611686018427387904 : Int) < v := by omega
          have hw : IntKind.i64.wrap (v : Int) = v := by rw [IntKind.wrap_i64]; omega
          have HE := Kept.mk (show frst xs k = ((v : Int), true) by unfold frst; rw [HV.out, LX, if_pos ⟨hsn, hv⟩])
          go_wp2
          go_ret2
          exact ⟨by rw [HE.out]; rfl, rfl⟩
        · have hv' : (4611686018427387904 : Int) < v := by omega
          have HE := Kept.mk (show frst xs k = (0, false) by unfold frst; rw [HV.out, LX, if_neg (fun hh => hv hh.2)])
          go_wp2
          go_ret2
          exact ⟨by rw [HE.out]; rfl, rfl⟩
  · have hsn' : (n : Int) < s := by omega
    have HE := Kept.mk (show frst xs s = (0, false) by unfold frst; rw [hr.1, if_neg (fun hh => hsn hh.1)])
    clear hr
    go_enter Tryz.func117, Tryz.ntmps117
    go_wp2
    go_ret2
    exact ⟨by rw [HE.out]; rfl, rfl⟩
end Go.Proofs.YtjlhnhkjgcbnnaaGreat.Wire

/-
  (*Dec).Num.
-/


namespace Go.Proofs.YtjlhnhkjgcbnnaaGreat.Wire
open Go.RowKit Go.Proofs.YtjlhnhkjgcbnnaaGreat.Sha

set_option maxRecDepth 100000 in
set_option maxHeartbeats 1000000 in
theorem dnum_any (w : World) (d : Nat) (G : List Nat) (s : Int) (st : St) (h : De 173 w d G st) (hd : d ∉ G) :
    Calls Tryz.prog 94 #[.pointer (some ⟨d, 0, none⟩), .int .i64 s] w fun x w' => x = .returned (.int .i64 (decNum st s).1) ∧ De 173 w' d G (decNum st s).2 ∧ Bar [d] w w' := by
  obtain ⟨err, xs⟩ := st
  have HD := Kept.mk h
  obtain ⟨hG, A, c, hb, hr, hc, hm, ho⟩ := h
  simp only at hb hr hc hm ho
  have c0 : w.cell? ⟨d, 0, none⟩ = some (.slice A xs.length c) := hb.cell 0
  have c1 : w.cell? ⟨d, 1, none⟩ = some (.int .i64 err) := hb.cell 1
  have z0 := hb.frozen 0
  have z1 := hb.frozen 1
  have HB := Kept.mk hb; have HR := Kept.mk hr; have HO := Kept.mk ho
  clear hb hr ho
  by_cases he : err = 0
  · subst he
    by_cases hs : 1 ≤ s ∧ s ≤ 8
    · have ci := Kept.mk fun w => issize_any s w
      rw [decide_eq_true hs] at ci
      obtain ⟨k, rfl⟩ : ∃ k : Nat, s = k := ⟨s.toNat, by omega⟩
      have cf := Kept.mk fun w' (r : Rd w' A xs.length xs) => first_any A xs.length c k xs w' r hc (by omega) (by omega)
      have hf := decNum_frst xs k (by omega) (by omega)
      cases hk : (frst xs k).2 with
      | true =>
        have hkl := frst_true hk
        rw [if_pos hk] at hf
        rw [hk] at cf
        generalize (frst xs k).1 = v at *
        have HF := Kept.mk hf
        obtain ⟨A', hsl, r', o'⟩ := slice_l HR.out hc k hkl k rfl
        have R' := Kept.mk r'; have O' := Kept.mk o'
        have hmk : c - k ≤ 9223372036854775807 := by omega
        have hck : xs.length - k ≤ c - k := by omega
        clear hf hk r' o' HD
        go_enter Tryz.func94, Tryz.ntmps94
        go_wp2_with (first
          | (go_at_call 116; refine (ci.out _).mono ?_; rintro x w' ⟨rfl, rfl⟩)
          | (go_at_call 117; refine (cf.out _ HR.out).mono ?_; rintro x w' ⟨rfl, rfl⟩))
        go_ret
        have hbar : Bar [d] w (w.setCell ⟨d, 0, none⟩ (.slice A' (xs.length - k) (c - k))) := (Bar.refl _ _).setCell (by simp) _
        rw [HF.out]
        exact ⟨rfl, De.set (n := xs.length - k) hG hd (by simp) (HB.out.set_ 0 _) hbar R'.out hck hmk (fun F hF => O'.out F (HO.out F hF)), hbar⟩
      | false =>
        rw [if_neg (by rw [hk]; simp)] at hf
        rw [hk] at cf
        generalize (frst xs k).1 = v at *
        have HF := Kept.mk hf
        clear hf hk HD
        go_enter Tryz.func94, Tryz.ntmps94
        go_wp2_with (first
          | (go_at_call 116; refine (ci.out _).mono ?_; rintro x w' ⟨rfl, rfl⟩)
          | (go_at_call 117; refine (cf.out _ HR.out).mono ?_; rintro x w' ⟨rfl, rfl⟩))
        go_ret
        have hbar : Bar [d] w (w.setCell ⟨d, 1, none⟩ (.int .i64 2)) := (Bar.refl _ _).setCell (by simp) _
        rw [HF.out]
        exact ⟨rfl, De.set (n := xs.length) hG hd rfl (HB.out.set_ 1 _) hbar HR.out hc hm HO.out, hbar⟩
    · have ci := Kept.mk fun w => issize_any s w
      rw [decide_eq_false hs] at ci
      have HF := Kept.mk (decNum_size xs s hs)
      clear HD
      go_enter Tryz.func94, Tryz.ntmps94
      go_wp2_with (go_at_call 116; refine (ci.out _).mono ?_; rintro x w' ⟨rfl, rfl⟩)
      go_ret
      have hbar : Bar [d] w (w.setCell ⟨d, 1, none⟩ (.int .i64 1)) := (Bar.refl _ _).setCell (by simp) _
      rw [HF.out]
      exact ⟨rfl, De.set (n := xs.length) hG hd rfl (HB.out.set_ 1 _) hbar HR.out hc hm HO.out, hbar⟩
  · have HF := Kept.mk (decNum_err (err, xs) s he)
    have he2 : (err != 0) = true := by simpa using he
    go_enter Tryz.func94, Tryz.ntmps94
    go_wp2
    go_ret
    rw [HF.out]
    exact ⟨rfl, HD.out, Bar.refl _ _⟩
end Go.Proofs.YtjlhnhkjgcbnnaaGreat.Wire

/-
  Package frame: readHead.
-/




namespace Go.Proofs.YtjlhnhkjgcbnnaaGreat.Frame
open Go.RowKit Go.Proofs.YtjlhnhkjgcbnnaaGreat.Sha Go.Proofs.YtjlhnhkjgcbnnaaGreat.Wire

instance (H : List Int) : Decidable (headOk H) := by unfold headOk; infer_instance
def RHeadPost (H : List Int) (w : World) (e : Ending) (w' : World) : Prop :=
  e = .returned (.tuple #[.agg #[.int .i64 (hK H), .int .i64 (hG H), .int .i64 (hS H), .slice none 0 0], .int .i64 (hN H), .bool (decide (headOk H))]) ∧ Below w.heap.size w w'
theorem dec16 {H : List Int} (hb : Bytes H) (h : H.length = 16) (o s : Nat) (hs : s = 1 ∨ s = 2 ∨ s = 4) (ho : o + s ≤ 16) : decNum (0, H.drop o) (s : Int) = (((val ((H.drop o).take s) : Nat) : Int), (0, H.drop (o + s))) := by
  have hv := val4 ((H.drop o).take s) ((hb.drop _).take _) (by simp; omega)
  rw [decNum_yes _ s (by omega) (by omega) ⟨by rw [List.length_drop]; omega, by omega⟩, List.drop_drop]

/-- the blocks of readHead: what is told, a Dec -/
def Rx (w0 : World) (N d : Nat) (G : List Nat) (st : St) (w : World) : Prop :=
  De 173 w d G st ∧ Blk w N 56 #[.int .i64 0, .int .i64 0, .int .i64 0, .slice none 0 0] ∧ Below N w0 w
theorem rx_num {w0 : World} {N d : Nat} {G : List Nat} {st : St} {w : World} (hNw : w0.heap.size = N) (hd : N < d) (hG : d ∉ G) (h : Rx w0 N d G st w) (s : Int) :
    Calls Tryz.prog 94 #[.pointer (some ⟨d, 0, none⟩), .int .i64 s] w fun x w' => x = .returned (.int .i64 (decNum st s).1) ∧ Rx w0 N d G (decNum st s).2 w' ∧ Bar [d] w w' := by
  obtain ⟨h1, h2, h3⟩ := h
  refine (dnum_any w d G s st h1 hG).mono ?_
  rintro x w' ⟨rfl, k1, k2⟩
  have hs := h3.size
  exact ⟨rfl, ⟨k1, h2.bar k2 (by rw [List.mem_singleton]; omega), h3.trans (k2.below (by omega) (fun k hk => by rw [List.mem_singleton] at hk; omega))⟩, k2⟩

set_option maxRecDepth 100000 in
set_option maxHeartbeats 1000000 in
theorem rhead_any (A : Option Addr) (c : Nat) (H : List Int) (w : World) (hr : Rd w A 16 H) :
    Calls Tryz.prog 74 #[.slice A 16 c] w (RHeadPost H w) := by
  obtain ⟨N, hNw⟩ : ∃ N, w.heap.size = N := ⟨_, rfl⟩
  have hb := Kept.mk hr.2.1
  have hl := Kept.mk hr.1
  have B0 := Kept.mk (Blk.new_at w 56 #[.int .i64 0, .int .i64 0, .int .i64 0, .slice none 0 0] N hNw.symm)
  have b0 : Kept (Below N w (w.alloc (.cells #[.int .i64 0, .int .i64 0, .int .i64 0, .slice none 0 0] 56))) := ⟨(Below.refl _ _).alloc (by omega) _⟩
  have hs0 : (w.alloc (.cells #[.int .i64 0, .int .i64 0, .int .i64 0, .slice none 0 0] 56)).heap.size = N + 1 := by simp [hNw]
  have R0 : Kept (Rd (w.alloc (.cells #[.int .i64 0, .int .i64 0, .int .i64 0, .slice none 0 0] 56)) A 16 H) := ⟨hr.below (by rw [hNw]; exact b0.out)⟩
  clear hr
  go_enter Tryz.func74, Tryz.ntmps74
  go_wp2_with fail
  generalize w.alloc (.cells #[.int .i64 0, .int .i64 0, .int .i64 0, .slice none 0 0] 56) = w1 at *
  refine (newdec_any A 16 c H w1 R0.out (by omega)).mono ?_
  rintro x w2 ⟨d, G, rfl, D2, hd, -, hGn, b2⟩
  have hdN : N < d := by omega
  have T2 : Rx w N d G (0, H) w2 := ⟨D2, B0.out.below b2 (by omega), b0.out.trans (b2.mono (by omega))⟩
  clear D2 hd b2 B0 b0 R0 hs0
  go_wp2_with fail
  refine (rx_num hNw hdN hGn T2 2).mono ?_
  rintro x w3 ⟨rfl, T3, -⟩
  have e3 : decNum (0, H) 2 = (((val (H.take 2) : Nat) : Int), (0, H.drop 2)) := dec16 hb.out hl.out 0 2 (by omega) (by omega)
  rw [e3] at T3 ⊢
  clear T2 e3
  go_wp2_with fail
  refine (rx_num hNw hdN hGn T3 1).mono ?_
  rintro x w4 ⟨rfl, T4, -⟩
  have e4 : decNum (0, H.drop 2) 1 = (((hK H : Nat) : Int), (0, H.drop 3)) := dec16 hb.out hl.out 2 1 (by omega) (by omega)
  rw [e4] at T4 ⊢
  clear T3 e4
  go_wp2_with fail
  refine (rx_num hNw hdN hGn T4 1).mono ?_
  rintro x w5 ⟨rfl, T5, -⟩
  have e5 : decNum (0, H.drop 3) 1 = (((hZ H : Nat) : Int), (0, H.drop 4)) := dec16 hb.out hl.out 3 1 (by omega) (by omega)
  rw [e5] at T5 ⊢
  clear T4 e5
  go_wp2_with fail
  refine (rx_num hNw hdN hGn T5 4).mono ?_
  rintro x w6 ⟨rfl, T6, -⟩
  have e6 : decNum (0, H.drop 4) 4 = (((hG H : Nat) : Int), (0, H.drop 8)) := dec16 hb.out hl.out 4 4 (by omega) (by omega)
  rw [e6] at T6 ⊢
  clear T5 e6
  go_wp2_with fail
  refine (rx_num hNw hdN hGn T6 4).mono ?_
  rintro x w7 ⟨rfl, T7, -⟩
  have e7 : decNum (0, H.drop 8) 4 = (((hS H : Nat) : Int), (0, H.drop 12)) := dec16 hb.out hl.out 8 4 (by omega) (by omega)
  rw [e7] at T7 ⊢
  clear T6 e7
  have hd7 := T7.1.lt
  obtain ⟨T, hT⟩ : ∃ T, w7.heap.size = T := ⟨_, rfl⟩
  rw [hT] at hd7
  go_wp2_with fail
  have T8 : Rx w N d G (0, H.drop 12) (w7.alloc (.cells #[.int .i64 (hK H), .int .i64 (hG H), .int .i64 (hS H), .slice none 0 0] 56)) :=
    ⟨T7.1.below ((Below.refl _ _).alloc (Nat.le_refl _) _), T7.2.1.alloc _, T7.2.2.alloc (by have := T7.2.1.lt; omega) _⟩
  have F8 := Blk.new_at w7 56 #[.int .i64 (hK H), .int .i64 (hG H), .int .i64 (hS H), .slice none 0 0] T hT.symm
  generalize w7.alloc (.cells #[.int .i64 (hK H), .int .i64 (hG H), .int .i64 (hS H), .slice none 0 0] 56) = w8 at *
  clear T7 hT
  refine (rx_num hNw hdN hGn T8 4).mono ?_
  rintro x w9 ⟨rfl, T9, br9⟩
  have e9 : decNum (0, H.drop 12) 4 = (((hN H : Nat) : Int), (0, H.drop 16)) := dec16 hb.out hl.out 12 4 (by omega) (by omega)
  rw [e9] at T9 ⊢
  have F9 := F8.bar br9 (by rw [List.mem_singleton]; omega)
  have HO : Kept (RHeadPost H w (.returned (.tuple #[.agg #[.int .i64 (hK H), .int .i64 (hG H), .int .i64 (hS H), .slice none 0 0], .int .i64 (hN H), .bool (decide (val (H.take 2) = 25446 ∧ hZ H = 0 ∧ hN H ≤ 60000))])) (((((w9.setCell ⟨N, 0, none⟩ (.int .i64 (hK H))).setCell ⟨N, 1, none⟩ (.int .i64 (hG H))).setCell ⟨N, 2, none⟩ (.int .i64 (hS H))).setCell ⟨N, 3, none⟩ (.slice none 0 0)))) :=
    ⟨rfl, by rw [hNw]; exact T9.2.2.trans ((put4 T9.2.1 _ _ _ _).2.below (by have := T9.2.2.size; omega) (fun k hk => by rw [List.mem_singleton] at hk; omega))⟩
  have P4 := Kept.mk (put4 T9.2.1 (.int .i64 (hK H)) (.int .i64 (hG H)) (.int .i64 (hS H)) (.slice none 0 0)).1
  have f0 := F9.cell 0; have f1 := F9.cell 1; have f2 := F9.cell 2; have f3 := F9.cell 3
  have g0 := T9.2.1.cell 0; have g1 := T9.2.1.cell 1; have g2 := T9.2.1.cell 2; have g3 := T9.2.1.cell 3
  have z0 := T9.2.1.frozen 0; have z1 := T9.2.1.frozen 1; have z2 := T9.2.1.frozen 2; have z3 := T9.2.1.frozen 3
  clear T8 T9 F8 F9 br9 e9
  generalize val (H.take 2) = x1 at *
  generalize hZ H = x2 at *
  generalize hN H = x3 at *
  generalize hK H = x4 at *
  generalize hG H = x5 at *
  generalize hS H = x6 at *
  by_cases h1 : x1 = 25446
  · subst h1
    by_cases h2 : x2 = 0
    · subst h2
      by_cases h3 : x3 ≤ 60000
      · have h3' : (x3 : Int) ≤ 60000 := by omega
        rw [show decide (25446 = 25446 ∧ 0 = 0 ∧ x3 ≤ 60000) = true by simpa using h3] at HO
        go_wp2
        (try simp only [Exit.inBlock, Exit.then])
        refine bodyPost_ret (results_cell_two rfl _ _ N 56 #[.int .i64 x4, .int .i64 x5, .int .i64 x6, .slice none 0 0] (0, 0) _ rfl P4.out Tryz.underlying56 rfl frame_size) rfl ?_
        exact HO.out
      · have h3' : ¬ (x3 : Int) ≤ 60000 := by omega
        have h3d : decide ((x3 : Int) ≤ 60000) = false := by simpa using h3'
        rw [show decide (25446 = 25446 ∧ 0 = 0 ∧ x3 ≤ 60000) = false by simpa using h3] at HO
        go_wp2
        (try simp only [Exit.inBlock, Exit.then])
        refine bodyPost_ret (results_cell_two rfl _ _ N 56 #[.int .i64 x4, .int .i64 x5, .int .i64 x6, .slice none 0 0] (0, 0) _ rfl P4.out Tryz.underlying56 rfl frame_size) rfl ?_
        exact HO.out
    · have h2' : ¬ (x2 : Int) = 0 := by omega
      have h2d : ((x2 : Int) == 0) = false := by simpa using h2'
      rw [show decide (25446 = 25446 ∧ x2 = 0 ∧ x3 ≤ 60000) = false by simp [h2]] at HO
      go_wp2
      (try simp only [Exit.inBlock, Exit.then])
      refine bodyPost_ret (results_cell_two rfl _ _ N 56 #[.int .i64 x4, .int .i64 x5, .int .i64 x6, .slice none 0 0] (0, 0) _ rfl P4.out Tryz.underlying56 rfl frame_size) rfl ?_
      exact HO.out
  · have h1' : ¬ (x1 : Int) = 25446 := by omega
    have h1d : ((x1 : Int) == 25446) = false := by simpa using h1'
    rw [show decide (x1 = 25446 ∧ x2 = 0 ∧ x3 ≤ 60000) = false by simp [h1]] at HO
    go_wp2
    (try simp only [Exit.inBlock, Exit.then])
    refine bodyPost_ret (results_cell_two rfl _ _ N 56 #[.int .i64 x4, .int .i64 x5, .int .i64 x6, .slice none 0 0] (0, 0) _ rfl P4.out Tryz.underlying56 rfl frame_size) rfl ?_
    exact HO.out
end Go.Proofs.YtjlhnhkjgcbnnaaGreat.Frame

/-
  bytes.Equal.
-/



namespace Go.Proofs.YtjlhnhkjgcbnnaaGreat.Sha
open Go.RowKit

theorem conv_str_of {w : World} {A : Option Addr} {n : Nat} {xs : List Int} (r : Rd w A n xs) (c : Nat) (w' : World) (h : w = w') : (convert 38 9 (.slice A n c)).run Tryz.prog w' = .ok (.string (strOfNums xs)) w' := by
  subst h
  obtain ⟨h1, h2, h3⟩ := r
  rcases h3 with h3 | ⟨b, o, rfl, hc⟩
  · subst h3
    obtain rfl : xs = [] := List.eq_nil_of_length_eq_zero h1
    cases A with
    | none => exact run_convert_bytes_nil w _ _ Tryz.underlying38 Tryz.underlying5 0 c _ Tryz.underlying9
    | some a =>
      obtain ⟨b, o, s⟩ := a
      have hl : (loadCells ⟨b, o, s⟩ 0).run Tryz.prog w = .ok (([] : List Int).map (Value.int .u8)).toArray w := run_loadCells_list (P := Tryz.prog) w ⟨b, o, s⟩ [] (fun j v hj => by simp at hj)
      rw [run_convert_bytes_string w _ _ _ _ 0 c Tryz.underlying38 Tryz.underlying5 Tryz.underlying9, run_bytesToString w _ 0 c [] hl]
      rfl
  · exact run_convert_bytes_arg w _ _ Tryz.underlying38 Tryz.underlying5 b o n c xs h1 hc _ Tryz.underlying9
theorem strs_same {xs ys : List Int} (hx : Bytes xs) (hy : Bytes ys) : ((strOfNums xs).toList == (strOfNums ys).toList) = sameB xs ys := by
  rw [Lib.strOfNums_toList, Lib.strOfNums_toList]
  have hi : Lib.bytesOf xs = Lib.bytesOf ys ↔ xs = ys := by
    constructor
    · intro h1
      unfold Lib.bytesOf at h1
      induction xs generalizing ys with
      | nil =>
        cases ys with
        | nil => rfl
        | cons y ys => simp at h1
      | cons x xs ih =>
        cases ys with
        | nil => simp at h1
        | cons y ys =>
          rw [List.map_cons, List.map_cons, List.cons.injEq] at h1
          have hx0 := hx x (by simp)
          have hy0 := hy y (by simp)
          have h2 := congrArg UInt8.toNat h1.1
          simp only [UInt8.toNat_ofNat'] at h2
          have e : x = y := by omega
          rw [e, ih (fun z hz => hx z (by simp [hz])) (fun z hz => hy z (by simp [hz])) h1.2]
    · intro h; rw [h]
  unfold sameB
  rw [Bool.eq_iff_iff, beq_iff_eq, decide_eq_true_iff]
  exact hi

set_option maxRecDepth 100000 in
set_option maxHeartbeats 1000000 in
theorem bequal_any (A B : Option Addr) (n m c d : Nat) (xs ys : List Int) (w : World) (ha : Rd w A n xs) (hb : Rd w B m ys) :
    Calls Tryz.prog 76 #[.slice A n c, .slice B m d] w fun e w' => e = .returned (.bool (sameB xs ys)) ∧ w = w' := by
  have q1 := conv_str_of ha c w rfl
  have q2 := conv_str_of hb d w rfl
  have hi := Kept.mk (strs_same ha.2.1 hb.2.1)
  clear ha hb
  go_enter Tryz.func76, Tryz.ntmps76
  go_wp2
  go_ret
  exact ⟨by rw [← hi.out]; rfl, rfl⟩
end Go.Proofs.YtjlhnhkjgcbnnaaGreat.Sha

/-
  Package frame: Get.
-/





namespace Go.Proofs.YtjlhnhkjgcbnnaaGreat.Frame
open Go.RowKit Go.Proofs.YtjlhnhkjgcbnnaaGreat.Sha Go.Proofs.YtjlhnhkjgcbnnaaGreat.Wire

theorem lift_one {b : List Int} : liftOk b 1 = true ↔ 64 ≤ b.length ∧ at_ b 0 = 1 := by
  unfold liftOk
  rw [decide_eq_true_iff]
  constructor
  · rintro ⟨h1, h2⟩
    exact ⟨by omega, h2 0 (by omega)⟩
  · rintro ⟨h1, h2⟩
    refine ⟨by omega, fun i hi => ?_⟩
    obtain rfl : i = 0 := by omega
    exact h2
/-- what of Get lies in memory ahead of an answer: what is told in block N, the bytes, the table -/
def Gy (w0 : World) (t N : Nat) (A : Option Addr) (n : Nat) (b : List Int) (w : World) : Prop :=
  Blk w N 56 #[.int .i64 0, .int .i64 0, .int .i64 0, .slice none 0 0] ∧ Rd w A n b ∧ Tab w t ∧ Bar [t] w0 w ∧ w0.heap.size = N ∧ t < N ∧ ∀ F : List Nat, (∀ k ∈ F, N ≤ k) → Off A n F
theorem Gy.below {w0 : World} {t N : Nat} {A : Option Addr} {n : Nat} {b : List Int} {w w' : World} (h : Gy w0 t N A n b w) (k : Below w.heap.size w w') : Gy w0 t N A n b w' := by
  obtain ⟨h1, h2, h3, h4, h5, h6, h7⟩ := h
  exact ⟨h1.below k h1.lt, h2.below k, h3.below k h3.lt, h4.trans (barOf k []) (by simp), h5, h6, h7⟩
theorem Gy.tab {w0 : World} {t N : Nat} {A : Option Addr} {n : Nat} {b : List Int} {w w' : World} (h : Gy w0 t N A n b w) (k : Bar [t] w w') (kt : Tab w' t) : Gy w0 t N A n b w' := by
  obtain ⟨h1, h2, h3, h4, h5, h6, h7⟩ := h
  exact ⟨h1.bar k (by rw [List.mem_singleton]; omega), h2.tab h3 k, kt, h4.trans k (by simp), h5, h6, h7⟩
theorem Gy.set {w0 : World} {t N T : Nat} {A : Option Addr} {n : Nat} {b : List Int} {w : World} (h : Gy w0 t N A n b w) (hT : N < T) (i : Nat) (v : Value) : Gy w0 t N A n b (w.setCell ⟨T, i, none⟩ v) := by
  obtain ⟨h1, h2, h3, h4, h5, h6, h7⟩ := h
  have hb : Bar [T] w (w.setCell ⟨T, i, none⟩ v) := (Bar.refl _ _).setCell (by simp) _
  exact ⟨h1.bar hb (by rw [List.mem_singleton]; omega), h2.far hb (h7 _ (by intro k hk; rw [List.mem_singleton] at hk; omega)), h3.bar hb (by rw [List.mem_singleton]; omega), h4.trans hb (by intro x hx; rw [List.mem_singleton] at hx; omega), h5, h6, h7⟩
theorem Gy.size {w0 : World} {t N : Nat} {A : Option Addr} {n : Nat} {b : List Int} {w : World} (h : Gy w0 t N A n b w) : N < w.heap.size := h.1.lt
theorem gy_put {w0 : World} {t N : Nat} {A : Option Addr} {n : Nat} {b : List Int} {w : World} (h : Gy w0 t N A n b w) (v0 v1 v2 v3 : Value) :
    Tab ((((w.setCell ⟨N, 0, none⟩ v0).setCell ⟨N, 1, none⟩ v1).setCell ⟨N, 2, none⟩ v2).setCell ⟨N, 3, none⟩ v3) t ∧ Bar [t] w0 ((((w.setCell ⟨N, 0, none⟩ v0).setCell ⟨N, 1, none⟩ v1).setCell ⟨N, 2, none⟩ v2).setCell ⟨N, 3, none⟩ v3) := by
  obtain ⟨h1, h2, h3, h4, h5, h6, -⟩ := h
  have hb := (put4 h1 v0 v1 v2 v3).2
  exact ⟨h3.bar hb (by rw [List.mem_singleton]; omega), h4.trans hb (by intro x hx; rw [List.mem_singleton] at hx; omega)⟩
def noneV : Value := .tuple #[.agg #[.int .i64 0, .int .i64 0, .int .i64 0, .slice none 0 0], .int .i64 0, .int .i64 2]
theorem gy_no {w0 : World} {t N : Nat} {A : Option Addr} {n : Nat} {b : List Int} {w : World} (h : Gy w0 t N A n b w) (hk : ¬ codeOk b) :
    GetPost t (getF b) w0 (.returned (.tuple #[.agg #[.int .i64 0, .int .i64 0, .int .i64 0, .slice none 0 0], .int .i64 0, .int .i64 2])) ((((w.setCell ⟨N, 0, none⟩ (.int .i64 0)).setCell ⟨N, 1, none⟩ (.int .i64 0)).setCell ⟨N, 2, none⟩ (.int .i64 0)).setCell ⟨N, 3, none⟩ (.slice none 0 0)) := by
  have hp := gy_put h (.int .i64 0) (.int .i64 0) (.int .i64 0) (.slice none 0 0)
  rw [get_no h.2.1.2.1 hk]
  exact ⟨none, 0, 0, rfl, Nat.le_refl _, by unfold maxLen; omega, Rd.nil_, fun F _ => .inl rfl, hp.1, hp.2⟩

set_option maxRecDepth 100000 in
set_option maxHeartbeats 1000000 in
theorem cget_any (w : World) (t : Nat) (b : List Int) (A : Option Addr) (n c : Nat) (ht : Tab w t) (hr : Rd w A n b) (hc : n ≤ c) (hn : n ≤ 1000000) :
    Calls Tryz.prog 56 #[.pointer (some ⟨t, 0, none⟩), .slice A n c] w (GetPost t (getF b) w) := by
  obtain ⟨N, hN⟩ : ∃ N, w.heap.size = N := ⟨_, rfl⟩
  have htN : t < N := by rw [← hN]; exact ht.lt
  have hlen := hr.1
  have hby := Kept.mk hr.2.1
  have b1 : Below N w (w.alloc (.cells #[.int .i64 0, .int .i64 0, .int .i64 0, .slice none 0 0] 56)) := (Below.refl _ _).alloc (by omega) _
  have G1 : Kept (Gy w t N A n b (w.alloc (.cells #[.int .i64 0, .int .i64 0, .int .i64 0, .slice none 0 0] 56))) :=
    ⟨Blk.new_at _ _ _ _ hN.symm, hr.below (by rw [hN]; exact b1), ht.below b1 htN, barOf (hN.symm ▸ b1) _, hN, htN, fun F hF => hr.off (by rw [hN]; exact hF)⟩
  clear b1 ht hr
  go_enter Tryz.func56, Tryz.ntmps56
  go_wp2_with fail
  generalize w.alloc (.cells #[.int .i64 0, .int .i64 0, .int .i64 0, .slice none 0 0] 56) = w1 at *
  have c1 := lift_any A n c 1 b w1 G1.out.2.1 hc hn (by omega) (by omega)
  rw [show ((1 : Nat) : Int) = 1 from rfl] at c1
  refine c1.mono ?_
  clear c1
  rintro x w2 (⟨hok, A2, n2, c2, hn2, rfl, k1, k2, r2, -, b2⟩ | ⟨hok, rfl, b2⟩)
  · obtain ⟨hl64, hat0⟩ := lift_one.1 hok
    have G2 := Kept.mk (G1.out.below b2)
    obtain rfl : n2 = 63 := hn2
    have hs16 := slice_h_at A2 63 c2 16 (by omega) 16 rfl
    have c3 := Kept.mk (rhead_any A2 c2 (head0 b) w2 (r2.upto (m := 16) (by omega)))
    clear b2 r2 G1 hok
    go_wp2_with fail
    refine c3.out.mono ?_
    clear c3
    rintro x w3 ⟨rfl, b3⟩
    have G3 := Kept.mk (G2.out.below b3)
    rw [← fK_head, ← fG_head, ← fS_head, ← fN_head]
    clear b3 G2 hs16
    by_cases hh : headOk (head0 b)
    · rw [show decide (headOk (head0 b)) = true from decide_eq_true hh]
      have hq6 : fN b ≤ 60000 := by rw [fN_head]; exact hh.2.2
      have hSq := sOf_is hq6
      have hSi : sectorsF (fN b) = (sOf b : Int) := by unfold sOf; have : 0 ≤ sectorsF (fN b) := by unfold sectorsF; split <;> omega
                                                       omega
      have CK : Kept (codeOk b ↔ liftOk b (sOf b) = true ∧ sameB (((allF b (sOf b)).take 24).drop 16) ((sha ((allF b (sOf b)).take 16 ++ fB b)).take 8) = true ∧ blankB ((allF b (sOf b)).drop (24 + fN b)) = true) := ⟨by
        unfold codeOk liftOk sameB blankB
        rw [decide_eq_true_iff, decide_eq_true_iff, decide_eq_true_iff]
        constructor
        · rintro ⟨-, -, -, h4, h5, h6, h7⟩; exact ⟨⟨h4, h5⟩, h6, h7⟩
        · rintro ⟨⟨h4, h5⟩, h6, h7⟩; exact ⟨hl64, hat0, hh, h4, h5, h6, h7⟩⟩
      have hfb : ((allF b (sOf b)).take (24 + fN b)).drop 24 = fB b := rfl
      have HFB := Kept.mk hfb
      have GY := Kept.mk fun h => get_yes hby.out (b := b) h
      have cs := Kept.mk fun w => csectors_any (fN b) w
      rw [hSi] at cs
      have hS1 : 1 ≤ sOf b := by omega
      have hS9 : sOf b ≤ 1000 := by omega
      have HQ : Kept (24 + fN b ≤ 63 * sOf b) := ⟨by omega⟩
      have cl := Kept.mk fun (w4 : World) (h : Gy w t N A n b w4) => lift_any A n c (sOf b) b w4 h.2.1 hc hn hS1 (by omega)
      obtain ⟨T, hT⟩ : ∃ T, w3.heap.size = T := ⟨_, rfl⟩
      have hNT : N < T := by rw [← hT]; exact G3.out.size
      have G4 : Kept (Gy w t N A n b (w3.alloc (.cells #[.int .i64 (fK b), .int .i64 (fG b), .int .i64 (fS b), .slice none 0 0] 56))) := ⟨G3.out.below ((Below.refl _ _).alloc (Nat.le_refl _) _)⟩
      have F4 : Kept (Blk (w3.alloc (.cells #[.int .i64 (fK b), .int .i64 (fG b), .int .i64 (fS b), .slice none 0 0] 56)) T 56 #[.int .i64 (fK b), .int .i64 (fG b), .int .i64 (fS b), .slice none 0 0]) := ⟨Blk.new_at _ _ _ _ hT.symm⟩
      have hT4 : T < (w3.alloc (.cells #[.int .i64 (fK b), .int .i64 (fG b), .int .i64 (fS b), .slice none 0 0] 56)).heap.size := F4.out.lt
      clear hSq hSi hh hfb G3
      obtain ⟨q, hq⟩ : ∃ q, fN b = q := ⟨_, rfl⟩
      rw [hq] at CK HFB cs HQ hq6 ⊢
      obtain ⟨S, hSS⟩ : ∃ S, sOf b = S := ⟨_, rfl⟩
      rw [hSS] at CK HFB cs HQ cl hS1 hS9
      go_wp2_with fail
      generalize w3.alloc (.cells #[.int .i64 (fK b), .int .i64 (fG b), .int .i64 (fS b), .slice none 0 0] 56) = w4 at *
      refine (cs.out _).mono ?_
      clear cs
      rintro x w' ⟨rfl, rfl⟩
      go_wp2_with fail
      refine (cl.out _ G4.out).mono ?_
      clear cl
      rintro x w5 (⟨hok, A5, n5, c5, hn5, rfl, k1, k2, r5, of5, b5⟩ | ⟨hok, rfl, b5⟩)
      · rw [hok] at CK
        subst hn5
        have HX : Kept ((allF b S).length = 63 * S) := ⟨r5.1⟩
        have HQ2 := HQ.out
        obtain ⟨X, hX⟩ : ∃ X, allF b S = X := ⟨_, rfl⟩
        rw [hX] at CK HFB HX r5
        obtain ⟨A6, hs6, r6, of6⟩ := slice_lh r5 k1 16 24 (by omega) (by omega) 16 24 rfl rfl
        obtain ⟨A7, hs7, r7, of7⟩ := slice_lh r5 k1 24 (24 + q) (by omega) (by omega) 24 (24 + (q : Int)) rfl (by omega)
        obtain ⟨A8, hs8, r8, of8⟩ := slice_l r5 k1 (24 + q) (by omega) (24 + (q : Int)) (by omega)
        rw [HFB.out, Nat.add_sub_cancel_left] at r7
        rw [Nat.add_sub_cancel_left] at hs7 of7
        rw [show 24 - 16 = 8 from rfl] at hs6 r6 of6
        have hs5 := slice_h_at A5 (63 * S) c5 16 (by omega) 16 rfl
        have R5 := Kept.mk (r5.upto (m := 16) (by omega))
        have R6 := Kept.mk r6; have R7 := Kept.mk r7; have R8 := Kept.mk r8
        have of5T : Off A5 (63 * S) [T] := of5 [T] (by intro k hk; rw [List.mem_singleton] at hk; omega)
        have OF5 : Kept (Off A5 16 [T]) := ⟨by
          rcases of5T with h | h
          · omega
          · exact .inr h⟩
        have OF6 := Kept.mk (of6 _ of5T); have OF7T := Kept.mk (of7 _ of5T); have OF8 := Kept.mk (of8 _ of5T)
        have OF7 : Kept (∀ F : List Nat, (∀ k ∈ F, k < T) → Off A7 q F) := ⟨fun F hF => of7 F (of5 F (fun k hk => by have := hF k hk; omega))⟩
        have G5 := Kept.mk (G4.out.below b5)
        have F5 := Kept.mk (F4.out.below b5 hT4)
        have W24 : IntKind.i64.wrap (24 + (q : Int)) = 24 + q := by simp only [IntKind.wrap_i64]; omega
        clear r5 r6 r7 r8 of5 of6 of7 of8 of5T b5 G4 F4 hX hok
        go_wp2
        go_quiet (fail)
        have G6 : Kept (Gy w t N A n b (w5.drewN nq)) := ⟨G5.out.below (below_drewN (Below.refl _ _) _)⟩
        have F6 : Kept (Blk (w5.drewN nq) T 56 #[.int .i64 (fK b), .int .i64 (fG b), .int .i64 (fS b), .slice none 0 0]) := ⟨F5.out.drewN _⟩
        have R5a : Kept (Rd (w5.drewN nq) A5 16 (X.take 16)) := ⟨R5.out.below (below_drewN (Below.refl _ _) _)⟩
        have R6a : Kept (Rd (w5.drewN nq) A6 8 ((X.take 24).drop 16)) := ⟨R6.out.below (below_drewN (Below.refl _ _) _)⟩
        have R7a : Kept (Rd (w5.drewN nq) A7 q (fB b)) := ⟨R7.out.below (below_drewN (Below.refl _ _) _)⟩
        have R8a : Kept (Rd (w5.drewN nq) A8 (63 * S - (24 + q)) (X.drop (24 + q))) := ⟨R8.out.below (below_drewN (Below.refl _ _) _)⟩
        clear G5 F5 R5 R6 R7 R8
        generalize w5.drewN nq = w6 at *
        have f3 := F6.out.cell 3
        have y3 := F6.out.frozen 3
        have hb7 : Bar [T] w6 (w6.setCell ⟨T, 3, none⟩ (.slice A7 q (c5 - 24))) := (Bar.refl _ _).setCell (by simp) _
        have G7 := Kept.mk (G6.out.set hNT 3 (.slice A7 q (c5 - 24)))
        have F7 : Kept (Blk (w6.setCell ⟨T, 3, none⟩ (.slice A7 q (c5 - 24))) T 56 #[.int .i64 (fK b), .int .i64 (fG b), .int .i64 (fS b), .slice A7 q (c5 - 24)]) := ⟨F6.out.set_ 3 _⟩
        have R5 := Kept.mk (R5a.out.far hb7 OF5.out)
        have R6 := Kept.mk (R6a.out.far hb7 OF6.out)
        have R7 := Kept.mk (R7a.out.far hb7 OF7T.out)
        have R8 := Kept.mk (R8a.out.far hb7 OF8.out)
        have f7 := F7.out.cell 3
        clear hb7 R5a R6a R7a R8a G6 F6 OF5 OF6 OF7T OF8
        have c8 := Kept.mk (csum_any t A5 A7 16 c5 q (c5 - 24) (X.take 16) (fB b) (w6.setCell ⟨T, 3, none⟩ (.slice A7 q (c5 - 24))) G7.out.2.2.1 R5.out R7.out (by omega) k2 (by omega) (by omega) (by omega) (by omega))
        go_wp2_with fail
        refine c8.out.mono ?_
        clear c8 f3 y3 f7
        generalize w6.setCell ⟨T, 3, none⟩ (.slice A7 q (c5 - 24)) = w7 at *
        rintro x w8 ⟨M, rfl, hM, r8, t8, b8⟩
        have hTt : T ∉ [t] := by rw [List.mem_singleton]; omega
        have G8 := Kept.mk (G7.out.tab b8 t8)
        have F8 := Kept.mk (F7.out.bar b8 hTt)
        have R7b := Kept.mk (R7.out.tab G7.out.2.2.1 b8)
        have R8b := Kept.mk (R8.out.tab G7.out.2.2.1 b8)
        have c9 := Kept.mk (bequal_any A6 (some ⟨M, 0, none⟩) 8 8 (c5 - 16) 32 _ _ w8 (R6.out.tab G7.out.2.2.1 b8) r8)
        have c10 := Kept.mk (blank_any A8 (63 * S - (24 + q)) (c5 - (24 + q)) (X.drop (24 + q)) w8 R8b.out (by omega))
        clear r8 t8 b8 R5 R6 R7 R8 G7 F7 hTt R8b
        cases hsm : sameB ((X.take 24).drop 16) ((sha (X.take 16 ++ fB b)).take 8) with
        | false =>
          rw [hsm] at c9
          have hno : ¬ codeOk b := fun h => by
            have := (CK.out.1 h).2.1
            rw [hsm] at this
            cases this
          have GG := G8.out
          go_wp2_with fail
          refine c9.out.mono ?_
          rintro x w' ⟨rfl, rfl⟩
          clear c9 c10 hsm F8 R7b CK HFB GY HQ OF7 G8
          have P4 := Kept.mk (put4 GG.1 (.int .i64 0) (.int .i64 0) (.int .i64 0) (.slice none 0 0)).1
          have PF := Kept.mk (gy_no GG hno)
          have g0 := GG.1.cell 0; have g1 := GG.1.cell 1; have g2 := GG.1.cell 2; have g3 := GG.1.cell 3
          have z0 := GG.1.frozen 0; have z1 := GG.1.frozen 1; have z2 := GG.1.frozen 2; have z3 := GG.1.frozen 3
          clear GG hno HX
          go_wp2
          (try simp only [Exit.inBlock, Exit.then])
          refine bodyPost_ret (results_cell_two rfl _ _ N 56 #[.int .i64 0, .int .i64 0, .int .i64 0, .slice none 0 0] (0, 0) _ rfl P4.out Tryz.underlying56 rfl frame_size) rfl ?_
          exact PF.out
        | true =>
          rw [hsm] at c9
          cases hbl : blankB (X.drop (24 + q)) with
          | false =>
            rw [hbl] at c10
            have hno : ¬ codeOk b := fun h => by
              have := (CK.out.1 h).2.2
              rw [hbl] at this
              cases this
            have GG := G8.out
            go_wp2_with fail
            refine c9.out.mono ?_
            rintro x w' ⟨rfl, rfl⟩
            clear c9
            go_wp2_with fail
            refine c10.out.mono ?_
            rintro x w' ⟨rfl, rfl⟩
            clear c10 hsm hbl F8 R7b CK HFB GY HQ OF7 G8
            have P4 := Kept.mk (put4 GG.1 (.int .i64 0) (.int .i64 0) (.int .i64 0) (.slice none 0 0)).1
            have PF := Kept.mk (gy_no GG hno)
            have g0 := GG.1.cell 0; have g1 := GG.1.cell 1; have g2 := GG.1.cell 2; have g3 := GG.1.cell 3
            have z0 := GG.1.frozen 0; have z1 := GG.1.frozen 1; have z2 := GG.1.frozen 2; have z3 := GG.1.frozen 3
            clear GG hno HX
            go_wp2
            (try simp only [Exit.inBlock, Exit.then])
            refine bodyPost_ret (results_cell_two rfl _ _ N 56 #[.int .i64 0, .int .i64 0, .int .i64 0, .slice none 0 0] (0, 0) _ rfl P4.out Tryz.underlying56 rfl frame_size) rfl ?_
            exact PF.out
          | true =>
            rw [hbl] at c10
            have hyes : codeOk b := CK.out.2 ⟨by simp, hsm, hbl⟩
            have GG := G8.out
            have P4 := Kept.mk (put4 GG.1 (.int .i64 (fK b)) (.int .i64 (fG b)) (.int .i64 (fS b)) (.slice A7 q (c5 - 24)))
            have PF : Kept (GetPost t (getF b) w (.returned (.tuple #[.agg #[.int .i64 (fK b), .int .i64 (fG b), .int .i64 (fS b), .slice A7 q (c5 - 24)], .int .i64 S, .int .i64 0])) ((((w8.setCell ⟨N, 0, none⟩ (.int .i64 (fK b))).setCell ⟨N, 1, none⟩ (.int .i64 (fG b))).setCell ⟨N, 2, none⟩ (.int .i64 (fS b))).setCell ⟨N, 3, none⟩ (.slice A7 q (c5 - 24)))) := by
              refine ⟨?_⟩
              have hp := gy_put GG (.int .i64 (fK b)) (.int .i64 (fG b)) (.int .i64 (fS b)) (.slice A7 q (c5 - 24))
              rw [GY.out hyes, hSS]
              refine ⟨A7, q, c5 - 24, rfl, by have := HQ.out; omega, by unfold maxLen; omega, R7b.out.far P4.out.2 (OF7.out [N] (by intro k hk; rw [List.mem_singleton] at hk; omega)), fun F hF => OF7.out F (fun k hk => by have := hF k hk; omega), hp.1, hp.2⟩
            have g0 := GG.1.cell 0; have g1 := GG.1.cell 1; have g2 := GG.1.cell 2; have g3 := GG.1.cell 3
            have z0 := GG.1.frozen 0; have z1 := GG.1.frozen 1; have z2 := GG.1.frozen 2; have z3 := GG.1.frozen 3
            have t0 := F8.out.cell 0; have t1 := F8.out.cell 1; have t2 := F8.out.cell 2; have t3 := F8.out.cell 3
            clear hyes GG G8 F8 R7b CK HFB GY HQ OF7 hsm hbl HX
            go_wp2_with fail
            refine c9.out.mono ?_
            rintro x w' ⟨rfl, rfl⟩
            clear c9
            go_wp2_with fail
            refine c10.out.mono ?_
            rintro x w' ⟨rfl, rfl⟩
            clear c10
            go_wp2
            (try simp only [Exit.inBlock, Exit.then])
            refine bodyPost_ret (results_cell_two rfl _ _ N 56 #[.int .i64 (fK b), .int .i64 (fG b), .int .i64 (fS b), .slice A7 q (c5 - 24)] (0, 0) _ rfl P4.out.1 Tryz.underlying56 rfl frame_size) rfl ?_
            exact PF.out
      · have hno : ¬ codeOk b := fun h => by
          have := (CK.out.1 h).1
          rw [hok] at this
          cases this
        have GG := G4.out.below b5
        have P4 := Kept.mk (put4 GG.1 (.int .i64 0) (.int .i64 0) (.int .i64 0) (.slice none 0 0)).1
        have PF := Kept.mk (gy_no GG hno)
        have g0 := GG.1.cell 0; have g1 := GG.1.cell 1; have g2 := GG.1.cell 2; have g3 := GG.1.cell 3
        have z0 := GG.1.frozen 0; have z1 := GG.1.frozen 1; have z2 := GG.1.frozen 2; have z3 := GG.1.frozen 3
        clear GG hno G4 F4 b5 hok CK HFB GY HQ hS1 hS9 hq6
        go_wp2
        (try simp only [Exit.inBlock, Exit.then])
        refine bodyPost_ret (results_cell_two rfl _ _ N 56 #[.int .i64 0, .int .i64 0, .int .i64 0, .slice none 0 0] (0, 0) _ rfl P4.out Tryz.underlying56 rfl frame_size) rfl ?_
        exact PF.out
    · rw [show decide (headOk (head0 b)) = false from decide_eq_false hh]
      have hno : ¬ codeOk b := fun h => hh h.2.2.1
      obtain ⟨T, hT⟩ : ∃ T, w3.heap.size = T := ⟨_, rfl⟩
      have GG : Gy w t N A n b (w3.alloc (.cells #[.int .i64 (fK b), .int .i64 (fG b), .int .i64 (fS b), .slice none 0 0] 56)) := G3.out.below ((Below.refl _ _).alloc (Nat.le_refl _) _)
      have P4 := Kept.mk (put4 GG.1 (.int .i64 0) (.int .i64 0) (.int .i64 0) (.slice none 0 0)).1
      have PF := Kept.mk (gy_no GG hno)
      have g0 := GG.1.cell 0; have g1 := GG.1.cell 1; have g2 := GG.1.cell 2; have g3 := GG.1.cell 3
      have z0 := GG.1.frozen 0; have z1 := GG.1.frozen 1; have z2 := GG.1.frozen 2; have z3 := GG.1.frozen 3
      clear GG hno G3 hh
      go_wp2
      (try simp only [Exit.inBlock, Exit.then])
      refine bodyPost_ret (results_cell_two rfl _ _ N 56 #[.int .i64 0, .int .i64 0, .int .i64 0, .slice none 0 0] (0, 0) _ rfl P4.out Tryz.underlying56 rfl frame_size) rfl ?_
      exact PF.out
  · have hno : ¬ codeOk b := fun h => by
      have := lift_one.2 ⟨h.1, h.2.1⟩
      rw [hok] at this
      cases this
    have G2 := G1.out.below b2
    have P4 := Kept.mk (put4 G2.1 (.int .i64 0) (.int .i64 0) (.int .i64 0) (.slice none 0 0)).1
    have PF := Kept.mk (gy_no G2 hno)
    have g0 := G2.1.cell 0; have g1 := G2.1.cell 1; have g2 := G2.1.cell 2; have g3 := G2.1.cell 3
    have z0 := G2.1.frozen 0; have z1 := G2.1.frozen 1; have z2 := G2.1.frozen 2; have z3 := G2.1.frozen 3
    clear G1 G2 b2 hok hno
    go_wp2
    (try simp only [Exit.inBlock, Exit.then])
    refine bodyPost_ret (results_cell_two rfl _ _ N 56 #[.int .i64 0, .int .i64 0, .int .i64 0, .slice none 0 0] (0, 0) _ rfl P4.out Tryz.underlying56 rfl frame_size) rfl ?_
    exact PF.out
end Go.Proofs.YtjlhnhkjgcbnnaaGreat.Frame

/-
  Package frame meets its contracts.
-/



namespace Go.Proofs.YtjlhnhkjgcbnnaaGreat.Frame
open Go.RowKit Go.Proofs.YtjlhnhkjgcbnnaaGreat.Sha Go.Proofs.YtjlhnhkjgcbnnaaGreat.Wire

theorem api : FrameApi where
  sectors := csectors_any
  put := fun ht hr hc hcm _ _ => cput_any _ _ _ _ _ _ ht hr hc hcm
  get := fun ht hr hc _ hn _ => cget_any _ _ _ _ _ _ ht hr hc hn
end Go.Proofs.YtjlhnhkjgcbnnaaGreat.Frame

/-
  Chapter 6: what a disk is, as a value. No program in sight.
-/

namespace Go.Proofs.YtjlhnhkjgcbnnaaGreat.Disk
open Go.Proofs.YtjlhnhkjgcbnnaaGreat.Sha

/-- what a disk holds: each sector as it was written last, as it lasts; which are pending, rising; the fuse (-1: none); is it down? -/
structure DS where
  now : List (List Int)
  last : List (List Int)
  pend : List Nat
  fuse : Int
  down : Bool
def zeros64 : List Int := List.replicate 64 0
def rowOf (l : List (List Int)) (i : Nat) : List Int := l.getD i []
def newD (n : Nat) : DS := ⟨List.replicate n zeros64, List.replicate n zeros64, [], -1, false⟩
/-- has the fuse gone? -/
def burnD (s : DS) : Bool × DS := if s.fuse = 0 then (true, { s with down := true }) else if 0 < s.fuse then (false, { s with fuse := s.fuse - 1 }) else (false, s)
/-- one more that is pending -/
def ins (i : Nat) : List Nat → List Nat
  | [] => [i]
  | k :: l => if k < i then k :: ins i l else if k = i then k :: l else i :: k :: l
def noSector (s : DS) (i : Int) : Prop := i < 0 ∨ (s.now.length : Int) ≤ i
instance (s : DS) (i : Int) : Decidable (noSector s i) := by unfold noSector; infer_instance
def putD (s : DS) (i : Nat) (xs : List Int) : DS := { s with now := s.now.set i xs, pend := ins i s.pend }
def writeD (s : DS) (i : Int) (xs : List Int) : Int × DS :=
  if s.down = true then (13, s) else if noSector s i then (1, s) else if xs.length ≠ 64 then (2, s) else if (burnD s).1 = true then (13, (burnD s).2) else (0, putD (burnD s).2 i.toNat xs)
def readD (s : DS) (i : Int) : Int × List Int := if s.down = true then (13, []) else if noSector s i then (1, []) else (0, rowOf s.now i.toNat)
def keptD (s : DS) : DS := { s with last := s.now, pend := [] }
def syncD (s : DS) : Int × DS := if s.down = true then (13, s) else if (burnD s).1 = true then (13, (burnD s).2) else (0, keptD (burnD s).2)
def fuseD (s : DS) (n : Int) : DS := { s with fuse := if n < -1 then -1 else n }
/-- of those that are pending, from the k-th on: what is kept lasts, the others are as they lasted -/
def crashGo (keep : List Bool) : Nat → List Nat → List (List Int) × List (List Int) → List (List Int) × List (List Int)
  | _, [], p => p
  | k, i :: l, p => crashGo keep (k + 1) l (if keep.getD k false = true then (p.1, p.2.set i (rowOf p.1 i)) else (p.1.set i (rowOf p.2 i), p.2))
def crashD (s : DS) (keep : List Bool) : DS := ⟨(crashGo keep 0 s.pend (s.now, s.last)).1, (crashGo keep 0 s.pend (s.now, s.last)).2, [], -1, false⟩

def Sec (l : List Int) : Prop := l.length = 64 ∧ Bytes l
theorem sec_zeros : Sec zeros64 := ⟨by simp [zeros64], fun x hx => by have := List.eq_of_mem_replicate hx; omega⟩
/-- of n sectors, well formed -/
structure WF (n : Nat) (s : DS) : Prop where
  n1 : 1 ≤ n
  n2 : n ≤ 8192
  now : s.now.length = n
  last : s.last.length = n
  secs : ∀ i, i < n → Sec (rowOf s.now i) ∧ Sec (rowOf s.last i)
  pend : ∀ i ∈ s.pend, i < n
  rise : s.pend.Pairwise (· < ·)
  same : ∀ i, i < n → i ∉ s.pend → rowOf s.now i = rowOf s.last i
  fuse : -1 ≤ s.fuse ∧ s.fuse ≤ 9223372036854775807
theorem rowOf_replicate (n i : Nat) (h : i < n) : rowOf (List.replicate n zeros64) i = zeros64 := by simp [rowOf, h]
theorem rowOf_set (l : List (List Int)) (i j : Nat) (x : List Int) (h : j < l.length) : rowOf (l.set i x) j = if i = j then x else rowOf l j := by
  simp only [rowOf, List.getD_eq_getElem?_getD, List.getElem?_set]
  by_cases hij : i = j
  · subst hij; simp [h]
  · simp [hij]
theorem wf_new (n : Nat) (h1 : 1 ≤ n) (h2 : n ≤ 8192) : WF n (newD n) :=
  ⟨h1, h2, by simp [newD], by simp [newD], fun i hi => by simp only [newD]; rw [rowOf_replicate _ _ hi]; exact ⟨sec_zeros, sec_zeros⟩, by simp [newD], by simp [newD], fun _ _ _ => rfl, by simp [newD]⟩
theorem ins_mem (i j : Nat) (l : List Nat) : j ∈ ins i l ↔ j = i ∨ j ∈ l := by
  induction l with
  | nil => simp [ins]
  | cons k l ih =>
    unfold ins
    split
    · rw [List.mem_cons, ih, List.mem_cons]
      constructor
      · rintro (h | h | h) <;> simp [h]
      · rintro (h | h | h) <;> simp [h]
    · split
      · rename_i h; subst h
        rw [List.mem_cons]
        constructor
        · intro h; exact .inr h
        · rintro (h | h)
          · exact .inl h
          · exact h
      · rw [List.mem_cons]
theorem ins_rise (i : Nat) (l : List Nat) (h : l.Pairwise (· < ·)) : (ins i l).Pairwise (· < ·) := by
  induction l with
  | nil => simp [ins]
  | cons k l ih =>
    rw [List.pairwise_cons] at h
    unfold ins
    split
    · rename_i hk
      rw [List.pairwise_cons]
      refine ⟨fun j hj => ?_, ih h.2⟩
      rcases (ins_mem i j l).1 hj with h1 | h1
      · omega
      · exact h.1 j h1
    · split
      · exact List.pairwise_cons.2 h
      · rename_i hk hk2
        rw [List.pairwise_cons]
        refine ⟨fun j hj => ?_, List.pairwise_cons.2 h⟩
        rcases List.mem_cons.1 hj with h1 | h1
        · omega
        · have := h.1 j h1; omega
theorem wf_burn {n : Nat} {s : DS} (h : WF n s) : WF n (burnD s).2 := by
  unfold burnD
  split
  · exact ⟨h.n1, h.n2, h.now, h.last, h.secs, h.pend, h.rise, h.same, h.fuse⟩
  · split
    · have := h.fuse
      exact ⟨h.n1, h.n2, h.now, h.last, h.secs, h.pend, h.rise, h.same, by simp only; omega⟩
    · exact h
theorem burn_now (s : DS) : (burnD s).2.now = s.now := by unfold burnD; split; rfl; split <;> rfl
theorem burn_last (s : DS) : (burnD s).2.last = s.last := by unfold burnD; split; rfl; split <;> rfl
theorem burn_pend (s : DS) : (burnD s).2.pend = s.pend := by unfold burnD; split; rfl; split <;> rfl
theorem wf_put {n : Nat} {s : DS} (h : WF n s) (i : Nat) (xs : List Int) (hi : i < n) (hx : Sec xs) : WF n (putD s i xs) := by
  refine ⟨h.n1, h.n2, by simp [putD, h.now], h.last, fun j hj => ?_, fun j hj => ?_, ins_rise i _ h.rise, fun j hj hn => ?_, h.fuse⟩
  · simp only [putD]
    rw [rowOf_set _ _ _ _ (by rw [h.now]; exact hj)]
    split
    · exact ⟨hx, (h.secs j hj).2⟩
    · exact h.secs j hj
  · rcases (ins_mem i j s.pend).1 hj with h1 | h1
    · omega
    · exact h.pend j h1
  · simp only [putD] at hn ⊢
    rw [rowOf_set _ _ _ _ (by rw [h.now]; exact hj)]
    rw [ins_mem] at hn
    rw [if_neg (fun e => hn (.inl e.symm))]
    exact h.same j hj (fun hm => hn (.inr hm))
theorem wf_write {n : Nat} {s : DS} (h : WF n s) (i : Int) (xs : List Int) (hx : Bytes xs) : WF n (writeD s i xs).2 := by
  unfold writeD
  split
  · exact h
  · split
    · exact h
    · rename_i hi
      split
      · exact h
      · rename_i hl
        split
        · exact wf_burn h
        · unfold noSector at hi
          exact wf_put (wf_burn h) _ _ (by have := h.now; omega) ⟨by omega, hx⟩
theorem wf_kept {n : Nat} {s : DS} (h : WF n s) : WF n (keptD s) :=
  ⟨h.n1, h.n2, h.now, h.now, fun i hi => ⟨(h.secs i hi).1, (h.secs i hi).1⟩, by simp [keptD], by simp [keptD], fun _ _ _ => rfl, h.fuse⟩
theorem wf_sync {n : Nat} {s : DS} (h : WF n s) : WF n (syncD s).2 := by
  unfold syncD
  split
  · exact h
  · split
    · exact wf_burn h
    · exact wf_kept (wf_burn h)
theorem wf_fuse {n : Nat} {s : DS} (h : WF n s) (f : Int) (hf : f ≤ 9223372036854775807) : WF n (fuseD s f) :=
  ⟨h.n1, h.n2, h.now, h.last, h.secs, h.pend, h.rise, h.same, by simp only [fuseD]; split <;> omega⟩
/-- what lies between: the sectors of l are still to be gone through -/
structure Mid (n : Nat) (p : List (List Int) × List (List Int)) (l : List Nat) : Prop where
  a : p.1.length = n
  b : p.2.length = n
  secs : ∀ i, i < n → Sec (rowOf p.1 i) ∧ Sec (rowOf p.2 i)
  same : ∀ i, i < n → i ∉ l → rowOf p.1 i = rowOf p.2 i
def crash1 (keep : List Bool) (k i : Nat) (p : List (List Int) × List (List Int)) : List (List Int) × List (List Int) :=
  if keep.getD k false = true then (p.1, p.2.set i (rowOf p.1 i)) else (p.1.set i (rowOf p.2 i), p.2)
theorem crashGo_cons (keep : List Bool) (k i : Nat) (l : List Nat) (p : List (List Int) × List (List Int)) : crashGo keep k (i :: l) p = crashGo keep (k + 1) l (crash1 keep k i p) := rfl
theorem mid_step {n : Nat} {p : List (List Int) × List (List Int)} {i : Nat} {l : List Nat} (h : Mid n p (i :: l)) (keep : List Bool) (k : Nat) : Mid n (crash1 keep k i p) l := by
  unfold crash1
  split
  · refine ⟨h.a, by simp [h.b], fun j hj => ?_, fun j hj hn => ?_⟩
    · simp only; rw [rowOf_set _ _ _ _ (by rw [h.b]; exact hj)]
      split
      · rename_i e; subst e; exact ⟨(h.secs i hj).1, (h.secs i hj).1⟩
      · exact h.secs j hj
    · simp only; rw [rowOf_set _ _ _ _ (by rw [h.b]; exact hj)]
      split
      · rename_i e; subst e; rfl
      · rename_i e
        exact h.same j hj (fun hm => (List.mem_cons.1 hm).elim (fun h1 => e h1.symm) hn)
  · refine ⟨by simp [h.a], h.b, fun j hj => ?_, fun j hj hn => ?_⟩
    · simp only; rw [rowOf_set _ _ _ _ (by rw [h.a]; exact hj)]
      split
      · rename_i e; subst e; exact ⟨(h.secs i hj).2, (h.secs i hj).2⟩
      · exact h.secs j hj
    · simp only; rw [rowOf_set _ _ _ _ (by rw [h.a]; exact hj)]
      split
      · rename_i e; subst e; rfl
      · rename_i e
        exact h.same j hj (fun hm => (List.mem_cons.1 hm).elim (fun h1 => e h1.symm) hn)
theorem mid_go {n : Nat} (keep : List Bool) (l : List Nat) (k : Nat) (p : List (List Int) × List (List Int)) (h : Mid n p l) : Mid n (crashGo keep k l p) [] := by
  induction l generalizing k p with
  | nil => exact h
  | cons i l ih => rw [crashGo_cons]; exact ih _ _ (mid_step h keep k)
theorem wf_crash {n : Nat} {s : DS} (h : WF n s) (keep : List Bool) : WF n (crashD s keep) := by
  have m := mid_go keep s.pend 0 (s.now, s.last) ⟨h.now, h.last, h.secs, h.same⟩
  exact ⟨h.n1, h.n2, m.a, m.b, m.secs, by simp [crashD], by simp [crashD], fun i hi _ => m.same i hi (by simp), by simp [crashD]⟩
theorem read_len {n : Nat} {s : DS} (h : WF n s) (i : Int) : (readD s i).2.length ≤ 64 ∧ Bytes (readD s i).2 := by
  unfold readD
  split
  · exact ⟨by simp, fun x hx => by simp at hx⟩
  · split
    · exact ⟨by simp, fun x hx => by simp at hx⟩
    · rename_i hi
      unfold noSector at hi
      have := (h.secs i.toNat (by have := h.now; omega)).1
      exact ⟨by have := this.1; simp only; omega, this.2⟩
theorem ins_split (i : Nat) (l : List Nat) (k : Nat) (hk : k ≤ l.length) (h : ∀ j, j < k → l.getD j 0 < i) (h2 : k < l.length → ¬ l.getD k 0 < i) :
    ins i l = if k < l.length ∧ l.getD k 0 = i then l else l.take k ++ i :: l.drop k := by
  induction l generalizing k with
  | nil =>
    have hk0 : k = 0 := by simpa using hk
    subst hk0
    simp [ins]
  | cons x l ih =>
    cases k with
    | zero =>
      have hx : ¬ x < i := by simpa using h2 (by simp)
      unfold ins
      rw [if_neg hx]
      by_cases hxi : x = i
      · rw [if_pos hxi, if_pos ⟨by simp, by simpa using hxi⟩]
      · rw [if_neg hxi, if_neg (fun hc => hxi (by simpa using hc.2))]
        simp
    | succ k =>
      have hx : x < i := by simpa using h 0 (by omega)
      unfold ins
      rw [if_pos hx, ih k (by simpa using hk) (fun j hj => by simpa using h (j + 1) (by omega)) (fun hl => by simpa using h2 (by simpa using hl))]
      simp only [List.length_cons, Nat.add_lt_add_iff_right, List.getD_cons_succ, List.take_succ_cons, List.drop_succ_cons]
      split <;> simp
theorem ins_range (k : Nat) : ins k (List.range k) = List.range (k + 1) := by
  rw [ins_split k (List.range k) k (by simp) (fun j hj => by simp [hj]) (fun h => by simp at h)]
  rw [if_neg (fun hc => by simp at hc)]
  rw [List.take_of_length_le (by simp), List.drop_of_length_le (by simp), List.range_succ]
end Go.Proofs.YtjlhnhkjgcbnnaaGreat.Disk

/-
  Chapter 8: what a journal is, as a value, over a disk's value. No program in sight.
-/


namespace Go.Proofs.YtjlhnhkjgcbnnaaGreat.Journal
open Go.Proofs.YtjlhnhkjgcbnnaaGreat.Sha Go.Proofs.YtjlhnhkjgcbnnaaGreat.Disk Go.Proofs.YtjlhnhkjgcbnnaaGreat.Frame

/-- a journal: its half, Gen, is there a picture, which, the records, the sectors used, the next Seq, was it told ErrDown? -/
structure JV where
  half : Nat
  gen : Int
  has : Bool
  pict : List Int
  recs : List (List Int)
  pos : Nat
  seq : Int
  dead : Bool
/-- a half's sectors -/
def hn (s : DS) : Nat := s.now.length / 2
/-- a half's text, from a sector on -/
def textJ (s : DS) (half m : Nat) : List Int := cat (fun i => rowOf s.now (half * hn s + m + i)) (hn s - m)
def noJ : JV := ⟨0, 0, false, [], [], 0, 1, false⟩
/-- a half whose picture is newer -/
def headJ (s : DS) (half : Nat) (v : JV) : JV :=
  if (getF (textJ s half 0)).2.2 = 0 ∧ (getF (textJ s half 0)).1.kind = 1 ∧ (getF (textJ s half 0)).1.seq = 0 ∧ (v.has = false ∨ v.gen < (getF (textJ s half 0)).1.gen) then
    { v with half := half, gen := (getF (textJ s half 0)).1.gen, has := true, pict := (getF (textJ s half 0)).1.body, pos := (getF (textJ s half 0)).2.1.toNat }
  else v
/-- is there one more record? -/
def moreJ (s : DS) (v : JV) : Prop := (getF (textJ s v.half v.pos)).2.2 = 0 ∧ (getF (textJ s v.half v.pos)).1.kind = 2 ∧ (getF (textJ s v.half v.pos)).1.gen = v.gen ∧ (getF (textJ s v.half v.pos)).1.seq = v.seq
instance (s : DS) (v : JV) : Decidable (moreJ s v) := by unfold moreJ; infer_instance
def nextJ (s : DS) (v : JV) : JV := { v with recs := v.recs ++ [(getF (textJ s v.half v.pos)).1.body], pos := v.pos + (getF (textJ s v.half v.pos)).2.1.toNat, seq := v.seq + 1 }
def recsJ (s : DS) : Nat → JV → JV
  | 0, v => v
  | k + 1, v => if moreJ s v then recsJ s k (nextJ s v) else v
def openJ (s : DS) : JV := if s.down = true then { noJ with dead := true } else recsJ s (hn s) (headJ s 1 (headJ s 0 noJ))
def roomJ (s : DS) (v : JV) : Int := (hn s : Int) - v.pos
/-- sector i of what was laid -/
def piece (b : List Int) (i : Nat) : List Int := (b.drop (64 * i)).take 64
/-- sectors 1, 2, .. are written, till one is refused -/
def rowsJ (b : List Int) (home : Nat) : Nat → Nat → DS → Int × DS
  | 0, _, s => (0, s)
  | k + 1, i, s => if (writeD s (home + i : Nat) (piece b i)).1 = 0 then rowsJ b home k (i + 1) (writeD s (home + i : Nat) (piece b i)).2 else writeD s (home + i : Nat) (piece b i)
/-- go on, if all went well -/
def thenJ (r : Int × DS) (f : DS → Int × DS) : Int × DS := if r.1 = 0 then f r.2 else r
theorem then_ok {r : Int × DS} {s : DS} {f : DS → Int × DS} (h : r = (0, s)) : thenJ r f = f s := by subst h; rfl
theorem then_no {r : Int × DS} {s : DS} {f : DS → Int × DS} (h : r = (13, s)) : thenJ r f = (13, s) := by subst h; rfl
/-- the sectors behind the first, a Sync, if there are any; the first, a Sync -/
def layJ (s : DS) (home : Nat) (b : List Int) : Int × DS :=
  thenJ (thenJ (thenJ (rowsJ b home (b.length / 64 - 1) 1 s) fun s => if 64 < b.length then syncD s else (0, s)) fun s => writeD s (home : Nat) (piece b 0)) syncD
def deadJ (v : JV) : JV := { v with dead := true }
def recF (v : JV) (b : List Int) : FV := ⟨2, v.gen, v.seq, b⟩
def pictF (v : JV) (b : List Int) : FV := ⟨1, v.gen + 1, 0, b⟩
/-- Append -/
def appendJ (s : DS) (v : JV) (b : List Int) : Int × DS × JV :=
  if v.dead = true ∨ s.down = true then (13, s, deadJ v)
  else if (putF (recF v b)).1 ≠ 0 then ((putF (recF v b)).1, s, v)
  else if roomJ s v < ((putF (recF v b)).2.length / 64 : Nat) then (12, s, v)
  else
    let r := layJ s (v.half * hn s + v.pos) (putF (recF v b)).2
    if r.1 = 0 then (0, r.2, { v with recs := v.recs ++ [b], pos := v.pos + (putF (recF v b)).2.length / 64, seq := v.seq + 1 })
    else (r.1, r.2, deadJ v)
/-- Compact -/
def compactJ (s : DS) (v : JV) (b : List Int) : Int × DS × JV :=
  if v.dead = true ∨ s.down = true then (13, s, deadJ v)
  else if 60000 < b.length then (3, s, v)
  else if (putF (pictF v b)).1 ≠ 0 ∨ hn s < (putF (pictF v b)).2.length / 64 then (12, s, v)
  else
    let r := layJ s ((1 - v.half) * hn s) (putF (pictF v b)).2
    if r.1 = 0 then (0, r.2, ⟨1 - v.half, v.gen + 1, true, b, [], (putF (pictF v b)).2.length / 64, 1, v.dead⟩)
    else (r.1, r.2, deadJ v)
end Go.Proofs.YtjlhnhkjgcbnnaaGreat.Journal

/-
  Chapter 8, of values alone: what the sectors of a half hold, and what Open reads out of them.
-/

namespace Go.Proofs.YtjlhnhkjgcbnnaaGreat.Journal
open Go.Proofs.YtjlhnhkjgcbnnaaGreat.Sha Go.Proofs.YtjlhnhkjgcbnnaaGreat.Disk Go.Proofs.YtjlhnhkjgcbnnaaGreat.Frame

/-- how many sectors a body's frame has -/
def kF (b : List Int) : Nat := (24 + b.length + 62) / 63
theorem kF_secs (f : FV) : secs (textF f).length = kF f.body := by unfold secs kF; rw [textF_len]
theorem kF_pos (b : List Int) : 1 ≤ kF b := by unfold kF; omega
theorem sectorsF_kF {b : List Int} (h : b.length ≤ 60000) : (sectorsF b.length).toNat = kF b := by
  unfold sectorsF kF
  rw [if_neg (by omega)]
  omega
/-- sector m of a half -/
def row (s : DS) (half m : Nat) : List Int := rowOf s.now (half * hn s + m)
def FrAt (s : DS) (half m : Nat) (f : FV) : Prop := errF f = 0 ∧ m + kF f.body ≤ hn s ∧ ∀ i, i < kF f.body → row s half (m + i) = piece (laid (textF f)) i
theorem cat_add (X : Nat → List Int) (a b : Nat) : cat X (a + b) = cat X a ++ cat (fun i => X (a + i)) b := by
  induction b with
  | zero => simp [cat]
  | succ b ih => rw [← Nat.add_assoc, cat, ih, cat, List.append_assoc]
theorem text_split (s : DS) (half m k : Nat) (h : m + k ≤ hn s) : textJ s half m = cat (fun i => row s half (m + i)) k ++ textJ s half (m + k) := by
  unfold textJ row
  rw [show hn s - m = k + (hn s - (m + k)) by omega, cat_add]
  congr 1
  · exact cat_congr _ (fun i _ => by rw [Nat.add_assoc])
  · exact cat_congr _ (fun i _ => by congr 1; omega)
theorem text_end (s : DS) (half : Nat) : textJ s half (hn s) = [] := by unfold textJ; rw [Nat.sub_self]; rfl
theorem fr_text {s : DS} {half m : Nat} {f : FV} (h : FrAt s half m f) : textJ s half m = laid (textF f) ++ textJ s half (m + kF f.body) := by
  obtain ⟨-, h2, h3⟩ := h
  rw [text_split s half m _ h2, cat_congr (Y := fun i => ((laid (textF f)).drop (64 * i)).take 64) _ (fun i hi => h3 i hi), cat_pieces, List.take_of_length_le]
  rw [laid_len, kF_secs]; exact Nat.le_refl _
theorem fr_get {s : DS} {half m : Nat} {f : FV} (h : FrAt s half m f) : getF (textJ s half m) = (f, sectorsF f.body.length, 0) := by
  rw [fr_text h]
  exact get_put f _ h.1
/-- a sector that begins no frame of this Gen, or a later one -/
def Old (g : Int) (r : List Int) : Prop := at_ r 0 ≠ 1 ∨ ((fG r : Nat) : Int) < g
theorem text_first (s : DS) (half m : Nat) (hm : m < hn s) : textJ s half m = row s half m ++ textJ s half (m + 1) := by
  rw [text_split s half m 1 (by omega)]
  simp [cat]
theorem old_get {s : DS} {half m : Nat} {g : Int} (h64 : ∀ j, j < hn s → (row s half j).length = 64) (h : m < hn s → Old g (row s half m)) : (getF (textJ s half m)).2.2 = 0 → (getF (textJ s half m)).1.gen < g := by
  intro h0
  by_cases hm : m < hn s
  · have e := text_first s half m hm
    have hl := h64 m hm
    rcases h hm with h1 | h1
    · rw [get_mark] at h0
      · cases h0
      · rw [e, at_append_left (by omega)]; exact h1
    · have hg : fG (textJ s half m) = fG (row s half m) := by
        unfold fG h14
        rw [e, List.take_append_of_le_length (by omega)]
      unfold getF at h0 ⊢
      split
      · show ((fG (textJ s half m) : Nat) : Int) < g
        rw [hg]; exact h1
      · rename_i hk; rw [if_neg hk] at h0; cases h0
  · have hz : textJ s half m = [] := by unfold textJ; rw [show hn s - m = 0 by omega]; rfl
    rw [hz] at h0
    unfold getF at h0
    rw [if_neg (fun hk => by have := hk.1; simp at this)] at h0
    cases h0
/-- records, one behind the other -/
def Chain (s : DS) (half : Nat) (gen : Int) : Nat → Int → List (List Int) → Nat → Prop
  | m, _, [], e => m = e
  | m, q, b :: l, e => FrAt s half m ⟨2, gen, q, b⟩ ∧ Chain s half gen (m + kF b) (q + 1) l e
theorem Chain.le {s : DS} {half : Nat} {gen : Int} {l : List (List Int)} : ∀ {m : Nat} {q : Int} {e : Nat}, Chain s half gen m q l e → m + l.length ≤ e := by
  induction l with
  | nil => intro m q e h; simp only [Chain] at h; simp; omega
  | cons b l ih =>
    intro m q e h
    have := ih h.2
    have := kF_pos b
    simp only [List.length_cons]
    omega
theorem Chain.snoc {s : DS} {half : Nat} {gen : Int} {b : List Int} {l : List (List Int)} : ∀ {m : Nat} {q : Int} {e : Nat}, Chain s half gen m q l e → FrAt s half e ⟨2, gen, q + l.length, b⟩ → Chain s half gen m q (l ++ [b]) (e + kF b) := by
  induction l with
  | nil =>
    intro m q e h k
    simp only [Chain] at h
    subst h
    refine ⟨?_, rfl⟩
    simpa using k
  | cons c l ih =>
    intro m q e h k
    refine ⟨h.1, ih h.2 ?_⟩
    rw [show q + 1 + (l.length : Int) = q + ((c :: l).length : Nat) by simp only [List.length_cons]; omega]
    exact k
theorem FrAt.same {s s' : DS} {half m : Nat} {f : FV} (h : FrAt s half m f) (hh : hn s' = hn s) (hr : ∀ j, m ≤ j → j < m + kF f.body → row s' half j = row s half j) : FrAt s' half m f :=
  ⟨h.1, by rw [hh]; exact h.2.1, fun i hi => by rw [hr _ (by omega) (by omega)]; exact h.2.2 i hi⟩
theorem Chain.same {s s' : DS} {half : Nat} {gen : Int} {l : List (List Int)} (hh : hn s' = hn s) : ∀ {m : Nat} {q : Int} {e : Nat}, Chain s half gen m q l e → (∀ j, m ≤ j → j < e → row s' half j = row s half j) → Chain s' half gen m q l e := by
  induction l with
  | nil => intro m q e h _; exact h
  | cons b l ih =>
    intro m q e h hr
    have hle := h.2.le
    exact ⟨h.1.same hh (fun j h1 h2 => hr j h1 (by simp only at h2; omega)), ih h.2 (fun j h1 h2 => hr j (by omega) h2)⟩
/-- Open goes through the records -/
theorem recs_run {s : DS} {half : Nat} {gen : Int} {l : List (List Int)} : ∀ {v : JV} {e fuel : Nat}, v.half = half → v.gen = gen → Chain s half gen v.pos v.seq l e → l.length ≤ fuel → ¬ moreJ s { v with pos := e, seq := v.seq + l.length } →
    recsJ s fuel v = { v with recs := v.recs ++ l, pos := e, seq := v.seq + l.length } := by
  induction l with
  | nil =>
    intro v e fuel h1 h2 h3 _ h5
    simp only [Chain] at h3
    subst h3
    have hv : ({ v with pos := v.pos, seq := v.seq + (([] : List (List Int)).length : Nat) } : JV) = v := by cases v; simp
    have hv2 : ({ v with recs := v.recs ++ [], pos := v.pos, seq := v.seq + (([] : List (List Int)).length : Nat) } : JV) = v := by cases v; simp
    rw [hv] at h5
    rw [hv2]
    cases fuel with
    | zero => rfl
    | succ k => unfold recsJ; rw [if_neg h5]
  | cons b l ih =>
    intro v e fuel h1 h2 h3 h4 h5
    cases fuel with
    | zero => simp at h4
    | succ k =>
      obtain ⟨f1, f2⟩ := h3
      have hg := fr_get f1
      have hb := (errF_ok f1.1).1
      have hm : moreJ s v := by
        unfold moreJ
        rw [h1, hg]
        exact ⟨rfl, rfl, h2.symm, rfl⟩
      have hn : nextJ s v = { v with recs := v.recs ++ [b], pos := v.pos + kF b, seq := v.seq + 1 } := by
        unfold nextJ
        rw [h1, hg]
        simp only [sectorsF_kF hb]
      unfold recsJ
      rw [if_pos hm, hn, ih (v := { v with recs := v.recs ++ [b], pos := v.pos + kF b, seq := v.seq + 1 }) h1 h2 f2 (by simpa using h4) ?_]
      · simp only [List.append_assoc, List.singleton_append, List.length_cons]
        congr 1
        omega
      · simp only [List.length_cons] at h5 ⊢
        rw [show v.seq + 1 + (l.length : Int) = v.seq + ((l.length + 1 : Nat) : Int) by omega]
        exact h5
/-- what the sectors hold of a journal -/
structure Keeps (n : Nat) (s : DS) (v : JV) : Prop where
  wf : WF n s
  half : v.half = 0 ∨ v.half = 1
  start : (v.has = false ∧ v.half = 0 ∧ v.gen = 0 ∧ v.pict = [] ∧ Chain s 0 0 0 1 v.recs v.pos) ∨ (v.has = true ∧ 1 ≤ v.gen ∧ FrAt s v.half 0 ⟨1, v.gen, 0, v.pict⟩ ∧ Chain s v.half v.gen (kF v.pict) 1 v.recs v.pos)
  seq : v.seq = 1 + v.recs.length
  pos : v.pos ≤ hn s
  low : ∀ m, m < v.pos → Old (v.gen + 1) (row s v.half m)
  high : ∀ m, v.pos ≤ m → m < hn s → Old v.gen (row s v.half m)
  other : ∀ m, m < hn s → Old v.gen (row s (1 - v.half) m)
theorem wf_hn {n : Nat} {s : DS} (h : WF n s) : hn s = n / 2 := by unfold hn; rw [h.now]
theorem row_len {n : Nat} {s : DS} (h : WF n s) (half : Nat) (hh : half = 0 ∨ half = 1) (j : Nat) (hj : j < hn s) : (row s half j).length = 64 := by
  have := wf_hn h
  refine ((h.secs _ ?_).1).1
  rcases hh with rfl | rfl <;> omega
theorem head_no {s : DS} {half : Nat} {v : JV} (h : ¬ ((getF (textJ s half 0)).2.2 = 0 ∧ (getF (textJ s half 0)).1.kind = 1 ∧ (getF (textJ s half 0)).1.seq = 0 ∧ (v.has = false ∨ v.gen < (getF (textJ s half 0)).1.gen))) : headJ s half v = v := by
  unfold headJ; rw [if_neg h]
theorem gen_nonneg {b : List Int} (h : (getF b).2.2 = 0) : 0 ≤ (getF b).1.gen := by
  unfold getF at h ⊢
  split
  · show (0 : Int) ≤ ((fG b : Nat) : Int); omega
  · rename_i hk; rw [if_neg hk] at h; cases h
/-- Open tells what the sectors hold -/
theorem Keeps.open_is {n : Nat} {s : DS} {v : JV} (h : Keeps n s v) (hd : s.down = false) : openJ s = { v with dead := false } := by
  have h64 := fun half hh => row_len h.wf half hh
  have hmore : ∀ q : Int, ¬ moreJ s ⟨v.half, v.gen, v.has, v.pict, [], v.pos, q, false⟩ := fun q hm => by
    have hl := old_get (s := s) (half := v.half) (m := v.pos) (g := v.gen) (h64 _ h.half) (fun hm => h.high _ (Nat.le_refl _) hm) hm.1
    have := hm.2.2.1
    simp only at this
    omega
  unfold openJ
  rw [if_neg (by rw [hd]; decide)]
  have fin : ∀ p : Nat, Chain s v.half v.gen p 1 v.recs v.pos → recsJ s (hn s) ⟨v.half, v.gen, v.has, v.pict, [], p, 1, false⟩ = { v with dead := false } := fun p hc => by
    have hle := hc.le
    have := h.pos
    rw [recs_run (v := ⟨v.half, v.gen, v.has, v.pict, [], p, 1, false⟩) rfl rfl hc (by omega) (hmore _)]
    simp only [List.nil_append, ← h.seq]
  rcases h.start with ⟨a1, a2, a3, a4, a5⟩ | ⟨a1, a2, a3, a4⟩
  · have e0 : headJ s 0 noJ = noJ := head_no (fun hc => by
      cases hr : v.recs with
      | nil =>
        rw [hr] at a5
        have hl := old_get (s := s) (half := 0) (m := 0) (g := v.gen) (h64 _ (.inl rfl)) (fun hm => by have := h.high 0 (by simp only [Chain] at a5; omega) hm; rwa [a2] at this) hc.1
        have := gen_nonneg hc.1
        omega
      | cons b l =>
        rw [hr] at a5
        have := hc.2.1
        rw [fr_get a5.1] at this
        cases this)
    have e1 : headJ s 1 noJ = noJ := head_no (fun hc => by
      have hl := old_get (s := s) (half := 1) (m := 0) (g := v.gen) (h64 _ (.inr rfl)) (fun hm => by have := h.other 0 hm; rwa [a2] at this) hc.1
      have := gen_nonneg hc.1
      omega)
    rw [e0, e1]
    have := fin 0 (by rw [a2, a3]; exact a5)
    rw [← this, a1, a2, a3, a4]
    rfl
  · have hg := fr_get a3
    have hb := (errF_ok a3.1).1
    have hk : (sectorsF ((v.pict.length : Nat) : Int)).toNat = kF v.pict := sectorsF_kF hb
    have hF : ∀ x : JV, x.recs = [] → x.seq = 1 → x.dead = false → (x.has = false ∨ x.gen < v.gen) → headJ s v.half x = ⟨v.half, v.gen, v.has, v.pict, [], kF v.pict, 1, false⟩ := fun x x1 x2 x3 x4 => by
      unfold headJ
      rw [hg, if_pos ⟨rfl, rfl, rfl, x4⟩]
      simp only [hk, x1, x2, x3, a1]
    rw [← fin _ a4]
    congr 1
    rcases h.half with hh | hh
    · have e0 := hF noJ rfl rfl rfl (.inl rfl)
      rw [hh] at e0
      rw [e0, hh]
      refine head_no (fun hc => ?_)
      have hl := old_get (s := s) (half := 1) (m := 0) (g := v.gen) (h64 _ (.inr rfl)) (fun hm => by have := h.other 0 hm; rwa [hh] at this) hc.1
      rcases hc.2.2.2 with hx | hx
      · simp only [a1] at hx; cases hx
      · simp only at hx; omega
    · have e1 := hF (headJ s 0 noJ)
      rw [hh] at e1
      rw [hh]
      refine e1 ?_ ?_ ?_ ?_
      · unfold headJ; split <;> rfl
      · unfold headJ; split <;> rfl
      · unfold headJ; split <;> rfl
      · by_cases hc : (getF (textJ s 0 0)).2.2 = 0 ∧ (getF (textJ s 0 0)).1.kind = 1 ∧ (getF (textJ s 0 0)).1.seq = 0 ∧ (noJ.has = false ∨ noJ.gen < (getF (textJ s 0 0)).1.gen)
        · have hl := old_get (s := s) (half := 0) (m := 0) (g := v.gen) (h64 _ (.inl rfl)) (fun hm => by have := h.other 0 hm; rwa [hh] at this) hc.1
          unfold headJ
          rw [if_pos hc]
          exact .inr hl
        · rw [head_no hc]; exact .inl rfl
end Go.Proofs.YtjlhnhkjgcbnnaaGreat.Journal

/-
  Chapter 8, of values alone: what is laid, wherever the power goes.
-/

namespace Go.Proofs.YtjlhnhkjgcbnnaaGreat.Journal
open Go.Proofs.YtjlhnhkjgcbnnaaGreat.Sha Go.Proofs.YtjlhnhkjgcbnnaaGreat.Disk Go.Proofs.YtjlhnhkjgcbnnaaGreat.Frame

theorem burn_two (s : DS) : ((burnD s).1 = true ∨ (burnD s).1 = false ∧ (burnD s).2.down = s.down) := by
  unfold burnD
  split
  · exact .inl rfl
  · split <;> exact .inr ⟨rfl, rfl⟩
/-- a Write of a sector that is there: refused for want of power, or done -/
theorem write_two {n : Nat} {s : DS} (h : WF n s) (hd : s.down = false) {j : Nat} (hj : j < n) {x : List Int} (hx : Sec x) : ∃ t, WF n t ∧ t.last = s.last ∧
    ((writeD s (j : Nat) x = (13, t) ∧ t.now = s.now ∧ t.pend = s.pend ∧ s.fuse ≠ -1) ∨ (writeD s (j : Nat) x = (0, t) ∧ t.now = s.now.set j x ∧ t.pend = ins j s.pend ∧ t.down = false ∧ (s.fuse = -1 → t.fuse = -1))) := by
  have hw := wf_write h (j : Int) x hx.2
  have hns : ¬ noSector s (j : Int) := by unfold noSector; have := h.now; omega
  have hl : ¬ x.length ≠ 64 := by have := hx.1; omega
  unfold writeD at hw ⊢
  rw [if_neg (by rw [hd]; decide), if_neg hns, if_neg hl] at hw ⊢
  rcases burn_two s with hb | ⟨hb, hb2⟩
  · rw [if_pos hb] at hw ⊢
    refine ⟨_, hw, burn_last s, .inl ⟨rfl, burn_now s, burn_pend s, fun hf => ?_⟩⟩
    unfold burnD at hb
    rw [hf] at hb
    simp at hb
  · rw [if_neg (by rw [hb]; decide)] at hw ⊢
    refine ⟨_, hw, burn_last s, .inr ⟨rfl, ?_, ?_, ?_, fun hf => ?_⟩⟩
    · show (burnD s).2.now.set _ x = _; rw [burn_now]; rfl
    · show ins _ (burnD s).2.pend = _; rw [burn_pend]; rfl
    · show (burnD s).2.down = false; rw [hb2]; exact hd
    · show (burnD s).2.fuse = -1
      unfold burnD
      rw [hf]; exact hf
theorem sync_two {n : Nat} {s : DS} (h : WF n s) (hd : s.down = false) : ∃ t, WF n t ∧ t.now = s.now ∧
    ((syncD s = (13, t) ∧ t.last = s.last ∧ t.pend = s.pend ∧ s.fuse ≠ -1) ∨ (syncD s = (0, t) ∧ t.last = s.now ∧ t.pend = [] ∧ t.down = false ∧ (s.fuse = -1 → t.fuse = -1))) := by
  have hw := wf_sync h
  unfold syncD at hw ⊢
  rw [if_neg (by rw [hd]; decide)] at hw ⊢
  rcases burn_two s with hb | ⟨hb, hb2⟩
  · rw [if_pos hb] at hw ⊢
    refine ⟨_, hw, burn_now s, .inl ⟨rfl, burn_last s, burn_pend s, fun hf => ?_⟩⟩
    unfold burnD at hb
    rw [hf] at hb
    simp at hb
  · rw [if_neg (by rw [hb]; decide)] at hw ⊢
    refine ⟨_, hw, burn_now s, .inr ⟨rfl, ?_, rfl, ?_, fun hf => ?_⟩⟩
    · show (burnD s).2.now = _; exact burn_now s
    · show (burnD s).2.down = false; rw [hb2]; exact hd
    · show (burnD s).2.fuse = -1
      unfold burnD
      rw [hf]; exact hf
/-- of s0: the sectors home + 1 .. home + k - 1 may be new, in each of the two; the rest is as it was -/
structure Torn (n : Nat) (s0 : DS) (b : List Int) (home k : Nat) (s : DS) : Prop where
  wf : WF n s
  out : ∀ j, j < n → (j ≤ home ∨ home + k ≤ j) → rowOf s.now j = rowOf s0.now j ∧ rowOf s.last j = rowOf s0.now j
  mid : ∀ j, j < n → (rowOf s.now j = rowOf s0.now j ∨ rowOf s.now j = piece b (j - home)) ∧ (rowOf s.last j = rowOf s0.now j ∨ rowOf s.last j = piece b (j - home))
theorem Torn.same {n : Nat} {s0 s t : DS} {b : List Int} {home k : Nat} (h : Torn n s0 b home k s) (w : WF n t) (e1 : t.now = s.now) (e2 : t.last = s.last) : Torn n s0 b home k t :=
  ⟨w, fun j hj ho => by rw [e1, e2]; exact h.out j hj ho, fun j hj => by rw [e1, e2]; exact h.mid j hj⟩
theorem Torn.put {n : Nat} {s0 s t : DS} {b : List Int} {home k i : Nat} (h : Torn n s0 b home k s) (w : WF n t) (hi : 1 ≤ i ∧ i < k) (e1 : t.now = s.now.set (home + i) (piece b i)) (e2 : t.last = s.last) : Torn n s0 b home k t := by
  refine ⟨w, fun j hj ho => ?_, fun j hj => ?_⟩
  · rw [e1, e2, rowOf_set _ _ _ _ (by rw [h.wf.now]; exact hj), if_neg (by omega)]
    exact h.out j hj ho
  · rw [e1, e2, rowOf_set _ _ _ _ (by rw [h.wf.now]; exact hj)]
    refine ⟨?_, (h.mid j hj).2⟩
    split
    · rename_i e; subst e; right; congr 1; omega
    · exact (h.mid j hj).1
theorem piece_sec {b : List Int} {k i : Nat} (hb : Bytes b) (hl : b.length = 64 * k) (hi : i < k) : Sec (piece b i) :=
  ⟨by unfold piece; rw [List.length_take, List.length_drop]; omega, (hb.drop _).take _⟩
/-- the sectors behind the first: refused somewhere, or all new -/
theorem rows_two {n : Nat} {s0 : DS} {b : List Int} {home k : Nat} (hb : Bytes b) (hl : b.length = 64 * k) (hh : home + k ≤ n) : ∀ (m i : Nat) (s : DS), 1 ≤ i → i + m = k → Torn n s0 b home k s → s.down = false → (∀ j, 1 ≤ j → j < i → rowOf s.now (home + j) = piece b j) →
    ∃ t, Torn n s0 b home k t ∧ ((rowsJ b home m i s = (13, t) ∧ s.fuse ≠ -1) ∨ (rowsJ b home m i s = (0, t) ∧ t.down = false ∧ (∀ j, 1 ≤ j → j < k → rowOf t.now (home + j) = piece b j) ∧ (s.fuse = -1 → t.fuse = -1)))
  | 0, i, s, h1, h2, h3, h4, h5 => ⟨s, h3, .inr ⟨rfl, h4, fun j a c => h5 j a (by omega), id⟩⟩
  | m + 1, i, s, h1, h2, h3, h4, h5 => by
    obtain ⟨t, w, e1, h | h⟩ := write_two h3.wf h4 (j := home + i) (by omega) (piece_sec hb hl (i := i) (by omega))
    · refine ⟨t, h3.same w h.2.1 e1, .inl ⟨?_, h.2.2.2⟩⟩
      unfold rowsJ
      rw [h.1, if_neg (by simp)]
    · have hT := h3.put w ⟨h1, by omega⟩ h.2.1 e1
      obtain ⟨t', k1, k2⟩ := rows_two hb hl hh m (i + 1) t (by omega) (by omega) hT h.2.2.2.1 (fun j a c => by
        rw [h.2.1, rowOf_set _ _ _ _ (by rw [h3.wf.now]; omega)]
        split
        · congr 1; omega
        · exact h5 j a (by omega))
      refine ⟨t', k1, ?_⟩
      unfold rowsJ
      rw [h.1, if_pos rfl]
      rcases k2 with k2 | k2
      · exact .inl ⟨k2.1, fun hf => k2.2 (h.2.2.2.2 hf)⟩
      · exact .inr ⟨k2.1, k2.2.1, k2.2.2.1, fun hf => k2.2.2.2 (h.2.2.2.2 hf)⟩
/-- all new, but the first in what lasts, perhaps -/
structure Whole (n : Nat) (s0 : DS) (b : List Int) (home k : Nat) (s : DS) : Prop where
  wf : WF n s
  out : ∀ j, j < n → (j < home ∨ home + k ≤ j) → rowOf s.now j = rowOf s0.now j ∧ rowOf s.last j = rowOf s0.now j
  now : ∀ i, i < k → rowOf s.now (home + i) = piece b i
  last : ∀ i, 1 ≤ i → i < k → rowOf s.last (home + i) = piece b i
  first : rowOf s.last home = rowOf s0.now home ∨ rowOf s.last home = piece b 0
/-- what Append and Compact do to the disk: torn, and told ErrDown; or whole -/
theorem lay_two {n : Nat} {s0 : DS} {b : List Int} {home k : Nat} (h : WF n s0) (hp : s0.pend = []) (hd : s0.down = false) (hb : Bytes b) (hl : b.length = 64 * k) (hk : 1 ≤ k) (hh : home + k ≤ n) :
    ∃ t, (layJ s0 home b = (13, t) ∧ s0.fuse ≠ -1 ∧ (Torn n s0 b home k t ∨ Whole n s0 b home k t)) ∨ (layJ s0 home b = (0, t) ∧ Whole n s0 b home k t ∧ rowOf t.last home = piece b 0 ∧ t.pend = [] ∧ t.down = false ∧ (s0.fuse = -1 → t.fuse = -1)) := by
  have T0 : Torn n s0 b home k s0 := ⟨h, fun j hj _ => ⟨rfl, (h.same j hj (by rw [hp]; simp)).symm⟩, fun j hj => ⟨.inl rfl, .inl (h.same j hj (by rw [hp]; simp)).symm⟩⟩
  have hdiv : b.length / 64 - 1 = k - 1 := by omega
  obtain ⟨t1, k1, k2⟩ := rows_two hb hl hh (k - 1) 1 s0 (by omega) (by omega) T0 hd (fun j a c => by omega)
  unfold layJ
  rw [hdiv]
  rcases k2 with ⟨e1, f1⟩ | ⟨e1, d1, a1, f1⟩
  · exact ⟨t1, .inl ⟨by rw [then_no (then_no (then_no e1))], f1, .inl k1⟩⟩
  · rw [then_ok e1]
    -- the first Sync, if there are any
    have S : ∃ t2, Torn n s0 b home k t2 ∧ (((if 64 < b.length then syncD t1 else (0, t1)) = (13, t2) ∧ s0.fuse ≠ -1) ∨ ((if 64 < b.length then syncD t1 else (0, t1)) = (0, t2) ∧ t2.down = false ∧ (∀ j, 1 ≤ j → j < k → rowOf t2.now (home + j) = piece b j ∧ rowOf t2.last (home + j) = piece b j) ∧ (s0.fuse = -1 → t2.fuse = -1))) := by
      by_cases h64 : 64 < b.length
      · rw [if_pos h64]
        obtain ⟨t2, w, e2, g | g⟩ := sync_two k1.wf d1
        · exact ⟨t2, k1.same w e2 g.2.1, .inl ⟨g.1, fun hf => g.2.2.2 (f1 hf)⟩⟩
        · refine ⟨t2, ⟨w, fun j hj ho => ?_, fun j hj => ?_⟩, .inr ⟨g.1, g.2.2.2.1, fun j a c => ?_, fun hf => g.2.2.2.2 (f1 hf)⟩⟩
          · rw [e2, g.2.1]; exact ⟨(k1.out j hj ho).1, (k1.out j hj ho).1⟩
          · rw [e2, g.2.1]; exact ⟨(k1.mid j hj).1, (k1.mid j hj).1⟩
          · rw [e2, g.2.1]; exact ⟨a1 j a c, a1 j a c⟩
      · rw [if_neg h64]
        exact ⟨t1, k1, .inr ⟨rfl, d1, fun j a c => by omega, f1⟩⟩
    obtain ⟨t2, T2, S2⟩ := S
    rcases S2 with ⟨e2, f2⟩ | ⟨e2, d2, a2, f2⟩
    · exact ⟨t2, .inl ⟨by rw [then_no (then_no e2)], f2, .inl T2⟩⟩
    · rw [then_ok e2]
      have hs0 := piece_sec hb hl (i := 0) (by omega)
      obtain ⟨t3, w3, e3, g | g⟩ := write_two T2.wf d2 (j := home) (by omega) hs0
      · exact ⟨t3, .inl ⟨by rw [then_no g.1], fun hf => g.2.2.2 (f2 hf), .inl (T2.same w3 g.2.1 e3)⟩⟩
      · rw [then_ok g.1]
        have hn : ∀ j, j < n → rowOf t3.now j = if home = j then piece b 0 else rowOf t2.now j := fun j hj => by rw [g.2.1, rowOf_set _ _ _ _ (by rw [T2.wf.now]; exact hj)]
        have W3 : Whole n s0 b home k t3 := by
          refine ⟨w3, fun j hj ho => ?_, fun i hi => ?_, fun i a c => ?_, .inl ?_⟩
          · rw [hn j hj, if_neg (by omega), e3]; exact T2.out j hj (by omega)
          · rw [hn _ (by omega)]
            by_cases hi0 : i = 0
            · rw [if_pos (by omega), hi0]
            · rw [if_neg (by omega)]; exact (a2 i (by omega) hi).1
          · rw [e3]; exact (a2 i a c).2
          · rw [e3]; exact (T2.out home (by omega) (.inl (Nat.le_refl _))).2
        obtain ⟨t4, w4, e4, q | q⟩ := sync_two w3 g.2.2.2.1
        · refine ⟨t4, .inl ⟨q.1, fun hf => q.2.2.2 (g.2.2.2.2 (f2 hf)), .inr ⟨w4, fun j hj ho => ?_, fun i hi => ?_, fun i a c => ?_, ?_⟩⟩⟩
          · rw [e4, q.2.1]; exact W3.out j hj ho
          · rw [e4]; exact W3.now i hi
          · rw [q.2.1]; exact W3.last i a c
          · rw [q.2.1]; exact W3.first
        · refine ⟨t4, .inr ⟨q.1, ⟨w4, fun j hj ho => ?_, fun i hi => ?_, fun i a c => ?_, .inr ?_⟩, ?_, q.2.2.1, q.2.2.2.1, fun hf => q.2.2.2.2 (g.2.2.2.2 (f2 hf))⟩⟩
          · rw [e4, q.2.1]; exact ⟨(W3.out j hj ho).1, (W3.out j hj ho).1⟩
          · rw [e4]; exact W3.now i hi
          · rw [q.2.1]; exact W3.now i c
          · rw [q.2.1]; exact W3.now 0 (by omega)
          · rw [q.2.1]; exact W3.now 0 (by omega)
end Go.Proofs.YtjlhnhkjgcbnnaaGreat.Journal

/-
  Chapter 8, of values alone: Append, Compact and Crash keep what the sectors hold.
-/

namespace Go.Proofs.YtjlhnhkjgcbnnaaGreat.Journal
open Go.Proofs.YtjlhnhkjgcbnnaaGreat.Sha Go.Proofs.YtjlhnhkjgcbnnaaGreat.Disk Go.Proofs.YtjlhnhkjgcbnnaaGreat.Frame

theorem crash_two {n : Nat} (keep : List Bool) : ∀ (l : List Nat) (k : Nat) (p : List (List Int) × List (List Int)), p.1.length = n → p.2.length = n → ∀ j, j < n →
    (rowOf (crashGo keep k l p).1 j = rowOf p.1 j ∨ rowOf (crashGo keep k l p).1 j = rowOf p.2 j)
  | [], _, p, _, _, j, _ => .inl rfl
  | i :: l, k, p, h1, h2, j, hj => by
    rw [crashGo_cons]
    have hl : (crash1 keep k i p).1.length = n ∧ (crash1 keep k i p).2.length = n := by
      unfold crash1
      split <;> simp [h1, h2]
    have ih := crash_two keep l (k + 1) (crash1 keep k i p) hl.1 hl.2 j hj
    have e1 : rowOf (crash1 keep k i p).1 j = rowOf p.1 j ∨ rowOf (crash1 keep k i p).1 j = rowOf p.2 j := by
      unfold crash1
      split
      · exact .inl rfl
      · simp only
        rw [rowOf_set _ _ _ _ (by rw [h1]; exact hj)]
        split
        · rename_i e; subst e; exact .inr rfl
        · exact .inl rfl
    have e2 : rowOf (crash1 keep k i p).2 j = rowOf p.1 j ∨ rowOf (crash1 keep k i p).2 j = rowOf p.2 j := by
      unfold crash1
      split
      · simp only
        rw [rowOf_set _ _ _ _ (by rw [h2]; exact hj)]
        split
        · rename_i e; subst e; exact .inl rfl
        · exact .inr rfl
      · exact .inr rfl
    rcases ih with ih | ih <;> rw [ih]
    · exact e1
    · exact e2
theorem crash_row {n : Nat} {s : DS} (h : WF n s) (keep : List Bool) (j : Nat) (hj : j < n) : rowOf (crashD s keep).now j = rowOf s.now j ∨ rowOf (crashD s keep).now j = rowOf s.last j :=
  crash_two keep s.pend 0 (s.now, s.last) h.now h.last j hj
/-- behind a crash: the first sector is as it was, no other one begins a frame; or all are new -/
theorem crash_torn {n : Nat} {s0 s : DS} {b : List Int} {home k : Nat} (h : Torn n s0 b home k s) (keep : List Bool) :
    (∀ j, j < n → (j ≤ home ∨ home + k ≤ j) → rowOf (crashD s keep).now j = rowOf s0.now j) ∧ ∀ j, j < n → rowOf (crashD s keep).now j = rowOf s0.now j ∨ rowOf (crashD s keep).now j = piece b (j - home) := by
  refine ⟨fun j hj ho => ?_, fun j hj => ?_⟩
  · rcases crash_row h.wf keep j hj with e | e <;> rw [e]
    · exact (h.out j hj ho).1
    · exact (h.out j hj ho).2
  · rcases crash_row h.wf keep j hj with e | e <;> rw [e]
    · exact (h.mid j hj).1
    · exact (h.mid j hj).2
theorem crash_whole {n : Nat} {s0 s : DS} {b : List Int} {home k : Nat} (h : Whole n s0 b home k s) (keep : List Bool) (hk : 1 ≤ k) (hh : home + k ≤ n) :
    (∀ j, j < n → (j < home ∨ home + k ≤ j) → rowOf (crashD s keep).now j = rowOf s0.now j) ∧ (∀ i, 1 ≤ i → i < k → rowOf (crashD s keep).now (home + i) = piece b i) ∧ (rowOf (crashD s keep).now home = rowOf s0.now home ∨ rowOf (crashD s keep).now home = piece b 0) := by
  refine ⟨fun j hj ho => ?_, fun i h1 h2 => ?_, ?_⟩
  · rcases crash_row h.wf keep j hj with e | e <;> rw [e]
    · exact (h.out j hj ho).1
    · exact (h.out j hj ho).2
  · rcases crash_row h.wf keep (home + i) (by omega) with e | e <;> rw [e]
    · exact h.now i h2
    · exact h.last i h1 h2
  · rcases crash_row h.wf keep home (by omega) with e | e <;> rw [e]
    · exact .inr (h.now 0 (by omega))
    · exact h.first
theorem piece_mark {f : FV} {i : Nat} (h0 : i ≠ 0) (hi : i < kF f.body) : at_ (piece (laid (textF f)) i) 0 ≠ 1 := by
  have h := laid_mark (textF f) [] i (by rw [kF_secs]; exact hi)
  rw [List.append_nil] at h
  unfold piece
  rw [at_take (by omega), h]
  unfold mk
  rw [if_neg h0]
  decide
theorem fr_gen {s : DS} {half m : Nat} {f : FV} (h : FrAt s half m f) (h64 : ∀ j, j < hn s → (row s half j).length = 64) : ((fG (row s half m) : Nat) : Int) = f.gen := by
  have hg := fr_get h
  have hm : m < hn s := by have := h.2.1; have := kF_pos f.body; omega
  have e : fG (textJ s half m) = fG (row s half m) := by
    unfold fG h14
    rw [text_first s half m hm, List.take_append_of_le_length (by have := h64 m hm; omega)]
  rw [← e]
  unfold getF at hg
  split at hg
  · have := congrArg (fun x => x.1.gen) hg
    exact this
  · have := congrArg (fun x => x.2.2) hg
    simp at this
/-- the frame's own sectors begin no frame of a later Gen -/
theorem fr_low {s : DS} {half m : Nat} {f : FV} (h : FrAt s half m f) (h64 : ∀ j, j < hn s → (row s half j).length = 64) : ∀ i, i < kF f.body → Old (f.gen + 1) (row s half (m + i)) := by
  intro i hi
  by_cases h0 : i = 0
  · subst h0
    right
    rw [Nat.add_zero, fr_gen h h64]
    omega
  · left
    rw [h.2.2 i hi]
    exact piece_mark h0 hi
theorem Old.mono {g g' : Int} {r : List Int} (h : Old g r) (hg : g ≤ g') : Old g' r := h.imp id (fun h => by omega)
theorem hn_same {n : Nat} {s c : DS} (h : WF n s) (w : WF n c) : hn c = hn s := by rw [wf_hn h, wf_hn w]
/-- sectors behind the records that begin no frame may change -/
theorem Keeps.same {n : Nat} {s c : DS} {v : JV} (h : Keeps n s v) (w : WF n c) (h1 : ∀ m, m < v.pos → row c v.half m = row s v.half m) (h2 : ∀ m, v.pos ≤ m → m < hn s → row c v.half m = row s v.half m ∨ at_ (row c v.half m) 0 ≠ 1) (h3 : ∀ m, m < hn s → row c (1 - v.half) m = row s (1 - v.half) m) : Keeps n c v := by
  have hh := hn_same h.wf w
  refine ⟨w, h.half, ?_, h.seq, by rw [hh]; exact h.pos, fun m hm => by rw [h1 m hm]; exact h.low m hm, fun m a b => ?_, fun m hm => by rw [h3 m (by rw [← hh]; exact hm)]; exact h.other m (by rw [← hh]; exact hm)⟩
  · rcases h.start with ⟨a1, a2, a3, a4, a5⟩ | ⟨a1, a2, a3, a4⟩
    · exact .inl ⟨a1, a2, a3, a4, a5.same hh (fun j _ hj => by have := h1 j hj; rwa [a2] at this)⟩
    · have hle := a4.le
      exact .inr ⟨a1, a2, a3.same hh (fun j _ hj => h1 j (by simp only at hj; omega)), a4.same hh (fun j _ hj => h1 j hj)⟩
  · rw [hh] at b
    rcases h2 m a b with e | e
    · rw [e]; exact h.high m a b
    · exact .inl e
/-- one more record -/
theorem Keeps.append {n : Nat} {s c : DS} {v : JV} {b : List Int} (h : Keeps n s v) (w : WF n c) (hf : errF (recF v b) = 0) (hr : v.pos + kF b ≤ hn s) (h1 : ∀ i, i < kF b → row c v.half (v.pos + i) = piece (laid (textF (recF v b))) i)
    (h2 : ∀ m, m < hn s → (m < v.pos ∨ v.pos + kF b ≤ m) → row c v.half m = row s v.half m) (h3 : ∀ m, m < hn s → row c (1 - v.half) m = row s (1 - v.half) m) (dead : Bool) :
    Keeps n c { v with recs := v.recs ++ [b], pos := v.pos + kF b, seq := v.seq + 1, dead := dead } := by
  have hh := hn_same h.wf w
  have F : FrAt c v.half v.pos (recF v b) := ⟨hf, by rw [hh]; exact hr, h1⟩
  have h64 := row_len w v.half h.half
  refine ⟨w, h.half, ?_, ?_, by rw [hh]; exact hr, fun m hm => ?_, fun m a c' => ?_, fun m hm => by rw [h3 m (by rw [← hh]; exact hm)]; exact h.other m (by rw [← hh]; exact hm)⟩
  · have hq := h.seq
    rcases h.start with ⟨a1, a2, a3, a4, a5⟩ | ⟨a1, a2, a3, a4⟩
    · refine .inl ⟨a1, a2, a3, a4, (a5.same hh (fun j _ hj => by have := h2 j (by have := h.pos; omega) (.inl hj); rwa [a2] at this)).snoc ?_⟩
      unfold recF at F
      rw [a2, a3, hq] at F
      exact F
    · have hle := a4.le
      refine .inr ⟨a1, a2, a3.same hh (fun j _ hj => h2 j (by simp only at hj; have := h.pos; omega) (.inl (by simp only at hj; omega))), (a4.same hh (fun j _ hj => h2 j (by have := h.pos; omega) (.inl hj))).snoc ?_⟩
      unfold recF at F
      rw [hq] at F
      exact F
  · have := h.seq
    simp only [List.length_append, List.length_cons, List.length_nil]
    omega
  · by_cases hlt : m < v.pos
    · rw [h2 m (by have := h.pos; omega) (.inl hlt)]; exact h.low m hlt
    · have := fr_low F h64 (m - v.pos) (by simp only at hm; show m - v.pos < kF b; omega)
      rw [show v.pos + (m - v.pos) = m by omega] at this
      exact this
  · rw [hh] at c'
    simp only at a
    rw [h2 m c' (.inr a)]
    exact h.high m (by omega) c'
/-- a picture in the other half -/
theorem Keeps.compact {n : Nat} {s c : DS} {v : JV} {b : List Int} (h : Keeps n s v) (w : WF n c) (hf : errF (pictF v b) = 0) (hr : kF b ≤ hn s) (h1 : ∀ i, i < kF b → row c (1 - v.half) i = piece (laid (textF (pictF v b))) i)
    (h2 : ∀ m, m < hn s → kF b ≤ m → row c (1 - v.half) m = row s (1 - v.half) m) (h3 : ∀ m, m < hn s → row c v.half m = row s v.half m) (dead : Bool) :
    Keeps n c ⟨1 - v.half, v.gen + 1, true, b, [], kF b, 1, dead⟩ := by
  have hh := hn_same h.wf w
  have hhalf : 1 - v.half = 0 ∨ 1 - v.half = 1 := by rcases h.half with e | e <;> omega
  have F : FrAt c (1 - v.half) 0 (pictF v b) := ⟨hf, by rw [hh]; show 0 + kF b ≤ hn s; omega, fun i hi => by rw [Nat.zero_add]; exact h1 i hi⟩
  have h64 := row_len w (1 - v.half) hhalf
  have hg : 0 ≤ v.gen := by
    rcases h.start with ⟨-, -, a3, -⟩ | ⟨-, a2, -⟩ <;> omega
  have hback : 1 - (1 - v.half) = v.half := by rcases h.half with e | e <;> omega
  refine ⟨w, hhalf, .inr ⟨rfl, by simp only; omega, F, rfl⟩, rfl, by rw [hh]; exact hr, fun m hm => ?_, fun m a c' => ?_, fun m hm => ?_⟩
  · have := fr_low F h64 m hm
    rw [Nat.zero_add] at this
    exact this
  · rw [hh] at c'
    rw [h2 m c' a]
    exact (h.other m c').mono (by simp only; omega)
  · rw [hh] at hm
    simp only [hback]
    rw [h3 m hm]
    by_cases hlt : m < v.pos
    · exact h.low m hlt
    · exact (h.high m (by omega) hm).mono (by omega)
/-- an empty disk -/
theorem keeps_new {n : Nat} {s : DS} (w : WF n s) (h : ∀ j, j < n → rowOf s.now j = zeros64) : Keeps n s noJ := by
  have hz : ∀ half m, half = 0 ∨ half = 1 → m < hn s → at_ (row s half m) 0 ≠ 1 := fun half m hh hm => by
    have := wf_hn w
    unfold row
    rw [h _ (by rcases hh with rfl | rfl <;> omega)]
    decide
  exact ⟨w, .inl rfl, .inl ⟨rfl, rfl, rfl, rfl, rfl⟩, rfl, Nat.zero_le _, fun m hm => absurd hm (Nat.not_lt_zero _), fun m _ hm => .inl (hz 0 m (.inl rfl) hm), fun m hm => .inl (hz 1 m (.inr rfl) hm)⟩
end Go.Proofs.YtjlhnhkjgcbnnaaGreat.Journal

/-
  Chapter 8, of values alone: what Append and Compact answer, and what is there behind them, and behind a crash.
-/

namespace Go.Proofs.YtjlhnhkjgcbnnaaGreat.Journal
open Go.Proofs.YtjlhnhkjgcbnnaaGreat.Sha Go.Proofs.YtjlhnhkjgcbnnaaGreat.Disk Go.Proofs.YtjlhnhkjgcbnnaaGreat.Frame

/-- nothing pending, up, no fuse -/
structure Calm (s : DS) : Prop where
  pend : s.pend = []
  down : s.down = false
  fuse : s.fuse = -1
/-- one more record -/
def plusJ (v : JV) (b : List Int) : JV := { v with recs := v.recs ++ [b], pos := v.pos + kF b, seq := v.seq + 1 }
def pictJ (v : JV) (b : List Int) : JV := ⟨1 - v.half, v.gen + 1, true, b, [], kF b, 1, v.dead⟩
theorem put_ok {f : FV} (h : errF f = 0) : putF f = (0, laid (textF f)) := by unfold putF; rw [h, if_pos rfl]
theorem put_len (f : FV) : (laid (textF f)).length = 64 * kF f.body := by rw [laid_len, kF_secs]
theorem put_bytes {f : FV} (h : Bytes f.body) : Bytes (laid (textF f)) := laid_bytes _ (textF_bytes f h)
theorem half_le {n : Nat} {s : DS} {v : JV} (h : Keeps n s v) : v.half * hn s + hn s ≤ n ∧ (1 - v.half) * hn s + hn s ≤ n := by
  have := wf_hn h.wf
  rcases h.half with e | e <;> rw [e] <;> omega
/-- the rows of either half, behind something laid at the records' end -/
theorem rows_at {n : Nat} {s c : DS} {v : JV} (h : Keeps n s v) (w : WF n c) {k : Nat} (Q : Nat → List Int → Prop) (hr : v.pos + k ≤ hn s) (h1 : ∀ i, i < k → Q i (rowOf c.now (v.half * hn s + v.pos + i))) (h2 : ∀ j, j < n → (j < v.half * hn s + v.pos ∨ v.half * hn s + v.pos + k ≤ j) → rowOf c.now j = rowOf s.now j) :
    (∀ i, i < k → Q i (row c v.half (v.pos + i))) ∧ (∀ m, m < hn s → (m < v.pos ∨ v.pos + k ≤ m) → row c v.half m = row s v.half m) ∧ (∀ m, m < hn s → row c (1 - v.half) m = row s (1 - v.half) m) := by
  have hh := hn_same h.wf w
  have hle := half_le h
  refine ⟨fun i hi => ?_, fun m hm ho => ?_, fun m hm => ?_⟩
  · unfold row; rw [hh, ← Nat.add_assoc]; exact h1 i hi
  · unfold row; rw [hh]; exact h2 _ (by omega) (by omega)
  · unfold row; rw [hh]
    refine h2 _ (by omega) ?_
    rcases h.half with e | e
    · rw [e] at hle ⊢; right; simp only [Nat.zero_mul, Nat.zero_add, Nat.sub_zero, Nat.one_mul]; omega
    · rw [e]; left; simp only [Nat.sub_self, Nat.zero_mul, Nat.zero_add, Nat.one_mul]; omega
theorem whole_append {n : Nat} {s c : DS} {v : JV} {b : List Int} (h : Keeps n s v) (w : WF n c) (hf : errF (recF v b) = 0) (hr : v.pos + kF b ≤ hn s) (h1 : ∀ i, i < kF b → rowOf c.now (v.half * hn s + v.pos + i) = piece (laid (textF (recF v b))) i)
    (h2 : ∀ j, j < n → (j < v.half * hn s + v.pos ∨ v.half * hn s + v.pos + kF b ≤ j) → rowOf c.now j = rowOf s.now j) : Keeps n c (plusJ v b) := by
  obtain ⟨a1, a2, a3⟩ := rows_at h w (fun i r => r = piece (laid (textF (recF v b))) i) hr h1 h2
  exact h.append w hf hr a1 a2 a3 v.dead
theorem room_lt {s : DS} {v : JV} {k : Nat} : roomJ s v < (k : Int) ↔ hn s < v.pos + k := by unfold roomJ; omega
/-- Append, with power: a record, if there is room -/
theorem append_ok {n : Nat} {s : DS} {v : JV} {b : List Int} (h : Keeps n s v) (c : Calm s) (hd : v.dead = false) (hb : Bytes b) (hf : errF (recF v b) = 0) :
    (hn s < v.pos + kF b → appendJ s v b = (12, s, v)) ∧ (v.pos + kF b ≤ hn s → ∃ t, appendJ s v b = (0, t, plusJ v b) ∧ Keeps n t (plusJ v b) ∧ Calm t) := by
  have hp := put_ok hf
  have hl := put_len (recF v b)
  have hk : (laid (textF (recF v b))).length / 64 = kF b := by rw [hl]; show 64 * kF b / 64 = _; omega
  unfold appendJ
  rw [if_neg (by rw [hd, c.down]; simp), hp, if_neg (by simp)]
  simp only [hk]
  refine ⟨fun hr => ?_, fun hr => ?_⟩
  · rw [if_pos (room_lt.2 hr)]
  · rw [if_neg (fun hc => by have := room_lt.1 hc; omega)]
    have hle := (half_le h).1
    obtain ⟨t, T | T⟩ := lay_two h.wf c.pend c.down (put_bytes (f := recF v b) hb) hl (kF_pos b) (home := v.half * hn s + v.pos) (by show v.half * hn s + v.pos + kF b ≤ n; omega)
    · exact absurd c.fuse T.2.1
    · obtain ⟨e, W, -, p1, p2, p3⟩ := T
      rw [e]
      exact ⟨t, rfl, whole_append h W.wf hf hr (fun i hi => W.now i hi) (fun j hj ho => (W.out j hj ho).1), p1, p2, p3 c.fuse⟩
/-- Append, wherever the power goes, then a crash -/
theorem append_crash {n : Nat} {s : DS} {v : JV} {b : List Int} {fu : Int} (h : Keeps n s v) (c : Calm s) (hb : Bytes b) (keep : List Bool) (hfu : fu ≤ 9223372036854775807) :
    Calm (crashD (appendJ (fuseD s fu) v b).2.1 keep) ∧ WF n (crashD (appendJ (fuseD s fu) v b).2.1 keep) ∧ (((appendJ (fuseD s fu) v b).1 ≠ 0 ∧ Keeps n (crashD (appendJ (fuseD s fu) v b).2.1 keep) v) ∨ Keeps n (crashD (appendJ (fuseD s fu) v b).2.1 keep) (plusJ v b)) := by
  have wS : WF n (fuseD s fu) := wf_fuse h.wf fu hfu
  have hpend : (fuseD s fu).pend = [] := c.pend
  have calm : ∀ x : DS, Calm (crashD x keep) := fun x => ⟨rfl, rfl, rfl⟩
  -- nothing was written
  have stay : ∀ x : DS, WF n x → x.now = s.now → x.last = s.last → WF n (crashD x keep) ∧ Keeps n (crashD x keep) v := fun x wx e1 e2 => by
    have wc := wf_crash wx keep
    refine ⟨wc, h.same wc ?_ ?_ ?_⟩
    all_goals
      have hs : ∀ j, j < n → rowOf (crashD x keep).now j = rowOf s.now j := fun j hj => by
        rcases crash_row wx keep j hj with e | e <;> rw [e]
        · rw [e1]
        · rw [e2]; exact (h.wf.same j hj (by rw [c.pend]; simp)).symm
      have hle := half_le h
      have hh := hn_same h.wf wc
      have hpos := h.pos
    · intro m hm; unfold row; rw [hh]; exact hs _ (by omega)
    · intro m _ hm; left; unfold row; rw [hh]; exact hs _ (by omega)
    · intro m hm; unfold row; rw [hh]; exact hs _ (by omega)
  refine ⟨calm _, ?_⟩
  unfold appendJ
  by_cases hd : v.dead = true ∨ (fuseD s fu).down = true
  · rw [if_pos hd]
    obtain ⟨a, b'⟩ := stay _ wS rfl rfl
    exact ⟨a, .inl ⟨by simp, b'⟩⟩
  · rw [if_neg hd]
    by_cases hp : (putF (recF v b)).1 ≠ 0
    · rw [if_pos hp]
      obtain ⟨a, b'⟩ := stay _ wS rfl rfl
      exact ⟨a, .inl ⟨hp, b'⟩⟩
    · have hf : errF (recF v b) = 0 := by simpa [putF] using hp
      rw [if_neg hp, put_ok hf]
      have hl := put_len (recF v b)
      have hk : (laid (textF (recF v b))).length / 64 = kF b := by rw [hl]; show 64 * kF b / 64 = _; omega
      simp only [hk]
      have hhf : hn (fuseD s fu) = hn s := rfl
      by_cases hr : roomJ (fuseD s fu) v < (kF b : Nat)
      · rw [if_pos hr]
        obtain ⟨a, b'⟩ := stay _ wS rfl rfl
        exact ⟨a, .inl ⟨by simp, b'⟩⟩
      · rw [if_neg hr, hhf]
        have hroom : v.pos + kF b ≤ hn s := by
          rw [room_lt, hhf] at hr
          omega
        have hle := (half_le h).1
        have hkb := kF_pos b
        have hdn : (fuseD s fu).down = false := by simpa using fun e => hd (.inr e)
        have hend : v.half * hn s + v.pos + kF b ≤ n := by omega
        -- all new
        have new : ∀ x : DS, WF n (crashD x keep) → (∀ i, i < kF b → rowOf (crashD x keep).now (v.half * hn s + v.pos + i) = piece (laid (textF (recF v b))) i) → (∀ j, j < n → (j < v.half * hn s + v.pos ∨ v.half * hn s + v.pos + kF b ≤ j) → rowOf (crashD x keep).now j = rowOf s.now j) → Keeps n (crashD x keep) (plusJ v b) :=
          fun x w a1 a2 => whole_append h w hf hroom a1 a2
        -- the first one is as it was
        have old : ∀ x : DS, WF n (crashD x keep) → rowOf (crashD x keep).now (v.half * hn s + v.pos) = rowOf s.now (v.half * hn s + v.pos) → (∀ i, i < kF b → rowOf (crashD x keep).now (v.half * hn s + v.pos + i) = rowOf s.now (v.half * hn s + v.pos + i) ∨ rowOf (crashD x keep).now (v.half * hn s + v.pos + i) = piece (laid (textF (recF v b))) i) →
            (∀ j, j < n → (j < v.half * hn s + v.pos ∨ v.half * hn s + v.pos + kF b ≤ j) → rowOf (crashD x keep).now j = rowOf s.now j) → Keeps n (crashD x keep) v := fun x w a0 a1 a2 => by
          have hh := hn_same h.wf w
          obtain ⟨b1, b2, b3⟩ := rows_at h w (k := kF b) (fun i r => r = rowOf s.now (v.half * hn s + v.pos + i) ∨ (i ≠ 0 ∧ r = piece (laid (textF (recF v b))) i)) hroom (fun i hi => by
            by_cases hi0 : i = 0
            · subst hi0; left; exact a0
            · exact (a1 i hi).imp id (fun e => ⟨hi0, e⟩)) a2
          refine h.same w (fun m hm => b2 m (by have := h.pos; omega) (.inl hm)) (fun m h1 h2 => ?_) b3
          by_cases hm : m < v.pos + kF b
          · have := b1 (m - v.pos) (by omega)
            rw [show v.pos + (m - v.pos) = m by omega] at this
            rcases this with e | ⟨e0, e⟩
            · left; rw [e]; unfold row; congr 1; omega
            · right; rw [e]; exact piece_mark (f := recF v b) e0 (by show m - v.pos < kF b; omega)
          · exact .inl (b2 m h2 (.inr (by omega)))
        obtain ⟨t, T | T⟩ := lay_two wS hpend hdn (put_bytes (f := recF v b) hb) hl hkb (home := v.half * hn s + v.pos) hend
        · obtain ⟨e, -, T | W⟩ := T
          · rw [e]
            have wc := wf_crash T.wf keep
            obtain ⟨c1, c2⟩ := crash_torn T keep
            simp only [show (13 : Int) ≠ 0 by decide, if_neg, not_false_eq_true]
            refine ⟨wc, .inl ⟨by decide, old t wc (c1 _ (by omega) (.inl (Nat.le_refl _))) (fun i hi => ?_) (fun j hj ho => c1 j hj (by omega))⟩⟩
            have := c2 (v.half * hn s + v.pos + i) (by omega)
            rw [show v.half * hn s + v.pos + i - (v.half * hn s + v.pos) = i by omega] at this
            exact this
          · rw [e]
            have wc := wf_crash W.wf keep
            obtain ⟨c1, c2, c3⟩ := crash_whole W keep hkb hend
            simp only [show (13 : Int) ≠ 0 by decide, if_neg, not_false_eq_true]
            refine ⟨wc, ?_⟩
            rcases c3 with c3 | c3
            · refine .inl ⟨by decide, old t wc c3 (fun i hi => ?_) c1⟩
              by_cases hi0 : i = 0
              · subst hi0; left; exact c3
              · exact .inr (c2 i (by omega) hi)
            · refine .inr (new t wc (fun i hi => ?_) c1)
              by_cases hi0 : i = 0
              · subst hi0; exact c3
              · exact c2 i (by omega) hi
        · obtain ⟨e, W, l0, -⟩ := T
          rw [e]
          have wc := wf_crash W.wf keep
          obtain ⟨c1, c2, -⟩ := crash_whole W keep hkb hend
          simp only [if_pos]
          refine ⟨wc, .inr (new t wc (fun i hi => ?_) c1)⟩
          by_cases hi0 : i = 0
          · subst hi0
            rcases crash_row W.wf keep _ (show v.half * hn s + v.pos < n by omega) with e1 | e1
            · rw [Nat.add_zero, e1]; exact W.now 0 hkb
            · rw [Nat.add_zero, e1]; exact l0
          · exact c2 i (by omega) hi
/-- Compact, with power -/
theorem compact_ok {n : Nat} {s : DS} {v : JV} {b : List Int} (h : Keeps n s v) (c : Calm s) (hd : v.dead = false) (hb : Bytes b) (hf : errF (pictF v b) = 0) (hr : kF b ≤ hn s) : ∃ t, compactJ s v b = (0, t, pictJ v b) ∧ Keeps n t (pictJ v b) ∧ Calm t := by
  have hp := put_ok hf
  have hl := put_len (pictF v b)
  have hk : (laid (textF (pictF v b))).length / 64 = kF b := by rw [hl]; show 64 * kF b / 64 = _; omega
  have h6 : ¬ 60000 < b.length := by
    have := (errF_ok hf).1
    show ¬ 60000 < (pictF v b).body.length
    omega
  unfold compactJ
  rw [if_neg (by rw [hd, c.down]; simp), if_neg h6, hp]
  simp only [hk]
  rw [if_neg (by simp; omega)]
  have hle := (half_le h).2
  obtain ⟨t, T | T⟩ := lay_two h.wf c.pend c.down (put_bytes (f := pictF v b) hb) hl (kF_pos b) (home := (1 - v.half) * hn s) (by show (1 - v.half) * hn s + kF b ≤ n; omega)
  · exact absurd c.fuse T.2.1
  · obtain ⟨e, W, -, p1, p2, p3⟩ := T
    rw [e]
    have hh := hn_same h.wf W.wf
    have hle2 := half_le h
    refine ⟨t, rfl, h.compact W.wf hf hr (fun i hi => ?_) (fun m hm ho => ?_) (fun m hm => ?_) v.dead, p1, p2, p3 c.fuse⟩
    · unfold row; rw [hh]; exact W.now i hi
    · unfold row; rw [hh]; exact (W.out _ (by omega) (.inr (by show (1 - v.half) * hn s + kF b ≤ _; omega))).1
    · unfold row; rw [hh]
      refine (W.out _ (by omega) ?_).1
      rcases h.half with e' | e'
      · rw [e']; left; simp only [Nat.sub_zero, Nat.one_mul, Nat.zero_mul, Nat.zero_add]; exact hm
      · rw [e']; right; show (1 - 1) * hn s + kF b ≤ _; simp only [Nat.sub_self, Nat.zero_mul, Nat.zero_add, Nat.one_mul]; omega
end Go.Proofs.YtjlhnhkjgcbnnaaGreat.Journal

/-
  The landed journal, of values alone: its write of many sectors, its lay, its Open.
-/

namespace Go.Proofs.YtjlhnhkjgcbnnaaGreat.Journal
open Go.Proofs.YtjlhnhkjgcbnnaaGreat.Sha Go.Proofs.YtjlhnhkjgcbnnaaGreat.Disk Go.Proofs.YtjlhnhkjgcbnnaaGreat.Frame

/-- one piece more is written, if all went well so far -/
def stepW (b : List Int) (home : Nat) (p : Nat × Int × DS) (x : Nat) : Nat × Int × DS := if p.2.1 = 0 then (p.1 + 1, writeD p.2.2 (home + p.1 : Nat) (piece b x)) else p
theorem stepW_stop (b : List Int) (home : Nat) (l : List Nat) (p : Nat × Int × DS) (h : p.2.1 ≠ 0) : l.foldl (stepW b home) p = p := by
  induction l with
  | nil => rfl
  | cons x l ih => rw [List.foldl_cons, show stepW b home p x = p by unfold stepW; rw [if_neg h]]; exact ih
theorem stepW_rows (b : List Int) (home : Nat) : ∀ (k i : Nat) (s : DS), ((List.range' i k).foldl (stepW b home) (i, 0, s)).2 = rowsJ b home k i s
  | 0, i, s => rfl
  | k + 1, i, s => by
    rw [List.range'_succ, List.foldl_cons, show stepW b home (i, 0, s) i = (i + 1, writeD s (home + i : Nat) (piece b i)) by unfold stepW; rw [if_pos rfl]]
    unfold rowsJ
    by_cases h : (writeD s (home + i : Nat) (piece b i)).1 = 0
    · rw [if_pos h, ← stepW_rows b home k (i + 1)]
      congr 2
      exact Prod.ext rfl (Prod.ext h rfl)
    · rw [if_neg h, stepW_stop _ _ _ _ h]
theorem stepW_len (b : List Int) (home : Nat) (l : List Nat) : ∀ p, (l.foldl (stepW b home) p).1 ≤ p.1 + l.length := by
  induction l with
  | nil => intro p; simp
  | cons x l ih =>
    intro p
    rw [List.foldl_cons]
    refine Nat.le_trans (ih _) ?_
    unfold stepW
    split <;> simp <;> omega
/-- all of them -/
theorem stepW_all (b : List Int) (home k : Nat) (s : DS) : ((List.range k).foldl (stepW b home) (0, 0, s)).2 = rowsJ b home k 0 s := by
  rw [List.range_eq_range']; exact stepW_rows b home k 0 s
/-- stopped behind the m-th -/
theorem stepW_part (b : List Int) (home k m : Nat) (s : DS) (hm : m ≤ k) (h : ((List.range m).foldl (stepW b home) (0, 0, s)).2.1 ≠ 0) : ((List.range m).foldl (stepW b home) (0, 0, s)).2 = rowsJ b home k 0 s := by
  rw [← stepW_all b home k s]
  have e : List.range k = List.range m ++ List.range' m (k - m) := by
    rw [List.range_eq_range', List.range_eq_range', show k = m + (k - m) by omega, ← List.range'_append]; simp
  rw [e, List.foldl_append, stepW_stop _ _ _ _ h]
theorem rows_drop (b : List Int) (home : Nat) : ∀ (k i : Nat) (s : DS), rowsJ (b.drop 64) (home + 1) k i s = rowsJ b home k (i + 1) s
  | 0, _, _ => rfl
  | k + 1, i, s => by
    have e1 : piece (b.drop 64) i = piece b (i + 1) := by unfold piece; rw [List.drop_drop, show 64 + 64 * i = 64 * (i + 1) by omega]
    have e2 : home + 1 + i = home + (i + 1) := by omega
    unfold rowsJ
    rw [e1, e2]
    split
    · exact rows_drop b home k (i + 1) _
    · rfl
theorem rows_one (b : List Int) (home : Nat) (s : DS) : rowsJ (b.take 64) home 1 0 s = writeD s (home : Nat) (piece b 0) := by
  have e1 : piece (b.take 64) 0 = piece b 0 := by unfold piece; simp [List.take_take]
  unfold rowsJ rowsJ
  rw [e1, Nat.add_zero]
  split
  · rename_i h; exact (Prod.ext h.symm rfl)
  · rfl
def writeJ (b : List Int) (home k : Nat) (s : DS) : Int × DS := thenJ (rowsJ b home k 0 s) syncD
theorem write_one (b : List Int) (home : Nat) (s : DS) : writeJ (b.take 64) home 1 s = thenJ (writeD s (home : Nat) (piece b 0)) syncD := by unfold writeJ; rw [rows_one]
/-- the landed code's way to lay a frame: of one sector -/
theorem lay_short {b : List Int} (home : Nat) (s : DS) (h : b.length = 64) : layJ s home b = writeJ (b.take 64) home 1 s := by
  rw [write_one]
  unfold layJ
  rw [show b.length / 64 - 1 = 0 by omega]
  unfold rowsJ
  simp only [if_neg (show ¬ 64 < b.length by omega)]
  rfl
/-- of more -/
theorem lay_long {b : List Int} (home k : Nat) (s : DS) (h : b.length = 64 * (k + 1)) (hk : 0 < k) : layJ s home b = thenJ (writeJ (b.drop 64) (home + 1) k s) (writeJ (b.take 64) home 1) := by
  unfold layJ
  rw [show b.length / 64 - 1 = k by omega]
  unfold writeJ
  rw [rows_drop]
  simp only [if_pos (show 64 < b.length by omega)]
  generalize rowsJ b home k (0 + 1) s = r
  unfold thenJ
  by_cases h1 : r.1 = 0
  · simp only [if_pos h1]
    by_cases h2 : (syncD r.2).1 = 0
    · simp only [if_pos h2]
      rw [rows_one]
    · simp only [if_neg h2]
  · simp only [if_neg h1]
end Go.Proofs.YtjlhnhkjgcbnnaaGreat.Journal
