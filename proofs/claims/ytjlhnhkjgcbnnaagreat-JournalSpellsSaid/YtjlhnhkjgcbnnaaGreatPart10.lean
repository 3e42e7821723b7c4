/-
  Parts laid together: WireFits WireREnc WireREnc2 ShaLits ShaRef Copy ShaRHash FrameRef FrameText FramePut.
-/
import Derived.Test.YtjlhnhkjgcbnnaaGreatPart1
import Derived.Test.YtjlhnhkjgcbnnaaGreatPart2
import Derived.Deep.QuietTactic
import Derived.BigQuiet
import Derived.Great.BuildSlice
import Derived.Deep.RegionHeld3
import Derived.Deep.AppendLies
import Derived.Lib.SmallJoins

/-
  'size == 8 || n < 1<<uint(8*size)', as the document reckons it.
-/


namespace Go.Proofs.YtjlhnhkjgcbnnaaGreat.Wire
open Go.RowKit Go.Proofs.YtjlhnhkjgcbnnaaGreat.Sha

/-- what the law reckons: does it go? -/
theorem fits_code (n s : Int) (h1 : 1 ≤ s) (h8 : s < 8) (h0 : 0 ≤ n) (hm : n ≤ 4611686018427387904) : decide (n < 2 ^ (8 * s).toNat) = fits n s := by
  obtain ⟨k, rfl⟩ : ∃ k : Nat, s = k := ⟨s.toNat, by omega⟩
  rw [show (8 * (k : Int)).toNat = 8 * k by omega]
  unfold fits
  apply decide_eq_decide.2
  have e : (2 : Int) ^ (8 * k) = 256 ^ (k : Int).toNat := by
    rw [Int.toNat_natCast, Int.pow_mul]; rfl
  rw [e]
  exact ⟨fun h => ⟨h1, by omega, h0, hm, h⟩, fun h => h.2.2.2.2⟩
theorem errs_cases (n s : Int) : (1 ≤ s ∧ s ≤ 8 ∧ 0 ≤ n ∧ n ≤ 4611686018427387904 ∧ IntKind.u64.wrap (8 * s) = 8 * s ∧ IntKind.i64.wrap (8 * s) = 8 * s ∧ Kept ((s == 8 || decide (n < wrap64 (2 ^ (8 * s).toNat))) = fits n s)) ∨
      (fits n s = false ∧ (decide (1 ≤ s) = false ∨ (1 ≤ s ∧ decide (s ≤ 8) = false) ∨ (1 ≤ s ∧ s ≤ 8 ∧ decide (0 ≤ n) = false) ∨ (1 ≤ s ∧ s ≤ 8 ∧ 0 ≤ n ∧ decide (n ≤ 4611686018427387904) = false))) := by
    by_cases h1 : 1 ≤ s
    · by_cases h8 : s ≤ 8
      · by_cases h0 : 0 ≤ n
        · by_cases hm : n ≤ 4611686018427387904
          · refine .inl ⟨h1, h8, h0, hm, by rw [IntKind.wrap_u64]; omega, by rw [IntKind.wrap_i64]; omega, ⟨?_⟩⟩
            by_cases h : s = 8
            · subst h
              have hf : fits n 8 = true := decide_eq_true ⟨by omega, by omega, h0, hm, by
                have : (256 : Int) ^ (8 : Int).toNat = 18446744073709551616 := by decide +kernel
                rw [this]; omega⟩
              rw [hf]; rfl
            · rw [← fits_code n s h1 (by omega) h0 hm, beq_eq_false_iff_ne.2 h, Bool.false_or]
              have hk : s = 1 ∨ s = 2 ∨ s = 3 ∨ s = 4 ∨ s = 5 ∨ s = 6 ∨ s = 7 := by omega
              have hw : wrap64 (2 ^ (8 * s).toNat) = 2 ^ (8 * s).toNat := by
                rcases hk with rfl | rfl | rfl | rfl | rfl | rfl | rfl <;> decide +kernel
              rw [hw]
          · exact .inr ⟨decide_eq_false (fun hc => hm hc.2.2.2.1), .inr (.inr (.inr ⟨h1, h8, h0, decide_eq_false hm⟩))⟩
        · exact .inr ⟨decide_eq_false (fun hc => h0 hc.2.2.1), .inr (.inr (.inl ⟨h1, h8, decide_eq_false h0⟩))⟩
      · exact .inr ⟨decide_eq_false (fun hc => h8 hc.2.1), .inr (.inl ⟨h1, decide_eq_false h8⟩)⟩
    · exact .inr ⟨decide_eq_false (fun hc => h1 hc.1), .inl (decide_eq_false h1)⟩
end Go.Proofs.YtjlhnhkjgcbnnaaGreat.Wire

/-
  The document's own Enc.
-/




namespace Go.Proofs.YtjlhnhkjgcbnnaaGreat.Wire
open Go.RowKit Go.Proofs.YtjlhnhkjgcbnnaaGreat.Sha

set_option maxRecDepth 100000 in
set_option maxHeartbeats 1000000 in
theorem rfits_any (n s : Int) (w : World) : Calls Tryz.prog 69 #[.int .i64 n, .int .i64 s] w fun e w' => e = .returned (.bool (fits n s)) ∧ w = w' := by
  rcases errs_cases n s with ⟨h1, h8, h0, hm, hu, hi, HQ⟩ | ⟨hf, hc⟩
  · by_cases h9 : s = 8
    · subst h9
      have hf : fits n 8 = true := by rw [← HQ.out]; rfl
      rw [hf]
      clear HQ hf
      go_enter Tryz.func69, Tryz.ntmps69
      go_wp2
      go_ret
      exact ⟨rfl, rfl⟩
    · go_enter Tryz.func69, Tryz.ntmps69
      go_wp2
      go_ret
      exact ⟨by rw [← HQ.out]; rfl, rfl⟩
  · rw [hf]
    clear hf
    rcases hc with hc | ⟨hc1, hc⟩ | ⟨hc1, hc2, hc⟩ | ⟨hc1, hc2, hc3, hc⟩
    all_goals
      go_enter Tryz.func69, Tryz.ntmps69
      go_wp2
      go_ret
      exact ⟨rfl, rfl⟩

def PutPost (n s : Nat) (w : World) (e : Ending) (w' : World) : Prop := ∃ g c, e = .returned (.slice (some ⟨g, 0, none⟩) s c) ∧ w.heap.size ≤ g ∧ Rd w' (some ⟨g, 0, none⟩) s (be n s) ∧ Below w.heap.size w w'

set_option maxRecDepth 100000 in
set_option maxHeartbeats 1000000 in
theorem rput_any (n s : Nat) (w : World) (h1 : 1 ≤ s) (hs : s ≤ 8) : Calls Tryz.prog 87 #[.int .i64 n, .int .i64 s] w (PutPost n s w) := by
  go_enter Tryz.func87, Tryz.ntmps87
  go_wp2
  go_loopw [5, 6] (fun v i wr => ∃ (k : Nat) (cur : List Int) (u : Value), k ≤ s ∧ u = v ∧ i = .int .i64 ((k : Int) - 1) ∧ Kept (cur ++ be n k = be n s) ∧ Kept (wr.ownsRow w.heap.size 5 1 u cur.length (ints .u8 cur)) ∧ Kept (Below w.heap.size w wr)) (fun _ i _ => (Go.RowKit.intOf i + 1).toNat)
  case atStart => exact ⟨s, [], _, by omega, rfl, by go_num, ⟨rfl⟩, ⟨World.ownsRow_nil _ _ _ _⟩, ⟨Below.refl _ _⟩⟩
  case round =>
    obtain ⟨k, cur, v, hk, rfl, rfl, HC, OW, BW⟩ := hrel
    have hsz : cur.length + k = s := by
      have := congrArg List.length HC.out
      simpa only [List.length_append, be_len] using this
    by_cases h0 : k = 0
    · subst h0
      have hc := HC.out
      simp only [be, List.append_nil] at hc
      subst hc
      rw [be_len] at OW
      obtain ⟨g, cap, rfl, hg, -⟩ := OW.out.form (by omega)
      obtain ⟨A7, c7, e7, -, -, r7⟩ := own_rd OW.out (be_bytes n s)
      injection e7 with e7 _ e8
      subst e7 e8
      have R7 := Kept.mk r7
      clear r7 HC OW
      go_wp2
      go_ret
      exact ⟨g, cap, rfl, hg, R7.out, BW.out⟩
    · obtain ⟨j, rfl⟩ : ∃ j, k = j + 1 := ⟨k - 1, by omega⟩
      obtain ⟨b, hbb⟩ : ∃ b : Int, ((n / 256 ^ j % 256 : Nat) : Int) = b := ⟨_, rfl⟩
      have hb0 : 0 ≤ b ∧ b ≤ 255 := by
        have : n / 256 ^ j % 256 < 256 := Nat.mod_lt _ (by omega)
        omega
      have hB := byte_is n j
      have hm : IntKind.i64.wrap (8 * (j : Int)) = 8 * j := by rw [IntKind.wrap_i64]; omega
      have hu : IntKind.u64.wrap (8 * (j : Int)) = 8 * j := by rw [IntKind.wrap_u64]; omega
      rw [hbb] at hB
      have hB2 : IntKind.u8.wrap ((n : Int) / 2 ^ (8 * j)) = b := by rw [← hB, show (8 * (j : Int)).toNat = 8 * j by omega]
      have hbe : be n (j + 1) = b :: be n j := by rw [be, hbb]
      have HBE := Kept.mk hbe
      clear hbb hbe
      go_wp2_with ((with_reducible refine sel 21 ?_); refine wpList_append_rd rfl (.tmp 13) (.tmp 20) 38 rfl w.heap.size 5 Tryz.underlying38 info_u8 v cur.length _ rfl (OW.out.alloc _) (some ⟨wr.heap.size, 0, none⟩) 1 1 [b] rfl (rd_one wr b hb0) (by omega) (by have := BW.out.size; simp; omega) ?_; intro v7 w7 o7 g7; have B7 := Kept.mk ((BW.out.alloc BW.out.size (.cells #[.int .u8 b] 5)).trans (own_below (OW.out.alloc (.cells #[.int .u8 b] 5)) g7 (by have := BW.out.size; simp; omega))); rw [← ints_append] at o7; have O7 := Kept.mk o7.out; clear o7 g7)
      go_roundw
      case rel =>
        refine ⟨j, cur ++ [b], v7, by omega, rfl, by go_num, ⟨?_⟩, ⟨?_⟩, B7⟩
        · have := HC.out
          rw [HBE.out] at this
          rw [List.append_assoc]
          exact this
        · rw [List.length_append]; exact O7.out
      case measure => simp [Go.RowKit.intOf]
end Go.Proofs.YtjlhnhkjgcbnnaaGreat.Wire

/-
  The document's own Enc: fail, Num, Raw, Bytes, Done.
-/

namespace Go.Proofs.YtjlhnhkjgcbnnaaGreat.Wire
open Go.RowKit Go.Proofs.YtjlhnhkjgcbnnaaGreat.Sha

def failE (st : St) (e : Int) : St := (if st.1 = 0 then e else st.1, st.2)
def rencNum (st : St) (n s : Int) : St := if fits n s = true then (st.1, st.2 ++ be n.toNat s.toNat) else failE st 1
def rencTxt (st : St) (b : List Int) : St := if b.length ≤ 65535 then (st.1, (st.2 ++ be b.length 2) ++ b) else failE st 3

set_option maxRecDepth 100000 in
set_option maxHeartbeats 1000000 in
theorem rfail_any (w : World) (F : List Nat) (e : Nat) (st : St) (err : Int) (h : En 130 w F e st) : Calls Tryz.prog 86 #[.pointer (some ⟨e, 0, none⟩), .int .i64 err] w fun x w' => x = .returned (.tuple #[]) ∧ En 130 w' F e (failE st err) ∧ Fp F F w w' := by
  obtain ⟨er, xs⟩ := st
  have HE := Kept.mk h
  obtain ⟨v, h1, h2, rfl⟩ := h
  have c1 : w.cell? ⟨e, 1, none⟩ = some (.int .i64 er) := h1.cell 1
  have z1 := h1.frozen 1
  have H1 := Kept.mk h1; have H2 := Kept.mk h2
  have hfar := Kept.mk (own_far h2 h1 (by decide))
  clear h1 h2
  by_cases he : er = 0
  · subst he
    go_enter Tryz.func86, Tryz.ntmps86
    go_wp2
    go_end0
    have hbar : Bar [e] w (w.setCell ⟨e, 1, none⟩ (.int .i64 err)) := (Bar.refl _ _).setCell (by simp) _
    refine ⟨rfl, ⟨v, H1.out.set_ 1 _, own_keep H2.out hbar (fun g hg hm => hfar.out ?_), rfl⟩, hbar.mono ?_, fun k hk => .inl hk⟩
    · simp at hg hm; rw [hg, hm]
    · intro x hx; simp at hx; simp [hx]
  · have HR := Kept.mk (show failE (er, xs) err = (er, xs) by unfold failE; simp [he])
    have he2 : (er == 0) = false := by simpa using he
    go_enter Tryz.func86, Tryz.ntmps86
    go_wp2
    go_end0
    rw [HR.out]
    exact ⟨rfl, HE.out, Fp.refl _ _⟩

set_option maxRecDepth 100000 in
set_option maxHeartbeats 1000000 in
theorem rraw_any (w : World) (F : List Nat) (e : Nat) (A : Option Addr) (m c : Nat) (b : List Int) (st : St) (h : En 130 w F e st) (hr : Rd w A m b) (hl : st.2.length + m ≤ 4294967296) :
    Calls Tryz.prog 70 #[.pointer (some ⟨e, 0, none⟩), .slice A m c] w fun x w' => x = .returned (.tuple #[]) ∧ ∃ F', En 130 w' F' e (st.1, st.2 ++ b) ∧ Fp F F' w w' := by
  obtain ⟨er, xs⟩ := st
  obtain ⟨v, hb, ho, hG⟩ := h
  have c0 : w.cell? ⟨e, 0, none⟩ = some v := hb.cell 0
  have HB := Kept.mk hb; have HO := Kept.mk ho; have HR := Kept.mk hr
  have hfar := own_far ho hb (by decide)
  simp only at hl
  clear hb ho hr
  go_enter Tryz.func70, Tryz.ntmps70
  go_wp2_with ((with_reducible refine sel 10 ?_); refine wpList_append_rda rfl (.tmp 8) (.tmp 9) 38 rfl 0 5 Tryz.underlying38 info_u8 v xs.length _ rfl HO.out A m c b rfl HR.out hl (by omega) ?_; intro v7 w7 o7 g7 a7; obtain ⟨A7, c7, rfl⟩ := own_shape o7.out; have d0 : w7.cell? ⟨e, 0, none⟩ = some v := (HB.out.grown g7 (Ne.symm hfar)).cell 0; have z0 : w7.frozen? ⟨e, 0, none⟩ = false := (HB.out.grown g7 (Ne.symm hfar)).frozen 0)
  go_end0
  have hst := en_store (by decide) HB.out (Bar.refl [] w) g7 hfar (ys := xs ++ b) (by
      have := o7.out
      rw [← ints_append] at this
      exact this) (by
      rcases a7 with h | h
      · exact .inl h
      · exact .inr ⟨_, h, Nat.le_refl _⟩)
  subst hG
  exact ⟨rfl, _, hst.1, hst.2⟩

set_option maxRecDepth 100000 in
set_option maxHeartbeats 1000000 in
theorem rnum_any (w : World) (F : List Nat) (e : Nat) (n s : Int) (st : St) (h : En 130 w F e st) (hl : st.2.length ≤ 2147483648) :
    Calls Tryz.prog 71 #[.pointer (some ⟨e, 0, none⟩), .int .i64 n, .int .i64 s] w fun x w' => x = .returned (.tuple #[]) ∧ ∃ F', En 130 w' F' e (rencNum st n s) ∧ Fp F F' w w' := by
  obtain ⟨er, xs⟩ := st
  have HE := Kept.mk h
  have cf := Kept.mk fun w => rfits_any n s w
  cases hf : fits n s with
  | false =>
    rw [hf] at cf
    have HR := Kept.mk (show rencNum (er, xs) n s = failE (er, xs) 1 by unfold rencNum; rw [hf]; simp)
    have cr := Kept.mk (rfail_any w F e (er, xs) 1 HE.out)
    clear hf h
    go_enter Tryz.func71, Tryz.ntmps71
    go_wp2_with (go_at_call 69; refine (cf.out _).mono ?_; rintro x w' ⟨rfl, rfl⟩)
    refine cr.out.mono ?_
    rintro x w' ⟨rfl, h1, h2⟩
    rw [← HR.out] at h1
    have H1 := Kept.mk h1; have H2 := Kept.mk h2
    clear h1 h2
    go_wp2
    (first | go_end0 | ((try simp only [Exit.inBlock, Exit.then]); refine bodyPost_ret (results_none rfl _ _ _) rfl ?_))
    exact ⟨rfl, _, H1.out, H2.out⟩
  | true =>
    rw [hf] at cf
    obtain ⟨-, -, h1, h8, h0⟩ := fits_be hf
    have HR := Kept.mk (show rencNum (er, xs) n s = (er, xs ++ be n.toNat s.toNat) by unfold rencNum; rw [hf]; simp)
    obtain ⟨v, hb, ho, hG⟩ := h
    have c0 : w.cell? ⟨e, 0, none⟩ = some v := hb.cell 0
    have z0 := hb.frozen 0
    obtain ⟨sz, hsz⟩ : ∃ sz : Nat, s = sz := ⟨s.toNat, by omega⟩
    obtain ⟨nn, hnn⟩ : ∃ nn : Nat, n = nn := ⟨n.toNat, by omega⟩
    subst hsz hnn
    simp only [Int.toNat_natCast] at HR
    have cp := Kept.mk fun w => rput_any nn sz w (by omega) (by omega)
    have HB := Kept.mk hb; have HO := Kept.mk ho
    have hfar := own_far ho hb (by decide)
    have hlt := hb.lt
    simp only at hl ho
    clear hb ho hf HE
    obtain ⟨iu, hi, hz0, hz1, hz2⟩ := info_parts info_u8
    go_enter Tryz.func71, Tryz.ntmps71
    go_wp2_with (go_at_call 69; refine (cf.out _).mono ?_; rintro x w' ⟨rfl, rfl⟩)
    go_region_law
      (first
        | (refine step_append_lies _ (by rfl) _ _ _ (by rfl) 0 5 iu _ 1 1 Tryz.underlying38 hi hz0 hz1 hz2 rfl (by omega) v xs.length (ints .u8 xs) (by rfl) HO8.out
            ⟨g8, 0, none⟩ sz c8 (ints .u8 (be nn sz)) (by rfl) (by rw [ints_len, be_len]; omega) HC8.out (ints_one _ _)
            (by omega) (by unfold maxLen; omega) (by omega) (by simp) w8.heap.size rfl ?_; intro gg cg w1 hown1 hgrow hat hlt1; have U0 := ((HB8.out.grown hgrow (Ne.symm hfar)).cell 0); have U1 := ((HB8.out.grown hgrow (Ne.symm hfar)).frozen 0))
        | (go_simp; go_at_call 87; refine (cp.out w.drew).mono ?_; rintro x w8 ⟨g8, c8, rfl, hg8, r8, b8⟩; have HB8 := Kept.mk (Blk.below HB.out.drew b8 hlt); have T0 := HB8.out.cell 0; have HO8 := Kept.mk (own_keep HO.out.drew (barOf b8 []) (by simp)); have HC8 := Kept.mk (rd_cells r8)))
    all_goals
      have hst := en_store (by decide) HB.out (barOf b8 []).drewL hgrow hfar (ys := xs ++ be nn sz) (by rw [ints_append]; exact hown1) (by
        rcases hat with h | h
        · exact .inl h.symm
        · exact .inr ⟨gg, rfl, by have := b8.size; simp at this; omega⟩)
      have HST := Kept.mk hst
      clear hst hgrow hown1 U0 U1 T0 HO8 HC8 HB8
      subst hG
      go_wp2
      go_end0
      rw [HR.out]
      exact ⟨rfl, _, HST.out.1, HST.out.2⟩
end Go.Proofs.YtjlhnhkjgcbnnaaGreat.Wire

/-
  The words of the table, the document's.
-/



namespace Go.Proofs.YtjlhnhkjgcbnnaaGreat.Sha
open Go.RowKit

set_option maxHeartbeats 400000 in
theorem rturn_any (x : Int) (k : Nat) (h1 : 1 ≤ k) (h2 : k ≤ 31) (hx : W32 x) (w : World) : Calls Tryz.prog 115 #[.int .u32 x, .int .u64 (k:Int)] w fun e w' => e = .returned (.int .u32 (rotr x k)) ∧ w = w' := by
  obtain ⟨hx1, hx2⟩ := hx
  go_enter Tryz.func115, Tryz.ntmps115
  go_wp2
  go_ret
  exact ⟨rfl, rfl⟩

def wordI (i : Int) : Int := if 0 ≤ i ∧ i < 64 then (kW i.toNat : Nat) else 0
def startI (i : Int) : Int := if 0 ≤ i ∧ i < 8 then (hW i.toNat : Nat) else 0

def KI : List Int := (List.range 64).map fun i => ((kW i : Nat) : Int)
def HI : List Int := (List.range 8).map fun i => ((hW i : Nat) : Int)
theorem KI_len : KI.length = 64 := by simp [KI]
theorem HI_len : HI.length = 8 := by simp [HI]
theorem KI_at (i : Nat) (h : i < 64) : at_ KI i = (kW i : Nat) := at_range _ _ _ h
theorem HI_at (i : Nat) (h : i < 8) : at_ HI i = (hW i : Nat) := at_range _ _ _ h

set_option maxRecDepth 100000 in
set_option maxHeartbeats 400000 in
theorem rstarts_any (w : World) : Calls Tryz.prog 89 #[] w fun e w' => e = .returned (.agg (arr .u32 HI)) ∧ Below w.heap.size w w' := by
  obtain ⟨N, hN⟩ : ∃ N, w.heap.size = N := ⟨_, rfl⟩
  go_enter Tryz.func89, Tryz.ntmps89
  go_upto_region 1 with (fail)
  apply wp_region_lit
  refine wpList_buildFlatArr rfl 77 67 8 _ rfl .u32 HI Tryz.underlying77 (by kernel_rfl) (by kernel_rfl) (by kernel_rfl) ?_
  refine wpList_store_row rfl 77 (.tmp 0) (.tmp 1) rfl N (arr .u32 HI) (by rw [← hN]; rfl) rfl 77 _ (Blk.new_at _ _ _ N hN.symm) (by rw [arr_size, HI_len]; kernel_rfl) (by rw [arr_size, HI_len]; rfl) (all_oneCell_toArray (ints_one _ _)) ?_
  have h3 := (Blk.new_at w 77 (List.replicate 8 (Value.int .u32 0)).toArray N hN.symm).row (arr .u32 HI)
  have b3 : Below N w ((w.alloc (.cells (List.replicate 8 (Value.int .u32 0)).toArray 77)).setRow N (arr .u32 HI)) := below_setRow ((Below.refl _ _).alloc (by omega) _) (Nat.le_refl _) _
  change wpList _ _ _ _ _ ((w.alloc (.cells (List.replicate 8 (Value.int .u32 0)).toArray 77)).setRow N (arr .u32 HI))
  generalize (w.alloc (.cells (List.replicate 8 (Value.int .u32 0)).toArray 77)).setRow N (arr .u32 HI) = w2 at *
  have H3 := Kept.mk h3
  have B3 := Kept.mk b3
  clear h3 b3
  go_wp2
  refine bodyPost_ret (v := .agg (arr .u32 HI)) (results_cell_row rfl _ _ N 77 _ (0, 0) _ rfl H3.out Tryz.underlying77 rfl (by rw [arr_size, HI_len]; kernel_rfl)) rfl ⟨rfl, by rw [hN]; exact B3.out⟩

set_option maxRecDepth 100000 in
set_option maxHeartbeats 400000 in
theorem rwords_any (w : World) : Calls Tryz.prog 88 #[] w fun e w' => e = .returned (.agg (arr .u32 KI)) ∧ Below w.heap.size w w' := by
  obtain ⟨N, hN⟩ : ∃ N, w.heap.size = N := ⟨_, rfl⟩
  go_enter Tryz.func88, Tryz.ntmps88
  go_upto_region 1 with (fail)
  apply wp_region_lit
  refine wpList_buildFlatArr rfl 76 67 64 _ rfl .u32 KI Tryz.underlying76 (by kernel_rfl) (by kernel_rfl) (by kernel_rfl) ?_
  refine wpList_store_row rfl 76 (.tmp 0) (.tmp 1) rfl N (arr .u32 KI) (by rw [← hN]; rfl) rfl 76 _ (Blk.new_at _ _ _ N hN.symm) (by rw [arr_size, KI_len]; kernel_rfl) (by rw [arr_size, KI_len]; rfl) (all_oneCell_toArray (ints_one _ _)) ?_
  have h3 := (Blk.new_at w 76 (List.replicate 64 (Value.int .u32 0)).toArray N hN.symm).row (arr .u32 KI)
  have b3 : Below N w ((w.alloc (.cells (List.replicate 64 (Value.int .u32 0)).toArray 76)).setRow N (arr .u32 KI)) := below_setRow ((Below.refl _ _).alloc (by omega) _) (Nat.le_refl _) _
  change wpList _ _ _ _ _ ((w.alloc (.cells (List.replicate 64 (Value.int .u32 0)).toArray 76)).setRow N (arr .u32 KI))
  generalize (w.alloc (.cells (List.replicate 64 (Value.int .u32 0)).toArray 76)).setRow N (arr .u32 KI) = w2 at *
  have H3 := Kept.mk h3
  have B3 := Kept.mk b3
  clear h3 b3
  go_wp2
  refine bodyPost_ret (v := .agg (arr .u32 KI)) (results_cell_row rfl _ _ N 76 _ (0, 0) _ rfl H3.out Tryz.underlying76 rfl (by rw [arr_size, KI_len]; kernel_rfl)) rfl ⟨rfl, by rw [hN]; exact B3.out⟩

end Go.Proofs.YtjlhnhkjgcbnnaaGreat.Sha

/-
  The document's own block of SHA-256, walked.
-/

namespace Go.Proofs.YtjlhnhkjgcbnnaaGreat.Sha
open Go.RowKit

theorem nxw_ref (y b x d : Int) : IntKind.u32.wrap (IntKind.u32.wrap (IntKind.u32.wrap (d + bits .xor .u32 (bits .xor .u32 (rotr x 7) (rotr x 18)) (x / 8)) + b) + bits .xor .u32 (bits .xor .u32 (rotr y 17) (rotr y 19)) (y / 1024)) = nxw y b x d := by
  unfold nxw near far
  simp only [IntKind.wrap_u32]
  omega
theorem rt (k : Nat) (x : Int) (hx : W32 x) (w : World) (h1 : 1 ≤ k) (h2 : k ≤ 31) : Calls Tryz.prog 115 #[.int .u32 x, .int .u64 (k : Int)] w fun e w' => e = .returned (.int .u32 (rotr x k)) ∧ w' = w := still_of (rturn_any x k h1 h2 hx w)
theorem rt7 (x : Int) (hx : W32 x) (w : World) : Calls Tryz.prog 115 #[.int .u32 x, .int .u64 7] w fun e w' => e = .returned (.int .u32 (rotr x 7)) ∧ w' = w := rt 7 x hx w (by omega) (by omega)
theorem rt18 (x : Int) (hx : W32 x) (w : World) : Calls Tryz.prog 115 #[.int .u32 x, .int .u64 18] w fun e w' => e = .returned (.int .u32 (rotr x 18)) ∧ w' = w := rt 18 x hx w (by omega) (by omega)
theorem rt17 (x : Int) (hx : W32 x) (w : World) : Calls Tryz.prog 115 #[.int .u32 x, .int .u64 17] w fun e w' => e = .returned (.int .u32 (rotr x 17)) ∧ w' = w := rt 17 x hx w (by omega) (by omega)
theorem rt19 (x : Int) (hx : W32 x) (w : World) : Calls Tryz.prog 115 #[.int .u32 x, .int .u64 19] w fun e w' => e = .returned (.int .u32 (rotr x 19)) ∧ w' = w := rt 19 x hx w (by omega) (by omega)
theorem rt6 (x : Int) (hx : W32 x) (w : World) : Calls Tryz.prog 115 #[.int .u32 x, .int .u64 6] w fun e w' => e = .returned (.int .u32 (rotr x 6)) ∧ w' = w := rt 6 x hx w (by omega) (by omega)
theorem rt11 (x : Int) (hx : W32 x) (w : World) : Calls Tryz.prog 115 #[.int .u32 x, .int .u64 11] w fun e w' => e = .returned (.int .u32 (rotr x 11)) ∧ w' = w := rt 11 x hx w (by omega) (by omega)
theorem rt25 (x : Int) (hx : W32 x) (w : World) : Calls Tryz.prog 115 #[.int .u32 x, .int .u64 25] w fun e w' => e = .returned (.int .u32 (rotr x 25)) ∧ w' = w := rt 25 x hx w (by omega) (by omega)
theorem rt2 (x : Int) (hx : W32 x) (w : World) : Calls Tryz.prog 115 #[.int .u32 x, .int .u64 2] w fun e w' => e = .returned (.int .u32 (rotr x 2)) ∧ w' = w := rt 2 x hx w (by omega) (by omega)
theorem rt13 (x : Int) (hx : W32 x) (w : World) : Calls Tryz.prog 115 #[.int .u32 x, .int .u64 13] w fun e w' => e = .returned (.int .u32 (rotr x 13)) ∧ w' = w := rt 13 x hx w (by omega) (by omega)
theorem rt22 (x : Int) (hx : W32 x) (w : World) : Calls Tryz.prog 115 #[.int .u32 x, .int .u64 22] w fun e w' => e = .returned (.int .u32 (rotr x 22)) ∧ w' = w := rt 22 x hx w (by omega) (by omega)

theorem blk8 {w : World} {M : Nat} {T : TypeId} {l : List Int} {x0 x1 x2 x3 x4 x5 x6 x7 y0 y1 y2 y3 y4 y5 y6 y7 : Int} (h : Blk w M T (arr .u32 l)) (hl : l.length = 8)
    (e0 : x0 = y0) (e1 : x1 = y1) (e2 : x2 = y2) (e3 : x3 = y3) (e4 : x4 = y4) (e5 : x5 = y5) (e6 : x6 = y6) (e7 : x7 = y7) :
    Blk ((((((((w.setCell ⟨M, 0, none⟩ (.int .u32 x0)).setCell ⟨M, 1, none⟩ (.int .u32 x1)).setCell ⟨M, 2, none⟩ (.int .u32 x2)).setCell ⟨M, 3, none⟩ (.int .u32 x3)).setCell ⟨M, 4, none⟩ (.int .u32 x4)).setCell ⟨M, 5, none⟩ (.int .u32 x5)).setCell ⟨M, 6, none⟩ (.int .u32 x6)).setCell ⟨M, 7, none⟩ (.int .u32 x7)) M T (arr .u32 [y0, y1, y2, y3, y4, y5, y6, y7]) := by
  subst e0 e1 e2 e3 e4 e5 e6 e7
  have k := ((((((((h.set_ 0 (.int .u32 x0)).set_ 1 (.int .u32 x1)).set_ 2 (.int .u32 x2)).set_ 3 (.int .u32 x3)).set_ 4 (.int .u32 x4)).set_ 5 (.int .u32 x5)).set_ 6 (.int .u32 x6)).set_ 7 (.int .u32 x7))
  simp only [arr_set] at k
  match l, hl with
  | [_, _, _, _, _, _, _, _], _ => exact k
theorem below8 {w0 w : World} {M B : Nat} (hB : B ≤ M) (v0 v1 v2 v3 v4 v5 v6 v7 : Value) (h : Below B w0 w) :
    Below B w0 ((((((((w.setCell ⟨M, 0, none⟩ v0).setCell ⟨M, 1, none⟩ v1).setCell ⟨M, 2, none⟩ v2).setCell ⟨M, 3, none⟩ v3).setCell ⟨M, 4, none⟩ v4).setCell ⟨M, 5, none⟩ v5).setCell ⟨M, 6, none⟩ v6).setCell ⟨M, 7, none⟩ v7) := by
  have q : ∀ (w1 : World) (i : Nat) (v : Value), Below B w0 w1 → Below B w0 (w1.setCell ⟨M, i, none⟩ v) := fun w1 i v hq => hq.setCell hB v
  exact q _ _ _ (q _ _ _ (q _ _ _ (q _ _ _ (q _ _ _ (q _ _ _ (q _ _ _ (q _ _ _ h)))))))

set_option maxRecDepth 100000 in
set_option maxHeartbeats 2000000 in
theorem block_any (hb kb bb bo cap : Nat) (s : S8) (hs : s.ok) (b : List Int) (w : World) (hby : Bytes b) (hne : hb ≠ kb)
    (hh : Blk w hb 77 (arr .u32 s.toL)) (hk : Blk w kb 76 (arr .u32 KI)) (hc : ∀ i, i < 64 → w.cell? ⟨bb, bo + i, none⟩ = some (.int .u8 (at_ b i))) :
    Calls Tryz.prog 90 #[.slice (some ⟨hb, 0, none⟩) 8 8, .slice (some ⟨kb, 0, none⟩) 64 64, .slice (some ⟨bb, bo, none⟩) 64 cap] w
      fun e w' => e = .returned (.tuple #[]) ∧ Blk w' hb 77 (arr .u32 (mixed s b).toL) ∧ Bar [hb] w w' := by
  obtain ⟨N, hN⟩ : ∃ N, w.heap.size = N := ⟨_, rfl⟩
  have hbb : bb < N := by have h := World.block_lt_of_cell? _ _ (hc 0 (by omega)); rw [hN] at h; exact h
  have hhb : hb < N := by rw [← hN]; exact hh.lt
  have hkb : kb < N := by rw [← hN]; exact hk.lt
  have Hc := Kept.mk hc
  have Hb := Kept.mk hby
  have Hh := Kept.mk hh
  have Hk := Kept.mk hk
  have Hs := Kept.mk hs
  have hne' := Kept.mk hne
  clear hc hby hh hk hs hne
  go_enter Tryz.func90, Tryz.ntmps90
  go_wp2
  go_loopw [7] (fun i wr => ∃ k : Nat, k ≤ 16 ∧ i = .int .i64 k ∧ Kept (Blk wr N 76 (arr .u32 (upto (at_ (sched b)) 64 k))) ∧ Below N w wr) (fun i _ => 16 - (Go.RowKit.intOf i).toNat)
  case atStart =>
    refine ⟨0, by omega, rfl, ⟨?_⟩, (Below.refl _ _).alloc (by omega) _⟩
    rw [zeros]; exact Blk.new_at w _ _ N hN.symm
  case round =>
    obtain ⟨k, hk, rfl, h2, hbl⟩ := hrel
    by_cases hlt : k < 16
    -- A<
    · have g0 : wr.cell? ⟨bb, bo + 4 * k, none⟩ = some (.int .u8 (at_ b (4 * k))) := (hbl.cell (p := ⟨bb, bo + 4 * k, none⟩) hbb).trans (Hc.out (4 * k) (by omega))
      have g1 : wr.cell? ⟨bb, bo + (4 * k + 1), none⟩ = some (.int .u8 (at_ b (4 * k + 1))) := (hbl.cell (p := ⟨bb, bo + (4 * k + 1), none⟩) hbb).trans (Hc.out (4 * k + 1) (by omega))
      have g2 : wr.cell? ⟨bb, bo + (4 * k + 2), none⟩ = some (.int .u8 (at_ b (4 * k + 2))) := (hbl.cell (p := ⟨bb, bo + (4 * k + 2), none⟩) hbb).trans (Hc.out (4 * k + 2) (by omega))
      have g3 : wr.cell? ⟨bb, bo + (4 * k + 3), none⟩ = some (.int .u8 (at_ b (4 * k + 3))) := (hbl.cell (p := ⟨bb, bo + (4 * k + 3), none⟩) hbb).trans (Hc.out (4 * k + 3) (by omega))
      have l0 := Hb.out.at_ (4 * k)
      have l1 := Hb.out.at_ (4 * k + 1)
      have l2 := Hb.out.at_ (4 * k + 2)
      have l3 := Hb.out.at_ (4 * k + 3)
      have Hw := sched_lo b k hlt
      have hc0 := h2.out.at_ k (by rw [upto_len]; omega)
      have hz0 := h2.out.frozen k
      unfold wordOf at Hw
      generalize at_ b (4 * k) = x0 at *
      generalize at_ b (4 * k + 1) = x1 at *
      generalize at_ b (4 * k + 2) = x2 at *
      generalize at_ b (4 * k + 3) = x3 at *
      replace Hw := Kept.mk Hw
      have k64 : (k : Int) < 64 := by omega
      have i0 : IntKind.i64.wrap (4 * (k : Int)) = 4 * (k : Int) := by rw [IntKind.wrap_i64]; omega
      have j0 : 4 * (k : Int) < 64 := by omega
      have n0 : (0 : Int) ≤ 4 * (k : Int) := by omega
      have t0 : (4 * (k : Int)).toNat = 4 * k := by omega
      have i1 : IntKind.i64.wrap (4 * (k : Int) + 1) = 4 * (k : Int) + 1 := by rw [IntKind.wrap_i64]; omega
      have j1 : 4 * (k : Int) + 1 < 64 := by omega
      have n1 : (0 : Int) ≤ 4 * (k : Int) + 1 := by omega
      have t1 : (4 * (k : Int) + 1).toNat = 4 * k + 1 := by omega
      have i2 : IntKind.i64.wrap (4 * (k : Int) + 2) = 4 * (k : Int) + 2 := by rw [IntKind.wrap_i64]; omega
      have j2 : 4 * (k : Int) + 2 < 64 := by omega
      have n2 : (0 : Int) ≤ 4 * (k : Int) + 2 := by omega
      have t2 : (4 * (k : Int) + 2).toNat = 4 * k + 2 := by omega
      have i3 : IntKind.i64.wrap (4 * (k : Int) + 3) = 4 * (k : Int) + 3 := by rw [IntKind.wrap_i64]; omega
      have j3 : 4 * (k : Int) + 3 < 64 := by omega
      have n3 : (0 : Int) ≤ 4 * (k : Int) + 3 := by omega
      have t3 : (4 * (k : Int) + 3).toNat = 4 * k + 3 := by omega
      have w0 : IntKind.u32.wrap x0 = x0 := by rw [IntKind.wrap_u32]; omega
      have w1 : IntKind.u32.wrap x1 = x1 := by rw [IntKind.wrap_u32]; omega
      have w2 : IntKind.u32.wrap x2 = x2 := by rw [IntKind.wrap_u32]; omega
      have w3 : IntKind.u32.wrap x3 = x3 := by rw [IntKind.wrap_u32]; omega
      have v0 : IntKind.u32.wrap (x0 * 16777216) = x0 * 16777216 := by rw [IntKind.wrap_u32]; omega
      have v1 : IntKind.u32.wrap (x1 * 65536) = x1 * 65536 := by rw [IntKind.wrap_u32]; omega
      have v2 : IntKind.u32.wrap (x2 * 256) = x2 * 256 := by rw [IntKind.wrap_u32]; omega
      go_wp2
      refine wp_region_still_tail 35 (by kernel_rfl) (by kernel_rfl) ?_
      simp only [List.take_succ_cons, List.take_zero, List.drop_succ_cons, List.drop_zero]
      repeat still_step
      refine wpStill_nil ?_
      change wpList _ _ _ _ _ wr.drew
      clear w0 w1 w2 w3 v0 v1 v2 i0 i1 i2 i3 j0 j1 j2 j3 n0 n1 n2 n3 t0 t1 t2 t3 g0 g1 g2 g3
      go_wp2
      go_roundw
      case rel =>
        refine ⟨k + 1, by omega, by go_num, ⟨?_⟩, (hbl.setCell (by simp) _).drew⟩
        have := h2.out.set_ k (.int .u32 (at_ (sched b) k))
        rw [arr_set, upto_set, Hw.out] at this
        exact this.drew
      case measure => simp [Go.RowKit.intOf]; omega
    -- >A
    · have ek : k = 16 := by omega
      rw [ek] at h2
      clear ek
      go_wp2
      go_loopw [8] (fun i wr => ∃ k : Nat, 16 ≤ k ∧ k ≤ 64 ∧ i = .int .i64 k ∧ Kept (Blk wr N 76 (arr .u32 (upto (at_ (sched b)) 64 k))) ∧ Below N w wr) (fun i _ => 64 - (Go.RowKit.intOf i).toNat)
      case atStart => exact ⟨16, by omega, by omega, rfl, h2, hbl⟩
      case round =>
        clear h2 hbl hk hlt
        obtain ⟨k, hk1, hk, rfl, h2, hbl⟩ := hrel
        by_cases hlt : k < 64
        -- B<
        · have hc0 := h2.out.at_ k (by rw [upto_len]; omega)
          have hz0 := h2.out.frozen k
          have c2 := h2.out.at_ (k - 2) (by rw [upto_len]; omega)
          have c7 := h2.out.at_ (k - 7) (by rw [upto_len]; omega)
          have c15 := h2.out.at_ (k - 15) (by rw [upto_len]; omega)
          have c16 := h2.out.at_ (k - 16) (by rw [upto_len]; omega)
          rw [upto_at _ _ _ _ (by omega), if_pos (by omega)] at c2 c7 c15 c16
          have Hw := sched_hi b k hk1 hlt
          have b2 := sched32 b (k - 2)
          have b7 := sched32 b (k - 7)
          have b15 := sched32 b (k - 15)
          have b16 := sched32 b (k - 16)
          generalize at_ (sched b) (k - 2) = y at *
          generalize at_ (sched b) (k - 7) = y7 at *
          generalize at_ (sched b) (k - 15) = x at *
          generalize at_ (sched b) (k - 16) = x16 at *
          replace Hw := Kept.mk Hw
          have i2 : IntKind.i64.wrap ((k : Int) - 2) = ((k - 2 : Nat) : Int) := by rw [IntKind.wrap_i64]; omega
          have i7 : IntKind.i64.wrap ((k : Int) - 7) = ((k - 7 : Nat) : Int) := by rw [IntKind.wrap_i64]; omega
          have i15 : IntKind.i64.wrap ((k : Int) - 15) = ((k - 15 : Nat) : Int) := by rw [IntKind.wrap_i64]; omega
          have i16 : IntKind.i64.wrap ((k : Int) - 16) = ((k - 16 : Nat) : Int) := by rw [IntKind.wrap_i64]; omega
          have j2 : ((k - 2 : Nat) : Int) < 64 := by omega
          have j7 : ((k - 7 : Nat) : Int) < 64 := by omega
          have j15 : ((k - 15 : Nat) : Int) < 64 := by omega
          have j16 : ((k - 16 : Nat) : Int) < 64 := by omega
          have k64 : (k : Int) < 64 := by omega
          go_wp2
          go_quiet (fail)
          replace hc0 : (wr.drewN nq).cell? ⟨N, k, none⟩ = _ := hc0
          replace hz0 : (wr.drewN nq).frozen? ⟨N, k, none⟩ = _ := hz0
          replace c7 : (wr.drewN nq).cell? ⟨N, k - 7, none⟩ = _ := c7
          replace c16 : (wr.drewN nq).cell? ⟨N, k - 16, none⟩ = _ := c16
          replace h2 : Kept (Blk (wr.drewN nq) N 76 (arr .u32 (upto (at_ (sched b)) 64 k))) := ⟨h2.out⟩
          replace hbl : Below N w (wr.drewN nq) := below_drewN hbl _
          clear c2 c15
          generalize wr.drewN nq = wq at *
          obtain ⟨b2l, b2h⟩ := id b2
          obtain ⟨b15l, b15h⟩ := id b15
          have B2 := Kept.mk b2
          have B15 := Kept.mk b15
          clear b2 b15
          go_wp2
          refine wp_region_still_tail 29 (by kernel_rfl) (by kernel_rfl) ?_
          simp only [List.take_succ_cons, List.take_zero, List.drop_succ_cons, List.drop_zero]
          repeat still_step
          still_call (rt7 _ B15.out _)
          repeat still_step
          still_call (rt18 _ B15.out _)
          repeat still_step
          still_call (rt17 _ B2.out _)
          repeat still_step
          still_call (rt19 _ B2.out _)
          repeat still_step
          rw [nxw_ref]
          refine wpStill_nil ?_
          change wpList _ _ _ _ _ wq.drew
          clear i2 i7 i15 i16 c7 c16
          go_wp2
          go_roundw
          case rel =>
            refine ⟨k + 1, by omega, by omega, by go_num, ⟨?_⟩, (hbl.setCell (by simp) _).drew⟩
            have := h2.out.set_ k (.int .u32 (at_ (sched b) k))
            rw [arr_set, upto_set, Hw.out] at this
            exact this.drew
          case measure => simp [Go.RowKit.intOf]; omega
        -- >B
        · have ek : k = 64 := by omega
          rw [ek, upto_all _ _ (sched_len b)] at h2
          clear ek
          generalize wr = w1 at *
          obtain ⟨M, hM⟩ : ∃ M, w1.heap.size = M := ⟨_, rfl⟩
          have hMN : N < M := by rw [← hM]; exact h2.out.lt
          have kz : Blk (w1.alloc (.cells #[.int .u32 0, .int .u32 0, .int .u32 0, .int .u32 0, .int .u32 0, .int .u32 0, .int .u32 0, .int .u32 0] 77)) M 77 (ints .u32 (List.replicate 8 0)).toArray := Blk.new_at _ _ _ M hM.symm
          have kh : Blk (w1.alloc (.cells #[.int .u32 0, .int .u32 0, .int .u32 0, .int .u32 0, .int .u32 0, .int .u32 0, .int .u32 0, .int .u32 0] 77)) hb 77 (arr .u32 s.toL) := (Hh.out.below hbl hhb).alloc _
          have ba : Below M w1 (w1.alloc (.cells #[.int .u32 0, .int .u32 0, .int .u32 0, .int .u32 0, .int .u32 0, .int .u32 0, .int .u32 0, .int .u32 0] 77)) := (Below.refl _ _).alloc (by omega) _
          have KZ := Kept.mk kz
          have hsrc : 0 < (ints .u32 s.toL).length → (some ⟨M, 0, none⟩ : Option Addr) = some ⟨M, 0, none⟩ ∧ ∃ ad, (some ⟨hb, 0, none⟩ : Option Addr) = some ad ∧ ∀ j v, (ints .u32 s.toL)[j]? = some v → (w1.alloc (.cells #[.int .u32 0, .int .u32 0, .int .u32 0, .int .u32 0, .int .u32 0, .int .u32 0, .int .u32 0, .int .u32 0] 77)).cell? (ad.add j) = some v := by
            intro _
            refine ⟨rfl, _, rfl, fun j v hj => ?_⟩
            have e : (⟨hb, 0, none⟩ : Addr).add j = ⟨hb, j, none⟩ := by cases j <;> simp [Addr.add]
            rw [e, kh.cell j, arr, List.getElem?_toArray, hj]
          have HSRC := Kept.mk hsrc
          have BA := Kept.mk ba
          have H2 := Kept.mk h2.out
          clear kz kh hsrc ba h2
          go_wp2_with ((with_reducible refine sel 100 ?_); refine wpList_copy_bar rfl (.tmp 98) (.tmp 99) 148 148 rfl 67 Tryz.underlying148 (by kernel_rfl) _ _ _ _ _ _ rfl rfl M 0 (ints .u32 (List.replicate 8 0)) 77 KZ.out (ints .u32 s.toL) (by rw [ints_len]; rfl) HSRC.out (by simp [ints_len, S8.toL]) (ints_one _ _) ?_; intro w2 HG HB; have HV := Kept.mk HG.out; have B4 := Kept.mk (BA.out.trans (HB.below (B := M) (by simp; omega) (by simp))); clear HG HB)
          have hv0 : Kept (Blk w2 M 77 (arr .u32 s.toL)) := ⟨by
            have := HV.out
            rw [show splice (ints .u32 (List.replicate 8 0)) 0 (ints .u32 s.toL) = ints .u32 s.toL by simp [splice, ints_len, S8.toL]] at this
            exact this⟩
          clear HV KZ HSRC BA
          go_loopw [12] (fun i w3 => ∃ (k : Nat) (a b' c d e f g h : Int), k ≤ 64 ∧ i = .int .i64 k ∧ Kept (rnds s (at_ (sched b)) k = ⟨a, b', c, d, e, f, g, h⟩) ∧ Kept (Blk w3 M 77 (arr .u32 (⟨a, b', c, d, e, f, g, h⟩ : S8).toL)) ∧ Below M w1 w3) (fun i _ => 64 - (Go.RowKit.intOf i).toNat)
          case atStart => exact ⟨0, s.a, s.b, s.c, s.d, s.e, s.f, s.g, s.h, by omega, rfl, ⟨rfl⟩, hv0, B4.out⟩
          case round =>
            clear hv0 B4
            obtain ⟨k, a', b', c', d', e', f', g', h', hk, rfl, hr, hv, hb4⟩ := hrel
            by_cases hlt : k < 64
            -- C<
            · obtain ⟨r1, r2, r3, r4, r5, r6, r7, r8⟩ : (⟨a', b', c', d', e', f', g', h'⟩ : S8).ok := by
                have := rnds_ok Hs.out (at_ (sched b)) k
                rwa [hr.out] at this
              have v0 : wr.cell? ⟨M, 0, none⟩ = some (.int .u32 a') := hv.out.at_ 0 (by show 0 < 8; omega)
              have v1 : wr.cell? ⟨M, 1, none⟩ = some (.int .u32 b') := hv.out.at_ 1 (by show 1 < 8; omega)
              have v2 : wr.cell? ⟨M, 2, none⟩ = some (.int .u32 c') := hv.out.at_ 2 (by show 2 < 8; omega)
              have v3 : wr.cell? ⟨M, 3, none⟩ = some (.int .u32 d') := hv.out.at_ 3 (by show 3 < 8; omega)
              have v4 : wr.cell? ⟨M, 4, none⟩ = some (.int .u32 e') := hv.out.at_ 4 (by show 4 < 8; omega)
              have v5 : wr.cell? ⟨M, 5, none⟩ = some (.int .u32 f') := hv.out.at_ 5 (by show 5 < 8; omega)
              have v6 : wr.cell? ⟨M, 6, none⟩ = some (.int .u32 g') := hv.out.at_ 6 (by show 6 < 8; omega)
              have v7 : wr.cell? ⟨M, 7, none⟩ = some (.int .u32 h') := hv.out.at_ 7 (by show 7 < 8; omega)
              have ck : wr.cell? ⟨kb, k, none⟩ = some (.int .u32 (kW k : Nat)) := by
                rw [← KI_at k hlt]
                exact ((Hk.out.below hbl hkb).below hb4 (by omega)).at_ k (by rw [KI_len]; exact hlt)
              have cw : wr.cell? ⟨N, k, none⟩ = some (.int .u32 (at_ (sched b) k)) := (H2.out.below hb4 (by omega)).at_ k (by rw [sched_len]; exact hlt)
              have k64 : (k : Int) < 64 := by omega
              have bW := sched32 b k
              have hrx := hr.out
              obtain ⟨xw, hxw⟩ : ∃ x, at_ (sched b) k = x := ⟨_, rfl⟩
              rw [hxw] at cw bW
              have Hxw := Kept.mk hxw
              clear hxw hrx
              have R1 := Kept.mk r1
              have R5 := Kept.mk r5
              obtain ⟨p1, q1⟩ := r1; obtain ⟨p2, q2⟩ := r2; obtain ⟨p3, q3⟩ := r3; obtain ⟨p4, q4⟩ := r4
              obtain ⟨p5, q5⟩ := r5; obtain ⟨p6, q6⟩ := r6; obtain ⟨p7, q7⟩ := r7; obtain ⟨p8, q8⟩ := r8
              go_wp2
              go_quiet (fail)
              replace v0 : (wr.drewN nq).cell? ⟨M, 0, none⟩ = _ := v0
              replace v1 : (wr.drewN nq).cell? ⟨M, 1, none⟩ = _ := v1
              replace v2 : (wr.drewN nq).cell? ⟨M, 2, none⟩ = _ := v2
              replace v3 : (wr.drewN nq).cell? ⟨M, 3, none⟩ = _ := v3
              replace v4 : (wr.drewN nq).cell? ⟨M, 4, none⟩ = _ := v4
              replace v5 : (wr.drewN nq).cell? ⟨M, 5, none⟩ = _ := v5
              replace v6 : (wr.drewN nq).cell? ⟨M, 6, none⟩ = _ := v6
              replace v7 : (wr.drewN nq).cell? ⟨M, 7, none⟩ = _ := v7
              replace ck : (wr.drewN nq).cell? ⟨kb, k, none⟩ = _ := ck
              replace cw : (wr.drewN nq).cell? ⟨N, k, none⟩ = _ := cw
              replace hv : Kept (Blk (wr.drewN nq) M 77 (arr .u32 (⟨a', b', c', d', e', f', g', h'⟩ : S8).toL)) := ⟨hv.out⟩
              replace hb4 : Below M w1 (wr.drewN nq) := below_drewN hb4 _
              generalize wr.drewN nq = wq at *
              go_wp2
              go_quiet ((first | (go_at_call 115; with_reducible exact Calls.quiet_of_same (rt6 _ R5.out _)) | (go_at_call 115; with_reducible exact Calls.quiet_of_same (rt11 _ R5.out _)) | (go_at_call 115; with_reducible exact Calls.quiet_of_same (rt25 _ R5.out _))))
              replace v0 : (wq.drewN nq).cell? ⟨M, 0, none⟩ = _ := v0
              replace v1 : (wq.drewN nq).cell? ⟨M, 1, none⟩ = _ := v1
              replace v2 : (wq.drewN nq).cell? ⟨M, 2, none⟩ = _ := v2
              replace v3 : (wq.drewN nq).cell? ⟨M, 3, none⟩ = _ := v3
              replace v4 : (wq.drewN nq).cell? ⟨M, 4, none⟩ = _ := v4
              replace v5 : (wq.drewN nq).cell? ⟨M, 5, none⟩ = _ := v5
              replace v6 : (wq.drewN nq).cell? ⟨M, 6, none⟩ = _ := v6
              replace v7 : (wq.drewN nq).cell? ⟨M, 7, none⟩ = _ := v7
              replace hv : Kept (Blk (wq.drewN nq) M 77 (arr .u32 (⟨a', b', c', d', e', f', g', h'⟩ : S8).toL)) := ⟨hv.out⟩
              replace hb4 : Below M w1 (wq.drewN nq) := below_drewN hb4 _
              generalize wq.drewN nq = wp at *
              clear ck cw
              go_wp2
              go_quiet ((first | (go_at_call 115; with_reducible exact Calls.quiet_of_same (rt2 _ R1.out _)) | (go_at_call 115; with_reducible exact Calls.quiet_of_same (rt13 _ R1.out _)) | (go_at_call 115; with_reducible exact Calls.quiet_of_same (rt22 _ R1.out _))))
              replace v0 : (wp.drewN nq).cell? ⟨M, 0, none⟩ = _ := v0
              replace v1 : (wp.drewN nq).cell? ⟨M, 1, none⟩ = _ := v1
              replace v2 : (wp.drewN nq).cell? ⟨M, 2, none⟩ = _ := v2
              replace v3 : (wp.drewN nq).cell? ⟨M, 3, none⟩ = _ := v3
              replace v4 : (wp.drewN nq).cell? ⟨M, 4, none⟩ = _ := v4
              replace v5 : (wp.drewN nq).cell? ⟨M, 5, none⟩ = _ := v5
              replace v6 : (wp.drewN nq).cell? ⟨M, 6, none⟩ = _ := v6
              replace v7 : (wp.drewN nq).cell? ⟨M, 7, none⟩ = _ := v7
              replace hv : Kept (Blk (wp.drewN nq) M 77 (arr .u32 (⟨a', b', c', d', e', f', g', h'⟩ : S8).toL)) := ⟨hv.out⟩
              replace hb4 : Below M w1 (wp.drewN nq) := below_drewN hb4 _
              generalize wp.drewN nq = wo at *
              have f0 := hv.out.frozen 0
              have f1 := hv.out.frozen 1
              have f2 := hv.out.frozen 2
              have f3 := hv.out.frozen 3
              have f4 := hv.out.frozen 4
              have f5 := hv.out.frozen 5
              have f6 := hv.out.frozen 6
              have f7 := hv.out.frozen 7
              go_wp2
              go_roundw
              case rel =>
                refine ⟨k + 1, _, _, _, _, _, _, _, _, by omega, by go_num, ⟨round_end hr.out rfl rfl⟩, ⟨?_⟩, below8 (Nat.le_refl _) _ _ _ _ _ _ _ _ hb4⟩
                refine blk8 hv.out rfl ?_ rfl rfl rfl ?_ rfl rfl rfl
                · rw [Hxw.out]; unfold ch maj not32 turns3; simp only []; omega
                · rw [Hxw.out]; unfold ch not32 turns3; simp only []; omega
              case measure => simp [Go.RowKit.intOf]; omega
            -- >C
            · have ek : k = 64 := by omega
              rw [ek] at hr
              clear ek
              obtain ⟨V, hV⟩ : ∃ V : S8, V = ⟨a', b', c', d', e', f', g', h'⟩ := ⟨_, rfl⟩
              rw [← hV] at hr hv
              have kh : Blk wr hb 77 (arr .u32 (addTo s.toL V.toL 0)) := by
                rw [addTo_0 _ _ rfl]
                exact (Hh.out.below hbl hhb).below hb4 (by omega)
              have bh : Bar [hb] w wr := barOf (hN ▸ hbl.trans (hb4.mono (by omega))) [hb]
              have KH := Kept.mk kh
              have BH := Kept.mk bh
              clear hV kh bh hb4 hbl
              go_wp2
              go_loopw [17] (fun i w3 => ∃ k : Nat, k ≤ 8 ∧ i = .int .i64 k ∧ Kept (Blk w3 hb 77 (arr .u32 (addTo s.toL V.toL k))) ∧ Kept (Blk w3 M 77 (arr .u32 V.toL)) ∧ Bar [hb] w w3) (fun i _ => 8 - (Go.RowKit.intOf i).toNat)
              case atStart => exact ⟨0, by omega, rfl, KH, hv, BH.out⟩
              case round =>
                clear KH hv BH hk hlt
                obtain ⟨k, hk, rfl, h1, hv, b1⟩ := hrel
                by_cases hlt : k < 8
                · have k8 : (k : Int) < 8 := by omega
                  have hc0 := h1.out.at_ k (by rw [addTo_len]; exact hlt)
                  rw [addTo_at _ _ _ _ hlt, if_neg (by omega)] at hc0
                  have hz0 := h1.out.frozen k
                  have cv := hv.out.at_ k hlt
                  have e := addTo_set s.toL V.toL k
                  generalize at_ s.toL k = x at *
                  generalize at_ V.toL k = y at *
                  have E := Kept.mk e
                  clear e
                  go_wp2
                  refine wp_region_still_tail 9 (by kernel_rfl) (by kernel_rfl) ?_
                  simp only [List.take_succ_cons, List.take_zero, List.drop_succ_cons, List.drop_zero]
                  repeat still_step
                  rw [IntKind.wrap_u32]
                  refine wpStill_nil ?_
                  change wpList _ _ _ _ _ wr.drew
                  go_wp2
                  go_roundw
                  case rel =>
                    refine ⟨k + 1, by omega, by go_num, ⟨?_⟩, ⟨(hv.out.far (by simp; omega) _).drew⟩, (b1.setCell (by simp) _).drew⟩
                    have := h1.out.set_ k (.int .u32 ((x + y) % 4294967296))
                    rw [arr_set, E.out] at this
                    exact this.drew
                  case measure => simp [Go.RowKit.intOf]; omega
                · have ek : k = 8 := by omega
                  have h2 := h1.out
                  rw [ek, addTo_8] at h2
                  clear ek h1
                  have H2' := Kept.mk h2
                  clear h2
                  go_wp2
                  go_end0
                  exact ⟨rfl, by unfold mixed; rw [hr.out]; exact H2'.out, b1⟩
end Go.Proofs.YtjlhnhkjgcbnnaaGreat.Sha

/-
  The document's own copy of a text.
-/

namespace Go.Proofs.YtjlhnhkjgcbnnaaGreat.Sha
open Go.RowKit

def CopyPost (n : Nat) (xs : List Int) (w : World) (e : Ending) (w' : World) : Prop := ∃ v, e = .returned v ∧ w'.ownsRow w.heap.size 5 1 v n (ints .u8 xs) ∧ Below w.heap.size w w'

set_option maxRecDepth 100000 in
set_option maxHeartbeats 400000 in
theorem copy_any (A : Option Addr) (n cap : Nat) (xs : List Int) (w : World) (hr : Rd w A n xs) (hn : n < 2147483648) :
    Calls Tryz.prog 42 #[.slice A n cap] w (CopyPost n xs w) := by
  obtain ⟨N, hN⟩ : ∃ N, w.heap.size = N := ⟨_, rfl⟩
  have HR := Kept.mk (hr.keep (l := []) ((Bar.refl [] w).alloc (.cells #[] 5)) (by simp))
  have hown := World.ownsRow_made (base := N) (e := 5) (size := 1) w #[] 0 (by omega) (by unfold maxLen; omega) rfl
  rw [hN] at hown
  have bel : Below N w (w.alloc (.cells #[] 5)) := (Below.refl _ _).alloc (by omega) _
  have Own := Kept.mk hown
  have Bel := Kept.mk bel
  clear hown bel hr
  go_enter Tryz.func42, Tryz.ntmps42
  go_wp2_with ((with_reducible refine sel 5 ?_); refine wpList_append_rd rfl (.tmp 3) (.tmp 4) 38 rfl N 5 Tryz.underlying38 info_u8 (.slice (some ⟨N, 0, none⟩) 0 0) 0 [] rfl Own.out A n cap xs rfl HR.out (by omega) (by simp [hN]) ?_; intro v' w' ho hg)
  go_ret
  refine ⟨v', rfl, ?_, ?_⟩
  · have := ho.out
    simpa [hN] using this
  · rw [hN]; exact Bel.out.grown hg (by simp; omega) (by intro k hk; injection hk with hk; simp at hk; omega)
end Go.Proofs.YtjlhnhkjgcbnnaaGreat.Sha

/-
  The document's own sum of a text.
-/




namespace Go.Proofs.YtjlhnhkjgcbnnaaGreat.Sha
open Go.RowKit

def RHashPost (xs : List Int) (w : World) (e : Ending) (w' : World) : Prop := ∃ M cap, e = .returned (.slice (some ⟨M, 0, none⟩) 32 cap) ∧ w.heap.size ≤ M ∧ 32 ≤ cap ∧ cap ≤ maxLen ∧ Rd w' (some ⟨M, 0, none⟩) 32 (sha xs) ∧ Below w.heap.size w w'

theorem HI_is : HI = S0.toL := rfl
theorem own_slice {w : World} {base : Nat} {e : TypeId} {v : Value} {n : Nat} {xs : List Value} (h : w.ownsRow base e 1 v n xs) (hn : 0 < n) : ∃ g cap, v = .slice (some ⟨g, 0, none⟩) n cap ∧ base ≤ g ∧ n ≤ cap ∧ cap ≤ maxLen := by
  rcases h.2 with ⟨_, h0⟩ | ⟨g, cap, cur, hv, hg, _, h1, h2, _⟩
  · omega
  · exact ⟨g, cap, hv, hg, h1, h2⟩
theorem be8_succ (m k : Nat) (h : k < 8) : (be8 m).take (8 - k) = (be8 m).take (8 - (k + 1)) ++ [((m / 256 ^ k % 256 : Nat) : Int)] := by
  have l : (be8 m).length = 8 := by simp [be8]
  rw [show 8 - k = 8 - (k + 1) + 1 by omega, List.take_succ_eq_append_getElem (by omega)]
  congr 2
  simp only [be8, List.getElem_map, List.getElem_range]
  rw [show 7 - (8 - (k + 1)) = k by omega]
theorem rd_four (w : World) (x0 x1 x2 x3 : Int) (h0 : 0 ≤ x0 ∧ x0 ≤ 255) (h1 : 0 ≤ x1 ∧ x1 ≤ 255) (h2 : 0 ≤ x2 ∧ x2 ≤ 255) (h3 : 0 ≤ x3 ∧ x3 ≤ 255) : Rd (w.alloc (.cells #[.int .u8 x0, .int .u8 x1, .int .u8 x2, .int .u8 x3] 5)) (some ⟨w.heap.size, 0, none⟩) 4 [x0, x1, x2, x3] :=
  Rd.blk (Blk.new w 5 (arr .u8 [x0, x1, x2, x3])) (by intro y hy; simp only [List.mem_cons, List.not_mem_nil, or_false] at hy; rcases hy with rfl | rfl | rfl | rfl <;> assumption) rfl
theorem blocks_succ (s : S8) (m : Nat) (l : List Int) : blocks s (m + 1) l = mixed (blocks s m l) ((l.drop (64 * m)).take 64) := by
  rw [blocks_add]; rfl

set_option maxRecDepth 100000 in
set_option maxHeartbeats 2000000 in
theorem rhash_any (A : Option Addr) (n cap : Nat) (xs : List Int) (w : World) (hr : Rd w A n xs) (hn : n < 1073741824) :
    Calls Tryz.prog 72 #[.slice A n cap] w (RHashPost xs w) := by
  obtain ⟨N, hN⟩ : ∃ N, w.heap.size = N := ⟨_, rfl⟩
  obtain ⟨iu, hi, hz0, hz1, hz2⟩ := info_parts info_u8
  have HI := Kept.mk hi; have Z0 := Kept.mk hz0; have Z1 := Kept.mk hz1; have Z2 := Kept.mk hz2
  clear hi hz0 hz1 hz2
  have hlen : xs.length = n := hr.1
  have HR := Kept.mk hr
  have Hlen := Kept.mk hlen
  clear hr hlen
  go_enter Tryz.func72, Tryz.ntmps72
  go_wp2_with fail
  refine (rwords_any w).mono ?_
  rintro e w1 ⟨rfl, b1⟩
  go_wp2_with fail
  refine (rstarts_any w1).mono ?_
  rintro e w2 ⟨rfl, b2⟩
  obtain ⟨K, hK⟩ : ∃ K, w2.heap.size = K := ⟨_, rfl⟩
  have hNK : N ≤ K := by have := b1.size; have := b2.size; omega
  have b3 : Below N w w2 := hN ▸ b1.trans (b2.mono b1.size)
  clear b1 b2
  have B3 := Kept.mk b3
  clear b3
  go_wp2_with (first
    | ((with_reducible refine selS 76 (.tmp 3) (.tmp 11) ?_); refine wpList_store_row rfl 76 (.tmp 3) (.tmp 11) rfl K _ rfl rfl 76 _ ((Blk.new_at _ _ _ K hK.symm).alloc _) (by rw [arr_size, KI_len]; kernel_rfl) (by rw [arr_size, KI_len]; rfl) (all_oneCell_toArray (ints_one _ _)) ?_)
    | ((with_reducible refine selS 77 (.tmp 4) (.tmp 12) ?_); refine wpList_store_row rfl 77 (.tmp 4) (.tmp 12) rfl (K + 1) _ rfl rfl 77 _ (show Blk _ (K + 1) _ _ from (bar_setRow _ K _).block (K + 1) (by simp [hK]) (by simp) |>.trans (Blk.new_at _ _ _ (K + 1) (by simp [hK]))) (by rw [arr_size, HI_len]; kernel_rfl) (by rw [arr_size, HI_len]; rfl) (all_oneCell_toArray (ints_one _ _)) ?_))
  have Hall : Kept (∀ z1 z2 : Array Value, Blk ((((w2.alloc (.cells z1 76)).alloc (.cells z2 77)).setRow K (arr .u32 KI)).setRow (K + 1) (arr .u32 Sha.HI)) K 76 (arr .u32 KI) ∧
      Blk ((((w2.alloc (.cells z1 76)).alloc (.cells z2 77)).setRow K (arr .u32 KI)).setRow (K + 1) (arr .u32 Sha.HI)) (K + 1) 77 (arr .u32 S0.toL) ∧
      Below N w ((((w2.alloc (.cells z1 76)).alloc (.cells z2 77)).setRow K (arr .u32 KI)).setRow (K + 1) (arr .u32 Sha.HI)) ∧
      ((((w2.alloc (.cells z1 76)).alloc (.cells z2 77)).setRow K (arr .u32 KI)).setRow (K + 1) (arr .u32 Sha.HI)).heap.size = K + 2) := by
    refine ⟨fun z1 z2 => ⟨?_, ?_, ?_, ?_⟩⟩
    · exact (((Blk.new_at _ _ _ K hK.symm).alloc _).row _).bar (bar_setRow _ _ _) (by simp)
    · exact ((Blk.new_at _ _ _ (K + 1) (by simp [hK])).bar (bar_setRow _ K _) (by simp)).row _
    · exact below_setRow (below_setRow ((B3.out.alloc (by omega) _).alloc (by simp; omega) _) hNK _) (by omega) _
    · simp [World.setRow, hK]
  refine (copy_any A n cap xs _ (HR.out.keep (l := []) ((barOf (hN ▸ (Hall.out _ _).2.2.1) [])) (by simp)) (by omega)).mono ?_
  rintro e w4 ⟨v, rfl, ho, b4⟩
  have b5 := (Hall.out _ _).2.2.1.trans (b4.mono (by rw [(Hall.out _ _).2.2.2]; omega))
  have kK := (Hall.out _ _).1.below b4 (by rw [(Hall.out _ _).2.2.2]; omega)
  have kH := (Hall.out _ _).2.1.below b4 (by rw [(Hall.out _ _).2.2.2]; omega)
  rw [(Hall.out _ _).2.2.2] at ho
  have s4 := b4.size
  rw [(Hall.out _ _).2.2.2] at s4
  clear b4 Hall B3 hK
  have B5 := Kept.mk b5
  have KK := Kept.mk kK
  have KH := Kept.mk kH
  have own4 := Kept.mk ho
  clear b5 kK kH ho
  go_wp2_with ((with_reducible refine sel 16 ?_); refine wpList_append_rd rfl (.tmp 14) (.tmp 15) 38 rfl (K + 2) 5 Tryz.underlying38 info_u8 v n (ints .u8 xs) rfl (own4.out.alloc _) _ 1 1 [128] rfl (rd_one _ _ (by omega)) (by omega) (by simp; omega) ?_; intro v5 w5 own5 hg5; have b6 := Kept.mk (((Below.refl (K + 2) w4).alloc (by omega) _).trans (own_below (own4.out.alloc _) hg5 (by simp; omega))); clear hg5 own4)
  obtain ⟨g5, c5, rfl, hg5, hc5, hm5⟩ := own_slice own5.out (by omega)
  go_loopw [5] (fun v wr => ∃ (j g c : Nat), j ≤ padn n ∧ v = .slice (some ⟨g, 0, none⟩) (n + 1 + j) c ∧ c ≤ 9223372036854775807 ∧ Kept (wr.ownsRow (K + 2) 5 1 (.slice (some ⟨g, 0, none⟩) (n + 1 + j) c) (n + 1 + j) (ints .u8 (xs ++ 128 :: List.replicate j 0)) ∧ Below (K + 2) w4 wr)) (fun v _ => n + 1 + padn n - lenOf v)
  case atStart => exact ⟨0, g5, c5, Nat.zero_le _, rfl, hm5, ⟨by have := own5.out; rw [← ints_append] at this; exact this, b6.out⟩⟩
  case round =>
    clear own5 b6 hg5 hc5 hm5
    obtain ⟨j, g, c, hj, rfl, hc, hk⟩ := hrel
    obtain ⟨q, hq⟩ : ∃ q, n + 1 + j = q := ⟨_, rfl⟩
    have Hq := Kept.mk hq
    have hq0 : 1 ≤ q := by omega
    have hqs : q < 1073741824 + 128 := by have := padn_le n; omega
    have hp : q % 64 ≠ 56 → j + 1 ≤ padn n := by unfold padn at hj ⊢; omega
    have hp2 : q % 64 = 56 → j = padn n := by unfold padn at hj ⊢; omega
    rw [hq] at hk ⊢
    obtain ⟨own6, b6⟩ := hk.out
    have own6 := Kept.mk own6
    have B6 := Kept.mk b6
    have sr := b6.size
    have HP := Kept.mk hp
    have HP2 := Kept.mk hp2
    clear hk hq b6 hp hp2
    by_cases h56 : q % 64 = 56
    · have h56' : (q : Int) % 64 = 56 := by omega
      have hjP := HP2.out h56
      have H56 := Kept.mk h56
      clear HP HP2 h56
      go_wp2
      try rw [h56']
      clear h56'
      go_loopw [5, 7] (fun v i wr => ∃ (k g c : Nat), k ≤ 8 ∧ v = .slice (some ⟨g, 0, none⟩) (q + (8 - k)) c ∧ i = .int .i64 ((k : Int) - 1) ∧ c ≤ 9223372036854775807 ∧ Kept (wr.ownsRow (K + 2) 5 1 (.slice (some ⟨g, 0, none⟩) (q + (8 - k)) c) (q + (8 - k)) (ints .u8 ((xs ++ 128 :: List.replicate j 0) ++ (be8 (n * 8)).take (8 - k))) ∧ Below (K + 2) w4 wr)) (fun _ i _ => (Go.RowKit.intOf i + 1).toNat)
      case atStart => exact ⟨8, g, c, Nat.le_refl _, rfl, rfl, hc, ⟨by simpa using own6.out, B6.out⟩⟩
      case round =>
        clear own6 B6 hc sr
        obtain ⟨k, g, c, hk, rfl, rfl, hc, hr⟩ := hrel
        obtain ⟨own6, b6⟩ := hr.out
        have own6 := Kept.mk own6
        have B6 := Kept.mk b6
        have sr := b6.size
        clear hr b6
        cases k with
        | zero =>
          rw [show ((0 : Nat) : Int) - 1 = -1 by rfl]
          have hbe : (be8 (n * 8)).take 8 = be8 (n * 8) := List.take_of_length_le (by simp [be8])
          have hall : (xs ++ 128 :: List.replicate j 0) ++ (be8 (n * 8)).take 8 = xs ++ tail xs.length := by
            rw [hbe, List.append_assoc, Hlen.out, tail, hjP]; rfl
          rw [show 8 - 0 = 8 by rfl, hall] at own6
          obtain ⟨T, hT⟩ : ∃ T, q + 8 = T := ⟨_, rfl⟩
          have hTl : (xs ++ tail xs.length).length = T := by
            rw [List.length_append, tail_len, Hlen.out, ← hT, ← Hq.out, hjP]; omega
          have hT64 : T % 64 = 0 := by have := padded_len xs; omega
          have hTs : T < 1073741824 + 256 := by omega
          have hT0 : 0 < T := by omega
          rw [hT] at own6
          rw [show q + (8 - 0) = T from hT]
          have kh := KH.out.below B6.out (by omega)
          have KH2 := Kept.mk kh
          have HTl := Kept.mk hTl
          clear hbe hall hT hTl kh hjP H56 hj
          go_wp2
          obtain ⟨all, hal⟩ : ∃ all, xs ++ tail xs.length = all := ⟨_, rfl⟩
          have hby : Bytes all := by rw [← hal]; exact HR.out.2.1.append (tail_bytes _)
          rw [hal] at own6 HTl
          have Hal := Kept.mk hal
          have HBY := Kept.mk hby
          have hcT := own_slice own6.out hT0
          have hcT2 : T ≤ c := by obtain ⟨_, _, e, _, h, _⟩ := hcT; injection e with _ _ e; omega
          clear hal hby hcT
          go_loopw [8] (fun i wr => ∃ m : Nat, 64 * m ≤ T ∧ i = .int .i64 ((64 * m : Nat) : Int) ∧ Kept (Blk wr (K + 1) 77 (arr .u32 (blocks S0 m all).toL)) ∧ Kept (wr.ownsRow (K + 2) 5 1 (.slice (some ⟨g, 0, none⟩) T c) T (ints .u8 all)) ∧ Below (K + 1) w4 wr) (fun i _ => T - (Go.RowKit.intOf i).toNat)
          case atStart => exact ⟨0, by omega, rfl, KH2, own6, B6.out.mono (by omega)⟩
          case round =>
            clear KH2 own6 B6 sr
            obtain ⟨m, hm, rfl, kh, own6, b6⟩ := hrel
            have sr := b6.size
            obtain ⟨y, hy⟩ : ∃ y, 64 * m = y := ⟨_, rfl⟩
            have Hy := Kept.mk hy
            rw [hy] at hm ⊢
            by_cases hlt : y < T
            · have hyT : y + 64 ≤ T := by omega
              have hl64 : (all.drop y).length = T - y := by rw [List.length_drop, HTl.out]
              have cb := block_any (K + 1) K g y (c - y) (blocks S0 m all) (blocks_ok S0_ok _ _) ((all.drop y).take 64) wr.drew ((HBY.out.drop _).take _) (by omega) kh.out.drew ((KK.out.below b6 (by omega)).drew)
                (fun i hi => by
                  rw [at_take hi, at_drop]
                  exact own_cell own6.out (y + i) (by omega))
              rw [← hy, ← blocks_succ, hy] at cb
              have Cb := Kept.mk cb
              have B6 := Kept.mk b6
              have x1 : IntKind.i64.wrap ((y : Int) + 64) = (y : Int) + 64 := by rw [IntKind.wrap_i64]; omega
              have x2 : (y : Int) ≤ (y : Int) + 64 := by omega
              have x3 : (y : Int) + 64 ≤ (c : Int) := by omega
              have x4 : ((y : Int) + 64).toNat = y + 64 := by omega
              have x5 : y + 64 - y = 64 := by omega
              have x6 : ¬ c = y := by omega
              clear cb b6 hy hl64
              go_wp2
              refine wp_region_still_tail 7 (by kernel_rfl) (by kernel_rfl) ?_
              simp only [List.take_succ_cons, List.take_zero, List.drop_succ_cons, List.drop_zero]
              repeat still_step
              refine wpStill_nil ?_
              change wpList _ _ _ _ _ wr.drew
              clear x1 x2 x3 x4 x5 x6
              go_wp2_with fail
              refine Cb.out.mono ?_
              rintro e w5 ⟨rfl, k5, b5⟩
              have K5 := Kept.mk k5
              have O5 := Kept.mk (own_bar own6.out.drew b5 (by simp))
              have B7 := Kept.mk (B6.out.trans ((Below.refl (K + 1) wr).drew.trans (b5.below (B := K + 1) (by show K + 1 ≤ wr.heap.size; omega) (by simp))))
              clear k5 b5 Cb
              go_wp2
              go_roundw
              case rel => exact ⟨m + 1, by have := Hy.out; omega, by have := Hy.out; go_num, K5, O5, B7.out⟩
              case measure => simp [Go.RowKit.intOf]; omega
            · have hst : blocks S0 m all = st all := by rw [st, HTl.out, show T / 64 = m by omega]
              rw [hst] at kh
              have B6 := Kept.mk b6
              clear hst hy b6
              obtain ⟨s, hs⟩ : ∃ s, st all = s := ⟨_, rfl⟩
              have hok : s.ok := by rw [← hs]; exact st_ok _
              rw [hs] at kh
              have HS := Kept.mk hs
              have HOK := Kept.mk hok
              clear hs hok own6
              go_wp2
              go_loopw [9, 10] (fun v i w3 => ∃ k : Nat, k ≤ 8 ∧ i = .int .i64 k ∧ Kept (w3.ownsRow (K + 2) 5 1 v (4 * k) (ints .u8 (outK s k))) ∧ Kept (Blk w3 (K + 1) 77 (arr .u32 s.toL)) ∧ Below (K + 1) w4 w3) (fun _ i _ => 8 - (Go.RowKit.intOf i).toNat)
              case atStart => exact ⟨0, by omega, rfl, ⟨World.ownsRow_nil _ _ _ _⟩, kh, B6.out⟩
              case round =>
                clear kh B6 sr
                obtain ⟨k, hk, rfl, ho, kh, b6⟩ := hrel
                have sr := b6.size
                have B6 := Kept.mk b6
                clear b6
                by_cases hlt8 : k < 8
                · have k8 : (k : Int) < 8 := by omega
                  have c0 := kh.out.at_ k hlt8
                  have hx := S8.at32 HOK.out k
                  have hsucc := outK_succ s k
                  generalize at_ s.toL k = x at *
                  obtain ⟨hx0, hx1⟩ := hx
                  have Hsucc := Kept.mk hsucc
                  have u0 : IntKind.u8.wrap (x / 16777216) = x / 16777216 % 256 := by rw [IntKind.wrap_u8]
                  have u1 : IntKind.u8.wrap (x / 65536) = x / 65536 % 256 := by rw [IntKind.wrap_u8]
                  have u2 : IntKind.u8.wrap (x / 256) = x / 256 % 256 := by rw [IntKind.wrap_u8]
                  have u3 : IntKind.u8.wrap x = x % 256 := by rw [IntKind.wrap_u8]
                  clear hsucc
                  have ag : u9.ownBlock ≠ some (K + 1) := fun h => by have := (ho.out.lt _ h).1; omega
                  have HIo := HI.out; have Z0o := Z0.out; have Z1o := Z1.out; have Z2o := Z2.out
                  go_wp2_with fail
                  go_region_held3 (fun w' => w'.cell? ⟨K + 1, k, none⟩ = some (.int .u32 x))
                    (first
                      | go_keep
                      | (rw [hgrow.cell_far _ (by simp; omega) (Ne.symm ag)]; assumption))
                    ((refine step_append_lies _ (by rfl) _ _ _ (by rfl) (K + 2) 5 iu _ 1 1 Tryz.underlying38 HIo Z0o Z1o Z2o rfl (by omega) u9 (4 * k) (ints .u8 (outK s k)) (by rfl) ((ho.out.alloc _).drew)
                        ⟨wr.heap.size, 0, none⟩ 4 4 [.int .u8 (x / 16777216 % 256), .int .u8 (x / 65536 % 256), .int .u8 (x / 256 % 256), .int .u8 (x % 256)] (by rfl) (by rfl) (World.news_of_block (cs := #[.int .u8 (x / 16777216 % 256), .int .u8 (x / 65536 % 256), .int .u8 (x / 256 % 256), .int .u8 (x % 256)]) (t := 5) (fr := (0, 0)) (heap_alloc_new wr _)) (by simp [Value.oneCell'])
                        (by omega) (by unfold maxLen; omega) (by omega) (by simp; omega) (wr.heap.size + 1) (by simp) ?_; intro gg cg w1 hown1 hgrow hat hlt1))
                  go_wp2
                  go_roundw
                  case rel =>
                    refine ⟨k + 1, by omega, by go_num, ⟨?_⟩, ⟨(kh.out.alloc _).drew.grown hgrow (Ne.symm ag)⟩, ?_⟩
                    · rw [Hsucc.out, ints_append]; exact hown1
                    · exact B6.out.trans (((Below.refl (K + 1) wr).alloc (by omega) _).drew.trans ((own_below (ho.out.alloc _).drew hgrow (by simp; omega)).mono (by omega)))
                  case measure => simp [Go.RowKit.intOf]; omega
                · have hk8 : k = 8 := by omega
                  subst hk8
                  obtain ⟨M, cap', rfl, hM, hc32, hmax⟩ := own_slice ho.out (by omega)
                  go_wp2
                  go_ret
                  have hsha : sha xs = outK s 8 := by rw [outK_8, ← HS.out, ← Hal.out]; rfl
                  refine ⟨M, cap', rfl, by have := B5.out.size; omega, hc32, hmax, ⟨sha_len _, sha_bytes _, Or.inr ⟨M, 0, rfl, ?_⟩⟩, hN ▸ (B5.out.trans (B6.out.mono (by omega)))⟩
                  intro i hi
                  rw [hsha, Nat.zero_add]
                  exact own_cell ho.out i hi
        | succ k =>
          rw [show ((k + 1 : Nat) : Int) - 1 = (k : Int) by omega]
          have e8 := be8_succ (n * 8) k (by omega)
          rw [show q + (8 - (k + 1)) = q + (7 - k) by omega, show 8 - (k + 1) = 7 - k by omega] at own6
          rw [show q + (8 - (k + 1)) = q + (7 - k) by omega]
          rw [show 8 - (k + 1) = 7 - k by omega] at e8
          have E8 := Kept.mk e8
          obtain ⟨p, hp⟩ : ∃ p, q + (7 - k) = p := ⟨_, rfl⟩
          have hp1 : p < 1073741824 + 256 := by omega
          have hp0 : 0 < p := by omega
          have HPp := Kept.mk hp
          rw [hp] at own6 ⊢
          clear e8 hp
          have hk8 : k = 0 ∨ k = 1 ∨ k = 2 ∨ k = 3 ∨ k = 4 ∨ k = 5 ∨ k = 6 ∨ k = 7 := by omega
          rcases hk8 with rfl | rfl | rfl | rfl | rfl | rfl | rfl | rfl
          · go_wp2_with ((with_reducible refine sel 40 ?_); refine wpList_append_rd rfl (.tmp 32) (.tmp 39) 38 rfl (K + 2) 5 Tryz.underlying38 info_u8 (.slice (some ⟨g, 0, none⟩) p c) p _ rfl (own6.out.alloc _) _ 1 1 [(n : Int) * 8 % 256] rfl (rd_one _ _ (by omega)) (by omega) (by simp; omega) ?_; intro v7 w7 own7 hg7; have b7 := Kept.mk (B6.out.trans (((Below.refl (K + 2) wr).alloc (by omega) _).trans (own_below (own6.out.alloc _) hg7 (by simp; omega)))); clear hg7)
            obtain ⟨g7, c7, rfl, hg7, hc7, hm7⟩ := own_slice own7.out (by omega)
            go_roundw
            case rel =>
              refine ⟨0, g7, c7, by omega, by rw [← HPp.out], by rfl, hm7, ⟨?_, b7.out⟩⟩
              have := own7.out
              rw [← ints_append, List.append_assoc] at this
              rw [E8.out, show q + (8 - 0) = p + 1 by rw [← HPp.out]]
              rw [show (((n * 8 / 256 ^ 0 % 256 : Nat) : Nat) : Int) = (n : Int) * 8 % 256 by rw [show (256 : Nat) ^ 0 = 1 from rfl]; omega]
              exact this
            case measure => simp [Go.RowKit.intOf]
          · go_wp2_with ((with_reducible refine sel 40 ?_); refine wpList_append_rd rfl (.tmp 32) (.tmp 39) 38 rfl (K + 2) 5 Tryz.underlying38 info_u8 (.slice (some ⟨g, 0, none⟩) p c) p _ rfl (own6.out.alloc _) _ 1 1 [(n : Int) * 8 / 256 % 256] rfl (rd_one _ _ (by omega)) (by omega) (by simp; omega) ?_; intro v7 w7 own7 hg7; have b7 := Kept.mk (B6.out.trans (((Below.refl (K + 2) wr).alloc (by omega) _).trans (own_below (own6.out.alloc _) hg7 (by simp; omega)))); clear hg7)
            obtain ⟨g7, c7, rfl, hg7, hc7, hm7⟩ := own_slice own7.out (by omega)
            go_roundw
            case rel =>
              refine ⟨1, g7, c7, by omega, by rw [← HPp.out], by rfl, hm7, ⟨?_, b7.out⟩⟩
              have := own7.out
              rw [← ints_append, List.append_assoc] at this
              rw [E8.out, show q + (8 - 1) = p + 1 by rw [← HPp.out]]
              rw [show (((n * 8 / 256 ^ 1 % 256 : Nat) : Nat) : Int) = (n : Int) * 8 / 256 % 256 by rw [show (256 : Nat) ^ 1 = 256 from rfl]; omega]
              exact this
            case measure => simp [Go.RowKit.intOf]
          · go_wp2_with ((with_reducible refine sel 40 ?_); refine wpList_append_rd rfl (.tmp 32) (.tmp 39) 38 rfl (K + 2) 5 Tryz.underlying38 info_u8 (.slice (some ⟨g, 0, none⟩) p c) p _ rfl (own6.out.alloc _) _ 1 1 [(n : Int) * 8 / 65536 % 256] rfl (rd_one _ _ (by omega)) (by omega) (by simp; omega) ?_; intro v7 w7 own7 hg7; have b7 := Kept.mk (B6.out.trans (((Below.refl (K + 2) wr).alloc (by omega) _).trans (own_below (own6.out.alloc _) hg7 (by simp; omega)))); clear hg7)
            obtain ⟨g7, c7, rfl, hg7, hc7, hm7⟩ := own_slice own7.out (by omega)
            go_roundw
            case rel =>
              refine ⟨2, g7, c7, by omega, by rw [← HPp.out], by rfl, hm7, ⟨?_, b7.out⟩⟩
              have := own7.out
              rw [← ints_append, List.append_assoc] at this
              rw [E8.out, show q + (8 - 2) = p + 1 by rw [← HPp.out]]
              rw [show (((n * 8 / 256 ^ 2 % 256 : Nat) : Nat) : Int) = (n : Int) * 8 / 65536 % 256 by rw [show (256 : Nat) ^ 2 = 65536 from rfl]; omega]
              exact this
            case measure => simp [Go.RowKit.intOf]
          · go_wp2_with ((with_reducible refine sel 40 ?_); refine wpList_append_rd rfl (.tmp 32) (.tmp 39) 38 rfl (K + 2) 5 Tryz.underlying38 info_u8 (.slice (some ⟨g, 0, none⟩) p c) p _ rfl (own6.out.alloc _) _ 1 1 [(n : Int) * 8 / 16777216 % 256] rfl (rd_one _ _ (by omega)) (by omega) (by simp; omega) ?_; intro v7 w7 own7 hg7; have b7 := Kept.mk (B6.out.trans (((Below.refl (K + 2) wr).alloc (by omega) _).trans (own_below (own6.out.alloc _) hg7 (by simp; omega)))); clear hg7)
            obtain ⟨g7, c7, rfl, hg7, hc7, hm7⟩ := own_slice own7.out (by omega)
            go_roundw
            case rel =>
              refine ⟨3, g7, c7, by omega, by rw [← HPp.out], by rfl, hm7, ⟨?_, b7.out⟩⟩
              have := own7.out
              rw [← ints_append, List.append_assoc] at this
              rw [E8.out, show q + (8 - 3) = p + 1 by rw [← HPp.out]]
              rw [show (((n * 8 / 256 ^ 3 % 256 : Nat) : Nat) : Int) = (n : Int) * 8 / 16777216 % 256 by rw [show (256 : Nat) ^ 3 = 16777216 from rfl]; omega]
              exact this
            case measure => simp [Go.RowKit.intOf]
          · go_wp2_with ((with_reducible refine sel 40 ?_); refine wpList_append_rd rfl (.tmp 32) (.tmp 39) 38 rfl (K + 2) 5 Tryz.underlying38 info_u8 (.slice (some ⟨g, 0, none⟩) p c) p _ rfl (own6.out.alloc _) _ 1 1 [(n : Int) * 8 / 4294967296] rfl (rd_one _ _ (by omega)) (by omega) (by simp; omega) ?_; intro v7 w7 own7 hg7; have b7 := Kept.mk (B6.out.trans (((Below.refl (K + 2) wr).alloc (by omega) _).trans (own_below (own6.out.alloc _) hg7 (by simp; omega)))); clear hg7)
            obtain ⟨g7, c7, rfl, hg7, hc7, hm7⟩ := own_slice own7.out (by omega)
            go_roundw
            case rel =>
              refine ⟨4, g7, c7, by omega, by rw [← HPp.out], by rfl, hm7, ⟨?_, b7.out⟩⟩
              have := own7.out
              rw [← ints_append, List.append_assoc] at this
              rw [E8.out, show q + (8 - 4) = p + 1 by rw [← HPp.out]]
              rw [show (((n * 8 / 256 ^ 4 % 256 : Nat) : Nat) : Int) = (n : Int) * 8 / 4294967296 by rw [show (256 : Nat) ^ 4 = 4294967296 from rfl]; omega]
              exact this
            case measure => simp [Go.RowKit.intOf]
          · go_wp2_with ((with_reducible refine sel 40 ?_); refine wpList_append_rd rfl (.tmp 32) (.tmp 39) 38 rfl (K + 2) 5 Tryz.underlying38 info_u8 (.slice (some ⟨g, 0, none⟩) p c) p _ rfl (own6.out.alloc _) _ 1 1 [(n : Int) * 8 / 1099511627776] rfl (rd_one _ _ (by omega)) (by omega) (by simp; omega) ?_; intro v7 w7 own7 hg7; have b7 := Kept.mk (B6.out.trans (((Below.refl (K + 2) wr).alloc (by omega) _).trans (own_below (own6.out.alloc _) hg7 (by simp; omega)))); clear hg7)
            obtain ⟨g7, c7, rfl, hg7, hc7, hm7⟩ := own_slice own7.out (by omega)
            go_roundw
            case rel =>
              refine ⟨5, g7, c7, by omega, by rw [← HPp.out], by rfl, hm7, ⟨?_, b7.out⟩⟩
              have := own7.out
              rw [← ints_append, List.append_assoc] at this
              rw [E8.out, show q + (8 - 5) = p + 1 by rw [← HPp.out]]
              rw [show (((n * 8 / 256 ^ 5 % 256 : Nat) : Nat) : Int) = (n : Int) * 8 / 1099511627776 by rw [show (256 : Nat) ^ 5 = 1099511627776 from rfl]; omega]
              exact this
            case measure => simp [Go.RowKit.intOf]
          · go_wp2_with ((with_reducible refine sel 40 ?_); refine wpList_append_rd rfl (.tmp 32) (.tmp 39) 38 rfl (K + 2) 5 Tryz.underlying38 info_u8 (.slice (some ⟨g, 0, none⟩) p c) p _ rfl (own6.out.alloc _) _ 1 1 [(n : Int) * 8 / 281474976710656] rfl (rd_one _ _ (by omega)) (by omega) (by simp; omega) ?_; intro v7 w7 own7 hg7; have b7 := Kept.mk (B6.out.trans (((Below.refl (K + 2) wr).alloc (by omega) _).trans (own_below (own6.out.alloc _) hg7 (by simp; omega)))); clear hg7)
            obtain ⟨g7, c7, rfl, hg7, hc7, hm7⟩ := own_slice own7.out (by omega)
            go_roundw
            case rel =>
              refine ⟨6, g7, c7, by omega, by rw [← HPp.out], by rfl, hm7, ⟨?_, b7.out⟩⟩
              have := own7.out
              rw [← ints_append, List.append_assoc] at this
              rw [E8.out, show q + (8 - 6) = p + 1 by rw [← HPp.out]]
              rw [show (((n * 8 / 256 ^ 6 % 256 : Nat) : Nat) : Int) = (n : Int) * 8 / 281474976710656 by rw [show (256 : Nat) ^ 6 = 281474976710656 from rfl]; omega]
              exact this
            case measure => simp [Go.RowKit.intOf]
          · go_wp2_with ((with_reducible refine sel 40 ?_); refine wpList_append_rd rfl (.tmp 32) (.tmp 39) 38 rfl (K + 2) 5 Tryz.underlying38 info_u8 (.slice (some ⟨g, 0, none⟩) p c) p _ rfl (own6.out.alloc _) _ 1 1 [(n : Int) * 8 / 72057594037927936] rfl (rd_one _ _ (by omega)) (by omega) (by simp; omega) ?_; intro v7 w7 own7 hg7; have b7 := Kept.mk (B6.out.trans (((Below.refl (K + 2) wr).alloc (by omega) _).trans (own_below (own6.out.alloc _) hg7 (by simp; omega)))); clear hg7)
            obtain ⟨g7, c7, rfl, hg7, hc7, hm7⟩ := own_slice own7.out (by omega)
            go_roundw
            case rel =>
              refine ⟨7, g7, c7, by omega, by rw [← HPp.out], by rfl, hm7, ⟨?_, b7.out⟩⟩
              have := own7.out
              rw [← ints_append, List.append_assoc] at this
              rw [E8.out, show q + (8 - 7) = p + 1 by rw [← HPp.out]]
              rw [show (((n * 8 / 256 ^ 7 % 256 : Nat) : Nat) : Int) = (n : Int) * 8 / 72057594037927936 by rw [show (256 : Nat) ^ 7 = 72057594037927936 from rfl]; omega]
              exact this
            case measure => simp [Go.RowKit.intOf]
    · have h56' : ¬ ((q : Int) % 64 = 56) := by omega
      go_wp2_with ((with_reducible refine sel 23 ?_); refine wpList_append_rd rfl (.tmp 21) (.tmp 22) 38 rfl (K + 2) 5 Tryz.underlying38 info_u8 (.slice (some ⟨g, 0, none⟩) q c) q _ rfl (own6.out.alloc _) _ 1 1 [0] rfl (rd_one _ _ (by omega)) (by omega) (by simp; omega) ?_; intro v7 w7 own7 hg7; have b7 := Kept.mk (B6.out.trans (((Below.refl (K + 2) wr).alloc (by omega) _).trans (own_below (own6.out.alloc _) hg7 (by simp; omega)))); clear hg7)
      obtain ⟨g7, c7, rfl, hg7, hc7, hm7⟩ := own_slice own7.out (by omega)
      go_roundw
      case rel =>
        refine ⟨j + 1, g7, c7, HP.out h56, by rw [← Hq.out]; rfl, hm7, ⟨?_, b7.out⟩⟩
        have := own7.out
        rw [← ints_append, List.append_assoc, List.cons_append, ← List.replicate_succ'] at this
        rw [show n + 1 + (j + 1) = q + 1 by rw [← Hq.out]; omega]
        exact this
      case measure => simp [lenOf]; have := Hq.out; have := HP.out h56; omega
end Go.Proofs.YtjlhnhkjgcbnnaaGreat.Sha

/-
  The document's own frame: Sectors, Text.
-/




namespace Go.Proofs.YtjlhnhkjgcbnnaaGreat.Frame
open Go.RowKit Go.Proofs.YtjlhnhkjgcbnnaaGreat.Sha Go.Proofs.YtjlhnhkjgcbnnaaGreat.Wire

theorem rsectors_any (n : Int) (w : World) : Calls Tryz.prog 58 #[.int .i64 n] w fun e w' => e = .returned (.int .i64 (sectorsF n)) ∧ w = w' := by
  by_cases h1 : n < 0
  · rw [show sectorsF n = 0 by unfold sectorsF; rw [if_pos (.inl h1)]]
    go_enter Tryz.func58, Tryz.ntmps58
    go_wp2
    go_ret
    exact ⟨rfl, rfl⟩
  · by_cases h2 : 60000 < n
    · rw [show sectorsF n = 0 by unfold sectorsF; rw [if_pos (.inr h2)]]
      go_enter Tryz.func58, Tryz.ntmps58
      go_wp2
      go_ret
      exact ⟨rfl, rfl⟩
    · have e : sectorsF n = (24 + n + 62) / 63 := by unfold sectorsF; rw [if_neg (by omega)]
      have hw1 : wrap64 (24 + n) = 24 + n := by unfold wrap64; omega
      have hw2 : wrap64 (24 + n + 62) = 24 + n + 62 := by unfold wrap64; omega
      have hq : Int.tdiv (24 + n + 62) 63 = (24 + n + 62) / 63 := Int.tdiv_eq_ediv_of_nonneg (by omega)
      have HE := Kept.mk e
      clear e
      go_enter Tryz.func58, Tryz.ntmps58
      go_wp2
      go_ret
      exact ⟨by rw [HE.out, ← hq]; rfl, rfl⟩
end Go.Proofs.YtjlhnhkjgcbnnaaGreat.Frame

/-
  The document's own frame: its text.
-/





namespace Go.Proofs.YtjlhnhkjgcbnnaaGreat.Frame
open Go.RowKit Go.Proofs.YtjlhnhkjgcbnnaaGreat.Sha Go.Proofs.YtjlhnhkjgcbnnaaGreat.Wire

/-- an Enc at block M while a text is made; the frame lies boxed in block N -/
def Tx (w0 : World) (N M : Nat) (cs : Array Value) (A : Option Addr) (n : Nat) (body : List Int) (st : St) (w : World) : Prop :=
  ∃ F, En 130 w F M st ∧ Blk w N 56 cs ∧ Rd w A n body ∧ Below w0.heap.size w0 w ∧ ∀ k ∈ F, w0.heap.size + 1 ≤ k
theorem Tx.blk {w0 : World} {N M : Nat} {cs : Array Value} {A : Option Addr} {n : Nat} {body : List Int} {st : St} {w : World} (h : Tx w0 N M cs A n body st w) : Blk w N 56 cs := h.choose_spec.2.1
theorem Tx.rd {w0 : World} {N M : Nat} {cs : Array Value} {A : Option Addr} {n : Nat} {body : List Int} {st : St} {w : World} (h : Tx w0 N M cs A n body st w) : Rd w A n body := h.choose_spec.2.2.1
theorem Tx.bel {w0 : World} {N M : Nat} {cs : Array Value} {A : Option Addr} {n : Nat} {body : List Int} {st : St} {w : World} (h : Tx w0 N M cs A n body st w) : Below w0.heap.size w0 w := h.choose_spec.2.2.2.1
theorem Tx.below {w0 : World} {N M : Nat} {cs : Array Value} {A : Option Addr} {n : Nat} {body : List Int} {st : St} {w w' : World} (h : Tx w0 N M cs A n body st w) (b : Below w.heap.size w w') : Tx w0 N M cs A n body st w' := by
  obtain ⟨F, h1, h2, h3, h4, h5⟩ := h
  exact ⟨F, h1.below b, h2.bar (barOf b []) (by simp), h3.below b, h4.trans (b.mono (by have := h4.size; omega)), h5⟩
theorem Tx.step {w0 : World} {N M : Nat} {cs : Array Value} {A : Option Addr} {n : Nat} {body : List Int} {st' : St} {w w' : World} {F F' : List Nat} (hN : N = w0.heap.size) (hA : Rd w0 A n body) (h2 : Blk w N 56 cs) (h4 : Below w0.heap.size w0 w) (h5 : ∀ k ∈ F, w0.heap.size + 1 ≤ k)
    (h1 : En 130 w' F' M st') (hf : Fp F F' w w') : Tx w0 N M cs A n body st' w' := by
  have hs : w0.heap.size + 1 ≤ w.heap.size := by have := h2.lt; omega
  have b : Below w0.heap.size w0 w' := h4.trans (hf.below (fun k hk => by have := h5 k hk; omega) (by omega))
  exact ⟨F', h1, h2.bar hf.1 (fun hk => by have := h5 _ hk; omega), hA.below b, b, hf.least h5 hs⟩
theorem txt_num {w0 : World} {N M : Nat} {cs : Array Value} {A : Option Addr} {n : Nat} {body : List Int} {st : St} {w : World} (hN : N = w0.heap.size) (hA : Rd w0 A n body) (h : Tx w0 N M cs A n body st w) (x s : Int) (hl : st.2.length ≤ 2147483648) :
    Calls Tryz.prog 71 #[.pointer (some ⟨M, 0, none⟩), .int .i64 x, .int .i64 s] w fun e w' => e = .returned (.tuple #[]) ∧ Tx w0 N M cs A n body (rencNum st x s) w' := by
  obtain ⟨F, h1, h2, h3, h4, h5⟩ := h
  refine (rnum_any w F M x s st h1 hl).mono ?_
  rintro e w' ⟨rfl, F', h6, h7⟩
  exact ⟨rfl, Tx.step hN hA h2 h4 h5 h6 h7⟩
theorem txt_raw {w0 : World} {N M : Nat} {cs : Array Value} {A : Option Addr} {n : Nat} {body : List Int} {st : St} {w : World} (hN : N = w0.heap.size) (hA : Rd w0 A n body) (h : Tx w0 N M cs A n body st w) (B : Option Addr) (m c : Nat) (b : List Int) (hr : Rd w B m b) (hl : st.2.length + m ≤ 4294967296) :
    Calls Tryz.prog 70 #[.pointer (some ⟨M, 0, none⟩), .slice B m c] w fun e w' => e = .returned (.tuple #[]) ∧ Tx w0 N M cs A n body (st.1, st.2 ++ b) w' := by
  obtain ⟨F, h1, h2, h3, h4, h5⟩ := h
  refine (rraw_any w F M B m c b st h1 hr hl).mono ?_
  rintro e w' ⟨rfl, F', h6, h7⟩
  exact ⟨rfl, Tx.step hN hA h2 h4 h5 h6 h7⟩
theorem rencNum_ok {n s : Int} {xs : List Int} (h : fits n s = true) : rencNum (0, xs) n s = (0, xs ++ be n.toNat s.toNat) := by unfold rencNum; rw [h]; simp

def RTextPost (f : FV) (w : World) (x : Ending) (w' : World) : Prop := ∃ A n c, x = .returned (.tuple #[.slice A n c, .int .i64 (errF f)]) ∧ n ≤ c ∧ c ≤ maxLen ∧ Rd w' A n (if errF f = 0 then textF f else []) ∧ Below w.heap.size w w'

set_option maxRecDepth 100000 in
set_option maxHeartbeats 1000000 in
theorem rtext_any (f : FV) (A : Option Addr) (n cap : Nat) (w : World) (hr : Rd w A n f.body) :
    Calls Tryz.prog 53 #[.agg #[.int .i64 f.kind, .int .i64 f.gen, .int .i64 f.seq, .slice A n cap]] w (RTextPost f w) := by
  have hlen := hr.1
  have HR := Kept.mk hr
  have H1 := Kept.mk fun w => rfits_any f.kind 1 w
  have H2 := Kept.mk fun w => rfits_any f.gen 4 w
  have H3 := Kept.mk fun w => rfits_any f.seq 4 w
  by_cases hbig : 60000 < n
  · have he : errF f = 3 := by unfold errF; rw [if_pos (by omega)]
    have HE := Kept.mk he
    have P1 : Kept (∀ w', Below w.heap.size w w' → RTextPost f w (.returned (.tuple #[.slice none 0 0, .int .i64 3])) w') := ⟨fun w' b => ⟨none, 0, 0, by rw [HE.out], Nat.le_refl _, by unfold maxLen; omega, by rw [HE.out]; exact Rd.nil_, b⟩⟩
    clear he hr hlen HE
    go_enter Tryz.func53, Tryz.ntmps53
    go_wp2
    go_ret2
    exact (P1.out _ ((Below.refl _ _).alloc (Nat.le_refl _) _))
  · have hn : n ≤ 60000 := by omega
    by_cases hf : fits f.kind 1 = true ∧ fits f.gen 4 = true ∧ fits f.seq 4 = true
    · obtain ⟨f1, f2, f3⟩ := hf
      rw [f1] at H1
      rw [f2] at H2
      rw [f3] at H3
      clear hr
      obtain ⟨W2, hW2⟩ : ∃ W2, (w.alloc (.cells #[.int .i64 f.kind, .int .i64 f.gen, .int .i64 f.seq, .slice A n cap] 56)).alloc (.cells #[.slice none 0 0, .int .i64 0] 130) = W2 := ⟨_, rfl⟩
      have hsz : W2.heap.size = w.heap.size + 1 + 1 := by subst hW2; simp
      have bel2 : Below w.heap.size w W2 := by subst hW2; exact ((Below.refl _ _).alloc (Nat.le_refl _) _).alloc (by simp) _
      have T2 : Tx w w.heap.size (w.heap.size + 1) #[.int .i64 f.kind, .int .i64 f.gen, .int .i64 f.seq, .slice A n cap] A n f.body (0, []) W2 := by
        refine ⟨[w.heap.size + 1], ⟨.slice none 0 0, ?_, World.ownsRow_nil _ _ _ _, by simp [Value.ownBlock]⟩, ?_, HR.out.below bel2, bel2, by simp⟩
        · subst hW2; exact Blk.new_at _ _ _ _ (by simp)
        · subst hW2; exact (Blk.new _ _ _).alloc _
      have hcv := Go.Joins.run_convert_bytes_const_at (P := Tryz.prog) W2 38 5 #[.int .u8 99, .int .u8 102] 2 2 (w.heap.size + 1 + 1) hsz.symm Tryz.underlying38 Tryz.underlying5
      go_enter Tryz.func53, Tryz.ntmps53
      go_wp2_with fail
      refine (H1.out _).mono ?_
      rintro x w' ⟨rfl, rfl⟩
      go_wp2_with fail
      refine (H2.out _).mono ?_
      rintro x w' ⟨rfl, rfl⟩
      go_wp2_with fail
      refine (H3.out _).mono ?_
      rintro x w' ⟨rfl, rfl⟩
      go_wp2_with fail
      have hr2 : Rd (W2.alloc (.cells #[.int .u8 99, .int .u8 102] 5 (2, 3))) (some ⟨w.heap.size + 1 + 1, 0, none⟩) 2 [99, 102] :=
        Rd.made (T := 5) (fr := (2, 3)) (by rw [← hsz]; exact heap_alloc_new W2 _) (by intro x hx; simp at hx; omega) rfl
      refine (txt_raw rfl HR.out (T2.below ((Below.refl _ _).alloc (Nat.le_refl _) _)) (some ⟨w.heap.size + 1 + 1, 0, none⟩) 2 2 [99, 102] hr2 (by simp)).mono ?_
      rintro x w3 ⟨rfl, T3⟩
      have t0 := T3.blk.cell 0
      clear T2 hcv hW2 bel2 hr2
      go_wp2_with fail
      refine (txt_num rfl HR.out T3 f.kind 1 (by simp)).mono ?_
      rintro x w4 ⟨rfl, T4⟩
      rw [rencNum_ok f1] at T4
      clear T3 t0
      go_wp2_with fail
      refine (txt_num rfl HR.out T4 0 1 (by simp [be_len])).mono ?_
      rintro x w5 ⟨rfl, T5⟩
      rw [rencNum_ok (by decide)] at T5
      have t1 := T5.blk.cell 1
      clear T4
      go_wp2_with fail
      refine (txt_num rfl HR.out T5 f.gen 4 (by simp [be_len])).mono ?_
      rintro x w6 ⟨rfl, T6⟩
      rw [rencNum_ok f2] at T6
      have t2 := T6.blk.cell 2
      clear T5 t1
      go_wp2_with fail
      refine (txt_num rfl HR.out T6 f.seq 4 (by simp [be_len])).mono ?_
      rintro x w7 ⟨rfl, T7⟩
      rw [rencNum_ok f3] at T7
      have t3 := T7.blk.cell 3
      clear T6 t2
      go_wp2_with fail
      refine (txt_num rfl HR.out T7 n 4 (by simp [be_len])).mono ?_
      rintro x w8 ⟨rfl, T8⟩
      rw [rencNum_ok (by unfold fits; simp; omega)] at T8
      clear T7 t3
      have hst : [] ++ [99, 102] ++ be f.kind.toNat (Int.toNat 1) ++ be (Int.toNat 0) (Int.toNat 1) ++ be f.gen.toNat (Int.toNat 4) ++ be f.seq.toNat (Int.toNat 4) ++ be (n : Int).toNat (Int.toNat 4) = headF f := by
        unfold headF; rw [hlen]; rfl
      rw [hst] at T8
      clear hst
      have t3 := T8.blk.cell 3
      obtain ⟨A8, c8, q0, hc8, hm8, r8⟩ : ∃ A8 c8, w8.cell? ⟨w.heap.size + 1, 0, none⟩ = some (.slice A8 16 c8) ∧ 16 ≤ c8 ∧ c8 ≤ 9223372036854775807 ∧ Rd w8 A8 16 (headF f) := by
        obtain ⟨F, ⟨v, b8, o8, -⟩, -⟩ := T8
        simp only [headF_len] at o8
        obtain ⟨A8, c8, rfl, h1, h2, h3⟩ := own_rd o8 (headF_bytes f)
        exact ⟨A8, c8, b8.cell 0, h1, h2, h3⟩
      go_upto_region 12 with (fail)
      refine wp_region_noPanic ?_
      refine wp_region_held_drew (S := fun w' : World => w'.cell? ⟨w.heap.size + 1, 0, none⟩ = some (.slice A8 16 c8) ∧ w'.cell? ⟨w.heap.size, 3, none⟩ = some (.slice A n cap)) (by kernel_rfl) ⟨q0, t3⟩ (fun _ => ?_)
      have bd : Below w8.heap.size w8 w8.drew := (Below.refl _ _).drew
      have T9 := T8.below bd
      have r9 := r8.below bd
      have CS : ∀ w', Below w8.heap.size w8 w' → w'.cell? ⟨w.heap.size + 1, 0, none⟩ = some (.slice A8 16 c8) ∧ w'.cell? ⟨w.heap.size, 3, none⟩ = some (.slice A n cap) := fun w' b => ⟨cell_bel q0 b, cell_bel t3 b⟩
      clear T8 r8
      generalize w8.drew = w9 at *
      refine wpAnyH_take (i := 0) (oi := ?o148) (v := ?v148) ?hi148 (by kernel_rfl) (by kernel_rfl) (by kernel_rfl) ?hq148 (Or.inl ⟨?hw148, ?hy148⟩) (by assumption) ?r148
      case hi148 => (simp only [List.getElem?_toArray, List.getElem?_cons_zero]; exact rfl)
      case hq148 => exact fun _ _ _ h => h
      case hw148 => rfl
      case hy148 => (intro w hSw; (try dsimp only at hSw); go_simp; try exact rfl)
      simp only [Act.put, List.setIfInBounds_toArray, List.set_cons_zero, List.set_cons_succ]
      refine wpAnyH_take (i := 1) (oi := ?o149) (v := ?v149) ?hi149 (by kernel_rfl) (by kernel_rfl) (by kernel_rfl) ?hq149 (Or.inl ⟨?hw149, ?hy149⟩) (by assumption) ?r149
      case hi149 => (simp only [List.getElem?_toArray, List.getElem?_cons_succ, List.getElem?_cons_zero]; exact rfl)
      case hq149 => exact fun _ _ _ h => h
      case hw149 => rfl
      case hy149 => (intro w hSw; (try dsimp only at hSw); go_simp; try exact rfl)
      simp only [Act.put, List.setIfInBounds_toArray, List.set_cons_zero, List.set_cons_succ]
      refine wpAnyH_take (i := 2) (oi := ?o150) (v := ?v150) ?hi150 (by kernel_rfl) (by kernel_rfl) (by kernel_rfl) ?hq150 (Or.inl ⟨?hw150, ?hy150⟩) (by assumption) ?r150
      case hi150 => (simp only [List.getElem?_toArray, List.getElem?_cons_succ, List.getElem?_cons_zero]; exact rfl)
      case hq150 => exact fun _ _ _ h => h
      case hw150 => rfl
      case hy150 => (intro w hSw; (try dsimp only at hSw); go_simp; try exact rfl)
      simp only [Act.put, List.setIfInBounds_toArray, List.set_cons_zero, List.set_cons_succ]
      refine wpAnyH_take (i := 3) (oi := ?o151) (v := ?v151) ?hi151 (by kernel_rfl) (by kernel_rfl) (by kernel_rfl) ?hq151 (Or.inl ⟨?hw151, ?hy151⟩) (by assumption) ?r151
      case hi151 => (simp only [List.getElem?_toArray, List.getElem?_cons_succ, List.getElem?_cons_zero]; exact rfl)
      case hq151 => exact fun _ _ _ h => h
      case hw151 => rfl
      case hy151 => (intro w hSw; (try dsimp only at hSw); go_simp; try exact rfl)
      simp only [Act.put, List.setIfInBounds_toArray, List.set_cons_zero, List.set_cons_succ]
      refine wpAnyH_take (i := 5) (oi := ?o152) (v := ?v152) ?hi152 (by kernel_rfl) (by kernel_rfl) (by kernel_rfl) ?hq152 (Or.inl ⟨?hw152, ?hy152⟩) (by assumption) ?r152
      case hi152 => (simp only [List.getElem?_toArray, List.getElem?_cons_succ, List.getElem?_cons_zero]; exact rfl)
      case hq152 => exact fun _ _ _ h => h
      case hw152 => rfl
      case hy152 => (intro w hSw; (try dsimp only at hSw); go_simp; try exact rfl)
      simp only [Act.put, List.setIfInBounds_toArray, List.set_cons_zero, List.set_cons_succ]
      refine wpAnyH_take (i := 6) (oi := ?o153) (v := ?v153) ?hi153 (by kernel_rfl) (by kernel_rfl) (by kernel_rfl) ?hq153 (Or.inl ⟨?hw153, ?hy153⟩) (by assumption) ?r153
      case hi153 => (simp only [List.getElem?_toArray, List.getElem?_cons_succ, List.getElem?_cons_zero]; exact rfl)
      case hq153 => exact fun _ _ _ h => h
      case hw153 => rfl
      case hy153 => (intro w hSw; (try dsimp only at hSw); go_simp; try exact rfl)
      simp only [Act.put, List.setIfInBounds_toArray, List.set_cons_zero, List.set_cons_succ]
      refine wpAnyH_ready (rs := [4]) (by kernel_rfl) (by simp) ?_
      refine AllReadyH.cons (o := ?o155) ?hi155 (fun K hK => ?_) AllReadyH.nil
      case hi155 => (simp only [List.getElem?_toArray, List.getElem?_cons_succ, List.getElem?_cons_zero]; exact rfl)
      go_simp
      go_at_call 42
      refine (copy_any A8 16 c8 (headF f) w9 r9 (by omega)).mono ?_
      rintro x w10 ⟨v10, rfl, o10, b10⟩
      have T10 := T9.below b10
      have B10 : Below w8.heap.size w8 w10 := bd.trans (b10.mono (by have := bd.size; omega))
      refine hK.out _ _ (CS _ B10) (fun _ => ?_)
      clear hK K r9
      try simp only [Act.put, List.setIfInBounds_toArray, List.set_cons_zero, List.set_cons_succ]
      refine wpAnyH_ready (rs := [7]) (by kernel_rfl) (by simp) ?_
      refine AllReadyH.cons (o := ?o157) ?hi157 (fun K hK => ?_) AllReadyH.nil
      case hi157 => (simp only [List.getElem?_toArray, List.getElem?_cons_succ, List.getElem?_cons_zero]; exact rfl)
      refine step_append_rd rfl (.tmp 55) (.tmp 57) 38 (by rfl) w9.heap.size 5 Tryz.underlying38 info_u8 _ 16 _ (by rfl) o10 A n cap f.body (by rfl) T10.rd (by omega) b10.size ?_
      intro v11 w11 o11 g11 b11 a11
      replace o11 := o11.out
      rw [← ints_append] at o11
      obtain ⟨A11, c11, rfl, hc11, hm11, r11⟩ := own_rd o11 ((headF_bytes f).append HR.out.2.1)
      have T11 := T9.below (b10.trans b11)
      have B11 : Below w8.heap.size w8 w11 := B10.trans (b11.mono (by have := bd.size; omega))
      refine hK.out _ _ (CS _ B11) (fun _ => ?_)
      clear hK K T9 T10 o11 o10 g11 a11
      try simp only [Act.put, List.setIfInBounds_toArray, List.set_cons_zero, List.set_cons_succ]
      refine wpAnyH_ready (rs := [8]) (by kernel_rfl) (by simp) ?_
      refine AllReadyH.cons (o := ?o156) ?hi156 (fun K hK => ?_) AllReadyH.nil
      case hi156 => (simp only [List.getElem?_toArray, List.getElem?_cons_succ, List.getElem?_cons_zero]; exact rfl)
      go_simp
      go_at_call 72
      refine (rhash_any A11 (16 + n) c11 (headF f ++ f.body) w11 r11 (by omega)).mono ?_
      rintro x w12 ⟨M, c12, rfl, hM, hc12, hm12, r12, b12⟩
      have T12 := T11.below b12
      have B12 : Below w8.heap.size w8 w12 := B11.trans (b12.mono (by have := B11.size; omega))
      refine hK.out _ _ (CS _ B12) (fun _ => ?_)
      clear hK K T11 r11
      try simp only [Act.put, List.setIfInBounds_toArray, List.set_cons_zero, List.set_cons_succ]
      refine wpAnyH_take (i := 9) (oi := ?o154) (v := ?v154) ?hi154 (by kernel_rfl) (by kernel_rfl) (by kernel_rfl) ?hq154 (Or.inl ⟨?hw154, ?hy154⟩) (by assumption) ?r154
      case hi154 => (simp only [List.getElem?_toArray, List.getElem?_cons_succ, List.getElem?_cons_zero]; exact rfl)
      case hq154 => exact fun _ _ _ h => h
      case hw154 => rfl
      case hy154 => (intro w hSw; (try dsimp only at hSw); go_simp; try exact rfl)
      simp only [Act.put, List.setIfInBounds_toArray, List.set_cons_zero, List.set_cons_succ]
      refine wpAnyH_done (by kernel_rfl) ?_ _
      refine NoPanic.normal ?_
      clear CS q0 t3 b10 b11 b12 B10 B11 B12 bd
      go_wp2_with fail
      refine (txt_raw rfl HR.out T12 _ 8 c12 _ (r12.upto (m := 8) (by omega)) (by simp [headF_len])).mono ?_
      rintro x w13 ⟨rfl, T13⟩
      have t3 := T13.blk.cell 3
      clear T12 r12
      go_wp2_with fail
      refine (txt_raw rfl HR.out T13 A n cap f.body T13.rd (by simp [headF_len, List.length_take]; omega)).mono ?_
      rintro x w14 ⟨rfl, T14⟩
      replace T14 : Tx w w.heap.size (w.heap.size + 1) #[.int .i64 f.kind, .int .i64 f.gen, .int .i64 f.seq, .slice A n cap] A n f.body (0, textF f) w14 := T14
      clear T13 t3
      have PE : Kept (∀ A' n' c', n' ≤ c' → c' ≤ maxLen → Rd w14 A' n' (textF f) → RTextPost f w (.returned (.tuple #[.slice A' n' c', .int .i64 0])) w14) := ⟨fun A' n' c' h1 h2 h3 => by
        have e0 : errF f = 0 := by unfold errF; rw [if_neg (by omega), if_pos ⟨f1, f2, f3⟩]
        exact ⟨A', n', c', by rw [e0], h1, h2, by rw [if_pos e0]; exact h3, T14.bel⟩⟩
      obtain ⟨F, ⟨v, b14, o14, -⟩, -⟩ := T14
      obtain ⟨A14, c14, rfl, hc14, hm14, r14⟩ := own_rd o14 (textF_bytes f HR.out.2.1)
      have q0 := b14.cell 0
      have PF := Kept.mk (PE.out _ _ _ hc14 hm14 r14)
      clear PE b14 o14 r14
      go_wp2
      go_ret2
      exact PF.out
    · have he : errF f = 1 := by unfold errF; rw [if_neg (by omega), if_neg hf]
      have P1 : Kept (∀ w', Below w.heap.size w w' → RTextPost f w (.returned (.tuple #[.slice none 0 0, .int .i64 1])) w') := ⟨fun w' b => ⟨none, 0, 0, by rw [he], Nat.le_refl _, by unfold maxLen; omega, by rw [he]; exact Rd.nil_, b⟩⟩
      clear he hr hlen
      cases f1 : fits f.kind 1 with
      | false =>
        rw [f1] at H1
        clear hf
        go_enter Tryz.func53, Tryz.ntmps53
        go_wp2_with fail
        refine (H1.out _).mono ?_
        rintro x w' ⟨rfl, rfl⟩
        go_wp2
        go_ret2
        exact (P1.out _ ((Below.refl _ _).alloc (Nat.le_refl _) _))
      | true =>
        rw [f1] at H1 hf
        cases f2 : fits f.gen 4 with
        | false =>
          rw [f2] at H2
          clear hf
          go_enter Tryz.func53, Tryz.ntmps53
          go_wp2_with fail
          refine (H1.out _).mono ?_
          rintro x w' ⟨rfl, rfl⟩
          go_wp2_with fail
          refine (H2.out _).mono ?_
          rintro x w' ⟨rfl, rfl⟩
          go_wp2
          go_ret2
          exact (P1.out _ ((Below.refl _ _).alloc (Nat.le_refl _) _))
        | true =>
          have f3 : fits f.seq 4 = false := by
            cases h : fits f.seq 4 with
            | false => rfl
            | true => exact absurd ⟨rfl, f2, h⟩ hf
          rw [f2] at H2
          rw [f3] at H3
          clear hf
          go_enter Tryz.func53, Tryz.ntmps53
          go_wp2_with fail
          refine (H1.out _).mono ?_
          rintro x w' ⟨rfl, rfl⟩
          go_wp2_with fail
          refine (H2.out _).mono ?_
          rintro x w' ⟨rfl, rfl⟩
          go_wp2_with fail
          refine (H3.out _).mono ?_
          rintro x w' ⟨rfl, rfl⟩
          go_wp2
          go_ret2
          exact (P1.out _ ((Below.refl _ _).alloc (Nat.le_refl _) _))
end Go.Proofs.YtjlhnhkjgcbnnaaGreat.Frame

/-
  The document's own frame: its sectors.
-/

namespace Go.Proofs.YtjlhnhkjgcbnnaaGreat.Frame
open Go.RowKit Go.Proofs.YtjlhnhkjgcbnnaaGreat.Sha Go.Proofs.YtjlhnhkjgcbnnaaGreat.Wire

theorem lay_step {w : World} {N q m : Nat} {v : Value} {b : List Int} (hq : 63 * m = q) (hml : q < b.length) (mk : Int) (hmk : mk = if m = 0 then 1 else 2)
    (o : w.ownsRow N 5 1 v (m + min q b.length + 1 + (min (q + 63) b.length - q)) (ints .u8 (cat (chunk b) m) ++ ints .u8 [mk] ++ ints .u8 ((b.take (min (q + 63) b.length)).drop q))) :
    w.ownsRow N 5 1 v (m + 1 + min (63 * (m + 1)) b.length) (ints .u8 (cat (chunk b) (m + 1))) := by
  have e : ints .u8 (cat (chunk b) m) ++ ints .u8 [mk] ++ ints .u8 ((b.take (min (q + 63) b.length)).drop q) = ints .u8 (cat (chunk b) (m + 1)) := by
    rw [piece_is, ← ints_append, ← ints_append, cat, chunk, hmk, hq]; simp
  rw [e, show m + min q b.length + 1 + (min (q + 63) b.length - q) = m + 1 + min (63 * (m + 1)) b.length by omega] at o
  exact o

def RPutPost (f : FV) (w : World) (x : Ending) (w' : World) : Prop := ∃ A n c, x = .returned (.tuple #[.slice A n c, .int .i64 (putF f).1]) ∧ n ≤ c ∧ c ≤ maxLen ∧ Rd w' A n (putF f).2 ∧ Below w.heap.size w w'
/-- with new memory -/
def RPutNew (f : FV) (w : World) (x : Ending) (w' : World) : Prop := ∃ A n c, x = .returned (.tuple #[.slice A n c, .int .i64 (putF f).1]) ∧ n ≤ c ∧ c ≤ maxLen ∧ Rd w' A n (putF f).2 ∧ Below w.heap.size w w' ∧ ∀ F : List Nat, (∀ k ∈ F, k < w.heap.size) → Off A n F

set_option maxRecDepth 100000 in
set_option maxHeartbeats 1000000 in
theorem rput_new (f : FV) (A : Option Addr) (n cap : Nat) (w : World) (hr : Rd w A n f.body) :
    Calls Tryz.prog 25 #[.agg #[.int .i64 f.kind, .int .i64 f.gen, .int .i64 f.seq, .slice A n cap]] w (RPutNew f w) := by
  have hlen := hr.1
  have b1 : Below w.heap.size w (w.alloc (.cells #[.int .i64 f.kind, .int .i64 f.gen, .int .i64 f.seq, .slice A n cap] 56)) := (Below.refl _ _).alloc (Nat.le_refl _) _
  have CT := Kept.mk (rtext_any f A n cap _ (hr.below b1))
  go_enter Tryz.func25, Tryz.ntmps25
  go_wp2_with fail
  refine CT.out.mono ?_
  rintro x wt ⟨At, nt, ct, rfl, hct, hcm, rt, bt⟩
  have hnt := rt.1
  have BT := Kept.mk (b1.trans (bt.mono (by simp)))
  have HRT := Kept.mk rt
  obtain ⟨N, hN⟩ : ∃ N, wt.heap.size = N := ⟨_, rfl⟩
  clear CT hr b1 bt rt
  by_cases he : errF f = 0
  · rw [if_pos he] at hnt HRT
    rw [he]
    have hL : (textF f).length ≤ 60024 := by
      rw [textF_len]; unfold errF at he; split at he <;> omega
    have PE : Kept (∀ A' n' c' w', n' ≤ c' → c' ≤ maxLen → Rd w' A' n' (laid (textF f)) → Below N wt w' → (∀ F : List Nat, (∀ k ∈ F, k < N) → Off A' n' F) → RPutNew f w (.returned (.tuple #[.slice A' n' c', .int .i64 0])) w') := ⟨fun A' n' c' w' h1 h2 h3 h4 h5 => by
      refine ⟨A', n', c', by simp only [putF, he], h1, h2, ?_, BT.out.trans (h4.mono (by rw [← hN]; exact BT.out.size)), fun F hF => h5 F (fun k hk => by have := hF k hk; have := BT.out.size; omega)⟩
      simp only [putF]; rw [if_pos he]; exact h3⟩
    obtain ⟨b, hb⟩ : ∃ b, textF f = b := ⟨_, rfl⟩
    rw [hb] at hnt HRT hL PE
    subst hnt
    clear he hb BT
    go_wp2_with fail
    go_loopw [6, 7, 8] (fun v j _mk wr => ∃ m : Nat, m ≤ secs b.length ∧ j = .int .i64 ((63 * m : Nat) : Int) ∧ Kept (wr.ownsRow N 5 1 v (m + min (63 * m) b.length) (ints .u8 (cat (chunk b) m))) ∧ Kept (Below N wt wr)) (fun _ j _ _ => b.length + 63 - (Go.RowKit.intOf j).toNat)
    case atStart => exact ⟨0, by omega, rfl, ⟨World.ownsRow_nil _ _ _ _⟩, ⟨Below.refl _ _⟩⟩
    case round =>
      obtain ⟨m, hm, rfl, O, B⟩ := hrel
      by_cases hml : 63 * m < b.length
      · have hml' : ((63 * m : Nat) : Int) < b.length := by omega
        obtain ⟨q, hq⟩ : ∃ q, 63 * m = q := ⟨_, rfl⟩
        rw [hq] at hml hml' O ⊢
        by_cases hm0 : m = 0
        · have hq0 : q = 0 := by omega
          go_upto_region 11 with (fail)
          clear hq0
          have bd : Below N wt wr.drew := B.out.drew
          have od := O.out.drew
          have WR : IntKind.i64.wrap ((q : Int) + 63) = (q : Int) + 63 := by simp only [IntKind.wrap_i64]; omega
          obtain ⟨A2, hs, r2, -⟩ := slice_lh HRT.out hct q (min (q + 63) b.length) (by omega) (by omega) (q : Int) (if (b.length : Int) < (q : Int) + 63 then (b.length : Int) else (q : Int) + 63) rfl (by split <;> omega)
          refine wp_region_noPanic ?_
          refine wp_region_held_drew (S := fun _ : World => True) (by kernel_rfl) trivial (fun _ => ?_)
          generalize wr.drew = wd at *
          refine wpAnyH_take (i := 0) (oi := ?o158) (v := ?v158) ?hi158 (by kernel_rfl) (by kernel_rfl) (by kernel_rfl) ?hq158 (Or.inl ⟨?hw158, ?hy158⟩) (by assumption) ?r158
          case hi158 => (simp only [List.getElem?_toArray, List.getElem?_cons_zero]; exact rfl)
          case hq158 => exact fun _ _ _ h => h
          case hw158 => rfl
          case hy158 => (intro w hSw; (try dsimp only at hSw); go_simp; try exact rfl)
          simp only [Act.put, List.setIfInBounds_toArray, List.set_cons_zero, List.set_cons_succ]
          refine wpAnyH_take (i := 1) (oi := ?o159) (v := ?v159) ?hi159 (by kernel_rfl) (by kernel_rfl) (by kernel_rfl) ?hq159 (Or.inl ⟨?hw159, ?hy159⟩) (by assumption) ?r159
          case hi159 => (simp only [List.getElem?_toArray, List.getElem?_cons_succ, List.getElem?_cons_zero]; exact rfl)
          case hq159 => exact fun _ _ _ h => h
          case hw159 => rfl
          case hy159 => (intro w hSw; (try dsimp only at hSw); go_simp; try exact rfl)
          simp only [Act.put, List.setIfInBounds_toArray, List.set_cons_zero, List.set_cons_succ]
          refine wpAnyH_take (i := 4) (oi := ?o160) (v := ?v160) ?hi160 (by kernel_rfl) (by kernel_rfl) (by kernel_rfl) ?hq160 (Or.inl ⟨?hw160, ?hy160⟩) (by assumption) ?r160
          case hi160 => (simp only [List.getElem?_toArray, List.getElem?_cons_succ, List.getElem?_cons_zero]; exact rfl)
          case hq160 => exact fun _ _ _ h => h
          case hw160 => rfl
          case hy160 => (intro w hSw; (try dsimp only at hSw); go_simp; try exact rfl)
          simp only [Act.put, List.setIfInBounds_toArray, List.set_cons_zero, List.set_cons_succ]
          refine wpAnyH_take (i := 5) (oi := ?o161) (v := ?v161) ?hi161 (by kernel_rfl) (by kernel_rfl) (by kernel_rfl) ?hq161 (Or.inl ⟨?hw161, ?hy161⟩) (by assumption) ?r161
          case hi161 => (simp only [List.getElem?_toArray, List.getElem?_cons_succ, List.getElem?_cons_zero]; exact rfl)
          case hq161 => exact fun _ _ _ h => h
          case hw161 => rfl
          case hy161 => (intro w hSw; (try dsimp only at hSw); go_simp; try exact rfl)
          simp only [Act.put, List.setIfInBounds_toArray, List.set_cons_zero, List.set_cons_succ]
          refine wpAnyH_take (i := 6) (oi := ?o162) (v := ?v162) ?hi162 (by kernel_rfl) (by kernel_rfl) (by kernel_rfl) ?hq162 (Or.inl ⟨?hw162, ?hy162⟩) (by assumption) ?r162
          case hi162 => (simp only [List.getElem?_toArray, List.getElem?_cons_succ, List.getElem?_cons_zero]; exact rfl)
          case hq162 => exact fun _ _ _ h => h
          case hw162 => rfl
          case hy162 => (intro w hSw; (try dsimp only at hSw); go_simp; try exact rfl)
          simp only [Act.put, List.setIfInBounds_toArray, List.set_cons_zero, List.set_cons_succ]
          refine wpAnyH_take (i := 7) (oi := ?o163) (v := ?v163) ?hi163 (by kernel_rfl) (by kernel_rfl) (by kernel_rfl) ?hq163 (Or.inl ⟨?hw163, ?hy163⟩) (by assumption) ?r163
          case hi163 => (simp only [List.getElem?_toArray, List.getElem?_cons_succ, List.getElem?_cons_zero]; exact rfl)
          case hq163 => exact fun _ _ _ h => h
          case hw163 => rfl
          case hy163 => (intro w hSw; (try dsimp only at hSw); go_simp; try exact rfl)
          simp only [Act.put, List.setIfInBounds_toArray, List.set_cons_zero, List.set_cons_succ]
          refine wpAnyH_take (i := 8) (oi := ?o164) (v := ?v164) ?hi164 (by kernel_rfl) (by kernel_rfl) (by kernel_rfl) ?hq164 (Or.inl ⟨?hw164, ?hy164⟩) (by assumption) ?r164
          case hi164 => (simp only [List.getElem?_toArray, List.getElem?_cons_succ, List.getElem?_cons_zero]; exact rfl)
          case hq164 => exact fun _ _ _ h => h
          case hw164 => rfl
          case hy164 => (intro w hSw; (try dsimp only at hSw); go_simp; try exact rfl)
          simp only [Act.put, List.setIfInBounds_toArray, List.set_cons_zero, List.set_cons_succ]
          refine wpAnyH_take (i := 9) (oi := ?o165) (v := ?v165) ?hi165 (by kernel_rfl) (by kernel_rfl) (by kernel_rfl) ?hq165 (Or.inl ⟨?hw165, ?hy165⟩) (by assumption) ?r165
          case hi165 => (simp only [List.getElem?_toArray, List.getElem?_cons_succ, List.getElem?_cons_zero]; exact rfl)
          case hq165 => exact fun _ _ _ h => h
          case hw165 => rfl
          case hy165 => (intro w hSw; (try dsimp only at hSw); go_simp; try exact rfl)
          simp only [Act.put, List.setIfInBounds_toArray, List.set_cons_zero, List.set_cons_succ]
          refine wpAnyH_take (i := 10) (oi := ?o166) (v := ?v166) ?hi166 (by kernel_rfl) (by kernel_rfl) (by kernel_rfl) ?hq166 (Or.inl ⟨?hw166, ?hy166⟩) (by assumption) ?r166
          case hi166 => (simp only [List.getElem?_toArray, List.getElem?_cons_succ, List.getElem?_cons_zero]; exact rfl)
          case hq166 => exact fun _ _ _ h => h
          case hw166 => rfl
          case hy166 => (intro w hSw; (try dsimp only at hSw); go_simp; try exact rfl)
          simp only [Act.put, List.setIfInBounds_toArray, List.set_cons_zero, List.set_cons_succ]
          refine wpAnyH_take (i := 11) (oi := ?o167) (v := ?v167) ?hi167 (by kernel_rfl) (by kernel_rfl) (by kernel_rfl) ?hq167 (Or.inl ⟨?hw167, ?hy167⟩) (by assumption) ?r167
          case hi167 => (simp only [List.getElem?_toArray, List.getElem?_cons_succ, List.getElem?_cons_zero]; exact rfl)
          case hq167 => exact fun _ _ _ h => h
          case hw167 => rfl
          case hy167 => (intro w hSw; (try dsimp only at hSw); go_simp; try exact rfl)
          simp only [Act.put, List.setIfInBounds_toArray, List.set_cons_zero, List.set_cons_succ]
          refine wpAnyH_ready (rs := [2]) (by kernel_rfl) (by simp) ?_
          refine AllReadyH.cons (o := ?o180) ?hi180 (fun K hK => ?_) AllReadyH.nil
          case hi180 => (simp only [List.getElem?_toArray, List.getElem?_cons_succ, List.getElem?_cons_zero]; exact rfl)
          go_simp
          have RB := Kept.mk (Blk.new wd 5 #[.int .u8 1])
          have O8 := od.alloc (.cells #[.int .u8 1] 5)
          have hsz : N ≤ wd.heap.size := by rw [← hN]; exact bd.size
          have B9 : Below N wt (wd.alloc (.cells #[.int .u8 1] 5)) := bd.alloc hsz _
          refine hK.out _ _ trivial (fun _ => ?_)
          clear hK K od bd
          try simp only [Act.put, List.setIfInBounds_toArray, List.set_cons_zero, List.set_cons_succ]
          generalize wd.alloc (.cells #[.int .u8 1] 5) = w9 at *
          generalize wd.heap.size = gB at *
          refine wpAnyH_ready (rs := [3]) (by kernel_rfl) (by simp) ?_
          refine AllReadyH.cons (o := ?o182) ?hi182 (fun K hK => ?_) AllReadyH.nil
          case hi182 => (simp only [List.getElem?_toArray, List.getElem?_cons_succ, List.getElem?_cons_zero]; exact rfl)
          refine step_append_rd rfl (.tmp 25) (.tmp 27) 38 (by rfl) N 5 Tryz.underlying38 info_u8 _ _ _ (by rfl) O8 (some ⟨gB, 0, none⟩) 1 1 [1] (by rfl) (Rd.blk (xs := [1]) RB.out (by intro x hx; simp at hx; omega) rfl) (by unfold secs at hm; omega) (by rw [← hN]; exact B9.size) ?_
          intro v3 w3 o3 g3 b3 a3
          have B3 := B9.trans b3
          refine hK.out _ _ trivial (fun _ => ?_)
          clear hK K
          try simp only [Act.put, List.setIfInBounds_toArray, List.set_cons_zero, List.set_cons_succ]
          refine wpAnyH_ready (rs := [12]) (by kernel_rfl) (by simp) ?_
          refine AllReadyH.cons (o := ?o183) ?hi183 (fun K hK => ?_) AllReadyH.nil
          case hi183 => (simp only [List.getElem?_toArray, List.getElem?_cons_succ, List.getElem?_cons_zero]; exact rfl)
          refine step_append_rd rfl (.tmp 28) (.tmp 36) 38 (by rfl) N 5 Tryz.underlying38 info_u8 _ _ _ (by rfl) o3.out A2 (min (q + 63) b.length - q) (ct - q) _ (by rfl) (r2.below (by rw [hN]; exact B3)) (by unfold secs at hm; omega) (by rw [← hN]; exact B3.size) ?_
          intro v12 w12 o12 g12 b12 a12
          have B12 := Kept.mk (B3.trans b12)
          refine hK.out _ _ trivial (fun _ => ?_)
          clear hK K
          try simp only [Act.put, List.setIfInBounds_toArray, List.set_cons_zero, List.set_cons_succ]
          refine wpAnyH_take (i := 13) (oi := ?o168) (v := ?v168) ?hi168 (by kernel_rfl) (by kernel_rfl) (by kernel_rfl) ?hq168 (Or.inl ⟨?hw168, ?hy168⟩) (by assumption) ?r168
          case hi168 => (simp only [List.getElem?_toArray, List.getElem?_cons_succ, List.getElem?_cons_zero]; exact rfl)
          case hq168 => exact fun _ _ _ h => h
          case hw168 => rfl
          case hy168 => (intro w hSw; (try dsimp only at hSw); go_simp; try exact rfl)
          simp only [Act.put, List.setIfInBounds_toArray, List.set_cons_zero, List.set_cons_succ]
          refine wpAnyH_done (by kernel_rfl) ?_ _
          refine NoPanic.normal ?_
          have O12 := Kept.mk (lay_step hq hml 1 (by rw [if_pos hm0]) o12.out)
          clear o12 g12 b12 a12 B3 o3 g3 b3 a3 B9 O8 RB hs r2 WR
          go_wp2
          go_roundw
          case rel => exact ⟨m + 1, by unfold secs; omega, by go_num, O12, B12⟩
          case measure => simp [Go.RowKit.intOf]; omega
        · have hq0 : ¬ (q : Int) = 0 := by omega
          go_upto_region 11 with (fail)
          clear hq0
          have bd : Below N wt wr.drew := B.out.drew
          have od := O.out.drew
          have WR : IntKind.i64.wrap ((q : Int) + 63) = (q : Int) + 63 := by simp only [IntKind.wrap_i64]; omega
          obtain ⟨A2, hs, r2, -⟩ := slice_lh HRT.out hct q (min (q + 63) b.length) (by omega) (by omega) (q : Int) (if (b.length : Int) < (q : Int) + 63 then (b.length : Int) else (q : Int) + 63) rfl (by split <;> omega)
          refine wp_region_noPanic ?_
          refine wp_region_held_drew (S := fun _ : World => True) (by kernel_rfl) trivial (fun _ => ?_)
          generalize wr.drew = wd at *
          refine wpAnyH_take (i := 0) (oi := ?o169) (v := ?v169) ?hi169 (by kernel_rfl) (by kernel_rfl) (by kernel_rfl) ?hq169 (Or.inl ⟨?hw169, ?hy169⟩) (by assumption) ?r169
          case hi169 => (simp only [List.getElem?_toArray, List.getElem?_cons_zero]; exact rfl)
          case hq169 => exact fun _ _ _ h => h
          case hw169 => rfl
          case hy169 => (intro w hSw; (try dsimp only at hSw); go_simp; try exact rfl)
          simp only [Act.put, List.setIfInBounds_toArray, List.set_cons_zero, List.set_cons_succ]
          refine wpAnyH_take (i := 1) (oi := ?o170) (v := ?v170) ?hi170 (by kernel_rfl) (by kernel_rfl) (by kernel_rfl) ?hq170 (Or.inl ⟨?hw170, ?hy170⟩) (by assumption) ?r170
          case hi170 => (simp only [List.getElem?_toArray, List.getElem?_cons_succ, List.getElem?_cons_zero]; exact rfl)
          case hq170 => exact fun _ _ _ h => h
          case hw170 => rfl
          case hy170 => (intro w hSw; (try dsimp only at hSw); go_simp; try exact rfl)
          simp only [Act.put, List.setIfInBounds_toArray, List.set_cons_zero, List.set_cons_succ]
          refine wpAnyH_take (i := 4) (oi := ?o171) (v := ?v171) ?hi171 (by kernel_rfl) (by kernel_rfl) (by kernel_rfl) ?hq171 (Or.inl ⟨?hw171, ?hy171⟩) (by assumption) ?r171
          case hi171 => (simp only [List.getElem?_toArray, List.getElem?_cons_succ, List.getElem?_cons_zero]; exact rfl)
          case hq171 => exact fun _ _ _ h => h
          case hw171 => rfl
          case hy171 => (intro w hSw; (try dsimp only at hSw); go_simp; try exact rfl)
          simp only [Act.put, List.setIfInBounds_toArray, List.set_cons_zero, List.set_cons_succ]
          refine wpAnyH_take (i := 5) (oi := ?o172) (v := ?v172) ?hi172 (by kernel_rfl) (by kernel_rfl) (by kernel_rfl) ?hq172 (Or.inl ⟨?hw172, ?hy172⟩) (by assumption) ?r172
          case hi172 => (simp only [List.getElem?_toArray, List.getElem?_cons_succ, List.getElem?_cons_zero]; exact rfl)
          case hq172 => exact fun _ _ _ h => h
          case hw172 => rfl
          case hy172 => (intro w hSw; (try dsimp only at hSw); go_simp; try exact rfl)
          simp only [Act.put, List.setIfInBounds_toArray, List.set_cons_zero, List.set_cons_succ]
          refine wpAnyH_take (i := 6) (oi := ?o173) (v := ?v173) ?hi173 (by kernel_rfl) (by kernel_rfl) (by kernel_rfl) ?hq173 (Or.inl ⟨?hw173, ?hy173⟩) (by assumption) ?r173
          case hi173 => (simp only [List.getElem?_toArray, List.getElem?_cons_succ, List.getElem?_cons_zero]; exact rfl)
          case hq173 => exact fun _ _ _ h => h
          case hw173 => rfl
          case hy173 => (intro w hSw; (try dsimp only at hSw); go_simp; try exact rfl)
          simp only [Act.put, List.setIfInBounds_toArray, List.set_cons_zero, List.set_cons_succ]
          refine wpAnyH_take (i := 7) (oi := ?o174) (v := ?v174) ?hi174 (by kernel_rfl) (by kernel_rfl) (by kernel_rfl) ?hq174 (Or.inl ⟨?hw174, ?hy174⟩) (by assumption) ?r174
          case hi174 => (simp only [List.getElem?_toArray, List.getElem?_cons_succ, List.getElem?_cons_zero]; exact rfl)
          case hq174 => exact fun _ _ _ h => h
          case hw174 => rfl
          case hy174 => (intro w hSw; (try dsimp only at hSw); go_simp; try exact rfl)
          simp only [Act.put, List.setIfInBounds_toArray, List.set_cons_zero, List.set_cons_succ]
          refine wpAnyH_take (i := 8) (oi := ?o175) (v := ?v175) ?hi175 (by kernel_rfl) (by kernel_rfl) (by kernel_rfl) ?hq175 (Or.inl ⟨?hw175, ?hy175⟩) (by assumption) ?r175
          case hi175 => (simp only [List.getElem?_toArray, List.getElem?_cons_succ, List.getElem?_cons_zero]; exact rfl)
          case hq175 => exact fun _ _ _ h => h
          case hw175 => rfl
          case hy175 => (intro w hSw; (try dsimp only at hSw); go_simp; try exact rfl)
          simp only [Act.put, List.setIfInBounds_toArray, List.set_cons_zero, List.set_cons_succ]
          refine wpAnyH_take (i := 9) (oi := ?o176) (v := ?v176) ?hi176 (by kernel_rfl) (by kernel_rfl) (by kernel_rfl) ?hq176 (Or.inl ⟨?hw176, ?hy176⟩) (by assumption) ?r176
          case hi176 => (simp only [List.getElem?_toArray, List.getElem?_cons_succ, List.getElem?_cons_zero]; exact rfl)
          case hq176 => exact fun _ _ _ h => h
          case hw176 => rfl
          case hy176 => (intro w hSw; (try dsimp only at hSw); go_simp; try exact rfl)
          simp only [Act.put, List.setIfInBounds_toArray, List.set_cons_zero, List.set_cons_succ]
          refine wpAnyH_take (i := 10) (oi := ?o177) (v := ?v177) ?hi177 (by kernel_rfl) (by kernel_rfl) (by kernel_rfl) ?hq177 (Or.inl ⟨?hw177, ?hy177⟩) (by assumption) ?r177
          case hi177 => (simp only [List.getElem?_toArray, List.getElem?_cons_succ, List.getElem?_cons_zero]; exact rfl)
          case hq177 => exact fun _ _ _ h => h
          case hw177 => rfl
          case hy177 => (intro w hSw; (try dsimp only at hSw); go_simp; try exact rfl)
          simp only [Act.put, List.setIfInBounds_toArray, List.set_cons_zero, List.set_cons_succ]
          refine wpAnyH_take (i := 11) (oi := ?o178) (v := ?v178) ?hi178 (by kernel_rfl) (by kernel_rfl) (by kernel_rfl) ?hq178 (Or.inl ⟨?hw178, ?hy178⟩) (by assumption) ?r178
          case hi178 => (simp only [List.getElem?_toArray, List.getElem?_cons_succ, List.getElem?_cons_zero]; exact rfl)
          case hq178 => exact fun _ _ _ h => h
          case hw178 => rfl
          case hy178 => (intro w hSw; (try dsimp only at hSw); go_simp; try exact rfl)
          simp only [Act.put, List.setIfInBounds_toArray, List.set_cons_zero, List.set_cons_succ]
          refine wpAnyH_ready (rs := [2]) (by kernel_rfl) (by simp) ?_
          refine AllReadyH.cons (o := ?o181) ?hi181 (fun K hK => ?_) AllReadyH.nil
          case hi181 => (simp only [List.getElem?_toArray, List.getElem?_cons_succ, List.getElem?_cons_zero]; exact rfl)
          go_simp
          have RB := Kept.mk (Blk.new wd 5 #[.int .u8 2])
          have O8 := od.alloc (.cells #[.int .u8 2] 5)
          have hsz : N ≤ wd.heap.size := by rw [← hN]; exact bd.size
          have B9 : Below N wt (wd.alloc (.cells #[.int .u8 2] 5)) := bd.alloc hsz _
          refine hK.out _ _ trivial (fun _ => ?_)
          clear hK K od bd
          try simp only [Act.put, List.setIfInBounds_toArray, List.set_cons_zero, List.set_cons_succ]
          generalize wd.alloc (.cells #[.int .u8 2] 5) = w9 at *
          generalize wd.heap.size = gB at *
          refine wpAnyH_ready (rs := [3]) (by kernel_rfl) (by simp) ?_
          refine AllReadyH.cons (o := ?o184) ?hi184 (fun K hK => ?_) AllReadyH.nil
          case hi184 => (simp only [List.getElem?_toArray, List.getElem?_cons_succ, List.getElem?_cons_zero]; exact rfl)
          refine step_append_rd rfl (.tmp 25) (.tmp 27) 38 (by rfl) N 5 Tryz.underlying38 info_u8 _ _ _ (by rfl) O8 (some ⟨gB, 0, none⟩) 1 1 [2] (by rfl) (Rd.blk (xs := [2]) RB.out (by intro x hx; simp at hx; omega) rfl) (by unfold secs at hm; omega) (by rw [← hN]; exact B9.size) ?_
          intro v3 w3 o3 g3 b3 a3
          have B3 := B9.trans b3
          refine hK.out _ _ trivial (fun _ => ?_)
          clear hK K
          try simp only [Act.put, List.setIfInBounds_toArray, List.set_cons_zero, List.set_cons_succ]
          refine wpAnyH_ready (rs := [12]) (by kernel_rfl) (by simp) ?_
          refine AllReadyH.cons (o := ?o185) ?hi185 (fun K hK => ?_) AllReadyH.nil
          case hi185 => (simp only [List.getElem?_toArray, List.getElem?_cons_succ, List.getElem?_cons_zero]; exact rfl)
          refine step_append_rd rfl (.tmp 28) (.tmp 36) 38 (by rfl) N 5 Tryz.underlying38 info_u8 _ _ _ (by rfl) o3.out A2 (min (q + 63) b.length - q) (ct - q) _ (by rfl) (r2.below (by rw [hN]; exact B3)) (by unfold secs at hm; omega) (by rw [← hN]; exact B3.size) ?_
          intro v12 w12 o12 g12 b12 a12
          have B12 := Kept.mk (B3.trans b12)
          refine hK.out _ _ trivial (fun _ => ?_)
          clear hK K
          try simp only [Act.put, List.setIfInBounds_toArray, List.set_cons_zero, List.set_cons_succ]
          refine wpAnyH_take (i := 13) (oi := ?o179) (v := ?v179) ?hi179 (by kernel_rfl) (by kernel_rfl) (by kernel_rfl) ?hq179 (Or.inl ⟨?hw179, ?hy179⟩) (by assumption) ?r179
          case hi179 => (simp only [List.getElem?_toArray, List.getElem?_cons_succ, List.getElem?_cons_zero]; exact rfl)
          case hq179 => exact fun _ _ _ h => h
          case hw179 => rfl
          case hy179 => (intro w hSw; (try dsimp only at hSw); go_simp; try exact rfl)
          simp only [Act.put, List.setIfInBounds_toArray, List.set_cons_zero, List.set_cons_succ]
          refine wpAnyH_done (by kernel_rfl) ?_ _
          refine NoPanic.normal ?_
          have O12 := Kept.mk (lay_step hq hml 2 (by rw [if_neg hm0]) o12.out)
          clear o12 g12 b12 a12 B3 o3 g3 b3 a3 B9 O8 RB hs r2 WR
          go_wp2
          go_roundw
          case rel => exact ⟨m + 1, by unfold secs; omega, by go_num, O12, B12⟩
          case measure => simp [Go.RowKit.intOf]; omega
      · have hml' : ¬ ((63 * m : Nat) : Int) < b.length := by omega
        obtain rfl : m = secs b.length := by unfold secs at hm ⊢; omega
        obtain ⟨S, hS⟩ : ∃ S, secs b.length = S := ⟨_, rfl⟩
        have hSd : (b.length + 62) / 63 = S := by rw [← hS]; rfl
        obtain ⟨t, ht⟩ : ∃ t, 64 * S - (S + b.length) = t := ⟨_, rfl⟩
        have hlaid : laid b = cat (chunk b) S ++ List.replicate t 0 := by unfold laid; rw [hS, ht]
        rw [hS] at O hml hml' hm ⊢
        rw [show S + min (63 * S) b.length = S + b.length by omega] at O
        rw [hlaid] at PE
        obtain ⟨l, hl⟩ : ∃ l, S + b.length = l := ⟨_, rfl⟩
        rw [hl] at O ht
        have hcl : (cat (chunk b) S).length = l := by have := O.out.1; rw [ints_len] at this; omega
        have hcb : Bytes (cat (chunk b) S) := cat_chunk_bytes b HRT.out.2.1 S
        have hl1 : l + t = 64 * S := by omega
        have ht64 : t < 64 := by omega
        have hl2 : l + t ≤ 64000 := by omega
        clear hlaid
        generalize cat (chunk b) S = C at *
        go_wp2
        go_loopw [6] (fun v wr => ∃ (p c : Nat) (Av : Option Addr), v = .slice Av (l + p) c ∧ p ≤ t ∧ Kept (wr.ownsRow N 5 1 v (l + p) (ints .u8 (C ++ List.replicate p 0))) ∧ Kept (Below N wt wr)) (fun v _ => l + t - lenOf v)
        case atStart =>
          obtain ⟨Av, c, rfl⟩ := own_shape O.out
          exact ⟨0, c, Av, rfl, by omega, by simpa using O, B⟩
        case round =>
          obtain ⟨p, c, Av, rfl, hp, O2, B2⟩ := hrel
          obtain ⟨y, hy⟩ : ∃ y, l + p = y := ⟨_, rfl⟩
          have hy2 : y ≤ 64000 := by omega
          have hr0 : Int.tmod (y : Int) 64 = ((y % 64 : Nat) : Int) := by rw [Int.tmod_eq_emod_of_nonneg (by omega)]; omega
          by_cases hpt : p < t
          · have hne : ¬ ((y % 64 : Nat) : Int) = 0 := by omega
            rw [hy] at O2 ⊢
            have hz : l + (p + 1) = y + 1 := by omega
            generalize y % 64 = z at *
            go_wp2_with ((with_reducible refine sel 44 ?_); refine wpList_append_rda rfl (.tmp 42) (.tmp 43) 38 rfl N 5 Tryz.underlying38 info_u8 _ y _ rfl (O2.out.alloc _) _ 1 1 [0] rfl (rd_one _ _ (by omega)) (by omega) (by have := B2.out.size; simp; omega) ?_; intro v7 w7 o7 g7 a7; have B7 := Kept.mk ((B2.out.alloc (by have := B2.out.size; omega) (.cells #[.int .u8 0] 5)).trans (own_below (O2.out.alloc (.cells #[.int .u8 0] 5)) g7 (by have := B2.out.size; simp; omega))); clear g7 a7)
            obtain ⟨A7, c7, rfl⟩ := own_shape o7.out
            go_roundw
            case rel =>
              refine ⟨p + 1, c7, A7, by rw [hz], by omega, ⟨?_⟩, B7⟩
              have := o7.out
              rw [← ints_append, List.append_assoc, ← List.replicate_succ'] at this
              rw [hz]; exact this
            case measure => simp [lenOf]; omega
          · obtain rfl : p = t := by omega
            have hne : ((y % 64 : Nat) : Int) = 0 := by omega
            have h5 : ∀ F : List Nat, (∀ k ∈ F, k < N) → Off Av (l + p) F := fun F hF => own_off O2.out (fun q hq hm => by
              have := (O2.out.lt q (by simpa using hq)).1
              have := hF q hm
              omega)
            obtain ⟨-, h1, h2, h3⟩ : True ∧ l + p ≤ c ∧ c ≤ 9223372036854775807 ∧ Rd wr Av (l + p) (C ++ List.replicate p 0) := by
              obtain ⟨A', c', e1, h1, h2, h3⟩ := own_rd O2.out (hcb.append (fun x hx => by have := List.eq_of_mem_replicate hx; omega))
              injection e1 with e1 e2 e3
              subst e1 e3
              exact ⟨trivial, h1, h2, h3⟩
            have PF := Kept.mk (PE.out _ _ _ _ h1 h2 h3 B2.out h5)
            rw [hy] at PF ⊢
            generalize y % 64 = z at *
            clear PE h3 h5
            go_wp2
            go_ret2
            exact PF.out
  · rw [if_neg he] at hnt HRT
    have PE : Kept (∀ w', Below w.heap.size w w' → RPutNew f w (.returned (.tuple #[.slice none 0 0, .int .i64 (errF f)])) w') := ⟨fun w' h => ⟨none, 0, 0, rfl, Nat.le_refl _, by unfold maxLen; omega, by simp only [putF]; rw [if_neg he]; exact Rd.nil_, h, fun _ _ => .inl rfl⟩⟩
    have PF := Kept.mk (PE.out _ BT.out)
    have he2 : (errF f == 0) = false := by simpa using he
    generalize errF f = er at *
    clear PE
    go_wp2
    go_ret2
    exact PF.out
theorem rput_any (f : FV) (A : Option Addr) (n cap : Nat) (w : World) (hr : Rd w A n f.body) :
    Calls Tryz.prog 25 #[.agg #[.int .i64 f.kind, .int .i64 f.gen, .int .i64 f.seq, .slice A n cap]] w (RPutPost f w) :=
  (rput_new f A n cap w hr).mono fun _ _ ⟨A', n', c', h1, h2, h3, h4, h5, _⟩ => ⟨A', n', c', h1, h2, h3, h4, h5⟩
end Go.Proofs.YtjlhnhkjgcbnnaaGreat.Frame
