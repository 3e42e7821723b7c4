/-
  Package mac: Equal, Key; the document's Key; two lists of bytes held against each other; the chapter's example.
-/
import Derived.Test.YtblhfbpokfegnaaMacNew
import Derived.Test.YtblhfbpokfegnaaMacRef
import Derived.Lib.Bytes
namespace Go.Proofs.Ytblhfbpokfegnaa.Mac
open Go.RowKit Go.Proofs.Ytblhfbpokfegnaa.Sha

theorem strOfNums_inj {xs ys : List Int} (hx : Bytes xs) (hy : Bytes ys) (h : (strOfNums xs).toList = (strOfNums ys).toList) : xs = ys := by
  have h1 : (xs.map fun n => UInt8.ofNat n.toNat) = ys.map fun n => UInt8.ofNat n.toNat := by
    rw [Lib.strOfNums_toList, Lib.strOfNums_toList] at h
    exact h
  have hl : xs.length = ys.length := by simpa using congrArg List.length h1
  apply List.ext_getElem hl
  intro i a b
  have h2 : UInt8.ofNat (xs[i]).toNat = UInt8.ofNat (ys[i]).toNat := by
    have := congrArg (fun l => l[i]?) h1
    simpa [a, b] using this
  have bx := hx xs[i] (List.getElem_mem a)
  have byy := hy ys[i] (List.getElem_mem b)
  have h3 := congrArg UInt8.toNat h2
  simp only [UInt8.toNat_ofNat'] at h3
  omega

set_option maxRecDepth 100000 in
set_option maxHeartbeats 400000 in
theorem bytes_any (A B : Option Addr) (n m c d : Nat) (xs ys : List Int) (w : World) (ha : Rd w A n xs) (hb : Rd w B m ys) :
    Calls Try.prog 15 #[.slice A n c, .slice B m d] w fun e w' => e = .returned (.bool (sameB xs ys)) ∧ w = w' := by
  by_cases he : xs = ys
  · subst he
    rw [sameB_self]
    exact bytes_same A B n m c d xs w ha hb
  · have hs : sameB xs ys = false := by unfold sameB; simpa using he
    rw [hs]
    have hne : ((strOfNums xs).toList == (strOfNums ys).toList) = false := by
      rw [beq_eq_false_iff_ne]
      exact fun h => he (strOfNums_inj ha.2.1 hb.2.1 h)
    have c1 := conv_same (cap := c) ha
    have c2 := conv_same (cap := d) hb
    generalize strOfNums xs = s at *
    generalize strOfNums ys = s2 at *
    clear ha hb he hs
    go_enter Try.func15, Try.ntmps15
    go_wp2
    go_ret
    exact ⟨rfl, rfl⟩

set_option maxRecDepth 100000 in
set_option maxHeartbeats 1000000 in
theorem equal_any (A B : Option Addr) (n m c d : Nat) (xs ys : List Int) (w : World) (ha : Rd w A n xs) (hb : Rd w B m ys) (hc : n ≤ c) (hd : m ≤ d) (hmc : c ≤ 9223372036854775807) :
    Calls Try.prog 25 #[.slice A n c, .slice B m d] w fun e w' => e = .returned (.bool (sameB xs ys)) ∧ Below w.heap.size w w' := by
  have RA := Kept.mk ha
  have RB := Kept.mk hb
  have LA := Kept.mk ha.1
  have LB := Kept.mk hb.1
  clear ha hb
  by_cases hnm : n = m
  · subst hnm
    have hsame := Kept.mk (sameB_dif RA.out.2.1 RB.out.2.1 (by rw [LA.out, LB.out]))
    go_enter Try.func25, Try.ntmps25
    go_wp2
    go_loopw [5, 14] (fun u i wr => ∃ k : Nat, k ≤ n ∧ u = .int .u8 (dif (at_ xs) (at_ ys) k) ∧ i = .int .i64 k ∧ Kept (Below w.heap.size w wr)) (fun _ i _ => n - (intOf i).toNat)
    case atStart => exact ⟨0, by omega, rfl, rfl, ⟨Below.refl _ _⟩⟩
    case round =>
      obtain ⟨k, hk, rfl, rfl, BW⟩ := hrel
      by_cases hkn : k < n
      · obtain ⟨b1, o1, rfl, hc1⟩ := (RA.out.below BW.out).2.2.resolve_left (by omega)
        obtain ⟨b2, o2, rfl, hc2⟩ := (RB.out.below BW.out).2.2.resolve_left (by omega)
        have x0 := hc1 k hkn
        have y0 := hc2 k hkn
        have hkn' : (k : Int) < n := by omega
        have hdif := Kept.mk (show dif (at_ xs) (at_ ys) (k + 1) = bits .or .u8 (dif (at_ xs) (at_ ys) k) (bits .xor .u8 (at_ xs k) (at_ ys k)) from rfl)
        have hx := RA.out.2.1.at_ k
        have hy := RB.out.2.1.at_ k
        have hdk := dif8 (at_ xs) (at_ ys) k
        generalize dif (at_ xs) (at_ ys) k = z at *
        generalize at_ xs k = x at *
        generalize at_ ys k = y at *
        obtain ⟨hx1, hx2⟩ := hx
        obtain ⟨hy1, hy2⟩ := hy
        obtain ⟨hz1, hz2⟩ := hdk
        clear hc1 hc2
        go_wp2
        go_quiet (fail)
        replace BW : Kept (Below w.heap.size w (wr.drewN nq)) := ⟨below_drewN BW.out _⟩
        generalize wr.drewN nq = wq at *
        go_wp2
        go_roundw
        case rel => exact ⟨k + 1, by omega, by rw [hdif.out], by go_num, BW⟩
        case measure => simp [intOf]; omega
      · have hkn' : ¬ (k : Int) < n := by omega
        obtain rfl : k = n := by omega
        have hs2 := hsame.out
        rw [LA.out] at hs2
        have hdk := dif8 (at_ xs) (at_ ys) k
        generalize dif (at_ xs) (at_ ys) k = z at *
        obtain ⟨hz1, hz2⟩ := hdk
        have HS := Kept.mk hs2
        clear hs2 hsame
        by_cases hz : z = 0
        · subst hz
          go_wp2
          go_ret
          exact ⟨by rw [← HS.out]; rfl, BW.out⟩
        · have hzb : (z == 0) = false := by simpa using hz
          have hzd : decide (z = 0) = false := by simpa using hz
          rw [hzd] at HS
          go_wp2
          go_ret
          exact ⟨by rw [← HS.out]; first | rfl | simp [hz], BW.out⟩
  · have hf : sameB xs ys = false := sameB_len (by rw [LA.out, LB.out]; exact hnm)
    rw [hf]
    have hnm' : ¬ (n : Int) = m := by omega
    go_enter Try.func25, Try.ntmps25
    go_wp2
    go_ret
    exact ⟨rfl, Below.refl _ _⟩

theorem rd_two (w : World) (x0 x1 : Int) (h0 : 0 ≤ x0 ∧ x0 ≤ 255) (h1 : 0 ≤ x1 ∧ x1 ≤ 255) : Rd (w.alloc (.cells #[.int .u8 x0, .int .u8 x1] 5)) (some ⟨w.heap.size, 0, none⟩) 2 [x0, x1] :=
  Rd.blk (Blk.new w 5 (arr .u8 [x0, x1])) (by intro y hy; simp only [List.mem_cons, List.not_mem_nil, or_false] at hy; rcases hy with rfl | rfl <;> assumption) rfl

set_option maxRecDepth 100000 in
set_option maxHeartbeats 1000000 in
theorem mkey_any (t : Nat) (A : Option Addr) (n c : Nat) (key : List Int) (a b : Int) (w : World) (ht : Tab w t) (ha : Rd w A n key) (hc : n ≤ c) (hm : c ≤ 9223372036854775807) (hn : n < 1073741824) :
    Calls Try.prog 26 #[.pointer (some ⟨t, 0, none⟩), .slice A n c, .int .i64 a, .int .i64 b] w (MSumPost t (hmac key [a % 256, b % 256]) w) := by
  have HT := Kept.mk ht
  have RA := Kept.mk ha
  clear ht ha
  obtain ⟨x, hx⟩ : ∃ x, a % 256 = x := ⟨_, rfl⟩
  obtain ⟨y, hy⟩ : ∃ y, b % 256 = y := ⟨_, rfl⟩
  have hxa : IntKind.u8.wrap a = x := by rw [IntKind.wrap_u8]; exact hx
  have hyb : IntKind.u8.wrap b = y := by rw [IntKind.wrap_u8]; exact hy
  have bx : 0 ≤ x ∧ x ≤ 255 := by omega
  have byy : 0 ≤ y ∧ y ≤ 255 := by omega
  have BX := Kept.mk bx
  have BY := Kept.mk byy
  rw [hx, hy]
  clear bx byy
  go_enter Try.func26, Try.ntmps26
  go_wp2_with fail
  refine (mone_any t A (some ⟨w.heap.size, 0, none⟩) n c 2 2 key [x, y] _ (HT.out.bar ((Bar.refl [] w).alloc _) (by simp)) (RA.out.keep (l := []) ((Bar.refl [] w).alloc _) (by simp)) (rd_two w x y BX.out BY.out) hc hm (by omega) (by omega) hn (by omega)).mono ?_
  rintro e w1 ⟨M, rfl, hM, k1, m1, b1⟩
  have K1 := Kept.mk k1
  have M1 := Kept.mk m1
  have B1 := Kept.mk (((Bar.refl [t] w).alloc (.cells #[.int .u8 x, .int .u8 y] 5)).trans b1 (by simp))
  have hMw : w.heap.size ≤ M := by simp at hM; omega
  clear k1 m1 b1
  go_wp2
  go_ret
  exact ⟨M, rfl, hMw, K1.out, M1.out, B1.out⟩

set_option maxRecDepth 100000 in
set_option maxHeartbeats 1000000 in
theorem rkey_any (A : Option Addr) (n c : Nat) (key : List Int) (a b : Int) (w : World) (ha : Rd w A n key) (hn : n < 1073741824) :
    Calls Try.prog 27 #[.slice A n c, .int .i64 a, .int .i64 b] w (RMacPost (hmac key [a % 256, b % 256]) w) := by
  have RA := Kept.mk ha
  clear ha
  obtain ⟨x, hx⟩ : ∃ x, a % 256 = x := ⟨_, rfl⟩
  obtain ⟨y, hy⟩ : ∃ y, b % 256 = y := ⟨_, rfl⟩
  have hxa : IntKind.u8.wrap a = x := by rw [IntKind.wrap_u8]; exact hx
  have hyb : IntKind.u8.wrap b = y := by rw [IntKind.wrap_u8]; exact hy
  have bx : 0 ≤ x ∧ x ≤ 255 := by omega
  have byy : 0 ≤ y ∧ y ≤ 255 := by omega
  have BX := Kept.mk bx
  have BY := Kept.mk byy
  rw [hx, hy]
  clear bx byy
  go_enter Try.func27, Try.ntmps27
  go_wp2_with fail
  refine (rmac_any A (some ⟨w.heap.size, 0, none⟩) n c 2 2 key [x, y] _ (RA.out.keep (l := []) ((Bar.refl [] w).alloc _) (by simp)) (rd_two w x y BX.out BY.out) hn (by omega)).mono ?_
  rintro e w1 ⟨M, cap, rfl, hM, h1, h2, r1, b1⟩
  have R1 := Kept.mk r1
  have B1 := Kept.mk (((Below.refl w.heap.size w).alloc (Nat.le_refl _) (.cells #[.int .u8 x, .int .u8 y] 5)).trans (b1.mono (by simp)))
  have hMw : w.heap.size ≤ M := by simp at hM; omega
  clear r1 b1
  go_wp2
  go_ret
  exact ⟨M, cap, rfl, hMw, h1, h2, R1.out, B1.out⟩
end Go.Proofs.Ytblhfbpokfegnaa.Mac
