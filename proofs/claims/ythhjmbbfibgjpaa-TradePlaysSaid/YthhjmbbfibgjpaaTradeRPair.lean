/-
  The document's desk: pair.
-/
import Derived.Test.YthhjmbbfibgjpaaTradeMem
namespace Go.Proofs.Ythhjmbbfibgjpaa.Trade
open Go.RowKit Go.Proofs.Ythhjmbbfibgjpaa.Sha

theorem drop_mem {l : List TV} {k n : Nat} {t : TV} (hn : l.length = n) : t ∈ l.drop k ↔ ∃ j, k ≤ j ∧ j < n ∧ l[j]? = some t := by
  constructor
  · intro h
    obtain ⟨i, hi, e⟩ := List.mem_iff_getElem.1 h
    have hi2 : k + i < l.length := by rw [List.length_drop] at hi; omega
    exact ⟨k + i, by omega, by omega, by rw [← e, List.getElem_drop, List.getElem?_eq_getElem hi2]⟩
  · rintro ⟨j, h1, h2, h3⟩
    obtain ⟨i, rfl⟩ : ∃ i, j = k + i := ⟨j - k, by omega⟩
    have : (l.drop k)[i]? = some t := by rw [List.getElem?_drop]; exact h3
    exact List.mem_of_getElem? this
set_option maxRecDepth 100000 in
set_option maxHeartbeats 2000000 in
theorem rpair_any {N x : Nat} {p c a : Int} {u v : Value} {C : List CV} {w : World} (id : Int) (h : Rv N w x p c a u v C) (hC : Okc C) :
    Calls Try.prog 33 #[.pointer (some ⟨x, 0, none⟩), .int .i64 id] w fun e w' => e = .returned (.int .i64 (pairK id (tr C) 0)) ∧ Below w.heap.size w w' := by
  obtain ⟨A, cp, rfl, h1, h2, R0⟩ := h.rc
  have R := Kept.mk R0
  have c4 : w.cell? ⟨x, 4, none⟩ = some (.slice A C.length cp) := h.blk.cell 4
  have K4 := Kept.mk c4
  have hf := hC.few
  have HL : Kept ((tr C).length = C.length) := ⟨tr_len C⟩
  obtain ⟨pk, hpk⟩ : ∃ z, pairK id (tr C) 0 = z := ⟨_, rfl⟩
  have HP := Kept.mk hpk
  rw [hpk]
  clear h R0 hC h1 h2 hpk
  generalize C.length = n at *
  generalize tr C = l at *
  go_enter Try.func33, Try.ntmps33
  go_wp2
  go_loopw [5] (fun i wr => ∃ k : Nat, k ≤ n ∧ i = .int .i64 k ∧ Kept (pairK id (l.drop k) k = pk) ∧ Kept (Below w.heap.size w wr)) (fun i _ => n - (intOf i).toNat)
  case atStart => exact ⟨0, by omega, rfl, ⟨by simpa using HP.out⟩, ⟨Below.refl _ _⟩⟩
  case round =>
    clear c4
    obtain ⟨k, hk, rfl, HK, BW⟩ := hrel
    have c4 : wr.cell? ⟨x, 4, none⟩ = some (.slice A n cp) := (BW.out.cell (World.block_lt_of_cell? _ _ K4.out)).trans K4.out
    by_cases hkn : k < n
    · have hkn' : (k : Int) < n := by omega
      obtain ⟨g, o, t, hA, ht, hc⟩ := (R.out.below BW.out).at_ hkn
      subst hA
      obtain ⟨t1, t2, t3, t4, t5, t6, t7⟩ := t
      have HT := Kept.mk ht
      have PD := Kept.mk (pairK_drop (i := id) ht)
      rw [HK.out] at PD
      have c0 : w.cell? ⟨g, o + k * 7, none⟩ = some (.int .i64 t1) := by
        have h0 : wr.cell? ⟨g, o + k * 7, none⟩ = some (.int .i64 t1) := hc 0 _ rfl
        obtain ⟨b', o', x', e', hx', hc'⟩ := R.out.at_ hkn
        injection e' with e'
        injection e' with e1 e2
        subst e1 e2
        rw [ht] at hx'
        injection hx' with hx'
        subst hx'
        exact hc' 0 _ rfl
      have C0 := Kept.mk c0
      clear hc ht c0
      have WRAP : IntKind.i64.wrap ((k : Int) + 1) = (k : Int) + 1 := by simp only [IntKind.wrap_i64]; omega
      go_wp2
      clear c4
      go_loopw [6] (fun j wr => ∃ q : Nat, k + 1 ≤ q ∧ q ≤ n ∧ j = .int .i64 q ∧ (q = k + 1 ∨ t1 = id) ∧ Kept (∀ r, k + 1 ≤ r → r < q → l[r]? ≠ some ⟨t1, t2, t3, t4, t5, t6, t7⟩) ∧ Kept (Below w.heap.size w wr)) (fun j _ => n - (intOf j).toNat)
      case atStart => exact ⟨k + 1, by omega, by omega, by go_num, .inl rfl, ⟨fun r h1 h2 => by omega⟩, BW⟩
      case round =>
        clear WRAP
        obtain ⟨q, hq1, hq2, rfl, hq3, HN, BX⟩ := hrel
        have c4 : wr.cell? ⟨x, 4, none⟩ = some (.slice (some ⟨g, o, none⟩) n cp) := (BX.out.cell (World.block_lt_of_cell? _ _ K4.out)).trans K4.out
        have c0 : wr.cell? ⟨g, o + k * 7, none⟩ = some (.int .i64 t1) := (BX.out.cell (World.block_lt_of_cell? _ _ C0.out)).trans C0.out
        have hkn2 : (k : Int) < n := by omega
        by_cases hqn : q < n
        · have hqn' : (q : Int) < n := by omega
          by_cases hid : t1 = id
          · have hid' : (t1 == id) = true := by simpa using hid
            obtain ⟨g2, o2, u, e2, hu, uc⟩ := (R.out.below BX.out).at_ hqn
            obtain ⟨g3, o3, t', e3, ht', tc⟩ := (R.out.below BX.out).at_ hkn
            injection e2 with e2
            injection e2 with e21 e22
            injection e3 with e3
            injection e3 with e31 e32
            subst e21 e22 e31 e32
            rw [HT.out] at ht'
            injection ht' with ht'
            subst ht'
            obtain ⟨u1, u2, u3, u4, u5, u6, u7⟩ := u
            have HU := Kept.mk hu
            have y0 : wr.cell? ⟨g, o + q * 7, none⟩ = some (.int .i64 u1) := uc 0 _ rfl
            have y1 : wr.cell? ⟨g, o + q * 7 + 1, none⟩ = some (.int .i64 u2) := uc 1 _ rfl
            have y2 : wr.cell? ⟨g, o + q * 7 + 2, none⟩ = some (.int .i64 u3) := uc 2 _ rfl
            have y3 : wr.cell? ⟨g, o + q * 7 + 3, none⟩ = some (.int .i64 u4) := uc 3 _ rfl
            have y4 : wr.cell? ⟨g, o + q * 7 + 4, none⟩ = some (.int .i64 u5) := uc 4 _ rfl
            have y5 : wr.cell? ⟨g, o + q * 7 + 5, none⟩ = some (.int .i64 u6) := uc 5 _ rfl
            have y6 : wr.cell? ⟨g, o + q * 7 + 6, none⟩ = some (.int .i64 u7) := uc 6 _ rfl
            have x1 : wr.cell? ⟨g, o + k * 7 + 1, none⟩ = some (.int .i64 t2) := tc 1 _ rfl
            have x2 : wr.cell? ⟨g, o + k * 7 + 2, none⟩ = some (.int .i64 t3) := tc 2 _ rfl
            have x3 : wr.cell? ⟨g, o + k * 7 + 3, none⟩ = some (.int .i64 t4) := tc 3 _ rfl
            have x4 : wr.cell? ⟨g, o + k * 7 + 4, none⟩ = some (.int .i64 t5) := tc 4 _ rfl
            have x5 : wr.cell? ⟨g, o + k * 7 + 5, none⟩ = some (.int .i64 t6) := tc 5 _ rfl
            have x6 : wr.cell? ⟨g, o + k * 7 + 6, none⟩ = some (.int .i64 t7) := tc 6 _ rfl
            clear uc tc hu
            by_cases hq : (⟨u1, u2, u3, u4, u5, u6, u7⟩ : TV) = ⟨t1, t2, t3, t4, t5, t6, t7⟩
            · have NE := fun w => tv_eql (decide_eq_true hq) w
              unfold tvV at NE
              dsimp only at NE
              have HE : Kept (pk = (k : Int)) := ⟨by
                rw [PD.out, if_pos ⟨hid, (drop_mem HL.out).2 ⟨q, hq1, hqn, by rw [HU.out, hq]⟩⟩]⟩
              clear hq HU hid HN
              go_upto_region 7 with (fail)
              go_quiet (fail)
              go_wp2
              go_ret
              exact ⟨by rw [HE.out]; rfl, below_drewN BX.out _⟩
            · have NE := fun w => tv_eql (decide_eq_false hq) w
              unfold tvV at NE
              dsimp only at NE
              have HN2 : Kept (∀ r, k + 1 ≤ r → r < q + 1 → l[r]? ≠ some ⟨t1, t2, t3, t4, t5, t6, t7⟩) := ⟨fun r h1 h2 => by
                by_cases e : r = q
                · subst e; rw [HU.out]; intro h; injection h with h; exact hq h
                · exact HN.out r h1 (by omega)⟩
              have HID := Kept.mk hid
              clear hq HU HN hid hq3
              go_upto_region 7 with (fail)
              go_quiet (fail)
              go_wp2
              go_roundw
              case rel => exact ⟨q + 1, by omega, by omega, by go_num, .inr HID.out, HN2, ⟨below_drewN BX.out _⟩⟩
              case measure => simp only [Go.RowKit.intOf]; omega
          · have hid' : (t1 == id) = false := by simpa using hid
            have HK2 : Kept (pairK id (l.drop (k + 1)) (k + 1) = pk) := ⟨by rw [PD.out, if_neg (fun h => hid h.1)]⟩
            clear hid HN
            go_wp2
            go_roundw
            case rel => exact ⟨k + 1, by omega, by go_num, HK2, BX⟩
            case measure => simp only [Go.RowKit.intOf]; omega
        · have hqn' : ¬ (q : Int) < n := by omega
          obtain rfl : q = n := by omega
          have HK2 : Kept (pairK id (l.drop (k + 1)) (k + 1) = pk) := ⟨by
            rw [PD.out, if_neg]
            rintro ⟨-, h⟩
            obtain ⟨r, h1, h2, h3⟩ := (drop_mem HL.out).1 h
            exact HN.out r h1 h2 h3⟩
          clear HN
          go_wp2
          go_roundw
          case rel => exact ⟨k + 1, by omega, by go_num, HK2, BX⟩
          case measure => simp only [Go.RowKit.intOf]; omega
    · have hkn' : ¬ (k : Int) < n := by omega
      obtain rfl : k = n := by omega
      have HE : Kept (pk = -1) := ⟨by have := HK.out; rw [List.drop_of_length_le (by rw [HL.out]; exact Nat.le_refl _)] at this; exact this.symm⟩
      go_wp2
      go_ret
      exact ⟨by rw [HE.out]; rfl, BW.out⟩
end Go.Proofs.Ythhjmbbfibgjpaa.Trade
