/-
  slices.Contains of a row of trades.
-/
import Derived.Test.YthhjmbbfibgjpaaTradeMem
namespace Go.Proofs.Ythhjmbbfibgjpaa.Trade
open Go.RowKit Go.Proofs.Ythhjmbbfibgjpaa.Sha

theorem take_mem {l : List TV} {k : Nat} {t u : TV} (h : l[k]? = some u) : t ∈ l.take (k + 1) ↔ t ∈ l.take k ∨ t = u := by
  have hk := (List.getElem?_eq_some_iff.1 h)
  obtain ⟨hk, rfl⟩ := hk
  rw [List.take_add_one, List.getElem?_eq_getElem hk, List.mem_append]
  simp
def IdxP (l : List TV) (t : TV) (w : World) (e : Ending) (w' : World) : Prop := ∃ z : Int, e = .returned (.int .i64 z) ∧ (0 ≤ z ↔ t ∈ l) ∧ Below w.heap.size w w'
set_option maxRecDepth 100000 in
set_option maxHeartbeats 1000000 in
theorem index_any (A : Option Addr) (n c : Nat) (l : List TV) (t : TV) (w : World) (hr : Rc tvC 7 w A n l) (hn : n ≤ 9223372036854775807) :
    Calls Try.prog 45 #[.slice A n c, tvV t] w (IdxP l t w) := by
  obtain ⟨w1, hw1⟩ : ∃ z, w.alloc (.cells (tvC t).toArray 33) = z := ⟨_, rfl⟩
  obtain ⟨M, hM⟩ : ∃ z, w.heap.size = z := ⟨_, rfl⟩
  have bb : Below w.heap.size w w1 := hw1 ▸ (Below.refl _ _).alloc (Nat.le_refl _) _
  have Y : Kept (Blk w1 M 33 (tvC t).toArray) := ⟨hw1 ▸ Blk.new_at w _ _ _ hM.symm⟩
  have R := Kept.mk (hr.below bb)
  have B : Kept (Below M w w1) := ⟨hM ▸ bb⟩
  have HL := Kept.mk hr.1
  clear hr bb
  obtain ⟨t1, t2, t3, t4, t5, t6, t7⟩ := t
  unfold tvV
  unfold tvC at hw1 Y
  dsimp only at hw1 Y ⊢
  go_enter Try.func45, Try.ntmps45
  go_wp2
  clear hw1
  go_loopw [8] (fun i wr => ∃ k : Nat, k ≤ n ∧ i = .int .i64 k ∧ Kept (⟨t1, t2, t3, t4, t5, t6, t7⟩ ∉ l.take k) ∧ Kept (Below M w wr) ∧ Kept (Below w1.heap.size w1 wr)) (fun i _ => n - (intOf i).toNat)
  case atStart => exact ⟨0, by omega, rfl, ⟨by simp⟩, B, ⟨Below.refl _ _⟩⟩
  case round =>
    obtain ⟨k, hk, rfl, HN, BW, B1⟩ := hrel
    by_cases hkn : k < n
    · have hkn' : (k : Int) < n := by omega
      obtain ⟨b, o, u, rfl, hu, hc⟩ := (R.out.below B1.out).at_ hkn
      have YW := (Y.out.below B1.out Y.out.lt)
      have m0 : wr.cell? ⟨M, 0, none⟩ = some (.int .i64 t1) := YW.cell 0
      have m1 : wr.cell? ⟨M, 1, none⟩ = some (.int .i64 t2) := YW.cell 1
      have m2 : wr.cell? ⟨M, 2, none⟩ = some (.int .i64 t3) := YW.cell 2
      have m3 : wr.cell? ⟨M, 3, none⟩ = some (.int .i64 t4) := YW.cell 3
      have m4 : wr.cell? ⟨M, 4, none⟩ = some (.int .i64 t5) := YW.cell 4
      have m5 : wr.cell? ⟨M, 5, none⟩ = some (.int .i64 t6) := YW.cell 5
      have m6 : wr.cell? ⟨M, 6, none⟩ = some (.int .i64 t7) := YW.cell 6
      have c0 : wr.cell? ⟨b, o + k * 7, none⟩ = some (.int .i64 u.id) := hc 0 _ rfl
      have c1 : wr.cell? ⟨b, o + k * 7 + 1, none⟩ = some (.int .i64 u.buyer) := hc 1 _ rfl
      have c2 : wr.cell? ⟨b, o + k * 7 + 2, none⟩ = some (.int .i64 u.seller) := hc 2 _ rfl
      have c3 : wr.cell? ⟨b, o + k * 7 + 3, none⟩ = some (.int .i64 u.cash) := hc 3 _ rfl
      have c4 : wr.cell? ⟨b, o + k * 7 + 4, none⟩ = some (.int .i64 u.price) := hc 4 _ rfl
      have c5 : wr.cell? ⟨b, o + k * 7 + 5, none⟩ = some (.int .i64 u.asset) := hc 5 _ rfl
      have c6 : wr.cell? ⟨b, o + k * 7 + 6, none⟩ = some (.int .i64 u.qty) := hc 6 _ rfl
      have HU := Kept.mk hu
      clear hc YW hu
      obtain ⟨u1, u2, u3, u4, u5, u6, u7⟩ := u
      dsimp only at c0 c1 c2 c3 c4 c5 c6
      by_cases hq : (⟨t1, t2, t3, t4, t5, t6, t7⟩ : TV) = ⟨u1, u2, u3, u4, u5, u6, u7⟩
      · have NE := fun w => tv_eql (decide_eq_true hq) w
        unfold tvV at NE
        dsimp only at NE
        have HM : Kept ((⟨t1, t2, t3, t4, t5, t6, t7⟩ : TV) ∈ l) := ⟨hq ▸ List.mem_of_getElem? HU.out⟩
        clear hq HU HN
        go_upto_region 4 with (fail)
        go_quiet (fail)
        go_wp2
        go_ret
        exact ⟨_, rfl, ⟨fun _ => HM.out, fun _ => by omega⟩, hM ▸ below_drewN BW.out _⟩
      · have NE := fun w => tv_eql (decide_eq_false hq) w
        unfold tvV at NE
        dsimp only at NE
        have HM : Kept ((⟨t1, t2, t3, t4, t5, t6, t7⟩ : TV) ∉ l.take (k + 1)) := ⟨fun h => ((take_mem HU.out).1 h).elim HN.out hq⟩
        clear hq HU HN
        go_upto_region 4 with (fail)
        go_quiet (fail)
        go_wp2
        go_roundw
        case rel => exact ⟨k + 1, by omega, by go_num, HM, ⟨below_drewN BW.out _⟩, ⟨below_drewN B1.out _⟩⟩
        case measure => simp only [Go.RowKit.intOf]; omega
    · have hkn' : ¬ (k : Int) < n := by omega
      obtain rfl : k = n := by omega
      have HM : Kept ((⟨t1, t2, t3, t4, t5, t6, t7⟩ : TV) ∉ l) := ⟨by have := HN.out; rwa [← HL.out, List.take_length] at this⟩
      go_wp2
      go_ret
      exact ⟨_, rfl, ⟨fun h => absurd h (by decide), fun h => absurd h HM.out⟩, hM ▸ BW.out⟩
theorem contains_any (A : Option Addr) (n c : Nat) (l : List TV) (t : TV) (w : World) (hr : Rc tvC 7 w A n l) (hn : n ≤ 9223372036854775807) :
    Calls Try.prog 40 #[.slice A n c, tvV t] w fun e w' => e = .returned (.bool (decide (t ∈ l))) ∧ Below w.heap.size w w' := by
  obtain ⟨w1, hw1⟩ : ∃ z, w.alloc (.cells (tvC t).toArray 33) = z := ⟨_, rfl⟩
  obtain ⟨M, hM⟩ : ∃ z, w.heap.size = z := ⟨_, rfl⟩
  have bb : Below w.heap.size w w1 := hw1 ▸ (Below.refl _ _).alloc (Nat.le_refl _) _
  have CI := Kept.mk (index_any A n c l t w1 (hr.below bb) hn)
  have YW : Blk w1 M 33 (tvC t).toArray := hw1 ▸ Blk.new_at w _ _ _ hM.symm
  have B := Kept.mk bb
  obtain ⟨D, hD⟩ : ∃ z, decide (t ∈ l) = z := ⟨_, rfl⟩
  have KD : Kept (t ∈ l ↔ D = true) := ⟨by rw [← hD]; simp⟩
  rw [hD]
  clear hr bb hD
  obtain ⟨t1, t2, t3, t4, t5, t6, t7⟩ := t
  unfold tvV at CI ⊢
  unfold tvC at hw1 YW
  dsimp only at hw1 YW CI ⊢
  have m0 : w1.cell? ⟨M, 0, none⟩ = some (.int .i64 t1) := YW.cell 0
  have m1 : w1.cell? ⟨M, 1, none⟩ = some (.int .i64 t2) := YW.cell 1
  have m2 : w1.cell? ⟨M, 2, none⟩ = some (.int .i64 t3) := YW.cell 2
  have m3 : w1.cell? ⟨M, 3, none⟩ = some (.int .i64 t4) := YW.cell 3
  have m4 : w1.cell? ⟨M, 4, none⟩ = some (.int .i64 t5) := YW.cell 4
  have m5 : w1.cell? ⟨M, 5, none⟩ = some (.int .i64 t6) := YW.cell 5
  have m6 : w1.cell? ⟨M, 6, none⟩ = some (.int .i64 t7) := YW.cell 6
  go_enter Try.func40, Try.ntmps40
  go_wp2_with fail
  refine CI.out.mono ?_
  rintro e w2 ⟨z, rfl, hz, b2⟩
  by_cases hz0 : 0 ≤ z
  · have e : D = true := KD.out.1 (hz.1 hz0)
    subst e
    have HB := Kept.mk (B.out.trans (b2.mono B.out.size))
    clear hz KD b2
    go_wp2
    go_ret
    exact ⟨rfl, HB.out⟩
  · have e : D = false := by
      cases D
      · rfl
      · exact absurd (hz.2 (KD.out.2 rfl)) hz0
    subst e
    have HB := Kept.mk (B.out.trans (b2.mono B.out.size))
    clear hz KD b2
    go_wp2
    go_ret
    exact ⟨by simp [hz0], HB.out⟩
end Go.Proofs.Ythhjmbbfibgjpaa.Trade
