/-
  Package trade: has (slices.ContainsFunc of what was said).
-/
import Derived.Test.YthhjmbbfibgjpaaTradeMem
namespace Go.Proofs.Ythhjmbbfibgjpaa.Trade
open Go.RowKit Go.Proofs.Ythhjmbbfibgjpaa.Sha

theorem enters36 (args : Array Value) (w : World) : (callFunc 36 args).run Try.prog w = .ok (.enter 36 args) w := by
  have hf := Try.func36
  have h1 : Try.f36.name ≠ "runtime.NumGoroutine" := by
    have h : (Try.f36.name == "runtime.NumGoroutine") = false := by kernel_rfl
    simpa using h
  obtain ⟨c, hc⟩ := Option.isSome_iff_exists.1 (by kernel_rfl : Try.f36.body.isSome = true)
  simp [callFunc, hf, h1, hc]
def cvV (c : CV) : Value := .agg #[.int .i64 c.who, .int .i64 c.t.id, .int .i64 c.t.buyer, .int .i64 c.t.seller, .int .i64 c.t.cash, .int .i64 c.t.price, .int .i64 c.t.asset, .int .i64 c.t.qty]
set_option maxRecDepth 100000 in
set_option maxHeartbeats 1000000 in
theorem has1_any (u : CV) (a b : Nat) (who id : Int) (w : World) (ha : w.cell? ⟨a, 0, none⟩ = some (.int .i64 who)) (hb : w.cell? ⟨b, 0, none⟩ = some (.int .i64 id)) :
    Calls Try.prog 36 #[cvV u, .pointer (some ⟨a, 0, none⟩), .pointer (some ⟨b, 0, none⟩)] w fun e w' => e = .returned (.bool (decide (u.who = who) && decide (u.t.id = id))) ∧ Below w.heap.size w w' := by
  unfold cvV
  obtain ⟨u0, u1, u2, u3, u4, u5, u6, u7⟩ := u
  dsimp only
  obtain ⟨w1, hw1⟩ : ∃ z, w.alloc (.cells #[.int .i64 u0, .int .i64 u1, .int .i64 u2, .int .i64 u3, .int .i64 u4, .int .i64 u5, .int .i64 u6, .int .i64 u7] 57) = z := ⟨_, rfl⟩
  obtain ⟨M, hM⟩ : ∃ z, w.heap.size = z := ⟨_, rfl⟩
  have bb : Below w.heap.size w w1 := hw1 ▸ (Below.refl _ _).alloc (Nat.le_refl _) _
  have Y : Blk w1 M 57 #[.int .i64 u0, .int .i64 u1, .int .i64 u2, .int .i64 u3, .int .i64 u4, .int .i64 u5, .int .i64 u6, .int .i64 u7] := hw1 ▸ Blk.new_at w _ _ _ hM.symm
  have ka : w1.cell? ⟨a, 0, none⟩ = some (.int .i64 who) := (bb.cell (World.block_lt_of_cell? _ _ ha)).trans ha
  have kb : w1.cell? ⟨b, 0, none⟩ = some (.int .i64 id) := (bb.cell (World.block_lt_of_cell? _ _ hb)).trans hb
  have m0 : w1.cell? ⟨M, 0, none⟩ = some (.int .i64 u0) := Y.cell 0
  have m1 : w1.cell? ⟨M, 1, none⟩ = some (.int .i64 u1) := Y.cell 1
  have B := Kept.mk bb
  clear bb Y ha hb
  by_cases q1 : u0 = who
  · have p1 : (u0 == who) = true := by simpa using q1
    by_cases q2 : u1 = id
    · have p2 : (u1 == id) = true := by simpa using q2
      have e : (decide (u0 = who) && decide (u1 = id)) = true := by simp [q1, q2]
      rw [e]
      clear q1 q2 e
      go_enter Try.func36, Try.ntmps36
      go_wp2
      go_ret
      exact ⟨rfl, B.out⟩
    · have p2 : (u1 == id) = false := by simpa using q2
      have e : (decide (u0 = who) && decide (u1 = id)) = false := by simp [q2]
      rw [e]
      clear q1 q2 e
      go_enter Try.func36, Try.ntmps36
      go_wp2
      go_ret
      exact ⟨rfl, B.out⟩
  · have p1 : (u0 == who) = false := by simpa using q1
    have e : (decide (u0 = who) && decide (u1 = id)) = false := by simp [q1]
    rw [e]
    clear q1 e
    go_enter Try.func36, Try.ntmps36
    go_wp2
    go_ret
    exact ⟨rfl, B.out⟩
set_option maxRecDepth 100000 in
set_option maxHeartbeats 1000000 in
theorem ifunc_any (A : Option Addr) (n c a b : Nat) (C : List CV) (who id : Int) (w : World) (hr : Rc cvC 8 w A n C) (hn : n ≤ 400) (ha : w.cell? ⟨a, 0, none⟩ = some (.int .i64 who)) (hb : w.cell? ⟨b, 0, none⟩ = some (.int .i64 id)) :
    Calls Try.prog 41 #[.slice A n c, .func (.func 36) #[] #[.pointer (some ⟨a, 0, none⟩), .pointer (some ⟨b, 0, none⟩)]] w fun e w' => ∃ z : Int, e = .returned (.int .i64 z) ∧ (0 ≤ z ↔ hasC C who id = true) ∧ Below w.heap.size w w' := by
  have R := Kept.mk hr
  have HL := Kept.mk hr.1
  have KA := Kept.mk ha; have KB := Kept.mk hb
  have HE := enters36
  clear hr ha hb
  go_enter Try.func41, Try.ntmps41
  go_wp2
  go_loopw [8] (fun i wr => ∃ k : Nat, k ≤ n ∧ i = .int .i64 k ∧ Kept (hasC (C.take k) who id = false) ∧ Kept (Below w.heap.size w wr)) (fun i _ => n - (intOf i).toNat)
  case atStart => exact ⟨0, by omega, rfl, ⟨by simp [hasC]⟩, ⟨Below.refl _ _⟩⟩
  case round =>
    obtain ⟨k, hk, rfl, HN, BW⟩ := hrel
    by_cases hkn : k < n
    · have hkn' : (k : Int) < n := by omega
      obtain ⟨g, o, u, hA, hu, hc⟩ := (R.out.below BW.out).at_ hkn
      have c0 : wr.cell? ⟨g, o + k * 8, none⟩ = some (.int .i64 u.who) := hc 0 _ rfl
      have c1 : wr.cell? ⟨g, o + k * 8 + 1, none⟩ = some (.int .i64 u.t.id) := hc 1 _ rfl
      have c2 : wr.cell? ⟨g, o + k * 8 + 2, none⟩ = some (.int .i64 u.t.buyer) := hc 2 _ rfl
      have c3 : wr.cell? ⟨g, o + k * 8 + 3, none⟩ = some (.int .i64 u.t.seller) := hc 3 _ rfl
      have c4 : wr.cell? ⟨g, o + k * 8 + 4, none⟩ = some (.int .i64 u.t.cash) := hc 4 _ rfl
      have c5 : wr.cell? ⟨g, o + k * 8 + 5, none⟩ = some (.int .i64 u.t.price) := hc 5 _ rfl
      have c6 : wr.cell? ⟨g, o + k * 8 + 6, none⟩ = some (.int .i64 u.t.asset) := hc 6 _ rfl
      have c7 : wr.cell? ⟨g, o + k * 8 + 7, none⟩ = some (.int .i64 u.t.qty) := hc 7 _ rfl
      have RW := Kept.mk (R.out.below BW.out)
      subst hA
      have HU := Kept.mk hu
      clear hc hu
      have ka : wr.cell? ⟨a, 0, none⟩ = some (.int .i64 who) := (BW.out.cell (World.block_lt_of_cell? _ _ KA.out)).trans KA.out
      have kb : wr.cell? ⟨b, 0, none⟩ = some (.int .i64 id) := (BW.out.cell (World.block_lt_of_cell? _ _ KB.out)).trans KB.out
      have CH := has1_any u a b who id wr ka kb
      unfold cvV at CH
      have HT := Kept.mk (has_take (who := who) (id := id) HU.out)
      have HY : Kept ((decide (u.who = who) && decide (u.t.id = id)) = true → hasC C who id = true) := ⟨fun h => by simp at h; exact has_yes HU.out h.1 h.2⟩
      rw [HN.out, Bool.false_or] at HT
      generalize (decide (u.who = who) && decide (u.t.id = id)) = q at *
      obtain ⟨u0, u1, u2, u3, u4, u5, u6, u7⟩ := u
      dsimp only at c0 c1 c2 c3 c4 c5 c6 c7 CH
      replace CH := Kept.mk CH
      clear ka kb
      cases q with
      | true =>
        go_wp2_with fail
        refine CH.out.mono ?_
        rintro e w2 ⟨rfl, b2⟩
        have B2 := Kept.mk (BW.out.trans (b2.mono BW.out.size))
        clear b2
        go_wp2
        go_ret
        exact ⟨_, rfl, ⟨fun _ => HY.out (by simp), fun _ => by omega⟩, B2.out⟩
      | false =>
        go_wp2_with fail
        refine CH.out.mono ?_
        rintro e w2 ⟨rfl, b2⟩
        have B2 := Kept.mk (BW.out.trans (b2.mono BW.out.size))
        clear b2
        go_wp2
        go_roundw
        case rel => exact ⟨k + 1, by omega, by go_num, HT, B2⟩
        case measure => simp only [Go.RowKit.intOf]; omega
    · have hkn' : ¬ (k : Int) < n := by omega
      obtain rfl : k = n := by omega
      have HM : Kept (hasC C who id = false) := ⟨by have := HN.out; rwa [← HL.out, List.take_length] at this⟩
      go_wp2
      go_ret
      exact ⟨_, rfl, ⟨fun h => absurd h (by decide), fun h => (by rw [HM.out] at h; cases h)⟩, BW.out⟩
set_option maxRecDepth 100000 in
set_option maxHeartbeats 1000000 in
theorem cfunc_any (A : Option Addr) (n c a b : Nat) (C : List CV) (who id : Int) (w : World) (hr : Rc cvC 8 w A n C) (hn : n ≤ 400) (ha : w.cell? ⟨a, 0, none⟩ = some (.int .i64 who)) (hb : w.cell? ⟨b, 0, none⟩ = some (.int .i64 id)) :
    Calls Try.prog 35 #[.slice A n c, .func (.func 36) #[] #[.pointer (some ⟨a, 0, none⟩), .pointer (some ⟨b, 0, none⟩)]] w fun e w' => e = .returned (.bool (hasC C who id)) ∧ Below w.heap.size w w' := by
  have CI := Kept.mk (ifunc_any A n c a b C who id w hr hn ha hb)
  clear hr ha hb
  generalize hasC C who id = D at *
  go_enter Try.func35, Try.ntmps35
  go_wp2_with fail
  refine CI.out.mono ?_
  rintro e w2 ⟨z, rfl, hz, b2⟩
  have B2 := Kept.mk b2
  clear b2 CI
  by_cases hz0 : 0 ≤ z
  · have e : D = true := hz.1 hz0
    subst e
    clear hz
    go_wp2
    go_ret
    exact ⟨rfl, B2.out⟩
  · have e : D = false := by
      cases D
      · rfl
      · exact absurd (hz.2 rfl) hz0
    subst e
    clear hz
    go_wp2
    go_ret
    exact ⟨by simp [hz0], B2.out⟩
set_option maxRecDepth 100000 in
set_option maxHeartbeats 1000000 in
theorem has_any {N x : Nat} {p c a : Int} {v : Value} {C : List CV} (who id : Int) {w : World} (h : Tv N w x p c a v C) (hf : C.length ≤ 400) :
    Calls Try.prog 27 #[.pointer (some ⟨x, 0, none⟩), .int .i64 who, .int .i64 id] w fun e w' => e = .returned (.bool (hasC C who id)) ∧ Below w.heap.size w w' := by
  obtain ⟨w1, hw1⟩ : ∃ z, w.alloc (.cells #[.int .i64 who] 3) = z := ⟨_, rfl⟩
  obtain ⟨a1, ha1⟩ : ∃ z, w.heap.size = z := ⟨_, rfl⟩
  have b1 : Below w.heap.size w w1 := hw1 ▸ (Below.refl _ _).alloc (Nat.le_refl _) _
  have Y1 : Blk w1 a1 3 #[.int .i64 who] := hw1 ▸ Blk.new_at w _ _ _ ha1.symm
  obtain ⟨w2, hw2⟩ : ∃ z, w1.alloc (.cells #[.int .i64 id] 3) = z := ⟨_, rfl⟩
  obtain ⟨a2, ha2⟩ : ∃ z, w1.heap.size = z := ⟨_, rfl⟩
  have b2 : Below w1.heap.size w1 w2 := hw2 ▸ (Below.refl _ _).alloc (Nat.le_refl _) _
  have Y2 : Blk w2 a2 3 #[.int .i64 id] := hw2 ▸ Blk.new_at w1 _ _ _ ha2.symm
  have bb : Below w.heap.size w w2 := b1.trans (b2.mono b1.size)
  have T := h.below bb
  obtain ⟨A, cp, rfl, h1, h2, R⟩ := T.rc
  have CI := Kept.mk (cfunc_any A C.length cp a1 a2 C who id w2 R hf ((Y1.below b2 Y1.lt).cell 0) (Y2.cell 0))
  have c3 : w2.cell? ⟨x, 3, none⟩ = some (.slice A C.length cp) := T.blk.cell 3
  have B := Kept.mk bb
  clear b1 b2 Y1 Y2 bb T h R h1 h2
  go_enter Try.func27, Try.ntmps27
  go_upto_region 1 with (fail)
  go_wp2_with fail
  refine CI.out.mono ?_
  rintro e w3 ⟨rfl, b3⟩
  have B3 := Kept.mk (B.out.trans (b3.mono B.out.size))
  clear b3 CI B
  go_wp2
  go_ret
  exact ⟨rfl, B3.out⟩
end Go.Proofs.Ythhjmbbfibgjpaa.Trade
