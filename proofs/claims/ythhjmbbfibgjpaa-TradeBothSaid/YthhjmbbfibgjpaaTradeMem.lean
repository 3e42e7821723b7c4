/-
  Chapter 18: a desk in memory: the landed one's, and the document's own.
-/
import Derived.Test.YthhjmbbfibgjpaaTradeSpec
import Derived.Test.YthhjmbbfibgjpaaOwnC
namespace Go.Proofs.Ythhjmbbfibgjpaa.Trade
open Go.RowKit Go.Proofs.Ythhjmbbfibgjpaa.Sha

/-- a trade's cells, a confirmation's -/
def tvC (t : TV) : List Value := [.int .i64 t.id, .int .i64 t.buyer, .int .i64 t.seller, .int .i64 t.cash, .int .i64 t.price, .int .i64 t.asset, .int .i64 t.qty]
def cvC (c : CV) : List Value := .int .i64 c.who :: tvC c.t
def tvV (t : TV) : Value := .agg #[.int .i64 t.id, .int .i64 t.buyer, .int .i64 t.seller, .int .i64 t.cash, .int .i64 t.price, .int .i64 t.asset, .int .i64 t.qty]
theorem tvC_len (t : TV) : (tvC t).length = 7 := rfl
theorem cvC_len (c : CV) : (cvC c).length = 8 := rfl
theorem tvC_one (t : TV) : ∀ u ∈ tvC t, u.oneCell' = true := by
  intro u hu
  simp only [tvC, List.mem_cons, List.not_mem_nil, or_false] at hu
  rcases hu with rfl | rfl | rfl | rfl | rfl | rfl | rfl <;> rfl
theorem cvC_one (c : CV) : ∀ u ∈ cvC c, u.oneCell' = true := by
  intro u hu
  rcases List.mem_cons.1 hu with rfl | hu
  · rfl
  · exact tvC_one c.t u hu
theorem tv_eql {a b : TV} {r : Bool} (h : decide (a = b) = r) (w : World) : (binOp .eql 33 (tvV a) (tvV b)).run Try.prog w = .ok (.bool r) w := by
  subst h
  obtain ⟨a1, a2, a3, a4, a5, a6, a7⟩ := a
  obtain ⟨b1, b2, b3, b4, b5, b6, b7⟩ := b
  unfold tvV
  rw [run_eql_struct, run_equalIn_agg w _ _ _ _ (by kernel_rfl) (by kernel_rfl)]
  go_simp
  repeat' split
  all_goals simp [*]
theorem tv_neq {a b : TV} {r : Bool} (h : decide (a = b) = r) (w : World) : (binOp .neq 33 (tvV a) (tvV b)).run Try.prog w = .ok (.bool (!r)) w := by
  subst h
  obtain ⟨a1, a2, a3, a4, a5, a6, a7⟩ := a
  obtain ⟨b1, b2, b3, b4, b5, b6, b7⟩ := b
  unfold tvV
  rw [run_neq_struct, run_equalIn_agg w _ _ _ _ (by kernel_rfl) (by kernel_rfl)]
  go_simp
  repeat' split
  all_goals simp [*]
def zeroT : TV := ⟨0, 0, 0, 0, 0, 0, 0⟩
theorem info_tv : (Try.prog.info? 33).map (fun i => (i.zero, i.size, i.bytes)) = some (some (tvV zeroT), 7, 56) := by kernel_rfl
/-- trades of a call's own -/
def Tr (N : Nat) (w : World) (v : Value) (l : List TV) : Prop := w.ownsRow N 33 7 v l.length (l.flatMap tvC)
theorem Tr.ow {N : Nat} {w : World} {v : Value} {l : List TV} (h : Tr N w v l) : Ow tvC 7 33 w v l :=
  ⟨h.1, h.2.imp id (fun ⟨g, cap, cur, a, _, r⟩ => ⟨g, cap, cur, a, Nat.zero_le _, r⟩)⟩
/-- trades are answered, in new memory -/
def TradesP (l : List TV) (w : World) (e : Ending) (w' : World) : Prop := ∃ v, e = .returned v ∧ Tr w.heap.size w' v l ∧ Below w.heap.size w w'
/-- a desk's confirmations are well formed -/
structure Okc (C : List CV) : Prop where
  few : C.length ≤ 400
  each : ∀ z ∈ C, 0 ≤ z.t.id ∧ z.t.id < 65536
theorem Okc.id {C : List CV} (h : Okc C) : ∀ t ∈ tr C, 0 ≤ t.id ∧ t.id < 65536 := fun t ht => by
  obtain ⟨z, hz, rfl⟩ := List.mem_map.1 ht
  exact h.each z hz
theorem tr_len (C : List CV) : (tr C).length = C.length := by simp [tr]
theorem Okc.put {p c a : Int} {C : List CV} (h : Okc C) (who : Int) (t : TV) : Okc (putC p c a C who t) := by
  unfold putC
  by_cases hp : putE p c a C who t = 0
  · rw [if_pos hp]
    unfold putE at hp
    by_cases hm : mayE t p c a = 0
    · rw [if_pos hm] at hp
      by_cases hs : sideB who t = true
      · rw [if_pos hs] at hp
        by_cases hh : hasC C who t.id = true
        · rw [if_pos hh] at hp; omega
        · rw [if_neg hh] at hp
          by_cases hl : C.length = 400
          · rw [if_pos hl] at hp; omega
          · have := h.few
            refine ⟨by rw [List.length_append, List.length_singleton]; omega, fun z hz => ?_⟩
            rcases List.mem_append.1 hz with hz | hz
            · exact h.each z hz
            · rw [List.mem_singleton] at hz
              subst hz
              have hok : okT t p c a = true := by
                unfold mayE at hm
                split at hm
                · assumption
                · omega
              unfold okT at hok
              have hb : belowB t.id 65536 = true := (Bool.and_eq_true _ _ |>.mp hok).1
              unfold belowB at hb
              exact of_decide_eq_true hb
      · rw [if_neg hs] at hp; omega
    · rw [if_neg hm] at hp; exact absurd hp hm
  · rw [if_neg hp]; exact h
/-- the landed desk in block x; F: its blocks -/
structure Tv (N : Nat) (w : World) (x : Nat) (p c a : Int) (v : Value) (C : List CV) : Prop where
  least : N ≤ x
  blk : Blk w x 53 #[.int .i64 p, .int .i64 c, .int .i64 a, v]
  row : w.ownsRow N 57 8 v C.length (C.flatMap cvC)
def Td (F : List Nat) (N : Nat) (w : World) (x : Nat) (p c a : Int) (C : List CV) : Prop := ∃ v, Tv N w x p c a v C ∧ F = x :: v.ownBlock.toList
section
variable {F G : List Nat} {N x : Nat} {w w' : World} {p c a : Int} {v : Value} {C : List CV}
theorem Tv.keep (h : Tv N w x p c a v C) (b : Bar G w w') (hx : x ∉ G) (hv : ∀ g ∈ v.ownBlock.toList, g ∉ G) : Tv N w' x p c a v C := ⟨h.least, h.blk.bar b hx, own_keep h.row b hv⟩
theorem Tv.below (h : Tv N w x p c a v C) (b : Below w.heap.size w w') : Tv N w' x p c a v C := h.keep (barOf b []) (by simp) (by simp)
theorem Td.keep (h : Td F N w x p c a C) (b : Bar G w w') (hd : ∀ k ∈ F, k ∉ G) : Td F N w' x p c a C := by
  obtain ⟨v, h, rfl⟩ := h
  exact ⟨v, h.keep b (hd x (by simp)) (fun g hg => hd g (by simp [Option.mem_toList.1 hg])), rfl⟩
theorem Td.below (h : Td F N w x p c a C) (b : Below w.heap.size w w') : Td F N w' x p c a C := h.keep (barOf b []) (by simp)
theorem Td.lt (h : Td F N w x p c a C) : ∀ k ∈ F, N ≤ k ∧ k < w.heap.size := by
  obtain ⟨v, h, rfl⟩ := h
  intro k hk
  rcases List.mem_cons.1 hk with rfl | hk
  · exact ⟨h.least, h.blk.lt⟩
  · exact World.ownsRow.lt h.row k (by simpa using hk)
theorem Td.root (h : Td F N w x p c a C) : x ∈ F ∧ N ≤ x ∧ x < w.heap.size := by
  have h0 := h
  obtain ⟨v, -, rfl⟩ := h
  exact ⟨by simp, h0.lt x (by simp)⟩
/-- a law's own frame, behind a desk's turn -/
theorem Td.step {F' : List Nat} {w1 w2 : World} (h : Td F N w1 x p c a C) (b : Below N w w1) (k : Fp F F' w1 w2) : Below N w w2 :=
  b.trans (k.below (fun z hz => (h.lt z hz).1) (by have := h.root; omega))
theorem Tv.rc (h : Tv N w x p c a v C) : ∃ A cp, v = .slice A C.length cp ∧ C.length ≤ cp ∧ cp ≤ 9223372036854775807 ∧ Rc cvC 8 w A C.length C := Rc.own cvC_len h.row rfl
end
/-- a desk's number is answered; it says C' then -/
def PutP (F : List Nat) (N x : Nat) (p c a : Int) (n : Int) (C' : List CV) (w : World) (e : Ending) (w' : World) : Prop := ∃ F', e = .returned (.int .i64 n) ∧ Td F' N w' x p c a C' ∧ Fp F F' w w'
/-- the document's desk in block x -/
structure Rv (N : Nat) (w : World) (x : Nat) (p c a : Int) (u v : Value) (C : List CV) : Prop where
  least : N ≤ x
  blk : Blk w x 41 #[.int .i64 p, .int .i64 c, .int .i64 a, u, v]
  who : w.ownsRow N 3 1 u C.length (ints .i64 (C.map CV.who))
  row : w.ownsRow N 33 7 v C.length ((tr C).flatMap tvC)
def Rk (F : List Nat) (N : Nat) (w : World) (x : Nat) (p c a : Int) (C : List CV) : Prop := ∃ u v, Rv N w x p c a u v C ∧ F = x :: (u.ownBlock.toList ++ v.ownBlock.toList)
section
variable {F G : List Nat} {N x : Nat} {w w' : World} {p c a : Int} {u v : Value} {C : List CV}
theorem Rv.keep (h : Rv N w x p c a u v C) (b : Bar G w w') (hx : x ∉ G) (hu : ∀ g ∈ u.ownBlock.toList, g ∉ G) (hv : ∀ g ∈ v.ownBlock.toList, g ∉ G) : Rv N w' x p c a u v C := ⟨h.least, h.blk.bar b hx, own_keep h.who b hu, own_keep h.row b hv⟩
theorem Rv.below (h : Rv N w x p c a u v C) (b : Below w.heap.size w w') : Rv N w' x p c a u v C := h.keep (barOf b []) (by simp) (by simp) (by simp)
theorem Rk.keep (h : Rk F N w x p c a C) (b : Bar G w w') (hd : ∀ k ∈ F, k ∉ G) : Rk F N w' x p c a C := by
  obtain ⟨u, v, h, rfl⟩ := h
  exact ⟨u, v, h.keep b (hd x (by simp)) (fun g hg => hd g (by simp [Option.mem_toList.1 hg])) (fun g hg => hd g (by simp [Option.mem_toList.1 hg])), rfl⟩
theorem Rk.below (h : Rk F N w x p c a C) (b : Below w.heap.size w w') : Rk F N w' x p c a C := h.keep (barOf b []) (by simp)
theorem Rk.lt (h : Rk F N w x p c a C) : ∀ k ∈ F, N ≤ k ∧ k < w.heap.size := by
  obtain ⟨u, v, h, rfl⟩ := h
  intro k hk
  rcases List.mem_cons.1 hk with rfl | hk
  · exact ⟨h.least, h.blk.lt⟩
  · rcases List.mem_append.1 hk with hk | hk
    · exact World.ownsRow.lt h.who k (by simpa using hk)
    · exact World.ownsRow.lt h.row k (by simpa using hk)
theorem Rk.root (h : Rk F N w x p c a C) : x ∈ F ∧ N ≤ x ∧ x < w.heap.size := by
  have h0 := h
  obtain ⟨u, v, -, rfl⟩ := h
  exact ⟨by simp, h0.lt x (by simp)⟩
theorem Rk.step {F' : List Nat} {w1 w2 : World} (h : Rk F N w1 x p c a C) (b : Below N w w1) (k : Fp F F' w1 w2) : Below N w w2 :=
  b.trans (k.below (fun z hz => (h.lt z hz).1) (by have := h.root; omega))
theorem Rv.rc (h : Rv N w x p c a u v C) : ∃ A cp, v = .slice A C.length cp ∧ C.length ≤ cp ∧ cp ≤ 9223372036854775807 ∧ Rc tvC 7 w A C.length (tr C) := Rc.own tvC_len h.row (by simp [tr])
end
def RPutP (F : List Nat) (N x : Nat) (p c a : Int) (n : Int) (C' : List CV) (w : World) (e : Ending) (w' : World) : Prop := ∃ F', e = .returned (.int .i64 n) ∧ Rk F' N w' x p c a C' ∧ Fp F F' w w'
end Go.Proofs.Ythhjmbbfibgjpaa.Trade
