/-
  Parts laid together: ToBytes EscrowMem EscrowPost ToBytes2 EscrowManySpec.
-/
import Derived.Test.YtcebjpfmpagfjaaPart8
import Derived.Lib.ConvBytes
import Derived.Test.YtcebjpfmpagfjaaPart4
import Derived.Test.YtcebjpfmpagfjaaPart6
import Derived.Test.YtcebjpfmpagfjaaPart2
import Derived.Laws.AppendOwn

namespace Go.Proofs.Ytcebjpfmpagfjaa.Sha
open Go.RowKit

theorem str_at (xs : List Int) (hb : Bytes xs) (j : Nat) (hj : j < xs.length) : (((strOfNums xs).data.toList.getD j 0).toNat : Int) = at_ xs j := by
  have hx := hb xs[j] (List.getElem_mem hj)
  rw [strOfNums_data]
  simp only [List.getD_eq_getElem?_getD, List.getElem?_map, List.getElem?_eq_getElem hj, Option.map_some, Option.getD_some, at_]
  simp only [UInt8.toNat_ofNat']
  omega
/-- the row is one to be read (its block bears the mark of a conversion) -/
theorem to_bytes (w : World) (xs : List Int) (hb : Bytes xs) : ∃ w' c, (convert 9 42 (.string (strOfNums xs))).run Try.prog w = .ok (.slice (some ⟨w.heap.size, 0, none⟩) xs.length c) w' ∧ Rd w' (some ⟨w.heap.size, 0, none⟩) xs.length xs ∧ Below w.heap.size w w' := by
  have h := Lib.run_convert_string_bytes (P := Try.prog) w _ _ 5 (strOfNums xs) Try.underlying9 Try.underlying42 Try.underlying5
  rw [strOfNums_size] at h
  refine ⟨_, _, h, ⟨rfl, hb, .inr ⟨w.heap.size, 0, rfl, fun i hi => ?_⟩⟩, ?_⟩
  · rw [Nat.zero_add, Lib.bytesWorld_cell w _ _ i (by rw [strOfNums_size]; exact hi), str_at xs hb i hi]
  · refine ⟨?_, ?_, ?_, by rw [Lib.bytesWorld_size]; omega, fun k hk => Lib.bytesWorld_at_old w _ _ k hk⟩
    all_goals simp [Lib.bytesWorld, World.freeze, World.alloc, World.drew, -World.alloc_eq, -World.drew_eq]
end Go.Proofs.Ytcebjpfmpagfjaa.Sha

namespace Go.Proofs.Ytcebjpfmpagfjaa.Escrow
open Go.RowKit Go.Proofs.Ytcebjpfmpagfjaa.Sha Go.Proofs.Ytcebjpfmpagfjaa.Purse

/-- an escrow's cells -/
def evC (e : EV) : List Value := [.int .i64 e.src, .int .i64 e.dst, .int .i64 e.asset, .int .i64 e.amount, .int .i64 e.due, .int .i64 e.state, .string (strOfNums e.hash), .string (strOfNums e.secret)]
theorem evC_len (e : EV) : (evC e).length = 8 := rfl
def evF (l : List EV) : List Value := l.flatMap evC
theorem evF_len : ∀ l : List EV, (evF l).length = l.length * 8
  | [] => rfl
  | e :: l => by
    show (evC e ++ evF l).length = _
    rw [List.length_append, evC_len, evF_len l, List.length_cons]; omega
theorem evF_snoc (l : List EV) (e : EV) : evF (l ++ [e]) = evF l ++ evC e := by simp [evF]
theorem evF_at : ∀ (l : List EV) (k j : Nat), k < l.length → j < 8 → (evF l)[k * 8 + j]? = (evC (atE l k))[j]?
  | e :: l, 0, j, _, hj => by
    show (evC e ++ evF l)[0 * 8 + j]? = (evC e)[j]?
    rw [List.getElem?_append_left (by rw [evC_len]; omega)]
    simp
  | e :: l, k + 1, j, hk, hj => by
    show (evC e ++ evF l)[(k + 1) * 8 + j]? = _
    rw [List.getElem?_append_right (by rw [evC_len]; omega), evC_len, show (k + 1) * 8 + j - 8 = k * 8 + j by omega, evF_at l k j (by simpa using hk) hj]
    rfl
theorem evF_set : ∀ (l : List EV) (k j : Nat) (u : Value) (x : EV), k < l.length → j < 8 → evC x = (evC (atE l k)).set j u → (evF l).set (k * 8 + j) u = evF (l.set k x)
  | e :: l, 0, j, u, x, _, hj, hx => by
    show (evC e ++ evF l).set (0 * 8 + j) u = evC x ++ evF l
    rw [List.set_append_left _ _ (by rw [evC_len]; omega), hx]
    simp [atE]
  | e :: l, k + 1, j, u, x, hk, hj, hx => by
    show (evC e ++ evF l).set ((k + 1) * 8 + j) u = evC e ++ evF (l.set k x)
    rw [List.set_append_right _ _ (by rw [evC_len]; omega), evC_len, show (k + 1) * 8 + j - 8 = k * 8 + j by omega, evF_set l k j u x (by simpa using hk) hj hx]
theorem evC_one (e : EV) : ∀ v ∈ evC e, v.oneCell' = true := by
  intro v hv
  simp only [evC, List.mem_cons, List.not_mem_nil, or_false] at hv
  rcases hv with rfl | rfl | rfl | rfl | rfl | rfl | rfl | rfl <;> rfl
/-- a row of escrows of a call's own -/
def El (w : World) (v : Value) (l : List EV) : Prop := w.ownsRow 0 34 8 v l.length (evF l)
section
variable {w w' : World} {v : Value} {l : List EV}
theorem El.keep {G : List Nat} (h : El w v l) (b : Bar G w w') (hd : ∀ g ∈ v.ownBlock.toList, g ∉ G) : El w' v l := own_keep h b hd
theorem El.lt (h : El w v l) : ∀ g ∈ v.ownBlock.toList, g < w.heap.size := own_lt h
theorem El.nil (w : World) : El w (.slice none 0 0) [] := World.ownsRow_nil _ _ _ _
theorem El.shape (h : El w v l) : ∃ A c, v = .slice A l.length c ∧ l.length ≤ c ∧ c ≤ 9223372036854775807 := by
  rcases h.2 with ⟨hv, hx⟩ | ⟨g, c, cur, hv, -, -, h1, h2, -⟩
  · exact ⟨none, 0, by rw [hv, hx], by omega, by omega⟩
  · exact ⟨_, c, hv, h1, by unfold maxLen at h2; omega⟩
/-- where there is one, the row lies in a block -/
theorem El.at_ (h : El w v l) {k : Nat} (hk : k < l.length) : ∃ g c, v = .slice (some ⟨g, 0, none⟩) l.length c ∧ l.length ≤ c ∧ c ≤ 9223372036854775807 ∧ (∀ j, w.frozen? ⟨g, j, none⟩ = false) ∧ ∀ j u, j < 8 → (evC (atE l k))[j]? = some u → w.cell? ⟨g, k * 8 + j, none⟩ = some u := by
  have h0 := h
  rcases h.2 with ⟨hv, hx⟩ | ⟨g, c, cur, hv, -, hb, h1, h2, -⟩
  · omega
  · unfold El at h0
    rw [hv] at h0
    refine ⟨g, c, hv, h1, by unfold maxLen at h2; omega, fun j => World.ownsRow.frozenAt h0 j, fun j u hj hu => ?_⟩
    rw [World.ownsRow.cellAt h0 (k * 8 + j) (by omega), evF_at l k j hk hj, hu]
theorem El.cells (h : El w v l) {k : Nat} (hk : k < l.length) : ∃ g c, v = .slice (some ⟨g, 0, none⟩) l.length c ∧ l.length ≤ c ∧ c ≤ 9223372036854775807 ∧ (∀ j, w.frozen? ⟨g, j, none⟩ = false) ∧
    w.cell? ⟨g, k * 8, none⟩ = some (.int .i64 (atE l k).src) ∧ w.cell? ⟨g, k * 8 + 1, none⟩ = some (.int .i64 (atE l k).dst) ∧ w.cell? ⟨g, k * 8 + 2, none⟩ = some (.int .i64 (atE l k).asset) ∧ w.cell? ⟨g, k * 8 + 3, none⟩ = some (.int .i64 (atE l k).amount) ∧
    w.cell? ⟨g, k * 8 + 4, none⟩ = some (.int .i64 (atE l k).due) ∧ w.cell? ⟨g, k * 8 + 5, none⟩ = some (.int .i64 (atE l k).state) ∧ w.cell? ⟨g, k * 8 + 6, none⟩ = some (.string (strOfNums (atE l k).hash)) ∧ w.cell? ⟨g, k * 8 + 7, none⟩ = some (.string (strOfNums (atE l k).secret)) := by
  obtain ⟨g, c, h1, h2, h3, h4, h5⟩ := h.at_ hk
  exact ⟨g, c, h1, h2, h3, h4, h5 0 _ (by omega) rfl, h5 1 _ (by omega) rfl, h5 2 _ (by omega) rfl, h5 3 _ (by omega) rfl, h5 4 _ (by omega) rfl, h5 5 _ (by omega) rfl, h5 6 _ (by omega) rfl, h5 7 _ (by omega) rfl⟩
/-- one cell of one escrow is turned -/
theorem El.set {g c : Nat} (h : El w (.slice (some ⟨g, 0, none⟩) l.length c) l) {k j : Nat} (hk : k < l.length) (hj : j < 8) {u : Value} {x : EV} (hx : evC x = (evC (atE l k)).set j u) : El (w.setCell ⟨g, k * 8 + j, none⟩ u) (.slice (some ⟨g, 0, none⟩) (l.set k x).length c) (l.set k x) := by
  have h1 := (World.ownsRow.stored h (k * 8 + j) u).1
  rw [evF_set l k j u x hk hj hx] at h1
  rw [List.length_set]
  unfold El
  rw [List.length_set]
  exact h1
end
end Go.Proofs.Ytcebjpfmpagfjaa.Escrow

namespace Go.Proofs.Ytcebjpfmpagfjaa.Escrow
open Go.RowKit Go.Proofs.Ytcebjpfmpagfjaa.Sha Go.Proofs.Ytcebjpfmpagfjaa.Purse Go.Proofs.Ytcebjpfmpagfjaa.Num

/-- Get's answer -/
def evV (e : EV) : Value := .agg #[.int .i64 e.src, .int .i64 e.dst, .int .i64 e.asset, .int .i64 e.amount, .int .i64 e.due, .int .i64 e.state, .string (strOfNums e.hash), .string (strOfNums e.secret)]
def GetPost (r : EV × Bool) (w : World) (e : Ending) (w' : World) : Prop := e = .returned (.tuple #[evV r.1, .bool r.2]) ∧ Below w.heap.size w w'
/-- what is told, with memory made at most -/
def TellB (v : Value) (w : World) (e : Ending) (w' : World) : Prop := e = .returned v ∧ Below w.heap.size w w'
def zeroE : Value := .agg #[.int .i64 0, .int .i64 0, .int .i64 0, .int .i64 0, .int .i64 0, .int .i64 0, .string ⟨#[]⟩, .string ⟨#[]⟩]
theorem info_ev : (Try.prog.info? 34).map (fun i => (i.zero, i.size, i.bytes)) = some (some zeroE, 8, 80) := by kernel_rfl
def LockPost (D : World → List Nat → BS → Prop) (w : World) (F : List Nat) (r : (Int × Int) × BS) (e : Ending) (w' : World) : Prop := e = .returned (.tuple #[.int .i64 r.1.1, .int .i64 r.1.2]) ∧ ∃ F', D w' F' r.2 ∧ Fp F F' w w'
theorem take_same {s : PS} {i a n te : Int} {ts : PS} (w : WF s) (h : takeP s i a n = (te, ts)) (h0 : te ≠ 0) : ts = s := by
  rcases take_cases w i a n with ⟨e, he, h1⟩ | ⟨s', h1, -⟩
  · rw [h1] at h; injection h with h2 h3; exact h3.symm
  · rw [h1] at h; injection h with h2 h3; exact absurd h2.symm h0
theorem lock_range {b : BS} {i j a n due clock : Int} {h : List Int} (k : ¬ (isP b.p i = true ∧ isP b.p j = true ∧ isA b.p a = true ∧ amtB n = true ∧ n ≠ 0 ∧ tickB due = true ∧ tickB clock = true)) : lockB b i j a n h due clock = ((0, 1), b) := by unfold lockB; rw [if_pos k]
def BookPost (D : World → List Nat → BS → Prop) (w : World) (F : List Nat) (r : Int × BS) (e : Ending) (w' : World) : Prop := e = .returned (.int .i64 r.1) ∧ ∃ F', D w' F' r.2 ∧ Fp F F' w w'
theorem refund_none {b : BS} {who id clock : Int} (h : id < 0 ∨ (b.l.length : Int) ≤ id) : refundB b who id clock = (8, b) := by
  unfold refundB
  rw [if_pos (by unfold hasE; rw [decide_eq_false_iff_not]; omega)]
theorem refund_some {b : BS} {who clock : Int} {k : Nat} (h : k < b.l.length) : refundB b who k clock = if (atE b.l k).src ≠ who then (14, b)
  else if (atE b.l k).state ≠ 0 then (9, b)
  else if clock < (atE b.l k).due ∨ tickB clock = false then (11, b)
  else if (giveP b.p who (atE b.l k).asset (atE b.l k).amount).1 ≠ 0 then ((giveP b.p who (atE b.l k).asset (atE b.l k).amount).1, b)
  else (0, ⟨(giveP b.p who (atE b.l k).asset (atE b.l k).amount).2, b.l.set k { atE b.l k with state := 2 }⟩) := by
  unfold refundB
  rw [if_neg (by unfold hasE; rw [decide_eq_false_iff_not]; omega), Int.toNat_natCast]
theorem give_same {s : PS} {i a n te : Int} {ts : PS} (h : giveP s i a n = (te, ts)) (h0 : te ≠ 0) : ts = s := by
  unfold giveP at h
  split at h
  · injection h with h1 h2; exact absurd h1.symm h0
  · injection h with h1 h2; exact h2.symm
theorem claim_none {b : BS} {who id clock : Int} {s : List Int} (h : id < 0 ∨ (b.l.length : Int) ≤ id) : claimB b who id s clock = (8, b) := by
  unfold claimB
  rw [if_pos (by unfold hasE; rw [decide_eq_false_iff_not]; omega)]
theorem claim_some {b : BS} {who clock : Int} {s : List Int} {k : Nat} (h : k < b.l.length) : claimB b who k s clock = if (atE b.l k).dst ≠ who then (14, b)
  else if (atE b.l k).state ≠ 0 then (9, b)
  else if (atE b.l k).due ≤ clock ∨ tickB clock = false then (11, b)
  else if s.length ≠ 32 then (2, b)
  else if sha s ≠ (atE b.l k).hash then (10, b)
  else if (giveP b.p who (atE b.l k).asset (atE b.l k).amount).1 ≠ 0 then ((giveP b.p who (atE b.l k).asset (atE b.l k).amount).1, b)
  else (0, ⟨(giveP b.p who (atE b.l k).asset (atE b.l k).amount).2, b.l.set k { atE b.l k with state := 1, secret := s }⟩) := by
  unfold claimB
  rw [if_neg (by unfold hasE; rw [decide_eq_false_iff_not]; omega), Int.toNat_natCast]
end Go.Proofs.Ytcebjpfmpagfjaa.Escrow

namespace Go.Proofs.Ytcebjpfmpagfjaa.Sha
open Go.RowKit

theorem to_bytes2 (w : World) (xs : List Int) (hb : Bytes xs) (hl : xs.length ≤ 9223372036854775807) : ∃ w' c, (convert 9 42 (.string (strOfNums xs))).run Try.prog w = .ok (.slice (some ⟨w.heap.size, 0, none⟩) xs.length c) w' ∧ xs.length ≤ c ∧ c ≤ 9223372036854775807 ∧ Rd w' (some ⟨w.heap.size, 0, none⟩) xs.length xs ∧ Below w.heap.size w w' := by
  have h := Lib.run_convert_string_bytes (P := Try.prog) w _ _ 5 (strOfNums xs) Try.underlying9 Try.underlying42 Try.underlying5
  rw [strOfNums_size] at h
  refine ⟨_, _, h, grownCap_ge _ _ _ _, grownCap_le_maxLen _ _ _ _ hl, ⟨rfl, hb, .inr ⟨w.heap.size, 0, rfl, fun i hi => ?_⟩⟩, ?_⟩
  · rw [Nat.zero_add, Lib.bytesWorld_cell w _ _ i (by rw [strOfNums_size]; exact hi), str_at xs hb i hi]
  · refine ⟨?_, ?_, ?_, by rw [Lib.bytesWorld_size]; omega, fun k hk => Lib.bytesWorld_at_old w _ _ k hk⟩
    all_goals simp [Lib.bytesWorld, World.freeze, World.alloc, World.drew, -World.alloc_eq, -World.drew_eq]
end Go.Proofs.Ytcebjpfmpagfjaa.Sha

namespace Go.Proofs.Ytcebjpfmpagfjaa.Escrow
open Go.RowKit Go.Proofs.Ytcebjpfmpagfjaa.Sha Go.Proofs.Ytcebjpfmpagfjaa.Purse Go.Proofs.Ytcebjpfmpagfjaa.Num

section
variable (Z : Nat → Int) (C : Nat → Bool) (H S : List Int)
/-- lock i -/
def evM (i : Nat) : EV := ⟨(i % 3 : Nat), ((i + 1) % 3 : Nat), 0, Z i, 10 + i, 0, H, []⟩
/-- closed -/
def evD (i : Nat) : EV := if C i = true then { evM Z H i with state := 1, secret := S } else { evM Z H i with state := 2 }
/-- what party p has locked in the first k -/
def outN (p : Nat) : Nat → Int
  | 0 => 0
  | k + 1 => outN p k + if k % 3 = p then Z k else 0
/-- what party p has, where the first k are closed -/
def wantN (p : Nat) : Nat → Int
  | 0 => 100000
  | k + 1 => wantN p k + if C k = true then (if (k + 1) % 3 = p then Z k else 0) - (if k % 3 = p then Z k else 0) else 0
/-- n locks, the first j closed -/
structure MS (n j : Nat) (b : BS) : Prop where
  np : b.p.np = 3
  na : b.p.na = 1
  wb : WB b
  len : b.l.length = n
  at_ : ∀ i, i < n → atE b.l i = if i < j then evD Z C H S i else evM Z H i
  v : ∀ p, p < 3 → b.p.v p 0 = wantN Z C p j - (outN Z p n - outN Z p j)
  tot : totB b 0 = 300000
end
section
variable {Z : Nat → Int} {C : Nat → Bool} {H S : List Int} {n j : Nat} {b : BS}
theorem outN_le {p : Nat} : ∀ {k : Nat}, (∀ i, i < k → 1 ≤ Z i ∧ Z i ≤ 1000) → 0 ≤ outN Z p k ∧ outN Z p k ≤ 1000 * k
  | 0, _ => by simp [outN]
  | k + 1, h => by
    have := outN_le (p := p) (k := k) (fun i hi => h i (by omega))
    have := h k (by omega)
    unfold outN
    split <;> omega
theorem wantN_zero {p : Nat} : wantN Z C p 0 = 100000 := rfl
theorem atE_append {l : List EV} {x : EV} {i : Nat} (h : i < l.length + 1) : atE (l ++ [x]) i = if i < l.length then atE l i else x := by
  by_cases e : i < l.length
  · rw [if_pos e, atE_append_left e]
  · rw [if_neg e]
    obtain rfl : i = l.length := by omega
    exact atE_append_last l x
/-- the next lock -/
theorem MS.lock (h : MS Z C H S n 0 b) (hZ : ∀ i, i < n + 1 → 1 ≤ Z i ∧ Z i ≤ 1000) (hn : n < 60) (hb : Bytes H) (hl : H.length = 32) :
    ∃ b', lockB b (n % 3 : Nat) ((n + 1) % 3 : Nat) 0 (Z n) H (10 + n) 1 = ((((n : Nat) : Int), 0), b') ∧ MS Z C H S (n + 1) 0 b' := by
  have z := hZ n (by omega)
  have hv := h.v (n % 3) (by omega)
  have ho := outN_le (p := n % 3) (k := n) (fun i hi => hZ i (by omega))
  rw [wantN_zero] at hv
  simp only [show outN Z (n % 3) 0 = 0 from rfl] at hv
  have m1 : n % 3 < 3 := by omega
  have m2 : (n + 1) % 3 < 3 := by omega
  have m3 : n % 3 ≠ (n + 1) % 3 := by omega
  have ht : takeP b.p (n % 3 : Nat) ((0 : Nat) : Int) (Z n) = (0, put b.p (n % 3) 0 (b.p.v (n % 3) 0 - Z n)) :=
    take_yes (fitB_at (by rw [h.np]; exact m1) (by rw [h.na]; omega) (by omega) (by omega)) (by omega)
  have he : lockB b (n % 3 : Nat) ((n + 1) % 3 : Nat) 0 (Z n) H (10 + n) 1 = ((((n : Nat) : Int), 0), ⟨put b.p (n % 3) 0 (b.p.v (n % 3) 0 - Z n), b.l ++ [evM Z H n]⟩) := by
    unfold lockB
    rw [if_neg (fun k => k ⟨isP_iff.2 ⟨by omega, by rw [h.np]; omega⟩, isP_iff.2 ⟨by omega, by rw [h.np]; omega⟩, isA_iff.2 ⟨by omega, by rw [h.na]; omega⟩, amt_yes (by omega) (by omega), by omega, tick_yes (by omega) (by omega), tick_yes (by omega) (by omega)⟩), if_neg (by omega), if_neg (by omega), if_neg (by omega)]
    rw [show (0 : Int) = ((0 : Nat) : Int) from rfl] at *
    rw [ht, if_neg (by simp), h.len]
    rfl
  have hw := lock_wb (i := (n % 3 : Nat)) (j := ((n + 1) % 3 : Nat)) (a := 0) (n := Z n) (due := 10 + n) (clock := 1) h.wb hb
  rw [he] at hw
  refine ⟨_, he, h.np, h.na, hw.1, by simp [h.len], fun i hi => ?_, fun p hp => ?_, by rw [hw.2.1]; exact h.tot⟩
  · show atE (b.l ++ [evM Z H n]) i = _
    rw [if_neg (by omega), atE_append (by rw [h.len]; exact hi), h.len]
    by_cases e : i < n
    · rw [if_pos e, h.at_ i e, if_neg (by omega)]
    · rw [if_neg e]
      obtain rfl : i = n := by omega
      rfl
  · have h1 := h.v p hp
    rw [wantN_zero] at h1 ⊢
    show upd b.p.v (n % 3) 0 _ p 0 = _
    unfold upd
    simp only [show outN Z p (n + 1) = outN Z p n + if n % 3 = p then Z n else 0 from rfl, show outN Z p 0 = 0 from rfl] at h1 ⊢
    by_cases e : n % 3 = p
    · subst e
      rw [if_pos ⟨rfl, trivial⟩, if_pos rfl]
      omega
    · rw [if_neg (fun k => e k.1.symm), if_neg e]
      omega
theorem MS.closed (h : MS Z C H S n j b) {b' : BS} {who : Nat} (hwho : who = if C j = true then (j + 1) % 3 else j % 3) (he : b' = ⟨put b.p who 0 (b.p.v who 0 + Z j), b.l.set j (evD Z C H S j)⟩) (hw : WB b') (ht : ∀ c, totB b' c = totB b c) : MS Z C H S n (j + 1) b' := by
  subst he
  refine ⟨h.np, h.na, hw, by simp [h.len], fun i hi => ?_, fun p hp => ?_, by rw [ht]; exact h.tot⟩
  · show atE (b.l.set j (evD Z C H S j)) i = _
    rw [atE_set _ (by rw [h.len]; exact hi)]
    by_cases e : j = i
    · subst e; rw [if_pos rfl, if_pos (by omega)]
    · rw [if_neg e, h.at_ i hi]
      by_cases e2 : i < j
      · rw [if_pos e2, if_pos (by omega)]
      · rw [if_neg e2, if_neg (by omega)]
  · have h1 := h.v p hp
    show upd b.p.v who 0 _ p 0 = _
    unfold upd
    simp only [show outN Z p (j + 1) = outN Z p j + if j % 3 = p then Z j else 0 from rfl, show wantN Z C p (j + 1) = wantN Z C p j + if C j = true then (if (j + 1) % 3 = p then Z j else 0) - (if j % 3 = p then Z j else 0) else 0 from rfl]
    by_cases c : C j = true
    · rw [if_pos c] at hwho ⊢
      by_cases e : who = p
      · subst e
        rw [if_pos ⟨rfl, trivial⟩, if_pos hwho.symm, if_neg (by omega)]
        omega
      · rw [if_neg (fun k => e k.1.symm), if_neg (fun k => e (by omega))]
        omega
    · rw [if_neg c] at hwho ⊢
      by_cases e : who = p
      · subst e
        rw [if_pos ⟨rfl, trivial⟩, if_pos hwho.symm]
        omega
      · rw [if_neg (fun k => e k.1.symm), if_neg (fun k => e (by omega))]
        omega
theorem MS.open_at (h : MS Z C H S n j b) (hj : j < n) : atE b.l j = evM Z H j := by rw [h.at_ j hj, if_neg (by omega)]
theorem MS.claim (h : MS Z C H S n j b) (hj : j < n) (hn : n ≤ 60) (c : C j = true) (hs : Bytes S) (hl : S.length = 32) (hh : sha S = H) : ∃ b', claimB b ((j + 1) % 3 : Nat) j S (9 + j) = (0, b') ∧ MS Z C H S n (j + 1) b' := by
  have o := h.open_at hj
  have hk : j < b.l.length := by rw [h.len]; exact hj
  rcases claim_cases h.wb ((j + 1) % 3 : Nat) j hs (9 + j) with ⟨e, h0, h1⟩ | ⟨k, i, a, e1, -, e2, -, -, -, -, -, -, -, -, e3, h1, h2, h3⟩
  · exfalso
    rw [claim_some hk, o] at h1
    obtain ⟨i, a, q1, q2, -, -, q3, -⟩ := give_back h.wb hk (by rw [o]; rfl) (who := ((j + 1) % 3 : Nat)) (isP_iff.2 ⟨by omega, by rw [h.np]; omega⟩)
    rw [o] at q2 q3
    rw [if_neg (by simp [evM]), if_neg (by simp [evM]), if_neg (by intro k; rcases k with k | k; simp only [evM] at k; omega; rw [tick_yes (by omega) (by omega)] at k; cases k), if_neg (by omega), if_neg (by rw [hh]; simp [evM]), q3, if_neg (by simp)] at h1
    exact h0 (congrArg Prod.fst h1).symm
  · obtain rfl : j = k := by omega
    obtain rfl : (j + 1) % 3 = i := by omega
    rw [o] at e3 h1 h2 h3
    obtain rfl : 0 = a := by simp only [evM] at e3; omega
    have d : ({ evM Z H j with state := 1, secret := S } : EV) = evD Z C H S j := by unfold evD; rw [if_pos c]
    rw [d] at h1 h2 h3
    exact ⟨_, h1, h.closed (by rw [if_pos c]) rfl h2 h3⟩
theorem MS.refund (h : MS Z C H S n j b) (hj : j < n) (hn : n ≤ 60) (c : ¬ C j = true) : ∃ b', refundB b (j % 3 : Nat) j (10 + j) = (0, b') ∧ MS Z C H S n (j + 1) b' := by
  have o := h.open_at hj
  have hk : j < b.l.length := by rw [h.len]; exact hj
  rcases refund_cases h.wb (j % 3 : Nat) j (10 + j) with ⟨e, h0, h1⟩ | ⟨k, i, a, e1, -, e2, -, -, -, -, -, -, e3, h1, h2, h3⟩
  · exfalso
    rw [refund_some hk, o] at h1
    obtain ⟨i, a, q1, q2, -, -, q3, -⟩ := give_back h.wb hk (by rw [o]; rfl) (who := (j % 3 : Nat)) (isP_iff.2 ⟨by omega, by rw [h.np]; omega⟩)
    rw [o] at q2 q3
    rw [if_neg (by simp [evM]), if_neg (by simp [evM]), if_neg (by intro k; rcases k with k | k; simp only [evM] at k; omega; rw [tick_yes (by omega) (by omega)] at k; cases k), q3, if_neg (by simp)] at h1
    exact h0 (congrArg Prod.fst h1).symm
  · obtain rfl : j = k := by omega
    obtain rfl : j % 3 = i := by omega
    rw [o] at e3 h1 h2 h3
    obtain rfl : 0 = a := by simp only [evM] at e3; omega
    have d : ({ evM Z H j with state := 2 } : EV) = evD Z C H S j := by unfold evD; rw [if_neg c]
    rw [d] at h1 h2 h3
    exact ⟨_, h1, h.closed (by rw [if_neg c]) rfl h2 h3⟩
/-- what is closed stays closed -/
theorem MS.again (h : MS Z C H S n (j + 1) b) (hj : j < n) (t : Int) : claimB b ((j + 1) % 3 : Nat) j S t = (9, b) ∧ refundB b (j % 3 : Nat) j t = (9, b) := by
  have hk : j < b.l.length := by rw [h.len]; exact hj
  have o := h.at_ j hj
  rw [if_pos (by omega)] at o
  have hst : (evD Z C H S j).state ≠ 0 := by unfold evD; split <;> simp
  have hd : (evD Z C H S j).dst = ((j + 1) % 3 : Nat) := by unfold evD; split <;> rfl
  have hs : (evD Z C H S j).src = (j % 3 : Nat) := by unfold evD; split <;> rfl
  constructor
  · rw [claim_some hk, o, if_neg (fun k => k hd), if_pos hst]
  · rw [refund_some hk, o, if_neg (fun k => k hs), if_pos hst]
theorem MS.openN (h : MS Z C H S n j b) : ∀ {k : Nat}, k ≤ n → Escrow.openN b.l k = k - min k j
  | 0, _ => rfl
  | k + 1, hk => by
    have ih := h.openN (k := k) (by omega)
    show Escrow.openN b.l k + (if (atE b.l k).state = 0 then 1 else 0) = _
    rw [ih, h.at_ k (by omega)]
    by_cases e : k < j
    · have hst : (evD Z C H S k).state ≠ 0 := by unfold evD; split <;> simp
      rw [if_pos e, if_neg hst]
      omega
    · rw [if_neg e, if_pos (show (evM Z H k).state = 0 from rfl)]
      omega
theorem MS.open_ (h : MS Z C H S n (j + 1) b) (hj : j < n) : openB b = (n : Int) - 1 - j := by
  unfold openB
  rw [h.len, h.openN (Nat.le_refl _)]
  omega
theorem MS.has (h : MS Z C H S n n b) {p : Nat} (hp : p < 3) : hasP b.p p 0 = wantN Z C p n := by
  unfold hasP
  rw [isP_iff.2 ⟨by omega, by rw [h.np]; omega⟩, isA_iff.2 ⟨by omega, by rw [h.na]; omega⟩]
  have := h.v p hp
  simp only [Bool.and_self, if_true, Int.toNat_natCast]
  show b.p.v p 0 = _
  omega
end
end Go.Proofs.Ytcebjpfmpagfjaa.Escrow
