/-
  Parts laid together: ToBytes EscrowMem EscrowPost ToBytes2.
-/
import Derived.Test.YtcebjpfmpagfjaaPart8
import Derived.Lib.ConvBytes
import Derived.Test.YtcebjpfmpagfjaaPart4
import Derived.Test.YtcebjpfmpagfjaaPart6
import Derived.Test.YtcebjpfmpagfjaaPart2
import Derived.Laws.AppendOwn

namespace Go.Proofs.Ytcebjpfmpagfjaa.Sha
open Go.RowKit

theorem str_at (xs : List Int) (hb : Bytes xs) (j : Nat) (hj : j < xs.length) : (((strOfNums xs).data.toList.getD j 0).toNat : Int) = at_ xs j := by
  have hx := hb xs[j] (List.getElem_mem hj)
  rw [strOfNums_data]
  simp only [List.getD_eq_getElem?_getD, List.getElem?_map, List.getElem?_eq_getElem hj, Option.map_some, Option.getD_some, at_]
  simp only [UInt8.toNat_ofNat']
  omega
/-- the row is one to be read (its block bears the mark of a conversion) -/
theorem to_bytes (w : World) (xs : List Int) (hb : Bytes xs) : ∃ w' c, (convert 9 42 (.string (strOfNums xs))).run Try.prog w = .ok (.slice (some ⟨w.heap.size, 0, none⟩) xs.length c) w' ∧ Rd w' (some ⟨w.heap.size, 0, none⟩) xs.length xs ∧ Below w.heap.size w w' := by
  have h := Lib.run_convert_string_bytes (P := Try.prog) w _ _ 5 (strOfNums xs) Try.underlying9 Try.underlying42 Try.underlying5
  rw [strOfNums_size] at h
  refine ⟨_, _, h, ⟨rfl, hb, .inr ⟨w.heap.size, 0, rfl, fun i hi => ?_⟩⟩, ?_⟩
  · rw [Nat.zero_add, Lib.bytesWorld_cell w _ _ i (by rw [strOfNums_size]; exact hi), str_at xs hb i hi]
  · refine ⟨?_, ?_, ?_, by rw [Lib.bytesWorld_size]; omega, fun k hk => Lib.bytesWorld_at_old w _ _ k hk⟩
    all_goals simp [Lib.bytesWorld, World.freeze, World.alloc, World.drew, -World.alloc_eq, -World.drew_eq]
end Go.Proofs.Ytcebjpfmpagfjaa.Sha

namespace Go.Proofs.Ytcebjpfmpagfjaa.Escrow
open Go.RowKit Go.Proofs.Ytcebjpfmpagfjaa.Sha Go.Proofs.Ytcebjpfmpagfjaa.Purse

/-- an escrow's cells -/
def evC (e : EV) : List Value := [.int .i64 e.src, .int .i64 e.dst, .int .i64 e.asset, .int .i64 e.amount, .int .i64 e.due, .int .i64 e.state, .string (strOfNums e.hash), .string (strOfNums e.secret)]
theorem evC_len (e : EV) : (evC e).length = 8 := rfl
def evF (l : List EV) : List Value := l.flatMap evC
theorem evF_len : ∀ l : List EV, (evF l).length = l.length * 8
  | [] => rfl
  | e :: l => by
    show (evC e ++ evF l).length = _
    rw [List.length_append, evC_len, evF_len l, List.length_cons]; omega
theorem evF_snoc (l : List EV) (e : EV) : evF (l ++ [e]) = evF l ++ evC e := by simp [evF]
theorem evF_at : ∀ (l : List EV) (k j : Nat), k < l.length → j < 8 → (evF l)[k * 8 + j]? = (evC (atE l k))[j]?
  | e :: l, 0, j, _, hj => by
    show (evC e ++ evF l)[0 * 8 + j]? = (evC e)[j]?
    rw [List.getElem?_append_left (by rw [evC_len]; omega)]
    simp
  | e :: l, k + 1, j, hk, hj => by
    show (evC e ++ evF l)[(k + 1) * 8 + j]? = _
    rw [List.getElem?_append_right (by rw [evC_len]; omega), evC_len, show (k + 1) * 8 + j - 8 = k * 8 + j by omega, evF_at l k j (by simpa using hk) hj]
    rfl
theorem evF_set : ∀ (l : List EV) (k j : Nat) (u : Value) (x : EV), k < l.length → j < 8 → evC x = (evC (atE l k)).set j u → (evF l).set (k * 8 + j) u = evF (l.set k x)
  | e :: l, 0, j, u, x, _, hj, hx => by
    show (evC e ++ evF l).set (0 * 8 + j) u = evC x ++ evF l
    rw [List.set_append_left _ _ (by rw [evC_len]; omega), hx]
    simp [atE]
  | e :: l, k + 1, j, u, x, hk, hj, hx => by
    show (evC e ++ evF l).set ((k + 1) * 8 + j) u = evC e ++ evF (l.set k x)
    rw [List.set_append_right _ _ (by rw [evC_len]; omega), evC_len, show (k + 1) * 8 + j - 8 = k * 8 + j by omega, evF_set l k j u x (by simpa using hk) hj hx]
theorem evC_one (e : EV) : ∀ v ∈ evC e, v.oneCell' = true := by
  intro v hv
  simp only [evC, List.mem_cons, List.not_mem_nil, or_false] at hv
  rcases hv with rfl | rfl | rfl | rfl | rfl | rfl | rfl | rfl <;> rfl
/-- a row of escrows of a call's own -/
def El (w : World) (v : Value) (l : List EV) : Prop := w.ownsRow 0 34 8 v l.length (evF l)
section
variable {w w' : World} {v : Value} {l : List EV}
theorem El.keep {G : List Nat} (h : El w v l) (b : Bar G w w') (hd : ∀ g ∈ v.ownBlock.toList, g ∉ G) : El w' v l := own_keep h b hd
theorem El.lt (h : El w v l) : ∀ g ∈ v.ownBlock.toList, g < w.heap.size := own_lt h
theorem El.nil (w : World) : El w (.slice none 0 0) [] := World.ownsRow_nil _ _ _ _
theorem El.shape (h : El w v l) : ∃ A c, v = .slice A l.length c ∧ l.length ≤ c ∧ c ≤ 9223372036854775807 := by
  rcases h.2 with ⟨hv, hx⟩ | ⟨g, c, cur, hv, -, -, h1, h2, -⟩
  · exact ⟨none, 0, by rw [hv, hx], by omega, by omega⟩
  · exact ⟨_, c, hv, h1, by unfold maxLen at h2; omega⟩
/-- where there is one, the row lies in a block -/
theorem El.at_ (h : El w v l) {k : Nat} (hk : k < l.length) : ∃ g c, v = .slice (some ⟨g, 0, none⟩) l.length c ∧ l.length ≤ c ∧ c ≤ 9223372036854775807 ∧ (∀ j, w.frozen? ⟨g, j, none⟩ = false) ∧ ∀ j u, j < 8 → (evC (atE l k))[j]? = some u → w.cell? ⟨g, k * 8 + j, none⟩ = some u := by
  have h0 := h
  rcases h.2 with ⟨hv, hx⟩ | ⟨g, c, cur, hv, -, hb, h1, h2, -⟩
  · omega
  · unfold El at h0
    rw [hv] at h0
    refine ⟨g, c, hv, h1, by unfold maxLen at h2; omega, fun j => World.ownsRow.frozenAt h0 j, fun j u hj hu => ?_⟩
    rw [World.ownsRow.cellAt h0 (k * 8 + j) (by omega), evF_at l k j hk hj, hu]
theorem El.cells (h : El w v l) {k : Nat} (hk : k < l.length) : ∃ g c, v = .slice (some ⟨g, 0, none⟩) l.length c ∧ l.length ≤ c ∧ c ≤ 9223372036854775807 ∧ (∀ j, w.frozen? ⟨g, j, none⟩ = false) ∧
    w.cell? ⟨g, k * 8, none⟩ = some (.int .i64 (atE l k).src) ∧ w.cell? ⟨g, k * 8 + 1, none⟩ = some (.int .i64 (atE l k).dst) ∧ w.cell? ⟨g, k * 8 + 2, none⟩ = some (.int .i64 (atE l k).asset) ∧ w.cell? ⟨g, k * 8 + 3, none⟩ = some (.int .i64 (atE l k).amount) ∧
    w.cell? ⟨g, k * 8 + 4, none⟩ = some (.int .i64 (atE l k).due) ∧ w.cell? ⟨g, k * 8 + 5, none⟩ = some (.int .i64 (atE l k).state) ∧ w.cell? ⟨g, k * 8 + 6, none⟩ = some (.string (strOfNums (atE l k).hash)) ∧ w.cell? ⟨g, k * 8 + 7, none⟩ = some (.string (strOfNums (atE l k).secret)) := by
  obtain ⟨g, c, h1, h2, h3, h4, h5⟩ := h.at_ hk
  exact ⟨g, c, h1, h2, h3, h4, h5 0 _ (by omega) rfl, h5 1 _ (by omega) rfl, h5 2 _ (by omega) rfl, h5 3 _ (by omega) rfl, h5 4 _ (by omega) rfl, h5 5 _ (by omega) rfl, h5 6 _ (by omega) rfl, h5 7 _ (by omega) rfl⟩
/-- one cell of one escrow is turned -/
theorem El.set {g c : Nat} (h : El w (.slice (some ⟨g, 0, none⟩) l.length c) l) {k j : Nat} (hk : k < l.length) (hj : j < 8) {u : Value} {x : EV} (hx : evC x = (evC (atE l k)).set j u) : El (w.setCell ⟨g, k * 8 + j, none⟩ u) (.slice (some ⟨g, 0, none⟩) (l.set k x).length c) (l.set k x) := by
  have h1 := (World.ownsRow.stored h (k * 8 + j) u).1
  rw [evF_set l k j u x hk hj hx] at h1
  rw [List.length_set]
  unfold El
  rw [List.length_set]
  exact h1
end
end Go.Proofs.Ytcebjpfmpagfjaa.Escrow

namespace Go.Proofs.Ytcebjpfmpagfjaa.Escrow
open Go.RowKit Go.Proofs.Ytcebjpfmpagfjaa.Sha Go.Proofs.Ytcebjpfmpagfjaa.Purse Go.Proofs.Ytcebjpfmpagfjaa.Num

/-- Get's answer -/
def evV (e : EV) : Value := .agg #[.int .i64 e.src, .int .i64 e.dst, .int .i64 e.asset, .int .i64 e.amount, .int .i64 e.due, .int .i64 e.state, .string (strOfNums e.hash), .string (strOfNums e.secret)]
def GetPost (r : EV × Bool) (w : World) (e : Ending) (w' : World) : Prop := e = .returned (.tuple #[evV r.1, .bool r.2]) ∧ Below w.heap.size w w'
/-- what is told, with memory made at most -/
def TellB (v : Value) (w : World) (e : Ending) (w' : World) : Prop := e = .returned v ∧ Below w.heap.size w w'
def zeroE : Value := .agg #[.int .i64 0, .int .i64 0, .int .i64 0, .int .i64 0, .int .i64 0, .int .i64 0, .string ⟨#[]⟩, .string ⟨#[]⟩]
theorem info_ev : (Try.prog.info? 34).map (fun i => (i.zero, i.size, i.bytes)) = some (some zeroE, 8, 80) := by kernel_rfl
def LockPost (D : World → List Nat → BS → Prop) (w : World) (F : List Nat) (r : (Int × Int) × BS) (e : Ending) (w' : World) : Prop := e = .returned (.tuple #[.int .i64 r.1.1, .int .i64 r.1.2]) ∧ ∃ F', D w' F' r.2 ∧ Fp F F' w w'
theorem take_same {s : PS} {i a n te : Int} {ts : PS} (w : WF s) (h : takeP s i a n = (te, ts)) (h0 : te ≠ 0) : ts = s := by
  rcases take_cases w i a n with ⟨e, he, h1⟩ | ⟨s', h1, -⟩
  · rw [h1] at h; injection h with h2 h3; exact h3.symm
  · rw [h1] at h; injection h with h2 h3; exact absurd h2.symm h0
theorem lock_range {b : BS} {i j a n due clock : Int} {h : List Int} (k : ¬ (isP b.p i = true ∧ isP b.p j = true ∧ isA b.p a = true ∧ amtB n = true ∧ n ≠ 0 ∧ tickB due = true ∧ tickB clock = true)) : lockB b i j a n h due clock = ((0, 1), b) := by unfold lockB; rw [if_pos k]
def BookPost (D : World → List Nat → BS → Prop) (w : World) (F : List Nat) (r : Int × BS) (e : Ending) (w' : World) : Prop := e = .returned (.int .i64 r.1) ∧ ∃ F', D w' F' r.2 ∧ Fp F F' w w'
theorem refund_none {b : BS} {who id clock : Int} (h : id < 0 ∨ (b.l.length : Int) ≤ id) : refundB b who id clock = (8, b) := by
  unfold refundB
  rw [if_pos (by unfold hasE; rw [decide_eq_false_iff_not]; omega)]
theorem refund_some {b : BS} {who clock : Int} {k : Nat} (h : k < b.l.length) : refundB b who k clock = if (atE b.l k).src ≠ who then (14, b)
  else if (atE b.l k).state ≠ 0 then (9, b)
  else if clock < (atE b.l k).due ∨ tickB clock = false then (11, b)
  else if (giveP b.p who (atE b.l k).asset (atE b.l k).amount).1 ≠ 0 then ((giveP b.p who (atE b.l k).asset (atE b.l k).amount).1, b)
  else (0, ⟨(giveP b.p who (atE b.l k).asset (atE b.l k).amount).2, b.l.set k { atE b.l k with state := 2 }⟩) := by
  unfold refundB
  rw [if_neg (by unfold hasE; rw [decide_eq_false_iff_not]; omega), Int.toNat_natCast]
theorem give_same {s : PS} {i a n te : Int} {ts : PS} (h : giveP s i a n = (te, ts)) (h0 : te ≠ 0) : ts = s := by
  unfold giveP at h
  split at h
  · injection h with h1 h2; exact absurd h1.symm h0
  · injection h with h1 h2; exact h2.symm
theorem claim_none {b : BS} {who id clock : Int} {s : List Int} (h : id < 0 ∨ (b.l.length : Int) ≤ id) : claimB b who id s clock = (8, b) := by
  unfold claimB
  rw [if_pos (by unfold hasE; rw [decide_eq_false_iff_not]; omega)]
theorem claim_some {b : BS} {who clock : Int} {s : List Int} {k : Nat} (h : k < b.l.length) : claimB b who k s clock = if (atE b.l k).dst ≠ who then (14, b)
  else if (atE b.l k).state ≠ 0 then (9, b)
  else if (atE b.l k).due ≤ clock ∨ tickB clock = false then (11, b)
  else if s.length ≠ 32 then (2, b)
  else if sha s ≠ (atE b.l k).hash then (10, b)
  else if (giveP b.p who (atE b.l k).asset (atE b.l k).amount).1 ≠ 0 then ((giveP b.p who (atE b.l k).asset (atE b.l k).amount).1, b)
  else (0, ⟨(giveP b.p who (atE b.l k).asset (atE b.l k).amount).2, b.l.set k { atE b.l k with state := 1, secret := s }⟩) := by
  unfold claimB
  rw [if_neg (by unfold hasE; rw [decide_eq_false_iff_not]; omega), Int.toNat_natCast]
end Go.Proofs.Ytcebjpfmpagfjaa.Escrow

namespace Go.Proofs.Ytcebjpfmpagfjaa.Sha
open Go.RowKit

theorem to_bytes2 (w : World) (xs : List Int) (hb : Bytes xs) (hl : xs.length ≤ 9223372036854775807) : ∃ w' c, (convert 9 42 (.string (strOfNums xs))).run Try.prog w = .ok (.slice (some ⟨w.heap.size, 0, none⟩) xs.length c) w' ∧ xs.length ≤ c ∧ c ≤ 9223372036854775807 ∧ Rd w' (some ⟨w.heap.size, 0, none⟩) xs.length xs ∧ Below w.heap.size w w' := by
  have h := Lib.run_convert_string_bytes (P := Try.prog) w _ _ 5 (strOfNums xs) Try.underlying9 Try.underlying42 Try.underlying5
  rw [strOfNums_size] at h
  refine ⟨_, _, h, grownCap_ge _ _ _ _, grownCap_le_maxLen _ _ _ _ hl, ⟨rfl, hb, .inr ⟨w.heap.size, 0, rfl, fun i hi => ?_⟩⟩, ?_⟩
  · rw [Nat.zero_add, Lib.bytesWorld_cell w _ _ i (by rw [strOfNums_size]; exact hi), str_at xs hb i hi]
  · refine ⟨?_, ?_, ?_, by rw [Lib.bytesWorld_size]; omega, fun k hk => Lib.bytesWorld_at_old w _ _ k hk⟩
    all_goals simp [Lib.bytesWorld, World.freeze, World.alloc, World.drew, -World.alloc_eq, -World.drew_eq]
end Go.Proofs.Ytcebjpfmpagfjaa.Sha
