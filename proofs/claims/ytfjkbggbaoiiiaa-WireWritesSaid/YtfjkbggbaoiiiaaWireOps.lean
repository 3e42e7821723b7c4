/-
  Chapter 4's laws: a row of operations that came in; the law's Few.
-/
import Derived.Test.YtfjkbggbaoiiiaaStructs
import Derived.Test.YtfjkbggbaoiiiaaWireSpec
namespace Go.Proofs.Ytfjkbggbaoiiiaa.Wire
open Go.RowKit Go.Proofs.Ytfjkbggbaoiiiaa.Sha

theorem decTxt_len (st : St) : (decTxt st).2.2.length ≤ st.2.length := by
  unfold decTxt
  split
  · split
    · simp
    · simp
  · simp
theorem decNum_len (st : St) (s : Int) : (decNum st s).2.2.length ≤ st.2.length := by
  unfold decNum
  split
  · split
    · split
      · simp
      · simp
    · simp
  · simp
/-- an operation -/
structure OpV where
  kind : Int
  n : Int
  size : Int
  b : List Int
/-- what is written behind the first k of them -/
def encOp (st : St) (x : OpV) : St := if x.kind = 0 then encNum st x.n x.size else encTxt st x.b
def encAll (X : Nat → OpV) : Nat → St
  | 0 => (0, [])
  | k + 1 => encOp (encAll X k) (X k)
def item (x : OpV) : List Int := if x.kind = 0 then be x.n.toNat x.size.toNat else be x.b.length 2 ++ x.b
def okOp (x : OpV) : Bool := if x.kind = 0 then fits x.n x.size else decide (x.b.length ≤ 65535)
/-- m of them, from k on -/
def items (X : Nat → OpV) (k : Nat) : Nat → List Int
  | 0 => []
  | m + 1 => item (X k) ++ items X (k + 1) m
theorem items_snoc (X : Nat → OpV) (k m : Nat) : items X k (m + 1) = items X k m ++ item (X (k + m)) := by
  induction m generalizing k with
  | zero => simp [items]
  | succ m ih =>
    rw [items, ih (k + 1), items, List.append_assoc, show k + 1 + m = k + (m + 1) by omega]
theorem encOp_ok (xs : List Int) (x : OpV) (h : okOp x = true) : encOp (0, xs) x = (0, xs ++ item x) := by
  unfold encOp item okOp at *
  split at h
  · rename_i hk
    rw [if_pos hk, if_pos hk]; unfold encNum; simp [h]
  · rename_i hk
    rw [if_neg hk, if_neg hk]; unfold encTxt; simp at h; simp [h]
theorem encOp_bad (xs : List Int) (x : OpV) (h : okOp x = false) : (encOp (0, xs) x).1 ≠ 0 := by
  unfold encOp okOp at *
  split at h
  · rename_i hk
    rw [if_pos hk]; unfold encNum; simp [h]
  · rename_i hk
    rw [if_neg hk]; unfold encTxt; simp at h; simp only [if_true]; rw [if_neg (by omega)]; simp
theorem encOp_err (st : St) (x : OpV) (h : st.1 ≠ 0) : encOp st x = st := by
  unfold encOp encNum encTxt
  rw [if_neg h, if_neg h]; simp
theorem encAll_ok (X : Nat → OpV) (n : Nat) (h : (encAll X n).1 = 0) : (encAll X n) = (0, items X 0 n) ∧ ∀ k, k < n → okOp (X k) = true := by
  induction n with
  | zero => exact ⟨rfl, fun k hk => by omega⟩
  | succ n ih =>
    rw [encAll] at h
    by_cases h0 : (encAll X n).1 = 0
    · obtain ⟨h1, h2⟩ := ih h0
      rw [h1] at h
      have hok : okOp (X n) = true := by
        cases hh : okOp (X n) with
        | true => rfl
        | false => exact absurd h (encOp_bad _ _ hh)
      refine ⟨by rw [encAll, h1, encOp_ok _ _ hok, items_snoc, Nat.zero_add], fun k hk => ?_⟩
      by_cases hkn : k = n
      · subst hkn; exact hok
      · exact h2 k (by omega)
    · rw [encOp_err _ _ h0] at h
      exact absurd h h0
theorem encAll_none (X : Nat → OpV) (n : Nat) (h : (encAll X n).1 ≠ 0) : (encAll X n).2 = [] := by
  induction n with
  | zero => exact absurd rfl h
  | succ n ih =>
    rw [encAll] at h ⊢
    by_cases h0 : (encAll X n).1 = 0
    · have e : encAll X n = (0, (encAll X n).2) := Prod.ext h0 rfl
      rw [e] at h ⊢
      cases hh : okOp (X n) with
      | true => rw [encOp_ok _ _ hh] at h; exact absurd rfl h
      | false =>
        unfold encOp okOp at *
        split at hh
        · rename_i hk
          rw [if_pos hk]; unfold encNum; simp [hh]
        · rename_i hk
          rw [if_neg hk]; unfold encTxt; simp at hh; simp only [if_true]; rw [if_neg (by omega)]
    · rw [encOp_err _ _ h0]; exact ih h0
theorem encAll_len (X : Nat → OpV) (n : Nat) : (encAll X n).2.length ≤ 65537 * n := by
  induction n with
  | zero => simp [encAll]
  | succ n ih =>
    rw [encAll]; unfold encOp
    split
    · have := encNum_len (encAll X n) (X n).n (X n).size; omega
    · have := encTxt_len (encAll X n) (X n).b; omega
theorem item_bytes (x : OpV) (h : Bytes x.b) : Bytes (item x) := by
  unfold item
  split
  · exact be_bytes _ _
  · exact (be_bytes _ _).append h
theorem items_len (X : Nat → OpV) (k m : Nat) (h : ∀ j, j < k + m → okOp (X j) = true) : (items X k m).length ≤ 65537 * m := by
  induction m generalizing k with
  | zero => simp [items]
  | succ m ih =>
    have h1 := ih (k + 1) (fun j hj => h j (by omega))
    have h2 : (item (X k)).length ≤ 65537 := by
      have := h k (by omega)
      unfold okOp at this; unfold item
      split at this
      · rename_i hk
        rw [if_pos hk, be_len]
        have := (fits_be this).2.2.2.1; omega
      · rename_i hk
        rw [if_neg hk, List.length_append, be_len]
        simp at this; omega
    rw [items, List.length_append]; omega
/-- what was written first is read first -/
theorem items_num (X : Nat → OpV) (j k : Nat) (hjk : j < k) (hk : (X j).kind = 0) (hok : okOp (X j) = true) : decNum (0, items X j (k - j)) (X j).size = ((X j).n, (0, items X (j + 1) (k - (j + 1)))) := by
  rw [show k - j = k - (j + 1) + 1 by omega, items, item, if_pos hk]
  unfold okOp at hok
  rw [if_pos hk] at hok
  exact dec_num _ _ _ hok
theorem items_txt (X : Nat → OpV) (j k : Nat) (hjk : j < k) (hk : ¬ (X j).kind = 0) (hok : okOp (X j) = true) : decTxt (0, items X j (k - j)) = ((X j).b, (0, items X (j + 1) (k - (j + 1)))) := by
  rw [show k - j = k - (j + 1) + 1 by omega, items, item, if_neg hk]
  unfold okOp at hok
  rw [if_neg hk] at hok
  exact dec_txt _ _ (by simpa using hok)
theorem items_bytes (X : Nat → OpV) (k m : Nat) (h : ∀ j, j < k + m → Bytes (X j).b) : Bytes (items X k m) := by
  induction m generalizing k with
  | zero => intro x hx; simp [items] at hx
  | succ m ih => exact (item_bytes _ (h k (by omega))).append (ih (k + 1) (fun j hj => h j (by omega)))
theorem encAll_bytes (X : Nat → OpV) (n : Nat) (h : ∀ j, j < n → Bytes (X j).b) : Bytes (encAll X n).2 := by
  by_cases h0 : (encAll X n).1 = 0
  · rw [(encAll_ok X n h0).1]; exact items_bytes X 0 n (fun j hj => h j (by omega))
  · rw [encAll_none X n h0]; intro x hx; simp at hx
/-- operation r of a row that came in -/
def OpAt (w : World) (b o r : Nat) (x : OpV) : Prop :=
  w.cell? ⟨b, o + r * 4, none⟩ = some (.int .i64 x.kind) ∧ w.cell? ⟨b, o + r * 4 + 1, none⟩ = some (.int .i64 x.n) ∧ w.cell? ⟨b, o + r * 4 + 2, none⟩ = some (.int .i64 x.size) ∧
    ∃ A l c, w.cell? ⟨b, o + r * 4 + 3, none⟩ = some (.slice A l c) ∧ l ≤ c ∧ c ≤ 9223372036854775807 ∧ Rd w A l x.b
def Ops (w : World) (A : Option Addr) (n : Nat) (X : Nat → OpV) : Prop := n = 0 ∨ ∃ b o, A = some ⟨b, o, none⟩ ∧ ∀ r, r < n → OpAt w b o r (X r)

theorem ops_of {H : Type} {enc : TypeId × Value → H} {w : World} {base : Nat} {held : Bool} {A : Option Addr} {len cap : Nat} {d : DataW H} {p : List MemPlace} (h : DataW.Trod enc Try.prog w base (fun _ => true) held 22 (.slice A len cap) d p) :
    len ≤ cap ∧ cap ≤ 9223372036854775807 ∧ ∃ X, Ops w A len X := by
  obtain ⟨h1, h2, h3⟩ := fields_of Try.underlying22 Try.underlying33 (by kernel_rfl) (by kernel_rfl) (by decide) h
  refine ⟨h1, by unfold maxLen at h2; omega, ?_⟩
  rcases h3 with h0 | ⟨b, o, hA, hf⟩
  · exact ⟨fun _ => ⟨0, 0, 0, []⟩, .inl h0⟩
  · have each : ∀ r, r < len → ∃ x, OpAt w b o r x := by
      intro r hr
      obtain ⟨v0, n0, y0, c0, t0⟩ := hf r hr 0 _ rfl
      obtain ⟨v1, n1, y1, c1, t1⟩ := hf r hr 1 _ rfl
      obtain ⟨v2, n2, y2, c2, t2⟩ := hf r hr 2 _ rfl
      obtain ⟨v3, n3, y3, c3, t3⟩ := hf r hr 3 _ rfl
      obtain ⟨z0, rfl, _⟩ := int_field Try.underlying3 t0
      obtain ⟨z1, rfl, _⟩ := int_field Try.underlying3 t1
      obtain ⟨z2, rfl, _⟩ := int_field Try.underlying3 t2
      obtain ⟨a, l, c, xs, rfl, g1, g2, g3⟩ := bytes_field Try.underlying27 Try.underlying5 (by kernel_rfl) t3
      exact ⟨⟨z0, z1, z2, xs⟩, c0, c1, c2, a, l, c, c3, g1, g2, g3⟩
    haveI : Inhabited OpV := ⟨⟨0, 0, 0, []⟩⟩
    obtain ⟨X, hX⟩ := Go.Deep.choose_lt each
    exact ⟨X, .inr ⟨b, o, hA, hX⟩⟩
theorem OpAt.below {w w' : World} {b o r : Nat} {x : OpV} (h : OpAt w b o r x) (k : Below w.heap.size w w') : OpAt w' b o r x := by
  obtain ⟨h0, h1, h2, A, l, c, h3, h4, h5, h6⟩ := h
  have f : ∀ {i : Nat} {v : Value}, w.cell? ⟨b, i, none⟩ = some v → w'.cell? ⟨b, i, none⟩ = some v := fun {i v} hh => by rw [k.cell (World.block_lt_of_cell? _ _ hh)]; exact hh
  exact ⟨f h0, f h1, f h2, A, l, c, f h3, h4, h5, h6.below k⟩
theorem Ops.below {w w' : World} {A : Option Addr} {n : Nat} {X : Nat → OpV} (h : Ops w A n X) (k : Below w.heap.size w w') : Ops w' A n X := by
  refine h.imp id ?_
  rintro ⟨b, o, hA, hc⟩
  exact ⟨b, o, hA, fun r hr => (hc r hr).below k⟩

theorem Ops.bytes {w : World} {A : Option Addr} {n : Nat} {X : Nat → OpV} (h : Ops w A n X) : ∀ j, j < n → Bytes (X j).b := fun j hj => by
  rcases h with h | ⟨b, o, -, hc⟩
  · omega
  · obtain ⟨-, -, -, a, l, c, -, -, -, hr⟩ := hc j hj
    exact hr.2.1
theorem Ops.off {w w' : World} {b o n r : Nat} {X : Nat → OpV} {a : Option Addr} {l c : Nat} {F : List Nat} (h : Ops w (some ⟨b, o, none⟩) n X) (hr : r < n) (k : Below w.heap.size w w') (g : w'.cell? ⟨b, o + r * 4 + 3, none⟩ = some (.slice a l c)) (hF : ∀ j ∈ F, w.heap.size ≤ j) : Off a l F := by
  obtain ⟨b', o', hA, hc⟩ := h.resolve_left (by omega)
  injection hA with hA
  injection hA with h1 h2
  subst h1 h2
  obtain ⟨-, -, -, a', l', c', e3, -, -, e6⟩ := hc r hr
  have e := (k.cell (p := ⟨b, o + r * 4 + 3, none⟩) (World.block_lt_of_cell? _ _ e3)).trans e3
  rw [g] at e
  simp only [Option.some.injEq, Value.slice.injEq] at e
  obtain ⟨rfl, rfl, rfl⟩ := e
  exact e6.off hF
theorem Ops.block {w : World} {b o n : Nat} {X : Nat → OpV} (h : Ops w (some ⟨b, o, none⟩) n X) (hn : 0 < n) : b < w.heap.size := by
  obtain ⟨b', o', hA, hc⟩ := h.resolve_left (by omega)
  injection hA with hA
  injection hA with h1 h2
  subst h1 h2
  exact World.block_lt_of_cell? _ _ (hc 0 hn).1
def FewPost (n : Nat) (w : World) (e : Ending) (w' : World) : Prop := ∃ t : Bool, e = .returned (.bool t) ∧ (t = true → n ≤ 200) ∧ w = w'
set_option maxRecDepth 100000 in
set_option maxHeartbeats 1000000 in
theorem ofew_any (A : Option Addr) (n cap : Nat) (X : Nat → OpV) (w : World) (hr : Ops w A n X) :
    Calls Try.prog 11 #[.slice A n cap] w (FewPost n w) := by
  have HR := Kept.mk hr
  clear hr
  go_enter Try.func11, Try.ntmps11
  go_wp2
  go_loop [3, 4] (fun s i => ∃ k z : Nat, k ≤ min n 200 ∧ z ≤ 200001 * k ∧ s = .int .i64 z ∧ i = .int .i64 k) (fun _ i => min n 200 - (intOf i).toNat)
  case atStart => exact ⟨0, 0, by omega, by omega, rfl, rfl⟩
  case round =>
    obtain ⟨k, z, hk, hz, rfl, rfl⟩ := hrel
    by_cases hkn : k < n
    · have hkn' : (k : Int) < n := by omega
      by_cases hk2 : k < 200
      · have hk2' : (k : Int) < 200 := by omega
        obtain ⟨b, o, rfl, hc⟩ := HR.out.resolve_left (by omega)
        obtain ⟨-, -, -, a, l, c, h3, h4, h5, h6⟩ := hc k hkn
        clear hc h6
        by_cases hl : l ≤ 200001
        · go_wp2
          go_round
          case rel => exact ⟨k + 1, z + l, by omega, by omega, by go_num, by go_num⟩
          case measure => simp [intOf]; omega
        · go_wp2
          go_round
          case rel => exact ⟨k + 1, z + 200001, by omega, by omega, by go_num, by go_num⟩
          case measure => simp [intOf]; omega
      · obtain rfl : k = 200 := by omega
        have hk2' : ¬ ((200 : Nat) : Int) < 200 := by omega
        have hn2 : ¬ (n : Int) ≤ 200 := by omega
        go_wp2
        go_ret
        exact ⟨_, rfl, by simp, rfl⟩
    · have hkn' : ¬ (k : Int) < n := by omega
      obtain rfl : k = n := by omega
      have hk3 : (k : Int) ≤ 200 := by omega
      go_wp2
      go_ret
      exact ⟨_, rfl, fun _ => by omega, rfl⟩
theorem cell_bar {w w' : World} {l : List Nat} {b i : Nat} {v : Value} (h : w.cell? ⟨b, i, none⟩ = some v) (k : Bar l w w') (hb : b ∉ l) : w'.cell? ⟨b, i, none⟩ = some v := by
  rw [← h]; exact World.cell?_of_block (k.block b (World.block_lt_of_cell? _ _ h) hb)
end Go.Proofs.Ytfjkbggbaoiiiaa.Wire
