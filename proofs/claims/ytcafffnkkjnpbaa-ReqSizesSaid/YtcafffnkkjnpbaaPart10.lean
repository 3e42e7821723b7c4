/-
  Parts laid together: ReqCodeDec ReqCGetText ReqCSame ReqFirstA ReqRPutV.
-/
import Derived.Test.YtcafffnkkjnpbaaPart1
import Derived.Test.YtcafffnkkjnpbaaPart8
import Derived.Test.YtcafffnkkjnpbaaPart3
import Derived.Test.YtcafffnkkjnpbaaPart2
import Derived.Test.YtcafffnkkjnpbaaPart7
import Derived.Deep.QuietTactic
import Derived.BigQuiet
import Derived.Test.YtcafffnkkjnpbaaPart6

namespace Go.Proofs.Ytcafffnkkjnpbaa.Req
open Go.Proofs.Ytcafffnkkjnpbaa.Sha Go.Proofs.Ytcafffnkkjnpbaa.Wire

/-- k of them, one behind the other, whatever comes -/
def iter {α : Type} (g : St → α × St) : Nat → St → List α × St
  | 0, st => ([], st)
  | k + 1, st => ((iter g k st).1 ++ [(g (iter g k st).2).1], (g (iter g k st).2).2)
theorem iter_len {α : Type} (g : St → α × St) (k : Nat) (st : St) : (iter g k st).1.length = k := by
  induction k with
  | zero => rfl
  | succ k ih => simp [iter, ih]
/-- a text, byte by byte -/
def cText (st : St) : List Int × St := iter (fun s => decNum s 1) 32 st
def cMove (st : St) : (Int × Int × Int) × St :=
  (((decNum st 1).1, (decNum (decNum st 1).2 1).1, (decNum (decNum (decNum st 1).2 1).2 8).1), (decNum (decNum (decNum st 1).2 1).2 8).2)
/-- what is read, and how: all bytes are one way -/
structure Way {α : Type} (g : St → α × St) (p : α → List Int) (hold may : α → Prop) : Prop where
  rest : ∀ st, Bytes st.2 → Bytes (g st).2.2
  one : ∀ st, Bytes st.2 → (g st).2.1 = 0 → hold (g st).1 → st.1 = 0 ∧ st.2 = p (g st).1 ++ (g st).2.2 ∧ may (g st).1
  back : ∀ x t, may x → Bytes (p x ++ t) → g (0, p x ++ t) = (x, (0, t))
theorem bytes_of_append {a b : List Int} (h : Bytes (a ++ b)) : Bytes a ∧ Bytes b :=
  ⟨fun x hx => h x (List.mem_append_left _ hx), fun x hx => h x (List.mem_append_right _ hx)⟩
theorem Way.iter {α : Type} {g : St → α × St} {p : α → List Int} {hold may : α → Prop} (W : Way g p hold may) (k : Nat) (st : St) (hb : Bytes st.2) :
    Bytes (Req.iter g k st).2.2 ∧ ((Req.iter g k st).2.1 = 0 → (∀ x ∈ (Req.iter g k st).1, hold x) → st.1 = 0 ∧ st.2 = (Req.iter g k st).1.flatMap p ++ (Req.iter g k st).2.2 ∧ ∀ x ∈ (Req.iter g k st).1, may x) := by
  induction k with
  | zero => exact ⟨hb, fun h _ => ⟨h, by simp [Req.iter], by simp [Req.iter]⟩⟩
  | succ k ih =>
    obtain ⟨h1, h2⟩ := ih
    refine ⟨W.rest _ h1, fun he hh => ?_⟩
    simp only [Req.iter] at he hh ⊢
    obtain ⟨k1, k2, k3⟩ := W.one _ h1 he (hh _ (by simp))
    obtain ⟨j1, j2, j3⟩ := h2 k1 (fun x hx => hh x (List.mem_append_left _ hx))
    refine ⟨j1, ?_, fun x hx => ?_⟩
    · rw [List.flatMap_append, List.flatMap_singleton, List.append_assoc, ← k2]
      exact j2
    · rcases List.mem_append.1 hx with hx | hx
      · exact j3 x hx
      · rw [List.mem_singleton] at hx; subst hx; exact k3
theorem Way.iter_back {α : Type} {g : St → α × St} {p : α → List Int} {hold may : α → Prop} (W : Way g p hold may) (l : List α) (t : List Int) (hm : ∀ x ∈ l, may x) (hb : Bytes (l.flatMap p ++ t)) :
    ∀ k, k ≤ l.length → Req.iter g k (0, l.flatMap p ++ t) = (l.take k, (0, (l.drop k).flatMap p ++ t)) := by
  intro k
  induction k with
  | zero => intro _; simp [Req.iter]
  | succ k ih =>
    intro hk
    have h1 := ih (by omega)
    have hx : k < l.length := by omega
    rw [Req.iter, h1]
    have hd : l.drop k = l[k] :: l.drop (k + 1) := List.drop_eq_getElem_cons hx
    have hbk : Bytes ((l.drop k).flatMap p ++ t) := by
      have e : l.flatMap p ++ t = (l.take k).flatMap p ++ ((l.drop k).flatMap p ++ t) := by
        rw [← List.append_assoc, ← List.flatMap_append, List.take_append_drop]
      rw [e] at hb
      exact (bytes_of_append hb).2
    rw [hd, List.flatMap_cons, List.append_assoc] at hbk ⊢
    rw [W.back _ _ (hm _ (List.getElem_mem hx)) hbk, List.take_succ_eq_append_getElem hx]
theorem Way.whole {α : Type} {g : St → α × St} {p : α → List Int} {hold may : α → Prop} (W : Way g p hold may) (l : List α) (t : List Int) (hm : ∀ x ∈ l, may x) (hb : Bytes (l.flatMap p ++ t)) :
    Req.iter g l.length (0, l.flatMap p ++ t) = (l, (0, t)) := by
  rw [W.iter_back l t hm hb _ (Nat.le_refl _)]
  simp
/-- a number -/
theorem dn_val {st : St} {s : Nat} (hb : Bytes st.2) (h : (decNum st s).2.1 = 0) : st.1 = 0 ∧ 0 ≤ (decNum st s).1 ∧ (decNum st s).1 ≤ 4611686018427387904 ∧ (decNum st s).1.toNat < 256 ^ s ∧ st.2 = be (decNum st s).1.toNat s ++ (decNum st s).2.2 := by
  unfold decNum at h ⊢
  by_cases h0 : st.1 = 0
  · rw [if_pos h0] at h ⊢
    by_cases hs : 1 ≤ (s : Int) ∧ (s : Int) ≤ 8
    · rw [if_pos hs] at h ⊢
      simp only [Int.toNat_natCast] at h ⊢
      by_cases hv : s ≤ st.2.length ∧ val (st.2.take s) ≤ 4611686018427387904
      · rw [if_pos hv] at h ⊢
        have h1 := val_take_lt st.2 hb s hv.1
        have h2 := be_val (st.2.take s) (hb.take s)
        rw [List.length_take, Nat.min_eq_left hv.1] at h2
        refine ⟨h0, by simp, by simpa using (show ((val (st.2.take s) : Nat) : Int) ≤ 4611686018427387904 by omega), by simpa using h1, ?_⟩
        simp only [Int.toNat_natCast, h2, List.take_append_drop]
      · rw [if_neg hv] at h; simp at h
    · rw [if_neg hs] at h; simp at h
  · rw [if_neg h0] at h; exact absurd h h0
theorem dn1 {st : St} (hb : Bytes st.2) (h : (decNum st 1).2.1 = 0) : st.1 = 0 ∧ B8 (decNum st 1).1 ∧ st.2 = be (decNum st 1).1.toNat 1 ++ (decNum st 1).2.2 := by
  obtain ⟨h1, h2, h3, h4, h5⟩ := dn_val (s := 1) hb h
  exact ⟨h1, ⟨h2, by have : (decNum st 1).1.toNat < 256 := h4; omega⟩, h5⟩
theorem dn2 {st : St} (hb : Bytes st.2) (h : (decNum st 2).2.1 = 0) : st.1 = 0 ∧ I16 (decNum st 2).1 ∧ st.2 = be (decNum st 2).1.toNat 2 ++ (decNum st 2).2.2 := by
  obtain ⟨h1, h2, h3, h4, h5⟩ := dn_val (s := 2) hb h
  exact ⟨h1, ⟨h2, by have : (decNum st 2).1.toNat < 65536 := h4; omega⟩, h5⟩
theorem dn8 {st : St} (hb : Bytes st.2) (h : (decNum st 8).2.1 = 0) : st.1 = 0 ∧ Amt (decNum st 8).1 ∧ st.2 = be (decNum st 8).1.toNat 8 ++ (decNum st 8).2.2 := by
  obtain ⟨h1, h2, h3, h4, h5⟩ := dn_val (s := 8) hb h
  exact ⟨h1, ⟨h2, h3⟩, h5⟩
theorem b80 : B8 0 := by decide
theorem i160 : I16 0 := by decide
theorem amt0 : Amt 0 := by decide
/-- a byte -/
theorem byte_way : Way (fun s => decNum s 1) (fun x : Int => [x]) (fun _ => True) B8 where
  rest st hb := decNum_bytes st 1 hb
  one st hb h _ := by
    obtain ⟨h1, h2, h3⟩ := dn1 hb h
    refine ⟨h1, ?_, h2⟩
    rw [h3]
    congr 1
    simp only [be, Nat.pow_zero, Nat.div_one]
    congr 1
    have := h2.1; have := h2.2
    omega
  back x t h hb := by
    have := nb1 t h
    have e : be x.toNat 1 = [x] := by
      simp only [be, Nat.pow_zero, Nat.div_one]
      congr 1
      have := h.1; have := h.2
      omega
    rwa [e] at this
theorem flat_one (l : List Int) : l.flatMap (fun x => [x]) = l := by induction l <;> simp [*]
theorem cText_rest (st : St) (hb : Bytes st.2) : Bytes (cText st).2.2 := (byte_way.iter 32 st hb).1
theorem cText_one {st : St} (hb : Bytes st.2) (h : (cText st).2.1 = 0) : st.1 = 0 ∧ st.2 = (cText st).1 ++ (cText st).2.2 := by
  obtain ⟨h1, h2, h3⟩ := (byte_way.iter 32 st hb).2 h (fun _ _ => trivial)
  rw [flat_one] at h2
  exact ⟨h1, h2⟩
theorem cText_back (b t : List Int) (hl : b.length = 32) (hb : Bytes (b ++ t)) : cText (0, b ++ t) = (b, (0, t)) := by
  have := byte_way.whole b t (fun x hx => (bytes_of_append hb).1 x hx) (by rw [flat_one]; exact hb)
  rwa [flat_one, hl] at this
theorem iter_bytes1 (k : Nat) (st : St) (hb : Bytes st.2) : Bytes (iter (fun s => decNum s 1) k st).1 := by
  induction k with
  | zero => intro x hx; simp [iter] at hx
  | succ k ih =>
    intro x hx
    rcases List.mem_append.1 hx with h | h
    · exact ih x h
    · rw [List.mem_singleton] at h
      subst h
      exact decNum_size0 _ ((byte_way.iter k st hb).1)
theorem cMove_rest (st : St) (hb : Bytes st.2) : Bytes (cMove st).2.2 := decNum_bytes _ _ (decNum_bytes _ _ (decNum_bytes _ _ hb))
theorem cMove_one {st : St} (hb : Bytes st.2) (h : (cMove st).2.1 = 0) : st.1 = 0 ∧ B8 (cMove st).1.1 ∧ B8 (cMove st).1.2.1 ∧ Amt (cMove st).1.2.2 ∧ st.2 = be (cMove st).1.1.toNat 1 ++ (be (cMove st).1.2.1.toNat 1 ++ (be (cMove st).1.2.2.toNat 8 ++ (cMove st).2.2)) := by
  unfold cMove at h ⊢
  dsimp only at h ⊢
  obtain ⟨h1, h2, h3⟩ := dn8 (decNum_bytes _ _ (decNum_bytes _ _ hb)) h
  obtain ⟨k1, k2, k3⟩ := dn1 (decNum_bytes _ _ hb) h1
  obtain ⟨j1, j2, j3⟩ := dn1 hb k1
  refine ⟨j1, j2, k2, h2, ?_⟩
  rw [← h3, ← k3, ← j3]
theorem cMove_back {a b c : Int} (t : List Int) (ha : B8 a) (hb : B8 b) (hc : Amt c) : cMove (0, be a.toNat 1 ++ (be b.toNat 1 ++ (be c.toNat 8 ++ t))) = ((a, b, c), (0, t)) := by
  unfold cMove
  simp only [nb1 _ ha, nb1 _ hb, nb8 _ hc]
/-- a request is read -/
def cReq (st : St) : RV × St :=
  if (decNum st 1).1 = 1 then (⟨1, (cMove (decNum st 1).2).1.1, (cMove (decNum st 1).2).1.2.1, (cMove (decNum st 1).2).1.2.2, 0, 0, [], []⟩, (cMove (decNum st 1).2).2)
  else if (decNum st 1).1 = 2 then (⟨2, (cMove (decNum st 1).2).1.1, (cMove (decNum st 1).2).1.2.1, (cMove (decNum st 1).2).1.2.2, 0, (decNum (cText (cMove (decNum st 1).2).2).2 8).1, (cText (cMove (decNum st 1).2).2).1, []⟩, (decNum (cText (cMove (decNum st 1).2).2).2 8).2)
  else if (decNum st 1).1 = 3 then (⟨3, 0, 0, 0, (decNum (decNum st 1).2 2).1, 0, [], (cText (decNum (decNum st 1).2 2).2).1⟩, (cText (decNum (decNum st 1).2 2).2).2)
  else if (decNum st 1).1 = 4 then (⟨4, 0, 0, 0, (decNum (decNum st 1).2 2).1, 0, [], []⟩, (decNum (decNum st 1).2 2).2)
  else (⟨(decNum st 1).1, 0, 0, 0, 0, 0, [], []⟩, (decNum st 1).2)
def cEv (st : St) : VV × St :=
  if (decNum st 1).1 = 1 then (⟨1, (decNum (decNum st 1).2 1).1, (cMove (decNum (decNum st 1).2 1).2).1.1, (cMove (decNum (decNum st 1).2 1).2).1.2.1, (cMove (decNum (decNum st 1).2 1).2).1.2.2, 0, 0, [], []⟩, (cMove (decNum (decNum st 1).2 1).2).2)
  else if (decNum st 1).1 = 2 then (⟨2, (decNum (decNum st 1).2 1).1, (cMove (decNum (decNum st 1).2 1).2).1.1, (cMove (decNum (decNum st 1).2 1).2).1.2.1, (cMove (decNum (decNum st 1).2 1).2).1.2.2, (decNum (cMove (decNum (decNum st 1).2 1).2).2 2).1,
    (decNum (cText (decNum (cMove (decNum (decNum st 1).2 1).2).2 2).2).2 8).1, (cText (decNum (cMove (decNum (decNum st 1).2 1).2).2 2).2).1, []⟩, (decNum (cText (decNum (cMove (decNum (decNum st 1).2 1).2).2 2).2).2 8).2)
  else if (decNum st 1).1 = 3 then (⟨3, 0, 0, 0, 0, (decNum (decNum st 1).2 2).1, 0, [], (cText (decNum (decNum st 1).2 2).2).1⟩, (cText (decNum (decNum st 1).2 2).2).2)
  else if (decNum st 1).1 = 4 then (⟨4, 0, 0, 0, 0, (decNum (decNum st 1).2 2).1, 0, [], []⟩, (decNum (decNum st 1).2 2).2)
  else (⟨(decNum st 1).1, 0, 0, 0, 0, 0, 0, [], []⟩, (decNum st 1).2)
def cRep (st : St) : PV × St := (⟨(decNum st 1).1, (decNum (decNum st 1).2 2).1⟩, (decNum (decNum st 1).2 2).2)
theorem rep_way : Way cRep putP (fun _ => True) MayP where
  rest st hb := decNum_bytes _ _ (decNum_bytes _ _ hb)
  one st hb h _ := by
    unfold cRep at h ⊢
    dsimp only at h ⊢
    obtain ⟨k1, k2, k3⟩ := dn2 (decNum_bytes _ _ hb) h
    obtain ⟨j1, j2, j3⟩ := dn1 hb k1
    refine ⟨j1, ?_, j2, k2⟩
    unfold putP
    rw [List.append_assoc, ← k3, ← j3]
  back x t h hb := by
    unfold cRep putP
    simp only [List.append_assoc, nb1 _ h.1, nb2 _ h.2]
theorem req_rest (st : St) (hb : Bytes st.2) : Bytes (cReq st).2.2 := by
  have h0 := decNum_bytes st 1 hb
  unfold cReq
  split
  · (try dsimp only); exact cMove_rest _ h0
  · split
    · (try dsimp only); exact decNum_bytes _ _ (cText_rest _ (cMove_rest _ h0))
    · split
      · (try dsimp only); exact cText_rest _ (decNum_bytes _ _ h0)
      · split
        · (try dsimp only); exact decNum_bytes _ _ h0
        · (try dsimp only); exact h0
theorem req_one (st : St) (hb : Bytes st.2) (h : (cReq st).2.1 = 0) (hh : HoldR (cReq st).1) : st.1 = 0 ∧ st.2 = putR (cReq st).1 ++ (cReq st).2.2 ∧ MayR (cReq st).1 := by
  have h0 := decNum_bytes st 1 hb
  rw [mayR_iff]
  unfold cReq at h hh ⊢
  by_cases e1 : (decNum st 1).1 = 1
  · simp only [if_pos e1] at h hh ⊢
    obtain ⟨k1, k2, k3, k4, k5⟩ := cMove_one h0 h
    obtain ⟨j1, j2, j3⟩ := dn1 hb k1
    refine ⟨j1, ?_, hh, k2, k3, k4, i160⟩
    rw [j3, e1, k5]; simp [putR]
  · by_cases e2 : (decNum st 1).1 = 2
    · simp only [if_neg e1, if_pos e2] at h hh ⊢
      obtain ⟨a1, a2, a3⟩ := dn8 (cText_rest _ (cMove_rest _ h0)) h
      obtain ⟨b1, b2⟩ := cText_one (cMove_rest _ h0) a1
      obtain ⟨k1, k2, k3, k4, k5⟩ := cMove_one h0 b1
      obtain ⟨j1, j2, j3⟩ := dn1 hb k1
      refine ⟨j1, ?_, hh, k2, k3, k4, i160⟩
      rw [j3, e2, k5, b2, a3]; simp [putR]
    · by_cases e3 : (decNum st 1).1 = 3
      · simp only [if_neg e1, if_neg e2, if_pos e3] at h hh ⊢
        obtain ⟨b1, b2⟩ := cText_one (decNum_bytes _ _ h0) h
        obtain ⟨k1, k2, k3⟩ := dn2 h0 b1
        obtain ⟨j1, j2, j3⟩ := dn1 hb k1
        refine ⟨j1, ?_, hh, b80, b80, amt0, k2⟩
        rw [j3, e3, k3, b2]; simp [putR]
      · by_cases e4 : (decNum st 1).1 = 4
        · simp only [if_neg e1, if_neg e2, if_neg e3, if_pos e4] at h hh ⊢
          obtain ⟨k1, k2, k3⟩ := dn2 h0 h
          obtain ⟨j1, j2, j3⟩ := dn1 hb k1
          refine ⟨j1, ?_, hh, b80, b80, amt0, k2⟩
          rw [j3, e4, k3]; simp [putR]
        · simp only [if_neg e1, if_neg e2, if_neg e3, if_neg e4] at hh
          rcases hh with hh | hh | hh | hh
          · exact absurd hh.1 e1
          · exact absurd hh.1 e2
          · exact absurd hh.1 e3
          · exact absurd hh.1 e4
theorem req_back (r : RV) (t : List Int) (h : MayR r) (hb : Bytes (putR r ++ t)) : cReq (0, putR r ++ t) = (r, (0, t)) := by
  obtain ⟨kind, dst, asset, amount, id, due, hash, sec⟩ := r
  have hk : B8 kind := by rcases h with h | h | h | h <;> have := h.1 <;> exact ⟨by dsimp only at this; omega, by dsimp only at this; omega⟩
  have ha : ∀ u, decNum (0, be kind.toNat 1 ++ u) 1 = (kind, (0, u)) := fun u => nb1 u hk
  unfold putR at hb ⊢
  unfold cReq
  simp only [List.append_assoc, ha]
  rcases h with ⟨h1, h2, h3, h4, h5, h6, h7, h8⟩ | ⟨h1, h2, h3, h4, h5, h6, h7, h8⟩ | ⟨h1, h2, h3, h4, h5, h6, h7, h8⟩ | ⟨h1, h2, h3, h4, h5, h6, h7, h8⟩ <;> dsimp only at h1 h2 h3 h4 h5 h6 h7 h8
  · subst h1 h5 h6 h7 h8
    simp [List.append_assoc, cMove_back _ h2 h3 h4]
  · subst h1 h5 h8
    have hb2 : Bytes (hash ++ (be due.toNat 8 ++ t)) := by
      simp only [List.append_assoc] at hb
      replace hb := (bytes_of_append hb).2
      simp only [or_true, if_true] at hb
      replace hb := (bytes_of_append hb).2
      simpa using hb
    simp [List.append_assoc, cMove_back _ h2 h3 h4, cText_back hash _ h7 hb2, nb8 _ h6.amt]
  · subst h1 h2 h3 h4 h6 h7
    have hb2 : Bytes (sec ++ t) := by
      simp only [List.append_assoc] at hb
      replace hb := (bytes_of_append hb).2
      simp at hb
      exact (bytes_of_append hb).2
    simp [nb2 _ h5, cText_back sec _ h8 hb2]
  · subst h1 h2 h3 h4 h6 h7 h8
    simp [nb2 _ h5]
theorem req_way : Way cReq putR HoldR MayR := ⟨req_rest, req_one, req_back⟩
theorem ev_rest (st : St) (hb : Bytes st.2) : Bytes (cEv st).2.2 := by
  have h0 := decNum_bytes st 1 hb
  have h1 := decNum_bytes _ 1 h0
  unfold cEv
  split
  · (try dsimp only); exact cMove_rest _ h1
  · split
    · (try dsimp only); exact decNum_bytes _ _ (cText_rest _ (decNum_bytes _ _ (cMove_rest _ h1)))
    · split
      · (try dsimp only); exact cText_rest _ (decNum_bytes _ _ h0)
      · split
        · (try dsimp only); exact decNum_bytes _ _ h0
        · (try dsimp only); exact h0
theorem ev_one (st : St) (hb : Bytes st.2) (h : (cEv st).2.1 = 0) (hh : HoldV (cEv st).1) : st.1 = 0 ∧ st.2 = putV (cEv st).1 ++ (cEv st).2.2 ∧ MayV (cEv st).1 := by
  have h0 := decNum_bytes st 1 hb
  have h1 := decNum_bytes _ 1 h0
  rw [mayV_iff]
  unfold cEv at h hh ⊢
  by_cases e1 : (decNum st 1).1 = 1
  · simp only [if_pos e1] at h hh ⊢
    obtain ⟨k1, k2, k3, k4, k5⟩ := cMove_one h1 h
    obtain ⟨s1, s2, s3⟩ := dn1 h0 k1
    obtain ⟨j1, j2, j3⟩ := dn1 hb s1
    refine ⟨j1, ?_, hh, s2, k2, k3, k4, i160⟩
    rw [j3, e1, s3, k5]; simp [putV]
  · by_cases e2 : (decNum st 1).1 = 2
    · simp only [if_neg e1, if_pos e2] at h hh ⊢
      obtain ⟨a1, a2, a3⟩ := dn8 (cText_rest _ (decNum_bytes _ _ (cMove_rest _ h1))) h
      obtain ⟨b1, b2⟩ := cText_one (decNum_bytes _ _ (cMove_rest _ h1)) a1
      obtain ⟨i1, i2, i3⟩ := dn2 (cMove_rest _ h1) b1
      obtain ⟨k1, k2, k3, k4, k5⟩ := cMove_one h1 i1
      obtain ⟨s1, s2, s3⟩ := dn1 h0 k1
      obtain ⟨j1, j2, j3⟩ := dn1 hb s1
      refine ⟨j1, ?_, hh, s2, k2, k3, k4, i2⟩
      rw [j3, e2, s3, k5, i3, b2, a3]; simp [putV]
    · by_cases e3 : (decNum st 1).1 = 3
      · simp only [if_neg e1, if_neg e2, if_pos e3] at h hh ⊢
        obtain ⟨b1, b2⟩ := cText_one (decNum_bytes _ _ h0) h
        obtain ⟨k1, k2, k3⟩ := dn2 h0 b1
        obtain ⟨j1, j2, j3⟩ := dn1 hb k1
        refine ⟨j1, ?_, hh, b80, b80, b80, amt0, k2⟩
        rw [j3, e3, k3, b2]; simp [putV]
      · by_cases e4 : (decNum st 1).1 = 4
        · simp only [if_neg e1, if_neg e2, if_neg e3, if_pos e4] at h hh ⊢
          obtain ⟨k1, k2, k3⟩ := dn2 h0 h
          obtain ⟨j1, j2, j3⟩ := dn1 hb k1
          refine ⟨j1, ?_, hh, b80, b80, b80, amt0, k2⟩
          rw [j3, e4, k3]; simp [putV]
        · simp only [if_neg e1, if_neg e2, if_neg e3, if_neg e4] at hh
          rcases hh with hh | hh | hh | hh
          · exact absurd hh.1 e1
          · exact absurd hh.1 e2
          · exact absurd hh.1 e3
          · exact absurd hh.1 e4
theorem ev_back (r : VV) (t : List Int) (h : MayV r) (hb : Bytes (putV r ++ t)) : cEv (0, putV r ++ t) = (r, (0, t)) := by
  obtain ⟨kind, src, dst, asset, amount, id, due, hash, sec⟩ := r
  have hk : B8 kind := by rcases h with h | h | h | h <;> have := h.1 <;> exact ⟨by dsimp only at this; omega, by dsimp only at this; omega⟩
  have ha : ∀ u, decNum (0, be kind.toNat 1 ++ u) 1 = (kind, (0, u)) := fun u => nb1 u hk
  unfold putV at hb ⊢
  unfold cEv
  simp only [List.append_assoc, ha]
  rcases h with ⟨h1, hs, h2, h3, h4, h5, h6, h7, h8⟩ | ⟨h1, hs, h2, h3, h4, h5, h6, h7, h8⟩ | ⟨h1, hs, h2, h3, h4, h5, h6, h7, h8⟩ | ⟨h1, hs, h2, h3, h4, h5, h6, h7, h8⟩ <;> dsimp only at h1 hs h2 h3 h4 h5 h6 h7 h8
  · subst h1 h5 h6 h7 h8
    simp [List.append_assoc, nb1 _ hs, cMove_back _ h2 h3 h4]
  · subst h1 h8
    have hb2 : Bytes (hash ++ (be due.toNat 8 ++ t)) := by
      simp only [List.append_assoc] at hb
      replace hb := (bytes_of_append hb).2
      rw [if_pos (by decide)] at hb
      replace hb := (bytes_of_append hb).2
      rw [if_pos (by decide)] at hb
      replace hb := (bytes_of_append hb).2
      simpa using hb
    simp [List.append_assoc, nb1 _ hs, nb2 _ h5, cMove_back _ h2 h3 h4, cText_back hash _ h7 hb2, nb8 _ h6.amt]
  · subst h1 hs h2 h3 h4 h6 h7
    have hb2 : Bytes (sec ++ t) := by
      simp only [List.append_assoc] at hb
      replace hb := (bytes_of_append hb).2
      simp at hb
      exact (bytes_of_append hb).2
    simp [nb2 _ h5, cText_back sec _ h8 hb2]
  · subst h1 hs h2 h3 h4 h6 h7 h8
    simp [nb2 _ h5]
theorem ev_way : Way cEv putV HoldV MayV := ⟨ev_rest, ev_one, ev_back⟩
/-- Decode, in the code's words -/
def DecBC (b : List Int) : Prop :=
  (decNum (decNum (0, b) 2).2 1).1 ≤ 64 ∧ (∀ r ∈ (iter cReq (decNum (decNum (0, b) 2).2 1).1.toNat (decNum (decNum (0, b) 2).2 1).2).1, HoldR r) ∧ endOf (iter cReq (decNum (decNum (0, b) 2).2 1).1.toNat (decNum (decNum (0, b) 2).2 1).2).2 = 0
theorem endOf_zero {st : St} (h : endOf st = 0) : st.1 = 0 ∧ st.2 = [] := by
  unfold endOf at h
  split at h
  · rename_i h0
    refine ⟨h0, ?_⟩
    split at h
    · rename_i h1; exact List.length_eq_zero_iff.1 h1
    · omega
  · rename_i h0; exact absurd h h0
theorem decB_yes {b : List Int} (hb : Bytes b) (h : DecBC b) : DecB b 0 ⟨(decNum (0, b) 2).1, (iter cReq (decNum (decNum (0, b) 2).2 1).1.toNat (decNum (decNum (0, b) 2).2 1).2).1⟩ := by
  obtain ⟨h1, h2, h3⟩ := h
  have k0 := decNum_bytes (0, b) 2 hb
  have k1 := decNum_bytes _ 1 k0
  obtain ⟨e1, e2⟩ := endOf_zero h3
  obtain ⟨i1, i2, i3⟩ := (req_way.iter _ _ k1).2 e1 h2
  have il := iter_len cReq (decNum (decNum (0, b) 2).2 1).1.toNat (decNum (decNum (0, b) 2).2 1).2
  obtain ⟨n1, n2, n3⟩ := dn1 k0 i1
  obtain ⟨s1, s2, s3⟩ := dn2 hb n1
  generalize (iter cReq (decNum (decNum (0, b) 2).2 1).1.toNat (decNum (decNum (0, b) 2).2 1).2) = it at *
  generalize decNum (decNum (0, b) 2).2 1 = n at *
  generalize decNum (0, b) 2 = s at *
  refine .inl ⟨rfl, ?_⟩
  have hn := n2.1
  rw [encB_yes (x := ⟨s.1, it.1⟩) ⟨s2, by dsimp only; omega, i3⟩]
  unfold bytesB
  dsimp only at s3 ⊢
  rw [s3, n3, i2, e2, il, List.append_nil]
theorem decB_no {b : List Int} (hb : Bytes b) (h : ¬ DecBC b) : DecB b 2 ⟨0, []⟩ := by
  refine .inr ⟨rfl, rfl, fun y hy => h ?_⟩
  obtain ⟨k, e⟩ := encB_inv hy
  obtain ⟨seen, l⟩ := y
  obtain ⟨k1, k2, k3⟩ := k
  dsimp only at k1 k2 k3
  have e1 := nb2 (be l.length 1 ++ l.flatMap putR) k1
  have e2 := nb1 (n := l.length) (l.flatMap putR) ⟨by omega, by omega⟩
  rw [Int.toNat_natCast] at e2
  have hb2 : Bytes (l.flatMap putR ++ []) := by
    rw [e, bytesB] at hb
    simpa using (bytes_of_append (bytes_of_append hb).2).2
  have e3 := req_way.whole l [] k3 hb2
  rw [List.append_nil] at e3
  unfold DecBC
  rw [e, bytesB]
  simp only [e1, e2, Int.toNat_natCast, e3]
  exact ⟨by omega, fun r hr => (mayR_iff.1 (k3 r hr)).1, rfl⟩
/-- the states behind clock and seen, the replies' number, the replies, the events' number, the events -/
def dA0 (b : List Int) : St := (decNum (decNum (0, b) 8).2 2).2
def dA1 (b : List Int) : Int × St := decNum (dA0 b) 1
def dA2 (b : List Int) : List PV × St := iter cRep (dA1 b).1.toNat (dA1 b).2
def dA3 (b : List Int) : Int × St := decNum (dA2 b).2 2
def dA4 (b : List Int) : List VV × St := iter cEv (dA3 b).1.toNat (dA3 b).2
def DecAC (b : List Int) : Prop := Tck (decNum (0, b) 8).1 ∧ (dA1 b).1 ≤ 64 ∧ (dA3 b).1 ≤ 400 ∧ (∀ r ∈ (dA4 b).1, HoldV r) ∧ endOf (dA4 b).2 = 0
theorem decA_yes {b : List Int} (hb : Bytes b) (h : DecAC b) : DecA b 0 ⟨(decNum (0, b) 8).1, (decNum (decNum (0, b) 8).2 2).1, (dA2 b).1, (dA4 b).1⟩ := by
  obtain ⟨h0, h1, h2, h3, h4⟩ := h
  have b0 := decNum_bytes (0, b) 8 hb
  have b1 : Bytes (dA0 b).2 := decNum_bytes _ 2 b0
  have b2 : Bytes (dA1 b).2.2 := decNum_bytes _ 1 b1
  have b3 : Bytes (dA2 b).2.2 := (rep_way.iter _ _ b2).1
  have b4 : Bytes (dA3 b).2.2 := decNum_bytes _ 2 b3
  obtain ⟨e1, e2⟩ := endOf_zero h4
  obtain ⟨v1, v2, v3⟩ := (ev_way.iter (dA3 b).1.toNat _ b4).2 e1 h3
  have vl : (dA4 b).1.length = (dA3 b).1.toNat := iter_len _ _ _
  obtain ⟨m1, m2, m3⟩ := dn2 b3 v1
  obtain ⟨p1, p2, p3⟩ := (rep_way.iter (dA1 b).1.toNat _ b2).2 m1 (fun _ _ => trivial)
  have pl : (dA2 b).1.length = (dA1 b).1.toNat := iter_len _ _ _
  obtain ⟨n1, n2, n3⟩ := dn1 b1 p1
  obtain ⟨s1, s2, s3⟩ := dn2 b0 n1
  obtain ⟨c1, c2, c3⟩ := dn8 hb s1
  refine .inl ⟨rfl, ?_⟩
  have hn := n2.1; have hm := m2.1
  rw [encA_yes (x := ⟨(decNum (0, b) 8).1, (decNum (decNum (0, b) 8).2 2).1, (dA2 b).1, (dA4 b).1⟩) ⟨h0, s2, by dsimp only; omega, by dsimp only; omega, p3, v3⟩]
  unfold bytesA
  dsimp only
  have q1 : (dA2 b).1.flatMap putP ++ (dA2 b).2.2 = (dA1 b).2.2 := p2.symm
  have q2 : (dA4 b).1.flatMap putV ++ (dA4 b).2.2 = (dA3 b).2.2 := v2.symm
  have q3 : be (dA3 b).1.toNat 2 ++ (dA3 b).2.2 = (dA2 b).2.2 := m3.symm
  have q4 : be (dA1 b).1.toNat 1 ++ (dA1 b).2.2 = (dA0 b).2 := n3.symm
  have q5 : be (decNum (decNum (0, b) 8).2 2).1.toNat 2 ++ (dA0 b).2 = (decNum (0, b) 8).2.2 := s3.symm
  rw [e2, List.append_nil] at q2
  rw [pl, vl, q2, q3, q1, q4, q5]
  exact congrArg (Prod.mk 0) c3.symm
theorem decA_no {b : List Int} (hb : Bytes b) (h : ¬ DecAC b) : DecA b 2 ⟨0, 0, [], []⟩ := by
  refine .inr ⟨rfl, rfl, fun y hy => h ?_⟩
  obtain ⟨k, e⟩ := encA_inv hy
  obtain ⟨clock, seen, p, v⟩ := y
  obtain ⟨k1, k2, k3, k4, k5, k6⟩ := k
  dsimp only at k1 k2 k3 k4 k5 k6
  have e0 := nb8 (be seen.toNat 2 ++ (be p.length 1 ++ (p.flatMap putP ++ (be v.length 2 ++ v.flatMap putV)))) k1.amt
  have e1 := nb2 (be p.length 1 ++ (p.flatMap putP ++ (be v.length 2 ++ v.flatMap putV))) k2
  have e2 := nb1 (n := p.length) (p.flatMap putP ++ (be v.length 2 ++ v.flatMap putV)) ⟨by omega, by omega⟩
  have e3 := nb2 (n := v.length) (v.flatMap putV) ⟨by omega, by omega⟩
  rw [Int.toNat_natCast] at e2 e3
  have hb2 : Bytes (p.flatMap putP ++ (be v.length 2 ++ v.flatMap putV)) := by
    rw [e, bytesA] at hb
    exact (bytes_of_append (bytes_of_append (bytes_of_append hb).2).2).2
  have hb3 : Bytes (v.flatMap putV ++ []) := by
    simpa using (bytes_of_append (bytes_of_append hb2).2).2
  have e4 := rep_way.whole p _ k5 hb2
  have e5 := ev_way.whole v [] k6 hb3
  rw [List.append_nil] at e5
  unfold DecAC dA4 dA3 dA2 dA1 dA0
  rw [e, bytesA]
  simp only [e0, e1, e2, e3, e4, e5, Int.toNat_natCast]
  exact ⟨k1, by omega, by omega, fun r hr => (mayV_iff.1 (k6 r hr)).1, rfl⟩
end Go.Proofs.Ytcafffnkkjnpbaa.Req

namespace Go.Proofs.Ytcafffnkkjnpbaa.Req
open Go.RowKit Go.Proofs.Ytcafffnkkjnpbaa.Sha Go.Proofs.Ytcafffnkkjnpbaa.Wire

theorem make32 (w : World) : ∃ w', (Instr.makeSlice 25 (.int .i64 32) (.int .i64 32)).run Try.prog w = .ok (.slice (some ⟨w.heap.size, 0, none⟩) 32 32) w' ∧ Blk w' w.heap.size 5 (arr .u8 (List.replicate 32 0)) ∧ Below w.heap.size w w' := make_big w 32 (by omega)
theorem row_next (xs : List Int) (z : Int) (k : Nat) (hl : xs.length = k) (hk : k < 32) : (xs ++ List.replicate (32 - k) 0).set k z = (xs ++ [z]) ++ List.replicate (32 - (k + 1)) 0 := by
  obtain ⟨m, hm⟩ : ∃ m, 32 - k = m + 1 := ⟨32 - (k + 1), by omega⟩
  have h2 : 32 - (k + 1) = m := by omega
  rw [hm, h2, List.set_append_right _ _ (by omega), hl, Nat.sub_self, List.replicate_succ, List.set_cons_zero, List.append_assoc]
  rfl
theorem results_three {P : Program} {fn : Func} {a b c : Tmp} (h : fn.results = #[.tmp a, .tmp b, .tmp c]) (tmps : Array Value) (w : World) : (results fn tmps).run P w = .ok (.tuple #[tmps.getD a undef, tmps.getD b undef, tmps.getD c undef]) w := by
  simp [results, h]
set_option maxRecDepth 100000 in
set_option maxHeartbeats 1000000 in
theorem cgetmove_any {w : World} {d : Nat} {G : List Nat} {st : St} (h : De 104 w d G st) (hd : d ∉ G) : Calls Try.prog 75 #[.pointer (some ⟨d, 0, none⟩)] w fun x w' => x = .returned (.tuple #[.int .i64 (cMove st).1.1, .int .i64 (cMove st).1.2.1, .int .i64 (cMove st).1.2.2]) ∧ De 104 w' d G (cMove st).2 ∧ Bar [d] w w' := by
  unfold cMove
  dsimp only
  have KC := dnum_any w d G 1 st h hd
  obtain ⟨a, ha⟩ : ∃ a, decNum st 1 = a := ⟨_, rfl⟩
  rw [ha] at KC ⊢
  obtain ⟨c, hc⟩ : ∃ c, decNum a.2 1 = c := ⟨_, rfl⟩
  rw [hc]
  obtain ⟨f, hf⟩ : ∃ f, decNum c.2 8 = f := ⟨_, rfl⟩
  rw [hf]
  have HC := Kept.mk hc; have HF := Kept.mk hf
  clear h ha hc hf
  go_enter Try.func75, Try.ntmps75
  go_wp2_with fail
  refine KC.mono ?_
  rintro x w1 ⟨rfl, he, b⟩
  have B := Kept.mk b
  have KC2 := dnum_any w1 d G 1 a.2 he hd
  rw [HC.out] at KC2
  clear he b KC
  go_wp2_with fail
  refine KC2.mono ?_
  rintro x w2 ⟨rfl, he, b⟩
  replace B := Kept.mk (B.out.trans b (fun x hx => .inl hx))
  have KC := dnum_any w2 d G 8 c.2 he hd
  rw [HF.out] at KC
  clear he b KC2
  go_wp2_with fail
  refine KC.mono ?_
  rintro x w3 ⟨rfl, he, b⟩
  replace B := Kept.mk (B.out.trans b (fun x hx => .inl hx))
  have HE := Kept.mk he
  clear he b KC
  go_wp2
  refine bodyPost_ret (results_three rfl _ _) rfl ?_
  exact ⟨rfl, HE.out, B.out⟩
set_option maxRecDepth 100000 in
set_option maxHeartbeats 1000000 in
theorem cgettext_any {w : World} {d : Nat} {G : List Nat} {st : St} (h : De 104 w d G st) (hd : d ∉ G) : Calls Try.prog 76 #[.pointer (some ⟨d, 0, none⟩)] w fun x w' => x = .returned (.string (strOfNums (cText st).1)) ∧ De 104 w' d G (cText st).2 ∧ Bar [d] w w' := by
  have hb := h.bytes
  have HBY : Kept (∀ k, Bytes (iter (fun s => decNum s 1) k st).1 ∧ Bytes (iter (fun s => decNum s 1) k st).2.2) := ⟨fun k => ⟨iter_bytes1 k st hb, (byte_way.iter k st hb).1⟩⟩
  have HLE : Kept (∀ k, (iter (fun s => decNum s 1) k st).1.length = k) := ⟨fun k => iter_len _ k st⟩
  obtain ⟨w1, hmk, hblk, b1⟩ := make32 w
  obtain ⟨M, hM⟩ : ∃ M, w.heap.size = M := ⟨_, rfl⟩
  have DM : Kept (d ≠ M ∧ ∀ g ∈ G, g ≠ M) := ⟨by have := h.lt; omega, fun g hg => by have := h.1 g hg; omega⟩
  have HD : Kept (De 104 w1 d G (iter (fun s => decNum s 1) 0 st).2) := ⟨h.below b1⟩
  have B : Kept (Bar [d] w w1) := ⟨barOf b1 _⟩
  rw [hM] at hmk hblk
  have X : Kept (Blk w1 M 5 (arr .u8 ((iter (fun s => decNum s 1) 0 st).1 ++ List.replicate (32 - 0) 0))) := ⟨hblk⟩
  have MW : Kept (w.heap.size ≤ M) := ⟨by omega⟩
  have HM := Kept.mk hM
  clear h hb hblk b1
  go_enter Try.func76, Try.ntmps76
  go_wp2
  clear hmk
  go_loopw [8] (fun i wr => ∃ (k : Nat), k ≤ 32 ∧ i = .int .i64 k ∧ Kept (De 104 wr d G (iter (fun s => decNum s 1) k st).2) ∧ Kept (Blk wr M 5 (arr .u8 ((iter (fun s => decNum s 1) k st).1 ++ List.replicate (32 - k) 0))) ∧ Kept (Bar [d] w wr)) (fun i _ => 32 - (Go.RowKit.intOf i).toNat)
  case atStart => exact ⟨0, by omega, rfl, HD, X, B⟩
  case round =>
    clear HD X B
    obtain ⟨k, hk, rfl, HD, X, B⟩ := hrel
    by_cases hkn : k < 32
    · have hkn' : (k : Int) < 32 := by omega
      have hz := decNum_size0 _ (HBY.out k).2
      have KC := dnum_any wr d G 1 _ HD.out hd
      have hrow := row_next _ (decNum (iter (fun s => decNum s 1) k st).2 1).1 k (HLE.out k) hkn
      have hit : iter (fun s => decNum s 1) (k + 1) st = ((iter (fun s => decNum s 1) k st).1 ++ [(decNum (iter (fun s => decNum s 1) k st).2 1).1], (decNum (iter (fun s => decNum s 1) k st).2 1).2) := rfl
      have HIT := Kept.mk hit; have HRO := Kept.mk hrow
      obtain ⟨s2, hs2⟩ : ∃ s2, decNum (iter (fun s => decNum s 1) k st).2 1 = s2 := ⟨_, rfl⟩
      rw [hs2] at KC hz HIT HRO
      obtain ⟨z, s3⟩ := s2
      dsimp only at KC hz HIT HRO
      have KK := Kept.mk KC
      clear hs2 KC hrow hit
      go_wp2_with fail
      refine KK.out.mono ?_
      rintro x w2 ⟨rfl, he, b⟩
      replace X := Kept.mk (X.out.bar b (by simpa using fun h => DM.out.1 h.symm))
      replace B := Kept.mk (B.out.trans b (fun x hx => .inl hx))
      have hsz : ((arr .u8 ((iter (fun s => decNum s 1) k st).1 ++ List.replicate (32 - k) 0))).size = 32 := by
        rw [arr_size, List.length_append, HLE.out k, List.length_replicate]; omega
      have hc0 := X.out.cell k
      have hfz := X.out.frozen k
      have hc : w2.cell? ⟨M, k, none⟩ = some (.int .u8 (at_ ((iter (fun s => decNum s 1) k st).1 ++ List.replicate (32 - k) 0) k)) := X.out.at_ k (by rw [arr_size] at hsz; omega)
      have HE := Kept.mk he
      clear he b KK hc0 hsz HD
      generalize at_ ((iter (fun s => decNum s 1) k st).1 ++ List.replicate (32 - k) 0) k = y at *
      go_wp2
      have X2 : Blk (w2.setCell ⟨M, k, none⟩ (.int .u8 z)) M 5 (arr .u8 ((iter (fun s => decNum s 1) (k + 1) st).1 ++ List.replicate (32 - (k + 1)) 0)) := by
        rw [HIT.out]
        rw [← HRO.out, ← arr_set]
        exact X.out.set_ k _
      have hbm : Bar [M] w2 (w2.setCell ⟨M, k, none⟩ (.int .u8 z)) := (Bar.refl _ _).setCell (by simp) _
      have HD : Kept (De 104 (w2.setCell ⟨M, k, none⟩ (.int .u8 z)) d G (iter (fun s => decNum s 1) (k + 1) st).2) := ⟨by
        rw [HIT.out]
        exact HE.out.keep hbm (by simpa using DM.out.1) (fun g hg => by simpa using DM.out.2 g hg)⟩
      replace B := Kept.mk (B.out.setCell (p := ⟨M, k, none⟩) (.inr MW.out) (.int .u8 z))
      replace X := Kept.mk X2
      clear X2 hbm
      go_roundw
      case rel => exact ⟨k + 1, by omega, by go_num, HD, X, B⟩
      case measure => simp [Go.RowKit.intOf]; omega
    · have hkn' : ¬ (k : Int) < 32 := by omega
      obtain rfl : k = 32 := by omega
      have hr : Rd wr (some ⟨M, 0, none⟩) 32 (cText st).1 := Rd.blk (T := 5) (by
        have := X.out
        rwa [Nat.sub_self, List.replicate_zero, List.append_nil] at this) (HBY.out 32).1 (HLE.out 32)
      have hcv := conv_same (cap := 32) hr
      have HE : Kept (De 104 wr d G (cText st).2) := HD
      clear hr HD
      go_wp2
      go_ret
      exact ⟨rfl, HE.out, B.out⟩
end Go.Proofs.Ytcafffnkkjnpbaa.Req

namespace Go.Proofs.Ytcafffnkkjnpbaa.Req
open Go.RowKit Go.Proofs.Ytcafffnkkjnpbaa.Sha Go.Proofs.Ytcafffnkkjnpbaa.Wire

theorem ctake_next {α : Type} {l m : List α} {k : Nat} {x y : α} (hx : l[k]? = some x) (hy : m[k]? = some y) (h : l.take k = m.take k) (e : x = y) : l.take (k + 1) = m.take (k + 1) := by
  subst e
  have h1 := List.getElem?_eq_some_iff.1 hx
  have h2 := List.getElem?_eq_some_iff.1 hy
  obtain ⟨a, rfl⟩ := h1
  obtain ⟨b, hb⟩ := h2
  rw [List.take_succ_eq_append_getElem a, List.take_succ_eq_append_getElem b, h, hb]

set_option maxRecDepth 100000 in
set_option maxHeartbeats 4000000 in
theorem equalr_any (A1 : Option Addr) (n1 c1 : Nat) (l1 : List RV) (A2 : Option Addr) (n2 c2 : Nat) (l2 : List RV) (w : World) (h1 : Rr w A1 n1 l1) (h2 : Rr w A2 n2 l2) (hm : n1 ≤ 9223372036854775807) (o1 : ∀ r ∈ l1, r.ok) (o2 : ∀ r ∈ l2, r.ok) :
    Calls Try.prog 43 #[.slice A1 n1 c1, .slice A2 n2 c2] w (SamePost (l1 = l2) w) := by
  have H1 := Kept.mk h1; have H2 := Kept.mk h2; have O1 := Kept.mk o1; have O2 := Kept.mk o2
  have L1 := Kept.mk h1.1; have L2 := Kept.mk h2.1
  generalize hP : (l1 = l2) = P
  have HP := Kept.mk hP
  have B := Kept.mk (Below.refl w.heap.size w)
  clear h1 h2 o1 o2 hP
  by_cases hn : n1 = n2
  · subst hn
    go_enter Try.func43, Try.ntmps43
    go_wp2
    have TK : Kept (l1.take 0 = l2.take 0) := ⟨by simp⟩
    go_loopw [13] (fun i wr => ∃ k : Nat, k ≤ n1 ∧ i = .int .i64 k ∧ Kept (l1.take k = l2.take k) ∧ Kept (Below w.heap.size w wr)) (fun i _ => n1 - (Go.RowKit.intOf i).toNat)
    case atStart => exact ⟨0, by omega, rfl, TK, B⟩
    case round =>
      clear TK B
      obtain ⟨k, hk, rfl, TK, B⟩ := hrel
      by_cases hkn : k < n1
      · have hkn' : (k : Int) < n1 := by omega
        obtain ⟨b1, o1, r1, rfl, hx1, hc1⟩ := (H1.out.below B.out).at_ hkn
        obtain ⟨b2, o2, r2, rfl, hx2, hc2⟩ := (H2.out.below B.out).at_ hkn
        have NE := fun w => req_neq r1 r2 (O1.out r1 (List.mem_of_getElem? hx1)) (O2.out r2 (List.mem_of_getElem? hx2)) w
        obtain ⟨q, hq⟩ : ∃ q, sameR r1 r2 = q := ⟨_, rfl⟩
        rw [hq] at NE
        have X1 := Kept.mk hx1; have X2 := Kept.mk hx2; have HQ := Kept.mk hq
        obtain ⟨p0, p1, p2, p3, p4, p5, p6, p7⟩ := r1
        obtain ⟨q0, q1, q2, q3, q4, q5, q6, q7⟩ := r2
        have u0 := hc1 0 _ rfl; have u1 := hc1 1 _ rfl; have u2 := hc1 2 _ rfl; have u3 := hc1 3 _ rfl; have u4 := hc1 4 _ rfl; have u5 := hc1 5 _ rfl; have u6 := hc1 6 _ rfl; have u7 := hc1 7 _ rfl
        have v0 := hc2 0 _ rfl; have v1 := hc2 1 _ rfl; have v2 := hc2 2 _ rfl; have v3 := hc2 3 _ rfl; have v4 := hc2 4 _ rfl; have v5 := hc2 5 _ rfl; have v6 := hc2 6 _ rfl; have v7 := hc2 7 _ rfl
        rw [Nat.add_zero] at u0 v0
        dsimp only at u0 v0 u1 v1 u2 v2 u3 v3 u4 v4 u5 v5 u6 v6 u7 v7
        unfold rqv at NE
        dsimp only at NE
        clear hc1 hc2 hx1 hx2 hq
        go_upto_region 6 with (fail)
        go_quiet (fail)
        generalize hd : wr.drewN nq = wd at *
        have BD : Below wr.heap.size wr wd := hd ▸ below_drewN (Below.refl _ _) nq
        replace B := Kept.mk (B.out.trans (BD.mono B.out.size))
        clear BD hd u0 v0 u1 v1 u2 v2 u3 v3 u4 v4 u5 v5 u6 v6 u7 v7
        cases q with
        | true =>
          have TK2 : Kept (l1.take (k + 1) = l2.take (k + 1)) := ⟨ctake_next X1.out X2.out TK.out (sameR_iff.1 HQ.out)⟩
          go_wp2
          go_roundw
          case rel => exact ⟨k + 1, by omega, by go_num, TK2, B⟩
          case measure => simp [Go.RowKit.intOf]; omega
        | false =>
          have hne : ¬ l1 = l2 := fun h => by
            have a := X1.out
            rw [h, X2.out] at a
            injection a with a
            have := sameR_iff.2 a.symm
            rw [HQ.out] at this
            cases this
          have NO := Kept.mk (fun h : P => by rw [← HP.out] at h; exact hne h)
          clear hne
          go_wp2
          go_ret
          exact ⟨false, rfl, ⟨fun h => (by cases h), fun h => (NO.out h).elim⟩, B.out⟩
      · have hkn' : ¬ (k : Int) < n1 := by omega
        obtain rfl : k = n1 := by omega
        have hall : l1 = l2 := by
          have := TK.out
          rwa [List.take_of_length_le (Nat.le_of_eq H1.out.1), List.take_of_length_le (Nat.le_of_eq H2.out.1)] at this
        have YES : Kept P := ⟨by rw [← HP.out]; exact hall⟩
        clear hall
        go_wp2
        go_ret
        exact ⟨true, rfl, ⟨fun _ => YES.out, fun _ => rfl⟩, B.out⟩
  · have hn2 : ((n1 : Int) != n2) = true := by
      rw [bne_iff_ne]; omega
    have NO := Kept.mk (fun h : P => by
      rw [← HP.out] at h
      exact hn (by rw [← L1.out, ← L2.out, h]))
    go_enter Try.func43, Try.ntmps43
    go_wp2
    go_ret
    exact ⟨false, rfl, ⟨fun h => (by cases h), fun h => (NO.out h).elim⟩, B.out⟩

set_option maxRecDepth 100000 in
set_option maxHeartbeats 4000000 in
theorem equalp_any (A1 : Option Addr) (n1 c1 : Nat) (l1 : List PV) (A2 : Option Addr) (n2 c2 : Nat) (l2 : List PV) (w : World) (h1 : Rp w A1 n1 l1) (h2 : Rp w A2 n2 l2) (hm : n1 ≤ 9223372036854775807) :
    Calls Try.prog 59 #[.slice A1 n1 c1, .slice A2 n2 c2] w (SamePost (l1 = l2) w) := by
  have H1 := Kept.mk h1; have H2 := Kept.mk h2
  have L1 := Kept.mk h1.1; have L2 := Kept.mk h2.1
  generalize hP : (l1 = l2) = P
  have HP := Kept.mk hP
  have B := Kept.mk (Below.refl w.heap.size w)
  clear h1 h2 hP
  by_cases hn : n1 = n2
  · subst hn
    go_enter Try.func59, Try.ntmps59
    go_wp2
    have TK : Kept (l1.take 0 = l2.take 0) := ⟨by simp⟩
    go_loopw [13] (fun i wr => ∃ k : Nat, k ≤ n1 ∧ i = .int .i64 k ∧ Kept (l1.take k = l2.take k) ∧ Kept (Below w.heap.size w wr)) (fun i _ => n1 - (Go.RowKit.intOf i).toNat)
    case atStart => exact ⟨0, by omega, rfl, TK, B⟩
    case round =>
      clear TK B
      obtain ⟨k, hk, rfl, TK, B⟩ := hrel
      by_cases hkn : k < n1
      · have hkn' : (k : Int) < n1 := by omega
        obtain ⟨b1, o1, r1, rfl, hx1, hc1⟩ := (H1.out.below B.out).at_ hkn
        obtain ⟨b2, o2, r2, rfl, hx2, hc2⟩ := (H2.out.below B.out).at_ hkn
        have NE := fun w => rep_neq r1 r2 w
        obtain ⟨q, hq⟩ : ∃ q, sameP r1 r2 = q := ⟨_, rfl⟩
        rw [hq] at NE
        have X1 := Kept.mk hx1; have X2 := Kept.mk hx2; have HQ := Kept.mk hq
        obtain ⟨p0, p1⟩ := r1
        obtain ⟨q0, q1⟩ := r2
        have u0 := hc1 0 _ rfl; have u1 := hc1 1 _ rfl
        have v0 := hc2 0 _ rfl; have v1 := hc2 1 _ rfl
        rw [Nat.add_zero] at u0 v0
        dsimp only at u0 v0 u1 v1
        unfold pqv at NE
        dsimp only at NE
        clear hc1 hc2 hx1 hx2 hq
        go_upto_region 6 with (fail)
        go_quiet (fail)
        generalize hd : wr.drewN nq = wd at *
        have BD : Below wr.heap.size wr wd := hd ▸ below_drewN (Below.refl _ _) nq
        replace B := Kept.mk (B.out.trans (BD.mono B.out.size))
        clear BD hd u0 v0 u1 v1
        cases q with
        | true =>
          have TK2 : Kept (l1.take (k + 1) = l2.take (k + 1)) := ⟨ctake_next X1.out X2.out TK.out (sameP_iff.1 HQ.out)⟩
          go_wp2
          go_roundw
          case rel => exact ⟨k + 1, by omega, by go_num, TK2, B⟩
          case measure => simp [Go.RowKit.intOf]; omega
        | false =>
          have hne : ¬ l1 = l2 := fun h => by
            have a := X1.out
            rw [h, X2.out] at a
            injection a with a
            have := sameP_iff.2 a.symm
            rw [HQ.out] at this
            cases this
          have NO := Kept.mk (fun h : P => by rw [← HP.out] at h; exact hne h)
          clear hne
          go_wp2
          go_ret
          exact ⟨false, rfl, ⟨fun h => (by cases h), fun h => (NO.out h).elim⟩, B.out⟩
      · have hkn' : ¬ (k : Int) < n1 := by omega
        obtain rfl : k = n1 := by omega
        have hall : l1 = l2 := by
          have := TK.out
          rwa [List.take_of_length_le (Nat.le_of_eq H1.out.1), List.take_of_length_le (Nat.le_of_eq H2.out.1)] at this
        have YES : Kept P := ⟨by rw [← HP.out]; exact hall⟩
        clear hall
        go_wp2
        go_ret
        exact ⟨true, rfl, ⟨fun _ => YES.out, fun _ => rfl⟩, B.out⟩
  · have hn2 : ((n1 : Int) != n2) = true := by
      rw [bne_iff_ne]; omega
    have NO := Kept.mk (fun h : P => by
      rw [← HP.out] at h
      exact hn (by rw [← L1.out, ← L2.out, h]))
    go_enter Try.func59, Try.ntmps59
    go_wp2
    go_ret
    exact ⟨false, rfl, ⟨fun h => (by cases h), fun h => (NO.out h).elim⟩, B.out⟩

set_option maxRecDepth 100000 in
set_option maxHeartbeats 4000000 in
theorem equalv_any (A1 : Option Addr) (n1 c1 : Nat) (l1 : List VV) (A2 : Option Addr) (n2 c2 : Nat) (l2 : List VV) (w : World) (h1 : Rv w A1 n1 l1) (h2 : Rv w A2 n2 l2) (hm : n1 ≤ 9223372036854775807) (o1 : ∀ r ∈ l1, r.ok) (o2 : ∀ r ∈ l2, r.ok) :
    Calls Try.prog 60 #[.slice A1 n1 c1, .slice A2 n2 c2] w (SamePost (l1 = l2) w) := by
  have H1 := Kept.mk h1; have H2 := Kept.mk h2; have O1 := Kept.mk o1; have O2 := Kept.mk o2
  have L1 := Kept.mk h1.1; have L2 := Kept.mk h2.1
  generalize hP : (l1 = l2) = P
  have HP := Kept.mk hP
  have B := Kept.mk (Below.refl w.heap.size w)
  clear h1 h2 o1 o2 hP
  by_cases hn : n1 = n2
  · subst hn
    go_enter Try.func60, Try.ntmps60
    go_wp2
    have TK : Kept (l1.take 0 = l2.take 0) := ⟨by simp⟩
    go_loopw [13] (fun i wr => ∃ k : Nat, k ≤ n1 ∧ i = .int .i64 k ∧ Kept (l1.take k = l2.take k) ∧ Kept (Below w.heap.size w wr)) (fun i _ => n1 - (Go.RowKit.intOf i).toNat)
    case atStart => exact ⟨0, by omega, rfl, TK, B⟩
    case round =>
      clear TK B
      obtain ⟨k, hk, rfl, TK, B⟩ := hrel
      by_cases hkn : k < n1
      · have hkn' : (k : Int) < n1 := by omega
        obtain ⟨b1, o1, r1, rfl, hx1, hc1⟩ := (H1.out.below B.out).at_ hkn
        obtain ⟨b2, o2, r2, rfl, hx2, hc2⟩ := (H2.out.below B.out).at_ hkn
        have NE := fun w => ev_neq r1 r2 (O1.out r1 (List.mem_of_getElem? hx1)) (O2.out r2 (List.mem_of_getElem? hx2)) w
        obtain ⟨q, hq⟩ : ∃ q, sameV r1 r2 = q := ⟨_, rfl⟩
        rw [hq] at NE
        have X1 := Kept.mk hx1; have X2 := Kept.mk hx2; have HQ := Kept.mk hq
        obtain ⟨p0, p1, p2, p3, p4, p5, p6, p7, p8⟩ := r1
        obtain ⟨q0, q1, q2, q3, q4, q5, q6, q7, q8⟩ := r2
        have u0 := hc1 0 _ rfl; have u1 := hc1 1 _ rfl; have u2 := hc1 2 _ rfl; have u3 := hc1 3 _ rfl; have u4 := hc1 4 _ rfl; have u5 := hc1 5 _ rfl; have u6 := hc1 6 _ rfl; have u7 := hc1 7 _ rfl; have u8 := hc1 8 _ rfl
        have v0 := hc2 0 _ rfl; have v1 := hc2 1 _ rfl; have v2 := hc2 2 _ rfl; have v3 := hc2 3 _ rfl; have v4 := hc2 4 _ rfl; have v5 := hc2 5 _ rfl; have v6 := hc2 6 _ rfl; have v7 := hc2 7 _ rfl; have v8 := hc2 8 _ rfl
        rw [Nat.add_zero] at u0 v0
        dsimp only at u0 v0 u1 v1 u2 v2 u3 v3 u4 v4 u5 v5 u6 v6 u7 v7 u8 v8
        unfold vqv at NE
        dsimp only at NE
        clear hc1 hc2 hx1 hx2 hq
        go_upto_region 6 with (fail)
        go_quiet (fail)
        generalize hd : wr.drewN nq = wd at *
        have BD : Below wr.heap.size wr wd := hd ▸ below_drewN (Below.refl _ _) nq
        replace B := Kept.mk (B.out.trans (BD.mono B.out.size))
        clear BD hd u0 v0 u1 v1 u2 v2 u3 v3 u4 v4 u5 v5 u6 v6 u7 v7 u8 v8
        cases q with
        | true =>
          have TK2 : Kept (l1.take (k + 1) = l2.take (k + 1)) := ⟨ctake_next X1.out X2.out TK.out (sameV_iff.1 HQ.out)⟩
          go_wp2
          go_roundw
          case rel => exact ⟨k + 1, by omega, by go_num, TK2, B⟩
          case measure => simp [Go.RowKit.intOf]; omega
        | false =>
          have hne : ¬ l1 = l2 := fun h => by
            have a := X1.out
            rw [h, X2.out] at a
            injection a with a
            have := sameV_iff.2 a.symm
            rw [HQ.out] at this
            cases this
          have NO := Kept.mk (fun h : P => by rw [← HP.out] at h; exact hne h)
          clear hne
          go_wp2
          go_ret
          exact ⟨false, rfl, ⟨fun h => (by cases h), fun h => (NO.out h).elim⟩, B.out⟩
      · have hkn' : ¬ (k : Int) < n1 := by omega
        obtain rfl : k = n1 := by omega
        have hall : l1 = l2 := by
          have := TK.out
          rwa [List.take_of_length_le (Nat.le_of_eq H1.out.1), List.take_of_length_le (Nat.le_of_eq H2.out.1)] at this
        have YES : Kept P := ⟨by rw [← HP.out]; exact hall⟩
        clear hall
        go_wp2
        go_ret
        exact ⟨true, rfl, ⟨fun _ => YES.out, fun _ => rfl⟩, B.out⟩
  · have hn2 : ((n1 : Int) != n2) = true := by
      rw [bne_iff_ne]; omega
    have NO := Kept.mk (fun h : P => by
      rw [← HP.out] at h
      exact hn (by rw [← L1.out, ← L2.out, h]))
    go_enter Try.func60, Try.ntmps60
    go_wp2
    go_ret
    exact ⟨false, rfl, ⟨fun h => (by cases h), fun h => (NO.out h).elim⟩, B.out⟩

set_option maxRecDepth 100000 in
set_option maxHeartbeats 4000000 in
theorem csameb_any (seen1 : Int) (AR1 : Option Addr) (nR1 cR1 : Nat) (l1 : List RV) (seen2 : Int) (AR2 : Option Addr) (nR2 cR2 : Nat) (l2 : List RV) (w : World) (hR1 : Rr w AR1 nR1 l1) (mR1 : nR1 ≤ 9223372036854775807) (oR1 : ∀ r ∈ l1, r.ok) (hR2 : Rr w AR2 nR2 l2) (oR2 : ∀ r ∈ l2, r.ok) :
    Calls Try.prog 17 #[.agg #[.int .i64 seen1, .slice AR1 nR1 cR1], .agg #[.int .i64 seen2, .slice AR2 nR2 cR2]] w (SamePost ((⟨seen1, l1⟩ : BV) = ⟨seen2, l2⟩) w) := by
  have HR1 := Kept.mk hR1; have HR2 := Kept.mk hR2
  have OR1 := Kept.mk oR1; have OR2 := Kept.mk oR2
  have MR1 := Kept.mk mR1
  have HI : ((⟨seen1, l1⟩ : BV) = ⟨seen2, l2⟩) ↔ (seen1 = seen2 ∧ l1 = l2) := by simp only [BV.mk.injEq]
  generalize ((⟨seen1, l1⟩ : BV) = ⟨seen2, l2⟩) = P at *
  have KP := Kept.mk HI
  obtain ⟨N, hN⟩ : ∃ N, w.heap.size = N := ⟨_, rfl⟩
  have X : Kept (Blk ((w.alloc (.cells #[.int .i64 seen1, .slice AR1 nR1 cR1] 24)).alloc (.cells #[.int .i64 seen2, .slice AR2 nR2 cR2] 24)) N 24 #[.int .i64 seen1, .slice AR1 nR1 cR1]) := ⟨(Blk.new_at w _ _ N hN.symm).alloc _⟩
  have Y : Kept (Blk ((w.alloc (.cells #[.int .i64 seen1, .slice AR1 nR1 cR1] 24)).alloc (.cells #[.int .i64 seen2, .slice AR2 nR2 cR2] 24)) (N + 1) 24 #[.int .i64 seen2, .slice AR2 nR2 cR2]) := ⟨Blk.new_at _ _ _ (N + 1) (by simp [hN])⟩
  have B : Kept (Below w.heap.size w ((w.alloc (.cells #[.int .i64 seen1, .slice AR1 nR1 cR1] 24)).alloc (.cells #[.int .i64 seen2, .slice AR2 nR2 cR2] 24))) := ⟨((Below.refl _ _).alloc (Nat.le_refl _) _).alloc (by simp) _⟩
  clear HI hR1 hR2 oR1 oR2 mR1
  go_enter Try.func17, Try.ntmps17
  go_upto_region 1 with (fail)
  generalize ((w.alloc (.cells #[.int .i64 seen1, .slice AR1 nR1 cR1] 24)).alloc (.cells #[.int .i64 seen2, .slice AR2 nR2 cR2] 24)) = w1 at *
  have x0 := X.out.cell 0; have y0 := Y.out.cell 0
  have x1 := X.out.cell 1; have y1 := Y.out.cell 1
  by_cases eseen : seen1 = seen2
  · subst eseen
    have KE := Kept.mk (equalr_any AR1 nR1 cR1 l1 AR2 nR2 cR2 l2 w1 (HR1.out.below B.out) (HR2.out.below B.out) MR1.out OR1.out OR2.out)
    unfold SamePost at KE
    go_wp2_with fail
    refine KE.out.mono ?_
    rintro x w2 ⟨q0, rfl, hq0, b⟩
    replace X := Kept.mk (X.out.below b X.out.lt); replace Y := Kept.mk (Y.out.below b Y.out.lt); replace B := Kept.mk (B.out.trans (b.mono B.out.size))
    have Q0 := Kept.mk hq0
    clear b KE hq0 x0 y0 x1 y1
    have YES : Kept (q0 = true ↔ P) := ⟨⟨fun h => KP.out.2 ⟨(by trivial), Q0.out.1 h⟩, fun h => Q0.out.2 (KP.out.1 h).2⟩⟩
    go_wp2
    go_ret
    exact ⟨q0, rfl, YES.out, B.out⟩
  · have hs2 : (seen1 == seen2) = false := by
      rw [beq_eq_false_iff_ne]; exact eseen
    have NO : Kept (¬ P) := ⟨fun h => eseen (KP.out.1 h).1⟩
    go_wp2
    go_ret
    exact ⟨false, rfl, ⟨fun h => (by cases h), fun h => (NO.out h).elim⟩, B.out⟩

set_option maxRecDepth 100000 in
set_option maxHeartbeats 4000000 in
theorem csamea_any (clock1 : Int) (seen1 : Int) (AP1 : Option Addr) (nP1 cP1 : Nat) (l1 : List PV) (AV1 : Option Addr) (nV1 cV1 : Nat) (v1 : List VV) (clock2 : Int) (seen2 : Int) (AP2 : Option Addr) (nP2 cP2 : Nat) (l2 : List PV) (AV2 : Option Addr) (nV2 cV2 : Nat) (v2 : List VV) (w : World) (hP1 : Rp w AP1 nP1 l1) (mP1 : nP1 ≤ 9223372036854775807) (hV1 : Rv w AV1 nV1 v1) (mV1 : nV1 ≤ 9223372036854775807) (oV1 : ∀ r ∈ v1, r.ok) (hP2 : Rp w AP2 nP2 l2) (hV2 : Rv w AV2 nV2 v2) (oV2 : ∀ r ∈ v2, r.ok) :
    Calls Try.prog 24 #[.agg #[.int .i64 clock1, .int .i64 seen1, .slice AP1 nP1 cP1, .slice AV1 nV1 cV1], .agg #[.int .i64 clock2, .int .i64 seen2, .slice AP2 nP2 cP2, .slice AV2 nV2 cV2]] w (SamePost ((⟨clock1, seen1, l1, v1⟩ : AV) = ⟨clock2, seen2, l2, v2⟩) w) := by
  have HP1 := Kept.mk hP1; have HP2 := Kept.mk hP2
  have MP1 := Kept.mk mP1
  have HV1 := Kept.mk hV1; have HV2 := Kept.mk hV2
  have OV1 := Kept.mk oV1; have OV2 := Kept.mk oV2
  have MV1 := Kept.mk mV1
  have HI : ((⟨clock1, seen1, l1, v1⟩ : AV) = ⟨clock2, seen2, l2, v2⟩) ↔ (clock1 = clock2 ∧ seen1 = seen2 ∧ l1 = l2 ∧ v1 = v2) := by simp only [AV.mk.injEq]
  generalize ((⟨clock1, seen1, l1, v1⟩ : AV) = ⟨clock2, seen2, l2, v2⟩) = P at *
  have KP := Kept.mk HI
  obtain ⟨N, hN⟩ : ∃ N, w.heap.size = N := ⟨_, rfl⟩
  have X : Kept (Blk ((w.alloc (.cells #[.int .i64 clock1, .int .i64 seen1, .slice AP1 nP1 cP1, .slice AV1 nV1 cV1] 39)).alloc (.cells #[.int .i64 clock2, .int .i64 seen2, .slice AP2 nP2 cP2, .slice AV2 nV2 cV2] 39)) N 39 #[.int .i64 clock1, .int .i64 seen1, .slice AP1 nP1 cP1, .slice AV1 nV1 cV1]) := ⟨(Blk.new_at w _ _ N hN.symm).alloc _⟩
  have Y : Kept (Blk ((w.alloc (.cells #[.int .i64 clock1, .int .i64 seen1, .slice AP1 nP1 cP1, .slice AV1 nV1 cV1] 39)).alloc (.cells #[.int .i64 clock2, .int .i64 seen2, .slice AP2 nP2 cP2, .slice AV2 nV2 cV2] 39)) (N + 1) 39 #[.int .i64 clock2, .int .i64 seen2, .slice AP2 nP2 cP2, .slice AV2 nV2 cV2]) := ⟨Blk.new_at _ _ _ (N + 1) (by simp [hN])⟩
  have B : Kept (Below w.heap.size w ((w.alloc (.cells #[.int .i64 clock1, .int .i64 seen1, .slice AP1 nP1 cP1, .slice AV1 nV1 cV1] 39)).alloc (.cells #[.int .i64 clock2, .int .i64 seen2, .slice AP2 nP2 cP2, .slice AV2 nV2 cV2] 39))) := ⟨((Below.refl _ _).alloc (Nat.le_refl _) _).alloc (by simp) _⟩
  clear HI hP1 hP2 mP1 hV1 hV2 oV1 oV2 mV1
  go_enter Try.func24, Try.ntmps24
  go_upto_region 1 with (fail)
  generalize ((w.alloc (.cells #[.int .i64 clock1, .int .i64 seen1, .slice AP1 nP1 cP1, .slice AV1 nV1 cV1] 39)).alloc (.cells #[.int .i64 clock2, .int .i64 seen2, .slice AP2 nP2 cP2, .slice AV2 nV2 cV2] 39)) = w1 at *
  have x0 := X.out.cell 0; have y0 := Y.out.cell 0
  have x1 := X.out.cell 1; have y1 := Y.out.cell 1
  have x2 := X.out.cell 2; have y2 := Y.out.cell 2
  have x3 := X.out.cell 3; have y3 := Y.out.cell 3
  by_cases eclock : clock1 = clock2
  · subst eclock
    by_cases eseen : seen1 = seen2
    · subst eseen
      have KE := Kept.mk (equalp_any AP1 nP1 cP1 l1 AP2 nP2 cP2 l2 w1 (HP1.out.below B.out) (HP2.out.below B.out) MP1.out)
      unfold SamePost at KE
      go_wp2_with fail
      refine KE.out.mono ?_
      rintro x w2 ⟨q0, rfl, hq0, b⟩
      replace X := Kept.mk (X.out.below b X.out.lt); replace Y := Kept.mk (Y.out.below b Y.out.lt); replace B := Kept.mk (B.out.trans (b.mono B.out.size))
      have Q0 := Kept.mk hq0
      clear b KE hq0 x0 y0 x1 y1 x2 y2 x3 y3
      have x0 := X.out.cell 0; have y0 := Y.out.cell 0
      have x1 := X.out.cell 1; have y1 := Y.out.cell 1
      have x2 := X.out.cell 2; have y2 := Y.out.cell 2
      have x3 := X.out.cell 3; have y3 := Y.out.cell 3
      cases q0 with
      | false =>
        have NO : Kept (¬ P) := ⟨fun h => by have := Q0.out.2 (KP.out.1 h).2.2.1; cases this⟩
        go_wp2
        go_ret
        exact ⟨false, rfl, ⟨fun h => (by cases h), fun h => (NO.out h).elim⟩, B.out⟩
      | true =>
        have KE := Kept.mk (equalv_any AV1 nV1 cV1 v1 AV2 nV2 cV2 v2 w2 (HV1.out.below B.out) (HV2.out.below B.out) MV1.out OV1.out OV2.out)
        unfold SamePost at KE
        go_wp2_with fail
        refine KE.out.mono ?_
        rintro x w3 ⟨q1, rfl, hq1, b⟩
        replace X := Kept.mk (X.out.below b X.out.lt); replace Y := Kept.mk (Y.out.below b Y.out.lt); replace B := Kept.mk (B.out.trans (b.mono B.out.size))
        have Q1 := Kept.mk hq1
        clear b KE hq1 x0 y0 x1 y1 x2 y2 x3 y3
        have YES : Kept (q1 = true ↔ P) := ⟨⟨fun h => KP.out.2 ⟨(by trivial), (by trivial), Q0.out.1 (by trivial), Q1.out.1 h⟩, fun h => Q1.out.2 (KP.out.1 h).2.2.2⟩⟩
        go_wp2
        go_ret
        exact ⟨q1, rfl, YES.out, B.out⟩
    · have hs2 : (seen1 == seen2) = false := by
        rw [beq_eq_false_iff_ne]; exact eseen
      have NO : Kept (¬ P) := ⟨fun h => eseen (KP.out.1 h).2.1⟩
      go_wp2
      go_ret
      exact ⟨false, rfl, ⟨fun h => (by cases h), fun h => (NO.out h).elim⟩, B.out⟩
  · have hs2 : (clock1 == clock2) = false := by
      rw [beq_eq_false_iff_ne]; exact eclock
    have NO : Kept (¬ P) := ⟨fun h => eclock (KP.out.1 h).1⟩
    go_wp2
    go_ret
    exact ⟨false, rfl, ⟨fun h => (by cases h), fun h => (NO.out h).elim⟩, B.out⟩

end Go.Proofs.Ytcafffnkkjnpbaa.Req

namespace Go.Proofs.Ytcafffnkkjnpbaa.Req
open Go.RowKit Go.Proofs.Ytcafffnkkjnpbaa.Sha Go.Proofs.Ytcafffnkkjnpbaa.Wire

set_option maxRecDepth 100000 in
set_option maxHeartbeats 2000000 in
theorem fewa_any (clock seen : Int) (E : Option Addr) (n0 c0 : Nat) (A : Option Addr) (n c : Nat) (l : List VV) (w : World) (hr : Rv w A n l) (hc : n ≤ 9223372036854775807) : Calls Try.prog 18 #[.agg #[.int .i64 clock, .int .i64 seen, .slice E n0 c0, .slice A n c]] w (FewPost (n0 ≤ 200 ∧ n ≤ 500 ∧ ∀ r ∈ l, r.small) w) := by
  have HR := Kept.mk hr
  have LN := Kept.mk hr.1
  obtain ⟨Q, hQ⟩ : ∃ Q : Prop, (n0 ≤ 200 ∧ n ≤ 500 ∧ ∀ r ∈ l, r.small) = Q := ⟨_, rfl⟩
  rw [hQ]
  have HQ := Kept.mk hQ
  obtain ⟨N, hN⟩ : ∃ N, w.heap.size = N := ⟨_, rfl⟩
  have X : Kept (Blk (w.alloc (.cells #[.int .i64 clock, .int .i64 seen, .slice E n0 c0, .slice A n c] 39)) N 39 #[.int .i64 clock, .int .i64 seen, .slice E n0 c0, .slice A n c]) := ⟨Blk.new_at w _ _ N hN.symm⟩
  have B : Kept (Below w.heap.size w (w.alloc (.cells #[.int .i64 clock, .int .i64 seen, .slice E n0 c0, .slice A n c] 39))) := ⟨(Below.refl _ _).alloc (Nat.le_refl _) _⟩
  clear hr hQ
  go_enter Try.func18, Try.ntmps18
  go_upto_region 1 with (fail)
  generalize w.alloc (.cells #[.int .i64 clock, .int .i64 seen, .slice E n0 c0, .slice A n c] 39) = w1 at *
  go_wp2
  go_loopw [3, 4] (fun s i wr => ∃ k z : Nat, k ≤ n ∧ k ≤ 500 ∧ z ≤ 40002 * k ∧ s = .int .i64 z ∧ i = .int .i64 k ∧ Kept (z ≤ 20000 → ∀ r ∈ l.take k, r.small) ∧ Kept (Blk wr N 39 #[.int .i64 clock, .int .i64 seen, .slice E n0 c0, .slice A n c]) ∧ Kept (Below w.heap.size w wr)) (fun _ i _ => n - (Go.RowKit.intOf i).toNat)
  case atStart => exact ⟨0, 0, by omega, by omega, by omega, rfl, rfl, ⟨by simp⟩, X, B⟩
  case round =>
    clear X B
    obtain ⟨k, z, hk, hk2, hz, rfl, rfl, HS, X, B⟩ := hrel
    have x1 := X.out.cell 3; have x2 := X.out.cell 2
    by_cases hkn : k < n
    · have hkn' : (k : Int) < n := by omega
      by_cases hk3 : k < 500
      · have hk3' : (k : Int) < 500 := by omega
        obtain ⟨b, o, r, rfl, hx, hcell⟩ := (HR.out.below B.out).at_ hkn
        obtain ⟨m1, h1, h2, h3⟩ := min_as (strOfNums r.hash).size
        obtain ⟨m2, h4, h5, h6⟩ := min_as (strOfNums r.sec).size
        rw [strOfNums_size] at h3 h6
        have HS2 : Kept (z + m1 + m2 ≤ 20000 → ∀ r ∈ l.take (k + 1), r.small) := ⟨fun h => all_snoc' hx (HS.out (by omega)) ⟨h3 (by omega), h6 (by omega)⟩⟩
        have y6 := hcell 7 _ rfl; have y7 := hcell 8 _ rfl
        have e1 : IntKind.i64.wrap ((z : Int) + m1) = (z : Int) + m1 := by rw [IntKind.wrap_i64]; omega
        have e2 : IntKind.i64.wrap ((z : Int) + m1 + m2) = (z : Int) + m1 + m2 := by rw [IntKind.wrap_i64]; omega
        clear hcell hx h3 h6
        generalize strOfNums r.hash = S1 at *
        generalize strOfNums r.sec = S2 at *
        go_upto_region 5 with (fail)
        go_quiet (fail)
        generalize hd : wr.drewN nq = wd at *
        have BD : Below wr.heap.size wr wd := hd ▸ below_drewN (Below.refl _ _) nq
        replace B := Kept.mk (B.out.trans (BD.mono B.out.size)); replace X := Kept.mk (X.out.below BD X.out.lt)
        clear BD hd y6 y7 x1 x2
        go_wp2
        go_roundw
        case rel => exact ⟨k + 1, z + m1 + m2, by omega, by omega, by omega, by go_num, by go_num, HS2, X, B⟩
        case measure => simp [Go.RowKit.intOf]; omega
      · obtain rfl : k = 500 := by omega
        have hk3' : ¬ ((500 : Nat) : Int) < 500 := by omega
        have hn2 : ¬ (n : Int) ≤ 500 := by omega
        go_wp2
        go_ret
        exact ⟨_, rfl, by simp, B.out⟩
    · have hkn' : ¬ (k : Int) < n := by omega
      obtain rfl : k = n := by omega
      have hk3 : (k : Int) ≤ 500 := by omega
      by_cases hp : n0 ≤ 200
      · have hp' : (n0 : Int) ≤ 200 := by omega
        by_cases hz2 : z ≤ 20000
        · have hz3 : (z : Int) ≤ 20000 := by omega
          have YES : Kept Q := ⟨by
            rw [← HQ.out]
            have := HS.out hz2
            rw [List.take_of_length_le (Nat.le_of_eq LN.out)] at this
            exact ⟨hp, by omega, this⟩⟩
          go_wp2
          go_ret
          exact ⟨true, rfl, fun _ => YES.out, B.out⟩
        · have hz3 : ¬ (z : Int) ≤ 20000 := by omega
          go_wp2
          go_ret
          exact ⟨_, rfl, by simp, B.out⟩
      · have hp' : ¬ (n0 : Int) ≤ 200 := by omega
        go_wp2
        go_ret
        exact ⟨_, rfl, by simp, B.out⟩
end Go.Proofs.Ytcafffnkkjnpbaa.Req

namespace Go.Proofs.Ytcafffnkkjnpbaa.Req
open Go.RowKit Go.Proofs.Ytcafffnkkjnpbaa.Sha Go.Proofs.Ytcafffnkkjnpbaa.Wire

set_option maxRecDepth 100000 in
set_option maxHeartbeats 4000000 in
theorem rputv_any {w : World} {F : List Nat} {e : Nat} {xs : List Int} {r : VV} (h : En 62 w F e (0, xs)) (hm : MayV r) (hr : r.ok) (hl : xs.length ≤ 100000000) : Calls Try.prog 52 #[.pointer (some ⟨e, 0, none⟩), vqv r] w fun x w' => x = .returned (.tuple #[]) ∧ ∃ F', En 62 w' F' e (0, xs ++ putV r) ∧ Fp F F' w w' := by
  obtain ⟨kind, src, dst, asset, amount, id, due, hash, sec⟩ := r
  obtain ⟨hb1, hb2⟩ := hr
  unfold vqv
  dsimp only at hb1 hb2 ⊢
  have hN : w.heap.size ∉ F := fun hm => by have := h.lt _ hm; omega
  have bz : ∀ o, Below w.heap.size w (w.alloc o) := fun o => (Below.refl _ _).alloc (Nat.le_refl _) o
  have NF := Kept.mk hN
  have HE0 := Kept.mk (fun o => h.below (bz o))
  have FP0 : Kept (∀ o, Fp F F w (w.alloc o)) := ⟨fun o => ⟨barOf (bz o) F, fun _ hk => .inl hk⟩⟩
  have X0 := Kept.mk (fun cs => Blk.new w 76 cs)
  obtain ⟨N, hN2⟩ : ∃ N, w.heap.size = N := ⟨_, rfl⟩
  rw [hN2] at NF X0
  clear hN bz h
  rcases hm with ⟨h1, hs, h2, h3, h4, h5, h6, h7, h8⟩ | ⟨h1, hs, h2, h3, h4, h5, h6, h7, h8⟩ | ⟨h1, hs, h2, h3, h4, h5, h6, h7, h8⟩ | ⟨h1, hs, h2, h3, h4, h5, h6, h7, h8⟩ <;> dsimp only at h1 hs h2 h3 h4 h5 h6 h7 h8
  · subst h1 h5 h6 h7 h8
    have HE := Kept.mk (HE0.out (.cells #[.int .i64 1, .int .i64 src, .int .i64 dst, .int .i64 asset, .int .i64 amount, .int .i64 0, .int .i64 0, .string (strOfNums []), .string (strOfNums [])] 76)); have FP := Kept.mk (FP0.out (.cells #[.int .i64 1, .int .i64 src, .int .i64 dst, .int .i64 asset, .int .i64 amount, .int .i64 0, .int .i64 0, .string (strOfNums []), .string (strOfNums [])] 76)); have X := Kept.mk (X0.out #[.int .i64 1, .int .i64 src, .int .i64 dst, .int .i64 asset, .int .i64 amount, .int .i64 0, .int .i64 0, .string (strOfNums []), .string (strOfNums [])])
    go_enter Try.func52, Try.ntmps52
    go_upto_region 1 with (fail)
    generalize w.alloc (.cells #[.int .i64 1, .int .i64 src, .int .i64 dst, .int .i64 asset, .int .i64 amount, .int .i64 0, .int .i64 0, .string (strOfNums []), .string (strOfNums [])] 76) = w0 at *
    clear HE0 FP0 X0
    have x0 := X.out.cell 0
    have KC := rnum_any w0 F e 1 1 (0, xs) HE.out (by simp only; omega)
    rw [rn1 _ (show B8 1 from ⟨by omega, by omega⟩)] at KC
    go_wp2_with fail
    refine KC.mono ?_
    rintro x w1 ⟨rfl, F1, he, fp⟩
    have hlt := X.out.lt
    replace X := Kept.mk (X.out.bar fp.1 NF.out); replace NF := Kept.mk (notin_step fp NF.out hlt); replace FP := Kept.mk (FP.out.trans fp); replace HE := Kept.mk he
    clear he fp KC hlt x0
    have x0 := X.out.cell 0; have x1 := X.out.cell 1
    have KC := rnum_any w1 F1 e src 1 (0, (xs ++ be (1 : Int).toNat 1)) HE.out (by simp only [List.length_append, be_len]; omega)
    rw [rn1 _ hs] at KC
    go_wp2_with fail
    refine KC.mono ?_
    rintro x w2 ⟨rfl, F2, he, fp⟩
    have hlt := X.out.lt
    replace X := Kept.mk (X.out.bar fp.1 NF.out); replace NF := Kept.mk (notin_step fp NF.out hlt); replace FP := Kept.mk (FP.out.trans fp); replace HE := Kept.mk he
    clear he fp KC hlt x0 x1
    have x0 := X.out.cell 0; have x2 := X.out.cell 2
    have KC := rnum_any w2 F2 e dst 1 (0, ((xs ++ be (1 : Int).toNat 1) ++ be (src : Int).toNat 1)) HE.out (by simp only [List.length_append, be_len]; omega)
    rw [rn1 _ h2] at KC
    go_wp2_with fail
    refine KC.mono ?_
    rintro x w3 ⟨rfl, F3, he, fp⟩
    have hlt := X.out.lt
    replace X := Kept.mk (X.out.bar fp.1 NF.out); replace NF := Kept.mk (notin_step fp NF.out hlt); replace FP := Kept.mk (FP.out.trans fp); replace HE := Kept.mk he
    clear he fp KC hlt x0 x2
    have x0 := X.out.cell 0; have x3 := X.out.cell 3
    have KC := rnum_any w3 F3 e asset 1 (0, (((xs ++ be (1 : Int).toNat 1) ++ be (src : Int).toNat 1) ++ be (dst : Int).toNat 1)) HE.out (by simp only [List.length_append, be_len]; omega)
    rw [rn1 _ h3] at KC
    go_wp2_with fail
    refine KC.mono ?_
    rintro x w4 ⟨rfl, F4, he, fp⟩
    have hlt := X.out.lt
    replace X := Kept.mk (X.out.bar fp.1 NF.out); replace NF := Kept.mk (notin_step fp NF.out hlt); replace FP := Kept.mk (FP.out.trans fp); replace HE := Kept.mk he
    clear he fp KC hlt x0 x3
    have x0 := X.out.cell 0; have x4 := X.out.cell 4
    have KC := rnum_any w4 F4 e amount 8 (0, ((((xs ++ be (1 : Int).toNat 1) ++ be (src : Int).toNat 1) ++ be (dst : Int).toNat 1) ++ be (asset : Int).toNat 1)) HE.out (by simp only [List.length_append, be_len]; omega)
    rw [rn8 _ h4] at KC
    go_wp2_with fail
    refine KC.mono ?_
    rintro x w5 ⟨rfl, F5, he, fp⟩
    have hlt := X.out.lt
    replace X := Kept.mk (X.out.bar fp.1 NF.out); replace NF := Kept.mk (notin_step fp NF.out hlt); replace FP := Kept.mk (FP.out.trans fp); replace HE := Kept.mk he
    clear he fp KC hlt x0 x4
    have x0 := X.out.cell 0; have x8 := X.out.cell 8
    obtain ⟨v6, c6, hcv, r2, b2⟩ := to_bytes w5 [] (by intro x hx; simp at hx)
    have KC := rraw_any v6 F5 e (some ⟨w5.heap.size, 0, none⟩) 0 c6 [] (0, (((((xs ++ be (1 : Int).toNat 1) ++ be (src : Int).toNat 1) ++ be (dst : Int).toNat 1) ++ be (asset : Int).toNat 1) ++ be (amount : Int).toNat 8)) (HE.out.below b2) r2 (by simp only [List.length_append, be_len]; omega)
    replace FP := Kept.mk (FP.out.trans (F'' := F5) ⟨barOf b2 _, fun _ hk => .inl hk⟩); replace X := Kept.mk (X.out.below b2 X.out.lt)
    clear b2 r2
    go_wp2_with fail
    refine KC.mono ?_
    clear hcv
    rintro x w6 ⟨rfl, F6, he, fp⟩
    have hlt := X.out.lt
    replace X := Kept.mk (X.out.bar fp.1 NF.out); replace NF := Kept.mk (notin_step fp NF.out hlt); replace FP := Kept.mk (FP.out.trans fp); replace HE := Kept.mk he
    clear he fp KC hlt x0 x8
    go_wp2
    go_end0
    refine ⟨rfl, _, ?_, FP.out⟩
    have hp : xs ++ putV ⟨1, src, dst, asset, amount, 0, 0, [], []⟩ = ((((((xs ++ be (1 : Int).toNat 1) ++ be (src : Int).toNat 1) ++ be (dst : Int).toNat 1) ++ be (asset : Int).toNat 1) ++ be (amount : Int).toNat 8) ++ []) := by simp [putV, List.append_assoc]
    rw [hp]; exact HE.out
  · subst h1 h8
    have HE := Kept.mk (HE0.out (.cells #[.int .i64 2, .int .i64 src, .int .i64 dst, .int .i64 asset, .int .i64 amount, .int .i64 id, .int .i64 due, .string (strOfNums hash), .string (strOfNums [])] 76)); have FP := Kept.mk (FP0.out (.cells #[.int .i64 2, .int .i64 src, .int .i64 dst, .int .i64 asset, .int .i64 amount, .int .i64 id, .int .i64 due, .string (strOfNums hash), .string (strOfNums [])] 76)); have X := Kept.mk (X0.out #[.int .i64 2, .int .i64 src, .int .i64 dst, .int .i64 asset, .int .i64 amount, .int .i64 id, .int .i64 due, .string (strOfNums hash), .string (strOfNums [])])
    go_enter Try.func52, Try.ntmps52
    go_upto_region 1 with (fail)
    generalize w.alloc (.cells #[.int .i64 2, .int .i64 src, .int .i64 dst, .int .i64 asset, .int .i64 amount, .int .i64 id, .int .i64 due, .string (strOfNums hash), .string (strOfNums [])] 76) = w0 at *
    clear HE0 FP0 X0
    have x0 := X.out.cell 0
    have KC := rnum_any w0 F e 2 1 (0, xs) HE.out (by simp only; omega)
    rw [rn1 _ (show B8 2 from ⟨by omega, by omega⟩)] at KC
    go_wp2_with fail
    refine KC.mono ?_
    rintro x w1 ⟨rfl, F1, he, fp⟩
    have hlt := X.out.lt
    replace X := Kept.mk (X.out.bar fp.1 NF.out); replace NF := Kept.mk (notin_step fp NF.out hlt); replace FP := Kept.mk (FP.out.trans fp); replace HE := Kept.mk he
    clear he fp KC hlt x0
    have x0 := X.out.cell 0; have x1 := X.out.cell 1
    have KC := rnum_any w1 F1 e src 1 (0, (xs ++ be (2 : Int).toNat 1)) HE.out (by simp only [List.length_append, be_len]; omega)
    rw [rn1 _ hs] at KC
    go_wp2_with fail
    refine KC.mono ?_
    rintro x w2 ⟨rfl, F2, he, fp⟩
    have hlt := X.out.lt
    replace X := Kept.mk (X.out.bar fp.1 NF.out); replace NF := Kept.mk (notin_step fp NF.out hlt); replace FP := Kept.mk (FP.out.trans fp); replace HE := Kept.mk he
    clear he fp KC hlt x0 x1
    have x0 := X.out.cell 0; have x2 := X.out.cell 2
    have KC := rnum_any w2 F2 e dst 1 (0, ((xs ++ be (2 : Int).toNat 1) ++ be (src : Int).toNat 1)) HE.out (by simp only [List.length_append, be_len]; omega)
    rw [rn1 _ h2] at KC
    go_wp2_with fail
    refine KC.mono ?_
    rintro x w3 ⟨rfl, F3, he, fp⟩
    have hlt := X.out.lt
    replace X := Kept.mk (X.out.bar fp.1 NF.out); replace NF := Kept.mk (notin_step fp NF.out hlt); replace FP := Kept.mk (FP.out.trans fp); replace HE := Kept.mk he
    clear he fp KC hlt x0 x2
    have x0 := X.out.cell 0; have x3 := X.out.cell 3
    have KC := rnum_any w3 F3 e asset 1 (0, (((xs ++ be (2 : Int).toNat 1) ++ be (src : Int).toNat 1) ++ be (dst : Int).toNat 1)) HE.out (by simp only [List.length_append, be_len]; omega)
    rw [rn1 _ h3] at KC
    go_wp2_with fail
    refine KC.mono ?_
    rintro x w4 ⟨rfl, F4, he, fp⟩
    have hlt := X.out.lt
    replace X := Kept.mk (X.out.bar fp.1 NF.out); replace NF := Kept.mk (notin_step fp NF.out hlt); replace FP := Kept.mk (FP.out.trans fp); replace HE := Kept.mk he
    clear he fp KC hlt x0 x3
    have x0 := X.out.cell 0; have x4 := X.out.cell 4
    have KC := rnum_any w4 F4 e amount 8 (0, ((((xs ++ be (2 : Int).toNat 1) ++ be (src : Int).toNat 1) ++ be (dst : Int).toNat 1) ++ be (asset : Int).toNat 1)) HE.out (by simp only [List.length_append, be_len]; omega)
    rw [rn8 _ h4] at KC
    go_wp2_with fail
    refine KC.mono ?_
    rintro x w5 ⟨rfl, F5, he, fp⟩
    have hlt := X.out.lt
    replace X := Kept.mk (X.out.bar fp.1 NF.out); replace NF := Kept.mk (notin_step fp NF.out hlt); replace FP := Kept.mk (FP.out.trans fp); replace HE := Kept.mk he
    clear he fp KC hlt x0 x4
    have x0 := X.out.cell 0; have x5 := X.out.cell 5
    have KC := rnum_any w5 F5 e id 2 (0, (((((xs ++ be (2 : Int).toNat 1) ++ be (src : Int).toNat 1) ++ be (dst : Int).toNat 1) ++ be (asset : Int).toNat 1) ++ be (amount : Int).toNat 8)) HE.out (by simp only [List.length_append, be_len]; omega)
    rw [rn2 _ h5] at KC
    go_wp2_with fail
    refine KC.mono ?_
    rintro x w6 ⟨rfl, F6, he, fp⟩
    have hlt := X.out.lt
    replace X := Kept.mk (X.out.bar fp.1 NF.out); replace NF := Kept.mk (notin_step fp NF.out hlt); replace FP := Kept.mk (FP.out.trans fp); replace HE := Kept.mk he
    clear he fp KC hlt x0 x5
    have x0 := X.out.cell 0; have x7 := X.out.cell 7
    obtain ⟨v7, c7, hcv, r2, b2⟩ := to_bytes w6 hash hb1
    rw [h7] at hcv r2
    have KC := rraw_any v7 F6 e (some ⟨w6.heap.size, 0, none⟩) 32 c7 hash (0, ((((((xs ++ be (2 : Int).toNat 1) ++ be (src : Int).toNat 1) ++ be (dst : Int).toNat 1) ++ be (asset : Int).toNat 1) ++ be (amount : Int).toNat 8) ++ be (id : Int).toNat 2)) (HE.out.below b2) r2 (by simp only [List.length_append, be_len]; omega)
    replace FP := Kept.mk (FP.out.trans (F'' := F6) ⟨barOf b2 _, fun _ hk => .inl hk⟩); replace X := Kept.mk (X.out.below b2 X.out.lt)
    clear b2 r2
    go_wp2_with fail
    refine KC.mono ?_
    clear hcv
    rintro x w7 ⟨rfl, F7, he, fp⟩
    have hlt := X.out.lt
    replace X := Kept.mk (X.out.bar fp.1 NF.out); replace NF := Kept.mk (notin_step fp NF.out hlt); replace FP := Kept.mk (FP.out.trans fp); replace HE := Kept.mk he
    clear he fp KC hlt x0 x7
    have x0 := X.out.cell 0; have x6 := X.out.cell 6
    have KC := rnum_any w7 F7 e due 8 (0, (((((((xs ++ be (2 : Int).toNat 1) ++ be (src : Int).toNat 1) ++ be (dst : Int).toNat 1) ++ be (asset : Int).toNat 1) ++ be (amount : Int).toNat 8) ++ be (id : Int).toNat 2) ++ hash)) HE.out (by simp only [List.length_append, be_len, h7]; omega)
    rw [rn8 _ h6.amt] at KC
    go_wp2_with fail
    refine KC.mono ?_
    rintro x w8 ⟨rfl, F8, he, fp⟩
    have hlt := X.out.lt
    replace X := Kept.mk (X.out.bar fp.1 NF.out); replace NF := Kept.mk (notin_step fp NF.out hlt); replace FP := Kept.mk (FP.out.trans fp); replace HE := Kept.mk he
    clear he fp KC hlt x0 x6
    have x0 := X.out.cell 0; have x8 := X.out.cell 8
    obtain ⟨v9, c9, hcv, r2, b2⟩ := to_bytes w8 [] (by intro x hx; simp at hx)
    have KC := rraw_any v9 F8 e (some ⟨w8.heap.size, 0, none⟩) 0 c9 [] (0, ((((((((xs ++ be (2 : Int).toNat 1) ++ be (src : Int).toNat 1) ++ be (dst : Int).toNat 1) ++ be (asset : Int).toNat 1) ++ be (amount : Int).toNat 8) ++ be (id : Int).toNat 2) ++ hash) ++ be (due : Int).toNat 8)) (HE.out.below b2) r2 (by simp only [List.length_append, be_len, h7]; omega)
    replace FP := Kept.mk (FP.out.trans (F'' := F8) ⟨barOf b2 _, fun _ hk => .inl hk⟩); replace X := Kept.mk (X.out.below b2 X.out.lt)
    clear b2 r2
    go_wp2_with fail
    refine KC.mono ?_
    clear hcv
    rintro x w9 ⟨rfl, F9, he, fp⟩
    have hlt := X.out.lt
    replace X := Kept.mk (X.out.bar fp.1 NF.out); replace NF := Kept.mk (notin_step fp NF.out hlt); replace FP := Kept.mk (FP.out.trans fp); replace HE := Kept.mk he
    clear he fp KC hlt x0 x8
    go_wp2
    go_end0
    refine ⟨rfl, _, ?_, FP.out⟩
    have hp : xs ++ putV ⟨2, src, dst, asset, amount, id, due, hash, []⟩ = (((((((((xs ++ be (2 : Int).toNat 1) ++ be (src : Int).toNat 1) ++ be (dst : Int).toNat 1) ++ be (asset : Int).toNat 1) ++ be (amount : Int).toNat 8) ++ be (id : Int).toNat 2) ++ hash) ++ be (due : Int).toNat 8) ++ []) := by simp [putV, List.append_assoc]
    rw [hp]; exact HE.out
  · subst h1 hs h2 h3 h4 h6 h7
    have HE := Kept.mk (HE0.out (.cells #[.int .i64 3, .int .i64 0, .int .i64 0, .int .i64 0, .int .i64 0, .int .i64 id, .int .i64 0, .string (strOfNums []), .string (strOfNums sec)] 76)); have FP := Kept.mk (FP0.out (.cells #[.int .i64 3, .int .i64 0, .int .i64 0, .int .i64 0, .int .i64 0, .int .i64 id, .int .i64 0, .string (strOfNums []), .string (strOfNums sec)] 76)); have X := Kept.mk (X0.out #[.int .i64 3, .int .i64 0, .int .i64 0, .int .i64 0, .int .i64 0, .int .i64 id, .int .i64 0, .string (strOfNums []), .string (strOfNums sec)])
    go_enter Try.func52, Try.ntmps52
    go_upto_region 1 with (fail)
    generalize w.alloc (.cells #[.int .i64 3, .int .i64 0, .int .i64 0, .int .i64 0, .int .i64 0, .int .i64 id, .int .i64 0, .string (strOfNums []), .string (strOfNums sec)] 76) = w0 at *
    clear HE0 FP0 X0
    have x0 := X.out.cell 0
    have KC := rnum_any w0 F e 3 1 (0, xs) HE.out (by simp only; omega)
    rw [rn1 _ (show B8 3 from ⟨by omega, by omega⟩)] at KC
    go_wp2_with fail
    refine KC.mono ?_
    rintro x w1 ⟨rfl, F1, he, fp⟩
    have hlt := X.out.lt
    replace X := Kept.mk (X.out.bar fp.1 NF.out); replace NF := Kept.mk (notin_step fp NF.out hlt); replace FP := Kept.mk (FP.out.trans fp); replace HE := Kept.mk he
    clear he fp KC hlt x0
    have x0 := X.out.cell 0; have x5 := X.out.cell 5
    have KC := rnum_any w1 F1 e id 2 (0, (xs ++ be (3 : Int).toNat 1)) HE.out (by simp only [List.length_append, be_len]; omega)
    rw [rn2 _ h5] at KC
    go_wp2_with fail
    refine KC.mono ?_
    rintro x w2 ⟨rfl, F2, he, fp⟩
    have hlt := X.out.lt
    replace X := Kept.mk (X.out.bar fp.1 NF.out); replace NF := Kept.mk (notin_step fp NF.out hlt); replace FP := Kept.mk (FP.out.trans fp); replace HE := Kept.mk he
    clear he fp KC hlt x0 x5
    have x0 := X.out.cell 0; have x8 := X.out.cell 8
    obtain ⟨v3, c3, hcv, r2, b2⟩ := to_bytes w2 sec hb2
    rw [h8] at hcv r2
    have KC := rraw_any v3 F2 e (some ⟨w2.heap.size, 0, none⟩) 32 c3 sec (0, ((xs ++ be (3 : Int).toNat 1) ++ be (id : Int).toNat 2)) (HE.out.below b2) r2 (by simp only [List.length_append, be_len]; omega)
    replace FP := Kept.mk (FP.out.trans (F'' := F2) ⟨barOf b2 _, fun _ hk => .inl hk⟩); replace X := Kept.mk (X.out.below b2 X.out.lt)
    clear b2 r2
    go_wp2_with fail
    refine KC.mono ?_
    clear hcv
    rintro x w3 ⟨rfl, F3, he, fp⟩
    have hlt := X.out.lt
    replace X := Kept.mk (X.out.bar fp.1 NF.out); replace NF := Kept.mk (notin_step fp NF.out hlt); replace FP := Kept.mk (FP.out.trans fp); replace HE := Kept.mk he
    clear he fp KC hlt x0 x8
    go_wp2
    go_end0
    refine ⟨rfl, _, ?_, FP.out⟩
    have hp : xs ++ putV ⟨3, 0, 0, 0, 0, id, 0, [], sec⟩ = (((xs ++ be (3 : Int).toNat 1) ++ be (id : Int).toNat 2) ++ sec) := by simp [putV, List.append_assoc]
    rw [hp]; exact HE.out
  · subst h1 hs h2 h3 h4 h6 h7 h8
    have HE := Kept.mk (HE0.out (.cells #[.int .i64 4, .int .i64 0, .int .i64 0, .int .i64 0, .int .i64 0, .int .i64 id, .int .i64 0, .string (strOfNums []), .string (strOfNums [])] 76)); have FP := Kept.mk (FP0.out (.cells #[.int .i64 4, .int .i64 0, .int .i64 0, .int .i64 0, .int .i64 0, .int .i64 id, .int .i64 0, .string (strOfNums []), .string (strOfNums [])] 76)); have X := Kept.mk (X0.out #[.int .i64 4, .int .i64 0, .int .i64 0, .int .i64 0, .int .i64 0, .int .i64 id, .int .i64 0, .string (strOfNums []), .string (strOfNums [])])
    go_enter Try.func52, Try.ntmps52
    go_upto_region 1 with (fail)
    generalize w.alloc (.cells #[.int .i64 4, .int .i64 0, .int .i64 0, .int .i64 0, .int .i64 0, .int .i64 id, .int .i64 0, .string (strOfNums []), .string (strOfNums [])] 76) = w0 at *
    clear HE0 FP0 X0
    have x0 := X.out.cell 0
    have KC := rnum_any w0 F e 4 1 (0, xs) HE.out (by simp only; omega)
    rw [rn1 _ (show B8 4 from ⟨by omega, by omega⟩)] at KC
    go_wp2_with fail
    refine KC.mono ?_
    rintro x w1 ⟨rfl, F1, he, fp⟩
    have hlt := X.out.lt
    replace X := Kept.mk (X.out.bar fp.1 NF.out); replace NF := Kept.mk (notin_step fp NF.out hlt); replace FP := Kept.mk (FP.out.trans fp); replace HE := Kept.mk he
    clear he fp KC hlt x0
    have x0 := X.out.cell 0; have x5 := X.out.cell 5
    have KC := rnum_any w1 F1 e id 2 (0, (xs ++ be (4 : Int).toNat 1)) HE.out (by simp only [List.length_append, be_len]; omega)
    rw [rn2 _ h5] at KC
    go_wp2_with fail
    refine KC.mono ?_
    rintro x w2 ⟨rfl, F2, he, fp⟩
    have hlt := X.out.lt
    replace X := Kept.mk (X.out.bar fp.1 NF.out); replace NF := Kept.mk (notin_step fp NF.out hlt); replace FP := Kept.mk (FP.out.trans fp); replace HE := Kept.mk he
    clear he fp KC hlt x0 x5
    have x0 := X.out.cell 0; have x8 := X.out.cell 8
    obtain ⟨v3, c3, hcv, r2, b2⟩ := to_bytes w2 [] (by intro x hx; simp at hx)
    have KC := rraw_any v3 F2 e (some ⟨w2.heap.size, 0, none⟩) 0 c3 [] (0, ((xs ++ be (4 : Int).toNat 1) ++ be (id : Int).toNat 2)) (HE.out.below b2) r2 (by simp only [List.length_append, be_len]; omega)
    replace FP := Kept.mk (FP.out.trans (F'' := F2) ⟨barOf b2 _, fun _ hk => .inl hk⟩); replace X := Kept.mk (X.out.below b2 X.out.lt)
    clear b2 r2
    go_wp2_with fail
    refine KC.mono ?_
    clear hcv
    rintro x w3 ⟨rfl, F3, he, fp⟩
    have hlt := X.out.lt
    replace X := Kept.mk (X.out.bar fp.1 NF.out); replace NF := Kept.mk (notin_step fp NF.out hlt); replace FP := Kept.mk (FP.out.trans fp); replace HE := Kept.mk he
    clear he fp KC hlt x0 x8
    go_wp2
    go_end0
    refine ⟨rfl, _, ?_, FP.out⟩
    have hp : xs ++ putV ⟨4, 0, 0, 0, 0, id, 0, [], []⟩ = (((xs ++ be (4 : Int).toNat 1) ++ be (id : Int).toNat 2) ++ []) := by simp [putV, List.append_assoc]
    rw [hp]; exact HE.out
end Go.Proofs.Ytcafffnkkjnpbaa.Req
