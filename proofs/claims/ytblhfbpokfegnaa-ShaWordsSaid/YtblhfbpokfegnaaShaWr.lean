/-
  What is put behind in a hash: the lists, and the copy into the hash's rest.
-/
import Derived.Test.YtblhfbpokfegnaaShaHash
namespace Go.Proofs.Ytblhfbpokfegnaa.Sha
open Go.RowKit

theorem bar_setRow (w : World) (g : Nat) (cs : Array Value) : Bar [g] w (w.setRow g cs) := ⟨rfl, rfl, rfl, by simp [World.setRow], fun k _ hn => setRow_other w g k cs (by simpa using hn)⟩
theorem wpList_copy_bar {P : Program} {w : World} {ops : Array Oper} {rest : List Oper} {o : Oper} {a : Act} {Q : Exit → Act → World → Prop} (hgd : o.guard = none) (d s : Operand) (dT sT : TypeId)
    (ho : o.op = .call { callee := .builtin .copy, args := #[d, s], argTypes := #[dT, sT] }) (elem : TypeId) (hu : P.underlying dT = some (.slice elem)) (hsz : (P.info? elem).map (·.size) = some 1)
    (dp sp : Option Addr) (dLen dCap sLen sCap : Nat) (hd : a.eval d = .slice dp dLen dCap) (hs : a.eval s = .slice sp sLen sCap)
    (g off : Nat) (cur : List Value) (t : TypeId) (hg : Blk w g t cur.toArray) (cs : List Value) (hn : cs.length = Nat.min sLen dLen)
    (hpos : 0 < cs.length → dp = some ⟨g, off, none⟩ ∧ ∃ ad, sp = some ad ∧ ∀ j v, cs[j]? = some v → w.cell? (ad.add j) = some v)
    (hfit : off + cs.length ≤ cur.length) (h1 : ∀ v ∈ cs, v.oneCell' = true)
    (h : ∀ w', Hid (Blk w' g t (splice cur off cs).toArray) → Bar [g] w w' → wpList P ops Q rest (a.put o.dst (goInt cs.length)) w') :
    wpList P ops Q (o :: rest) a w := by
  by_cases h0 : cs.length = 0
  · obtain rfl : cs = [] := List.eq_nil_of_length_eq_zero h0
    refine wpList_copy_nothing hgd d s dT sT ho elem hu hsz dp sp dLen dCap sLen sCap hd hs (by simpa using hn.symm) ?_
    exact h w (show Blk w g t _ by rw [show splice cur off [] = cur by simp [splice]]; exact hg) (Bar.refl _ _)
  · obtain ⟨rfl, ad, rfl, hsrc⟩ := hpos (by omega)
    refine wpList_copy_own hgd d s dT sT ho elem hu hsz g off dLen dCap ad sLen sCap hd hs cur.toArray t hg cs hn hsrc (by simpa using hfit) h1 ?_
    exact h _ (show Blk _ g t _ by unfold Blk; simpa [splice] using setRow_heap w g _ _ t _ hg) (bar_setRow _ _ _)

theorem hcl_splice (t : Nat) (s r : List Int) (n : Int) (hs : s.length = 8) (hr : r.length = 64) (k : Nat) (cs : List Int) (hk : k + cs.length ≤ 64) :
    splice (hcl t s r n) (9 + k) (ints .u8 cs) = hcl t s (splice r k cs) n := by
  have l1 : ([Value.pointer (some ⟨t, 0, none⟩)] ++ ints .u32 s).length = 9 := by simp [ints_len, hs]
  have e : hcl t s r n = ([Value.pointer (some ⟨t, 0, none⟩)] ++ ints .u32 s) ++ (ints .u8 r ++ [.int .u64 n]) := by simp [hcl]
  have e2 : hcl t s (splice r k cs) n = ([Value.pointer (some ⟨t, 0, none⟩)] ++ ints .u32 s) ++ (ints .u8 (splice r k cs) ++ [.int .u64 n]) := by simp [hcl]
  rw [e, e2]
  unfold splice
  rw [List.take_append, List.drop_append, l1, List.take_of_length_le (by rw [l1]; omega), show 9 + k - 9 = k by omega, show 9 + k + (ints .u8 cs).length - 9 = k + cs.length by rw [ints_len]; omega,
    List.drop_eq_nil_of_le (by rw [l1, ints_len]; omega), List.take_append_of_le_length (by rw [ints_len]; omega), List.drop_append_of_le_length (by rw [ints_len]; omega)]
  simp [ints]
theorem splice_len {r cs : List Int} {k : Nat} (hk : k + cs.length ≤ r.length) : (splice r k cs).length = r.length := by simp [splice]; omega
theorem splice_bytes {r cs : List Int} {k : Nat} (h1 : Bytes r) (h2 : Bytes cs) : Bytes (splice r k cs) := (h1.take _).append (h2.append (h1.drop _))

/-- a slice of bytes in memory, to be read: they are xs; it lies outside block hb -/
def Sl (w : World) (A : Option Addr) (n : Nat) (xs : List Int) (hb : Nat) : Prop :=
  xs.length = n ∧ Bytes xs ∧ (n = 0 ∨ ∃ b o, A = some ⟨b, o, none⟩ ∧ b ≠ hb ∧ ∀ i, i < n → w.cell? ⟨b, o + i, none⟩ = some (.int .u8 (at_ xs i)))
theorem Sl.bar {w w' : World} {A : Option Addr} {n : Nat} {xs : List Int} {hb : Nat} {l : List Nat} (h : Sl w A n xs hb) (b : Bar l w w') (hl : ∀ x ∈ l, x = hb ∨ w.heap.size ≤ x) : Sl w' A n xs hb := by
  obtain ⟨h1, h2, h3⟩ := h
  refine ⟨h1, h2, h3.imp id ?_⟩
  rintro ⟨bb, o, rfl, hne, hc⟩
  refine ⟨bb, o, rfl, hne, fun i hi => ?_⟩
  have h := hc i hi
  have hlt : bb < w.heap.size := World.block_lt_of_cell? _ _ h
  rw [← h]
  exact World.cell?_of_block (w := w) (b.block bb hlt (fun hm => by
    rcases hl bb hm with h | h
    · exact hne h
    · omega))
theorem Sl.drop {w : World} {A : Option Addr} {n : Nat} {xs : List Int} {hb : Nat} (h : Sl w A n xs hb) (k : Nat) (hk : k ≤ n) : Sl w (Option.map (fun x => x.add k) A) (n - k) (xs.drop k) hb := by
  obtain ⟨h1, h2, h3⟩ := h
  refine ⟨by simp; omega, h2.drop _, ?_⟩
  rcases h3 with h3 | ⟨b, o, rfl, hne, hc⟩
  · exact .inl (by omega)
  · have e : (⟨b, o, none⟩ : Addr).add k = ⟨b, o + k, none⟩ := by cases k <;> simp [Addr.add]
    refine .inr ⟨b, o + k, by rw [Option.map_some, e], hne, fun i hi => ?_⟩
    rw [Nat.add_assoc, hc (k + i) (by omega), at_drop]
theorem Sl.nil_ {w : World} {A : Option Addr} {hb : Nat} : Sl w A 0 [] hb := ⟨rfl, by intro x hx; simp at hx, .inl rfl⟩

/-- the copy's premise -/
theorem Sl.src {w : World} {A : Option Addr} {n : Nat} {xs : List Int} {hb : Nat} (h : Sl w A n xs hb) (m : Nat) (hm : m ≤ n) : 0 < (ints .u8 (xs.take m)).length → ∃ ad, A = some ad ∧ ∀ j v, (ints .u8 (xs.take m))[j]? = some v → w.cell? (ad.add j) = some v := by
  obtain ⟨h1, h2, h3⟩ := h
  intro hp
  rw [ints_len, List.length_take] at hp
  rcases h3 with h3 | ⟨b, o, rfl, hne, hc⟩
  · omega
  · refine ⟨_, rfl, fun j v hj => ?_⟩
    have hjl : j < (xs.take m).length := by
      have := (List.getElem?_eq_some_iff.1 hj).1
      rwa [ints_len] at this
    rw [ints_at _ _ _ hjl, at_take (by rw [List.length_take] at hjl; omega)] at hj
    rw [← hj]
    have e : (⟨b, o, none⟩ : Addr).add j = ⟨b, o + j, none⟩ := by cases j <;> simp [Addr.add]
    rw [e]
    exact hc j (by rw [List.length_take] at hjl; omega)

section
variable {text xs r : List Int}
/-- not a block full yet -/
theorem few (hr : r.length = 64) (he : r.take (text.length % 64) = text.drop (text.length / 64 * 64)) (hn : text.length % 64 + xs.length < 64) :
    (splice r (text.length % 64) xs).take ((text ++ xs).length % 64) = (text ++ xs).drop ((text ++ xs).length / 64 * 64) ∧ st (text ++ xs) = st text := by
  refine ⟨?_, st_rest _ _ hn⟩
  rw [List.length_append, show (text.length + xs.length) % 64 = text.length % 64 + xs.length by omega, show (text.length + xs.length) / 64 = text.length / 64 by omega]
  rw [List.drop_append_of_le_length (by omega), ← he]
  unfold splice
  rw [← List.append_assoc, List.take_append_of_le_length (by simp; omega), List.take_of_length_le (by simp; omega)]
/-- a block that is full -/
theorem full (hr : r.length = 64) (he : r.take (text.length % 64) = text.drop (text.length / 64 * 64)) (h0 : 0 < text.length % 64) (hn : 64 ≤ text.length % 64 + xs.length) :
    st (text ++ xs.take (64 - text.length % 64)) = mixed (st text) (splice r (text.length % 64) (xs.take (64 - text.length % 64))) := by
  obtain ⟨h, hh⟩ : ∃ h, text.length % 64 = h := ⟨_, rfl⟩
  have e1 : text = text.take (text.length / 64 * 64) ++ r.take h := by rw [← hh, he, List.take_append_drop]
  have l0 : (text.take (text.length / 64 * 64)).length % 64 = 0 := by rw [List.length_take, Nat.min_eq_left (by omega)]; omega
  have e2 : splice r h (xs.take (64 - h)) = r.take h ++ xs.take (64 - h) := by
    unfold splice
    rw [List.drop_eq_nil_of_le (by rw [List.length_take]; omega), List.append_nil]
  rw [hh, e2]
  have e3 : st text = st (text.take (text.length / 64 * 64)) := by
    conv => lhs; rw [e1]
    rw [st_rest _ _ (by rw [l0, List.length_take]; omega)]
  rw [e3, ← st_block _ _ l0 (by rw [List.length_append, List.length_take, List.length_take]; omega), ← List.append_assoc, ← e1]
/-- one more block -/
theorem more (p : Nat) (h : (text ++ xs.take p).length % 64 = 0) (hp : p + 64 ≤ xs.length) : st (text ++ xs.take (p + 64)) = mixed (st (text ++ xs.take p)) ((xs.drop p).take 64) := by
  rw [← st_block _ _ h (by simp; omega), List.append_assoc, List.take_add]
/-- what is left -/
theorem left (p : Nat) (h : (text ++ xs.take p).length % 64 = 0) (hp : p ≤ xs.length) (hn : xs.length < p + 64) :
    (splice r 0 (xs.drop p)).take ((text ++ xs).length % 64) = (text ++ xs).drop ((text ++ xs).length / 64 * 64) ∧ st (text ++ xs) = st (text ++ xs.take p) := by
  have l : (text ++ xs.take p).length = text.length + p := by rw [List.length_append, List.length_take]; omega
  rw [l] at h
  have e : text ++ xs = (text ++ xs.take p) ++ xs.drop p := by rw [List.append_assoc, List.take_append_drop]
  constructor
  · conv => rhs; rw [e]
    rw [List.length_append, show (text.length + xs.length) % 64 = xs.length - p by omega, List.length_append, l, List.length_drop, show (text.length + p + (xs.length - p)) / 64 * 64 = text.length + p by omega, ← l, List.drop_left]
    unfold splice
    simp
  · rw [e, st_rest _ _ (by rw [l, List.length_drop]; omega)]
end
end Go.Proofs.Ytblhfbpokfegnaa.Sha
