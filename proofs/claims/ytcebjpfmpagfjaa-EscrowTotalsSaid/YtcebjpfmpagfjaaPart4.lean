/-
  Parts laid together: ShaSpec EscrowSpec EscrowKeep EscrowInv EscrowTotSpec.
-/
import Derived.Test.YtcebjpfmpagfjaaPart3
import Derived.Test.YtcebjpfmpagfjaaPart2

namespace Go.Proofs.Ytcebjpfmpagfjaa.Sha

theorem mod32 (x : Int) : W32 (x % 4294967296) := by unfold W32; omega
/-- word i of a block of bytes -/
def wordOf (b : List Int) (i : Nat) : Int :=
  bits .or .u32 (bits .or .u32 (bits .or .u32 (at_ b (4 * i) * 16777216) (at_ b (4 * i + 1) * 65536)) (at_ b (4 * i + 2) * 256)) (at_ b (4 * i + 3))
theorem wordOf32 (b : List Int) (i : Nat) : W32 (wordOf b i) := bits32 _ _ _
def near (y : Int) : Int := bits .xor .u32 (bits .xor .u32 (rotr y 17) (rotr y 19)) (y / 1024)
def far (x : Int) : Int := bits .xor .u32 (bits .xor .u32 (rotr x 7) (rotr x 18)) (x / 8)
theorem near32 (y : Int) : W32 (near y) := bits32 _ _ _
theorem far32 (y : Int) : W32 (far y) := bits32 _ _ _
/-- the next word: of those 2, 7, 15, 16 before it -/
def nxw (y b x d : Int) : Int := (near y + b + far x + d) % 4294967296
def nxl (l : List Int) : Int := nxw (at_ l (l.length - 2)) (at_ l (l.length - 7)) (at_ l (l.length - 15)) (at_ l (l.length - 16))
def grow (l : List Int) : Nat → List Int
  | 0 => l
  | n + 1 => let m := grow l n; m ++ [nxl m]
theorem grow_len (l : List Int) (n : Nat) : (grow l n).length = l.length + n := by
  induction n with
  | zero => rfl
  | succ n ih => simp [grow, ih]; omega
theorem grow_old (l : List Int) (n i : Nat) (h : i < l.length) : at_ (grow l n) i = at_ l i := by
  induction n with
  | zero => rfl
  | succ n ih => rw [grow, at_append_left (by rw [grow_len]; omega), ih]
theorem grow_less (l : List Int) (n m i : Nat) (hm : m ≤ n) (h : i < l.length + m) : at_ (grow l n) i = at_ (grow l m) i := by
  induction n with
  | zero => obtain rfl : m = 0 := by omega
            rfl
  | succ n ih =>
    by_cases e : m = n + 1
    · subst e; rfl
    · rw [grow, at_append_left (by rw [grow_len]; omega), ih (by omega)]
theorem grow_new (l : List Int) (h16 : 16 ≤ l.length) (n i : Nat) (h0 : l.length ≤ i) (h : i < l.length + n) :
    at_ (grow l n) i = nxw (at_ (grow l n) (i - 2)) (at_ (grow l n) (i - 7)) (at_ (grow l n) (i - 15)) (at_ (grow l n) (i - 16)) := by
  obtain ⟨k, rfl⟩ : ∃ k, i = l.length + k := ⟨i - l.length, by omega⟩
  rw [grow_less l n (k + 1) _ (by omega) (by omega), grow_less l n k (l.length + k - 2) (by omega) (by omega), grow_less l n k (l.length + k - 7) (by omega) (by omega),
    grow_less l n k (l.length + k - 15) (by omega) (by omega), grow_less l n k (l.length + k - 16) (by omega) (by omega)]
  rw [grow, at_append_right (by rw [grow_len]; omega), grow_len, Nat.sub_self]
  simp only [nxl, grow_len]
  rfl

/-- the 64 words of a block -/
def sched (b : List Int) : List Int := grow ((List.range 16).map (wordOf b)) 48
theorem sched_len (b : List Int) : (sched b).length = 64 := by simp [sched, grow_len]
theorem sched_lo (b : List Int) (i : Nat) (h : i < 16) : at_ (sched b) i = wordOf b i := by
  rw [sched, grow_old _ _ _ (by simpa using h), at_range _ _ _ h]
theorem sched_hi (b : List Int) (i : Nat) (h0 : 16 ≤ i) (h : i < 64) : at_ (sched b) i = nxw (at_ (sched b) (i - 2)) (at_ (sched b) (i - 7)) (at_ (sched b) (i - 15)) (at_ (sched b) (i - 16)) :=
  grow_new _ (by simp) 48 i (by simpa using h0) (by simpa using h)
theorem sched32 (b : List Int) (i : Nat) : W32 (at_ (sched b) i) := by
  by_cases h : i < 16
  · rw [sched_lo b i h]; exact wordOf32 _ _
  · by_cases h2 : i < 64
    · rw [sched_hi b i (by omega) h2]; unfold nxw W32; omega
    · unfold at_; rw [List.getD_eq_getElem?_getD, List.getElem?_eq_none (by rw [sched_len]; omega)]; exact ⟨by simp, by simp⟩

/-- eight words -/
structure S8 where
  a : Int
  b : Int
  c : Int
  d : Int
  e : Int
  f : Int
  g : Int
  h : Int
def S8.toL (s : S8) : List Int := [s.a, s.b, s.c, s.d, s.e, s.f, s.g, s.h]
def S8.ok (s : S8) : Prop := W32 s.a ∧ W32 s.b ∧ W32 s.c ∧ W32 s.d ∧ W32 s.e ∧ W32 s.f ∧ W32 s.g ∧ W32 s.h
def not32 (x : Int) : Int := bits .xor .u32 IntKind.u32.max x
def ch (e f g : Int) : Int := bits .xor .u32 (bits .and .u32 e f) (bits .and .u32 (not32 e) g)
def maj (a b c : Int) : Int := bits .xor .u32 (bits .xor .u32 (bits .and .u32 a b) (bits .and .u32 a c)) (bits .and .u32 b c)
def step (s : S8) (k w : Int) : S8 :=
  let t1 := (s.h + turns3 s.e 6 11 25 + ch s.e s.f s.g + k + w) % 4294967296
  let t2 := (turns3 s.a 2 13 22 + maj s.a s.b s.c) % 4294967296
  ⟨(t1 + t2) % 4294967296, s.a, s.b, s.c, (s.d + t1) % 4294967296, s.e, s.f, s.g⟩
theorem step_ok {s : S8} (h : s.ok) (k w : Int) : (step s k w).ok := by
  obtain ⟨h1, h2, h3, h4, h5, h6, h7, h8⟩ := h
  refine ⟨?_, h1, h2, h3, ?_, h5, h6, h7⟩
  · exact mod32 _
  · exact mod32 _
def rnds (s : S8) (w : Nat → Int) : Nat → S8
  | 0 => s
  | n + 1 => step (rnds s w n) (kW n : Nat) (w n)
theorem rnds_ok {s : S8} (h : s.ok) (w : Nat → Int) (n : Nat) : (rnds s w n).ok := by
  induction n with
  | zero => exact h
  | succ n ih => exact step_ok ih _ _
def S8.add (s t : S8) : S8 := ⟨(s.a + t.a) % 4294967296, (s.b + t.b) % 4294967296, (s.c + t.c) % 4294967296, (s.d + t.d) % 4294967296, (s.e + t.e) % 4294967296, (s.f + t.f) % 4294967296, (s.g + t.g) % 4294967296, (s.h + t.h) % 4294967296⟩
theorem S8.add_ok (s t : S8) : (s.add t).ok := by
  unfold S8.add S8.ok W32
  refine ⟨?_, ?_, ?_, ?_, ?_, ?_, ?_, ?_⟩ <;> constructor <;> simp only <;> omega
theorem S8.add_at (s t : S8) (i : Nat) (h : i < 8) : at_ (s.add t).toL i = (at_ s.toL i + at_ t.toL i) % 4294967296 := by
  match i, h with
  | 0, _ | 1, _ | 2, _ | 3, _ | 4, _ | 5, _ | 6, _ | 7, _ => rfl
theorem S8.at32 {s : S8} (h : s.ok) (i : Nat) : W32 (at_ s.toL i) := by
  obtain ⟨h1, h2, h3, h4, h5, h6, h7, h8⟩ := h
  match i with
  | 0 => exact h1
  | 1 => exact h2
  | 2 => exact h3
  | 3 => exact h4
  | 4 => exact h5
  | 5 => exact h6
  | 6 => exact h7
  | 7 => exact h8
  | n + 8 => exact ⟨by simp [at_, S8.toL], by simp [at_, S8.toL]⟩
/-- a block of 64 bytes, worked into the state -/
def mixed (s : S8) (b : List Int) : S8 := s.add (rnds s (at_ (sched b)) 64)
theorem mixed_ok (s : S8) (b : List Int) : (mixed s b).ok := S8.add_ok _ _
/-- the first n blocks of l -/
def blocks (s : S8) : Nat → List Int → S8
  | 0, _ => s
  | n + 1, l => blocks (mixed s (l.take 64)) n (l.drop 64)
theorem blocks_ok {s : S8} (h : s.ok) (n : Nat) (l : List Int) : (blocks s n l).ok := by
  induction n generalizing s l with
  | zero => exact h
  | succ n ih => exact ih (mixed_ok _ _) _
theorem blocks_add (s : S8) (n m : Nat) (l : List Int) : blocks s (n + m) l = blocks (blocks s n l) m (l.drop (64 * n)) := by
  induction n generalizing s l with
  | zero => simp [blocks]
  | succ n ih =>
    rw [show n + 1 + m = n + m + 1 by omega]
    simp only [blocks]
    rw [ih, List.drop_drop]
    congr 2
    omega
theorem blocks_take (s : S8) (n : Nat) (l : List Int) (m : Nat) (h : 64 * n ≤ m) : blocks s n (l.take m) = blocks s n l := by
  induction n generalizing s l m with
  | zero => rfl
  | succ n ih =>
    simp only [blocks]
    rw [List.take_take, show min 64 m = 64 by omega, List.drop_take, ih _ _ _ (by omega)]
theorem blocks_append (s : S8) (n : Nat) (l r : List Int) (h : 64 * n ≤ l.length) : blocks s n (l ++ r) = blocks s n l := by
  rw [← blocks_take s n (l ++ r) l.length h, List.take_left]
def S0 : S8 := ⟨(hW 0 : Nat), (hW 1 : Nat), (hW 2 : Nat), (hW 3 : Nat), (hW 4 : Nat), (hW 5 : Nat), (hW 6 : Nat), (hW 7 : Nat)⟩
theorem S0_ok : S0.ok := by
  have h := hW_lt
  have h0 := h 0 (by omega); have h1 := h 1 (by omega); have h2 := h 2 (by omega); have h3 := h 3 (by omega)
  have h4 := h 4 (by omega); have h5 := h 5 (by omega); have h6 := h 6 (by omega); have h7 := h 7 (by omega)
  unfold S8.ok S0 W32
  refine ⟨?_, ?_, ?_, ?_, ?_, ?_, ?_, ?_⟩ <;> constructor <;> simp only <;> omega
theorem S0_at (i : Nat) (h : i < 8) : at_ S0.toL i = (hW i : Nat) := by
  match i, h with
  | 0, _ | 1, _ | 2, _ | 3, _ | 4, _ | 5, _ | 6, _ | 7, _ => rfl
/-- the state behind the whole blocks of a text -/
def st (l : List Int) : S8 := blocks S0 (l.length / 64) l
theorem st_ok (l : List Int) : (st l).ok := blocks_ok S0_ok _ _
/-- one more block behind a text of whole blocks -/
theorem st_block (l b : List Int) (hl : l.length % 64 = 0) (hb : b.length = 64) : st (l ++ b) = mixed (st l) b := by
  unfold st
  rw [List.length_append, hb, show (l.length + 64) / 64 = l.length / 64 + 1 by omega, blocks_add, blocks_append _ _ _ _ (by omega)]
  rw [show 64 * (l.length / 64) = l.length by omega, List.drop_left]
  simp only [blocks]
  rw [List.take_of_length_le (by omega)]
/-- less than a block behind a text changes nothing yet -/
theorem st_rest (l r : List Int) (h : l.length % 64 + r.length < 64) : st (l ++ r) = st l := by
  unfold st
  rw [List.length_append, show (l.length + r.length) / 64 = l.length / 64 by omega, blocks_append _ _ _ _ (by omega)]

/-- the 8 bytes of a count, the greatest first -/
def be8 (n : Nat) : List Int := (List.range 8).map fun i => ((n / 256 ^ (7 - i) % 256 : Nat) : Int)
/-- how many noughts stand between the 1 and the count -/
def padn (n : Nat) : Nat := (119 - n % 64) % 64
def tail (n : Nat) : List Int := 128 :: (List.replicate (padn n) 0 ++ be8 (n * 8))
theorem tail_len (n : Nat) : (tail n).length = 9 + padn n := by simp [tail, be8]; omega
theorem padded_len (l : List Int) : (l ++ tail l.length).length % 64 = 0 := by
  rw [List.length_append, tail_len]; unfold padn; omega
/-- the sum of a text: 32 bytes -/
def out8 (s : S8) : List Int := s.toL.flatMap fun x => [x / 16777216 % 256, x / 65536 % 256, x / 256 % 256, x % 256]
def sha (l : List Int) : List Int := out8 (st (l ++ tail l.length))
theorem out8_len (s : S8) : (out8 s).length = 32 := rfl
theorem sha_len (l : List Int) : (sha l).length = 32 := rfl

theorem sha_none : (sha []).take 4 = [0xe3, 0xb0, 0xc4, 0x42] := by decide +kernel
theorem sha_abc : (sha [97, 98, 99]).take 4 = [0xba, 0x78, 0x16, 0xbf] := by decide +kernel

/- what both the code and the document use: sums of states, rounds, bytes put out, the end -/
/-- the sum of two lists of eight, as far as k -/
def addTo (s v : List Int) (k : Nat) : List Int := (List.range 8).map fun i => if i < k then (at_ s i + at_ v i) % 4294967296 else at_ s i
theorem addTo_len (s v : List Int) (k : Nat) : (addTo s v k).length = 8 := by simp [addTo]
theorem addTo_at (s v : List Int) (k i : Nat) (h : i < 8) : at_ (addTo s v k) i = if i < k then (at_ s i + at_ v i) % 4294967296 else at_ s i := at_range _ _ _ h
theorem addTo_0 (s v : List Int) (h : s.length = 8) : addTo s v 0 = s := by
  apply at_ext
  · rw [addTo_len, h]
  · intro i hi
    rw [addTo_len] at hi
    rw [addTo_at _ _ _ _ hi]; simp
theorem addTo_8 (s v : S8) : addTo s.toL v.toL 8 = (s.add v).toL := by
  apply at_ext
  · rw [addTo_len]; rfl
  · intro i hi
    rw [addTo_len] at hi
    rw [addTo_at _ _ _ _ hi, if_pos hi, S8.add_at _ _ _ hi]
theorem addTo_set (s v : List Int) (k : Nat) : (addTo s v k).set k ((at_ s k + at_ v k) % 4294967296) = addTo s v (k + 1) := by
  apply at_ext
  · rw [List.length_set, addTo_len, addTo_len]
  · intro i hi
    rw [List.length_set, addTo_len] at hi
    rw [at_set _ _ _ _ (by rw [addTo_len]; exact hi), addTo_at _ _ _ _ hi, addTo_at _ _ _ _ hi]
    by_cases h : k = i
    · subst h; simp
    · rw [if_neg h]
      by_cases h2 : i < k
      · rw [if_pos h2, if_pos (by omega)]
      · rw [if_neg h2, if_neg (by omega)]
theorem round_end {s r : S8} {W : Nat → Int} {k : Nat} {t1 t2 : Int} (h : rnds s W k = r)
    (h1 : t1 = (r.h + turns3 r.e 6 11 25 + ch r.e r.f r.g + (kW k : Nat) + W k) % 4294967296) (h2 : t2 = (turns3 r.a 2 13 22 + maj r.a r.b r.c) % 4294967296) :
    rnds s W (k + 1) = ⟨(t1 + t2) % 4294967296, r.a, r.b, r.c, (r.d + t1) % 4294967296, r.e, r.f, r.g⟩ := by
  rw [rnds, h, h1, h2]; rfl
/-- the first k words of a state, as bytes -/
def outK (s : S8) (k : Nat) : List Int := (List.range k).flatMap fun i => [at_ s.toL i / 16777216 % 256, at_ s.toL i / 65536 % 256, at_ s.toL i / 256 % 256, at_ s.toL i % 256]
theorem outK_8 (s : S8) : outK s 8 = out8 s := rfl
theorem outK_len (s : S8) (k : Nat) : (outK s k).length = 4 * k := by
  induction k with
  | zero => rfl
  | succ k ih =>
    have : outK s (k + 1) = outK s k ++ [at_ s.toL k / 16777216 % 256, at_ s.toL k / 65536 % 256, at_ s.toL k / 256 % 256, at_ s.toL k % 256] := by simp [outK, List.range_succ]
    rw [this, List.length_append, ih]; simp; omega
theorem outK_succ (s : S8) (k : Nat) : outK s (k + 1) = outK s k ++ [at_ s.toL k / 16777216 % 256, at_ s.toL k / 65536 % 256, at_ s.toL k / 256 % 256, at_ s.toL k % 256] := by simp [outK, List.range_succ]
theorem out8_bytes {s : S8} : Bytes (out8 s) := by
  intro x hx
  unfold out8 at hx
  obtain ⟨y, hy, hx⟩ := List.mem_flatMap.1 hx
  simp only [List.mem_cons, List.not_mem_nil, or_false] at hx
  rcases hx with rfl | rfl | rfl | rfl <;> constructor <;> omega
theorem sha_bytes (l : List Int) : Bytes (sha l) := out8_bytes
theorem padn_le (L : Nat) : padn L ≤ 63 := by unfold padn; omega
theorem be8_bytes (n : Nat) : Bytes (be8 n) := by
  intro x hx
  unfold be8 at hx
  obtain ⟨i, _, rfl⟩ := List.mem_map.1 hx
  omega
theorem tail_bytes (L : Nat) : Bytes (tail L) := by
  intro x hx
  unfold tail at hx
  rcases List.mem_cons.1 hx with rfl | hx
  · omega
  · rcases List.mem_append.1 hx with hx | hx
    · obtain ⟨_, rfl⟩ := List.mem_replicate.1 hx; omega
    · exact be8_bytes _ x hx
end Go.Proofs.Ytcebjpfmpagfjaa.Sha

namespace Go.Proofs.Ytcebjpfmpagfjaa.Escrow
open Go.Proofs.Ytcebjpfmpagfjaa.Num Go.Proofs.Ytcebjpfmpagfjaa.Sha Go.Proofs.Ytcebjpfmpagfjaa.Purse

/-- an escrow; texts by their bytes -/
structure EV where
  src : Int
  dst : Int
  asset : Int
  amount : Int
  due : Int
  state : Int
  hash : List Int
  secret : List Int
def noE : EV := ⟨0, 0, 0, 0, 0, 0, [], []⟩
/-- a purse, and what is locked -/
structure BS where
  p : PS
  l : List EV
def atE (l : List EV) (i : Nat) : EV := l.getD i noE
/-- Lock: its number, what went wrong; what is then -/
def lockB (b : BS) (i j a n : Int) (h : List Int) (due clock : Int) : (Int × Int) × BS :=
  if ¬ (isP b.p i = true ∧ isP b.p j = true ∧ isA b.p a = true ∧ amtB n = true ∧ n ≠ 0 ∧ tickB due = true ∧ tickB clock = true) then ((0, 1), b)
  else if h.length ≠ 32 then ((0, 2), b)
  else if i = j then ((0, 14), b)
  else if due ≤ clock then ((0, 11), b)
  else if (takeP b.p i a n).1 ≠ 0 then ((0, (takeP b.p i a n).1), b)
  else (((b.l.length : Nat), 0), ⟨(takeP b.p i a n).2, b.l ++ [⟨i, j, a, n, due, 0, h, []⟩]⟩)
def hasE (l : List EV) (id : Int) : Bool := decide (0 ≤ id ∧ id < l.length)
def claimB (b : BS) (who id : Int) (s : List Int) (clock : Int) : Int × BS :=
  if hasE b.l id = false then (8, b)
  else if (atE b.l id.toNat).dst ≠ who then (14, b)
  else if (atE b.l id.toNat).state ≠ 0 then (9, b)
  else if (atE b.l id.toNat).due ≤ clock ∨ tickB clock = false then (11, b)
  else if s.length ≠ 32 then (2, b)
  else if sha s ≠ (atE b.l id.toNat).hash then (10, b)
  else if (giveP b.p who (atE b.l id.toNat).asset (atE b.l id.toNat).amount).1 ≠ 0 then ((giveP b.p who (atE b.l id.toNat).asset (atE b.l id.toNat).amount).1, b)
  else (0, ⟨(giveP b.p who (atE b.l id.toNat).asset (atE b.l id.toNat).amount).2, b.l.set id.toNat { atE b.l id.toNat with state := 1, secret := s }⟩)
def refundB (b : BS) (who id clock : Int) : Int × BS :=
  if hasE b.l id = false then (8, b)
  else if (atE b.l id.toNat).src ≠ who then (14, b)
  else if (atE b.l id.toNat).state ≠ 0 then (9, b)
  else if clock < (atE b.l id.toNat).due ∨ tickB clock = false then (11, b)
  else if (giveP b.p who (atE b.l id.toNat).asset (atE b.l id.toNat).amount).1 ≠ 0 then ((giveP b.p who (atE b.l id.toNat).asset (atE b.l id.toNat).amount).1, b)
  else (0, ⟨(giveP b.p who (atE b.l id.toNat).asset (atE b.l id.toNat).amount).2, b.l.set id.toNat { atE b.l id.toNat with state := 2 }⟩)
def getB (b : BS) (id : Int) : EV × Bool := if hasE b.l id = true then (atE b.l id.toNat, true) else (noE, false)
/-- how many of the first k are open -/
def openN (l : List EV) : Nat → Nat
  | 0 => 0
  | k + 1 => openN l k + if (atE l k).state = 0 then 1 else 0
def openB (b : BS) : Int := openN b.l b.l.length
/-- what of asset a the first k hold that are open -/
def lockedN (l : List EV) (a : Int) : Nat → Int
  | 0 => 0
  | k + 1 => lockedN l a k + if (atE l k).state = 0 ∧ (atE l k).asset = a then (atE l k).amount else 0
def totB (b : BS) (a : Int) : Int := totP b.p a + lockedN b.l a b.l.length
theorem hasE_iff {l : List EV} {id : Int} : hasE l id = true ↔ 0 ≤ id ∧ id < l.length := by unfold hasE; exact decide_eq_true_iff
theorem hasE_nat {l : List EV} {id : Int} (h : hasE l id = true) : ∃ k : Nat, id = k ∧ k < l.length := by
  obtain ⟨h1, h2⟩ := hasE_iff.1 h
  exact ⟨id.toNat, by omega, by omega⟩
theorem atE_mem {l : List EV} {k : Nat} (h : k < l.length) : atE l k ∈ l := by
  unfold atE
  rw [List.getD_eq_getElem?_getD, List.getElem?_eq_getElem h]
  exact List.getElem_mem h
theorem atE_append_left {l m : List EV} {k : Nat} (h : k < l.length) : atE (l ++ m) k = atE l k := by simp [atE, List.getD_eq_getElem?_getD, List.getElem?_append_left h]
theorem atE_append_last (l : List EV) (x : EV) : atE (l ++ [x]) l.length = x := by simp [atE, List.getD_eq_getElem?_getD]
theorem atE_set {l : List EV} {i k : Nat} (x : EV) (h : k < l.length) : atE (l.set i x) k = if i = k then x else atE l k := by
  simp [atE, List.getD_eq_getElem?_getD, List.getElem?_set]
  by_cases e : i = k
  · subst e; simp [h]
  · simp [e]
theorem openN_le (l : List EV) : ∀ k, openN l k ≤ k
  | 0 => Nat.le_refl _
  | k + 1 => by
    have := openN_le l k
    unfold openN
    split <;> omega
theorem openN_congr {l m : List EV} : ∀ {k : Nat}, (∀ i, i < k → (atE l i).state = (atE m i).state) → openN l k = openN m k
  | 0, _ => rfl
  | k + 1, h => by
    unfold openN
    rw [openN_congr (k := k) (fun i hi => h i (by omega)), h k (by omega)]
theorem lockedN_congr {l m : List EV} {a : Int} : ∀ {k : Nat}, (∀ i, i < k → (atE l i).state = (atE m i).state ∧ (atE l i).asset = (atE m i).asset ∧ (atE l i).amount = (atE m i).amount) → lockedN l a k = lockedN m a k
  | 0, _ => rfl
  | k + 1, h => by
    unfold lockedN
    obtain ⟨h1, h2, h3⟩ := h k (by omega)
    rw [lockedN_congr (k := k) (fun i hi => h i (by omega)), h1, h2, h3]
/-- an open one is closed: what is locked is less by its amount -/
theorem lockedN_set {l : List EV} {a : Int} {i : Nat} {x : EV} (hi : i < l.length) (h0 : (atE l i).state = 0) (hx : x.state ≠ 0) : ∀ {k : Nat}, k ≤ l.length → lockedN (l.set i x) a k = lockedN l a k - if i < k ∧ (atE l i).asset = a then (atE l i).amount else 0
  | 0, _ => by simp [lockedN]
  | k + 1, h => by
    have ih := lockedN_set (a := a) (x := x) hi h0 hx (k := k) (by omega)
    show lockedN (l.set i x) a k + (if (atE (l.set i x) k).state = 0 ∧ (atE (l.set i x) k).asset = a then (atE (l.set i x) k).amount else 0) = lockedN l a k + (if (atE l k).state = 0 ∧ (atE l k).asset = a then (atE l k).amount else 0) - _
    rw [ih, atE_set x (by omega)]
    by_cases e : i = k
    · subst e
      rw [if_pos (rfl : i = i)]
      (repeat' split) <;> omega
    · rw [if_neg e]
      (repeat' split) <;> omega
/-- what holds of every book whose purse nobody else gives to -/
structure WB (b : BS) : Prop where
  p : WF b.p
  each : ∀ k, k < b.l.length → isP b.p (atE b.l k).src = true ∧ isP b.p (atE b.l k).dst = true ∧ isA b.p (atE b.l k).asset = true ∧ 0 < (atE b.l k).amount ∧ (atE b.l k).amount ≤ 4611686018427387904 ∧ Bytes (atE b.l k).hash ∧ Bytes (atE b.l k).secret
  sum : ∀ a, isA b.p a = true → totB b a ≤ 4611686018427387904
theorem WB.locked {b : BS} (h : WB b) (a : Int) : ∀ {k : Nat}, k ≤ b.l.length → 0 ≤ lockedN b.l a k
  | 0, _ => Int.le_refl _
  | k + 1, hk => by
    have h1 := h.locked a (k := k) (by omega)
    have h2 := (h.each k (by omega)).2.2.2.1
    unfold lockedN
    split <;> omega
theorem WB.locked_mono {b : BS} (h : WB b) (a : Int) {j : Nat} : ∀ {k : Nat}, j ≤ k → k ≤ b.l.length → lockedN b.l a j ≤ lockedN b.l a k
  | 0, hj, _ => by
    obtain rfl : j = 0 := by omega
    exact Int.le_refl _
  | k + 1, hj, hk => by
    by_cases e : j = k + 1
    · subst e; exact Int.le_refl _
    · have h1 := h.locked_mono a (j := j) (k := k) (by omega) (by omega)
      have h2 := (h.each k (by omega)).2.2.2.1
      rw [show lockedN b.l a (k + 1) = lockedN b.l a k + (if (atE b.l k).state = 0 ∧ (atE b.l k).asset = a then (atE b.l k).amount else 0) from rfl]
      split <;> omega
/-- an open one fits into what is locked -/
theorem WB.fits {b : BS} (h : WB b) {i : Nat} (hi : i < b.l.length) (h0 : (atE b.l i).state = 0) : (atE b.l i).amount ≤ lockedN b.l (atE b.l i).asset b.l.length := by
  have h1 := h.locked_mono (atE b.l i).asset (j := i + 1) (k := b.l.length) (by omega) (Nat.le_refl _)
  have h2 := h.locked (atE b.l i).asset (k := i) (by omega)
  have h3 : lockedN b.l (atE b.l i).asset (i + 1) = lockedN b.l (atE b.l i).asset i + (atE b.l i).amount := by
    show _ + (if _ then _ else _) = _
    rw [if_pos ⟨h0, rfl⟩]
  omega
end Go.Proofs.Ytcebjpfmpagfjaa.Escrow

namespace Go.Proofs.Ytcebjpfmpagfjaa.Escrow
open Go.Proofs.Ytcebjpfmpagfjaa.Num Go.Proofs.Ytcebjpfmpagfjaa.Sha Go.Proofs.Ytcebjpfmpagfjaa.Purse

theorem totP_put_any {s : PS} {i b : Nat} (hi : i < s.np) (hb : b < s.na) (x a : Int) : totP (put s i b x) a = totP s a + if a = (b : Int) then x - s.v i b else 0 := by
  by_cases e : a = (b : Int)
  · subst e
    rw [if_pos rfl, totP_put hi hb]
  · rw [if_neg e]
    unfold totP
    cases ha : isA s a with
    | false =>
      rw [if_neg (by rw [show isA (put s i b x) a = isA s a from rfl, ha]; decide), if_neg (by decide)]
      rfl
    | true =>
      rw [if_pos (by rw [show isA (put s i b x) a = isA s a from rfl, ha]), if_pos rfl]
      obtain ⟨c, rfl, hc⟩ := isA_nat ha
      simp only [Int.toNat_natCast]
      show tot (upd s.v i b x) s.np c = _
      rw [tot_upd, if_neg (fun h => e (by rw [h.2]))]
/-- Take that went through -/
theorem take_inv {s : PS} {i a n : Int} (h : (takeP s i a n).1 = 0) : ∃ k b : Nat, i = k ∧ a = b ∧ k < s.np ∧ b < s.na ∧ 0 ≤ n ∧ n ≤ 4611686018427387904 ∧ ¬ s.v k b < n ∧ (takeP s i a n).2 = put s k b (s.v k b - n) := by
  cases hf : fitB s i a n with
  | false => rw [take_no hf] at h; simp at h
  | true =>
    obtain ⟨⟨k, rfl, hk⟩, ⟨b, rfl, hb⟩, h0, h1⟩ := fitB_iff.1 hf
    by_cases ht : s.v k b < n
    · rw [take_less hf ht] at h; simp at h
    · exact ⟨k, b, rfl, rfl, hk, hb, h0, h1, ht, by rw [take_yes hf ht]⟩
theorem isP_put {s : PS} {i b : Nat} {x j : Int} : isP (put s i b x) j = isP s j := rfl
theorem isA_put {s : PS} {i b : Nat} {x j : Int} : isA (put s i b x) j = isA s j := rfl
theorem lockedN_snoc (l : List EV) (e : EV) (a : Int) : lockedN (l ++ [e]) a (l ++ [e]).length = lockedN l a l.length + if e.state = 0 ∧ e.asset = a then e.amount else 0 := by
  rw [List.length_append, List.length_singleton]
  show lockedN (l ++ [e]) a l.length + (if (atE (l ++ [e]) l.length).state = 0 ∧ (atE (l ++ [e]) l.length).asset = a then (atE (l ++ [e]) l.length).amount else 0) = _
  rw [atE_append_last, lockedN_congr (l := l ++ [e]) (m := l) (a := a) (k := l.length) (fun i hi => by rw [atE_append_left hi]; exact ⟨rfl, rfl, rfl⟩)]
theorem openN_snoc (l : List EV) (e : EV) : openN (l ++ [e]) (l ++ [e]).length = openN l l.length + if e.state = 0 then 1 else 0 := by
  rw [List.length_append, List.length_singleton]
  show openN (l ++ [e]) l.length + (if (atE (l ++ [e]) l.length).state = 0 then 1 else 0) = _
  rw [atE_append_last, openN_congr (l := l ++ [e]) (m := l) (k := l.length) (fun i hi => by rw [atE_append_left hi])]
/-- what Lock makes of a book, where it goes through -/
theorem lock_inv {b : BS} {i j a n due clock : Int} {h : List Int} (k : (lockB b i j a n h due clock).1.2 = 0) : ∃ i' j' a' : Nat, i = i' ∧ j = j' ∧ a = a' ∧ i' < b.p.np ∧ j' < b.p.np ∧ a' < b.p.na ∧ 0 < n ∧ n ≤ 4611686018427387904 ∧ ¬ b.p.v i' a' < n ∧ i' ≠ j' ∧ h.length = 32 ∧
    lockB b i j a n h due clock = ((((b.l.length : Nat) : Int), 0), (⟨put b.p i' a' (b.p.v i' a' - n), b.l ++ [⟨i, j, a, n, due, 0, h, []⟩]⟩ : BS)) := by
  unfold lockB at k ⊢
  by_cases h1 : isP b.p i = true ∧ isP b.p j = true ∧ isA b.p a = true ∧ amtB n = true ∧ n ≠ 0 ∧ tickB due = true ∧ tickB clock = true
  · rw [if_neg (fun q => q h1)] at k ⊢
    by_cases h2 : h.length ≠ 32
    · rw [if_pos h2] at k; simp at k
    · rw [if_neg h2] at k ⊢
      by_cases h3 : i = j
      · rw [if_pos h3] at k; simp at k
      · rw [if_neg h3] at k ⊢
        by_cases h4 : due ≤ clock
        · rw [if_pos h4] at k; simp at k
        · rw [if_neg h4] at k ⊢
          by_cases h5 : (takeP b.p i a n).1 ≠ 0
          · rw [if_pos h5] at k; exact absurd k h5
          · rw [if_neg h5]
            obtain ⟨i', a', rfl, rfl, hi, ha, n0, n1, hv, he⟩ := take_inv (Decidable.not_not.1 h5)
            obtain ⟨j', rfl, hj⟩ := isP_nat h1.2.1
            exact ⟨i', j', a', rfl, rfl, rfl, hi, hj, ha, by have := h1.2.2.2.2.1; omega, n1, hv, by omega, Decidable.not_not.1 h2, by rw [he]⟩
  · rw [if_pos h1] at k; simp at k
theorem lock_no {b : BS} {i j a n due clock : Int} {h : List Int} (k : (lockB b i j a n h due clock).1.2 ≠ 0) : (lockB b i j a n h due clock).2 = b ∧ (lockB b i j a n h due clock).1.1 = 0 := by
  unfold lockB at k ⊢
  by_cases h1 : isP b.p i = true ∧ isP b.p j = true ∧ isA b.p a = true ∧ amtB n = true ∧ n ≠ 0 ∧ tickB due = true ∧ tickB clock = true
  · rw [if_neg (fun q => q h1)] at k ⊢
    by_cases h2 : h.length ≠ 32
    · rw [if_pos h2]; exact ⟨rfl, rfl⟩
    · rw [if_neg h2] at k ⊢
      by_cases h3 : i = j
      · rw [if_pos h3]; exact ⟨rfl, rfl⟩
      · rw [if_neg h3] at k ⊢
        by_cases h4 : due ≤ clock
        · rw [if_pos h4]; exact ⟨rfl, rfl⟩
        · rw [if_neg h4] at k ⊢
          by_cases h5 : (takeP b.p i a n).1 ≠ 0
          · rw [if_pos h5]; exact ⟨rfl, rfl⟩
          · rw [if_neg h5] at k; simp at k
  · rw [if_pos h1]; exact ⟨rfl, rfl⟩
theorem lock_wb {b : BS} {i j a n due clock : Int} {h : List Int} (w : WB b) (hb : Bytes h) : WB (lockB b i j a n h due clock).2 ∧ (∀ c, totB (lockB b i j a n h due clock).2 c = totB b c) ∧ (lockB b i j a n h due clock).2.p.np = b.p.np ∧ (lockB b i j a n h due clock).2.p.na = b.p.na := by
  by_cases k : (lockB b i j a n h due clock).1.2 = 0
  · obtain ⟨i', j', a', rfl, rfl, rfl, hi, hj, ha, n0, n1, hv, hij, hl, he⟩ := lock_inv k
    rw [he]
    have hw : WF (put b.p i' a' (b.p.v i' a' - n)) := w.p.put hi ha (by omega) (by have := w.p.sum a' ha; omega)
    have ht : ∀ c, totB ⟨put b.p i' a' (b.p.v i' a' - n), b.l ++ [⟨i', j', a', n, due, 0, h, []⟩]⟩ c = totB b c := by
      intro c
      unfold totB
      rw [totP_put_any hi ha, lockedN_snoc]
      by_cases e : c = (a' : Int)
      · subst e
        rw [if_pos rfl, if_pos ⟨rfl, rfl⟩]
        show totP b.p a' + (b.p.v i' a' - n - b.p.v i' a') + (lockedN b.l a' b.l.length + n) = _
        omega
      · rw [if_neg e, if_neg (fun q => e q.2.symm)]; omega
    refine ⟨⟨hw, fun q hq => ?_, fun c hc => by rw [ht]; exact w.sum c hc⟩, ht, rfl, rfl⟩
    simp only [List.length_append, List.length_singleton] at hq
    by_cases e : q < b.l.length
    · simp only [atE_append_left e]
      exact w.each q e
    · obtain rfl : q = b.l.length := by omega
      simp only [atE_append_last]
      exact ⟨isP_iff.2 ⟨by omega, by show (i' : Int) < b.p.np; omega⟩, isP_iff.2 ⟨by omega, by show (j' : Int) < b.p.np; omega⟩, isA_iff.2 ⟨by omega, by show (a' : Int) < b.p.na; omega⟩, n0, n1, hb, fun x hx => by simp at hx⟩
  · rw [(lock_no k).1]
    exact ⟨w, fun _ => rfl, rfl, rfl⟩
/-- what an open escrow holds goes in again -/
theorem give_back {b : BS} (w : WB b) {k : Nat} (hk : k < b.l.length) (h0 : (atE b.l k).state = 0) {who : Int} (hp : isP b.p who = true) : ∃ i a : Nat, who = i ∧ (atE b.l k).asset = a ∧ i < b.p.np ∧ a < b.p.na ∧
    giveP b.p who (atE b.l k).asset (atE b.l k).amount = (0, put b.p i a (b.p.v i a + (atE b.l k).amount)) ∧ WF (put b.p i a (b.p.v i a + (atE b.l k).amount)) := by
  obtain ⟨h1, h2, h3, h4, h5, h6, h7⟩ := w.each k hk
  obtain ⟨i, rfl, hi⟩ := isP_nat hp
  obtain ⟨a, ha, ha2⟩ := isA_nat h3
  have hf := w.fits hk h0
  have hs := w.sum (atE b.l k).asset h3
  unfold totB at hs
  rw [ha] at hf hs ⊢
  refine ⟨i, a, rfl, rfl, hi, ha2, ?_, ?_⟩
  · rw [give_yes (fitB_at hi ha2 (by omega) h5) (by omega)]
  · have e := w.p.put (i := i) (a := a) (x := b.p.v i a + (atE b.l k).amount) hi ha2 (by have := w.p.pos i a hi ha2; omega) (by
      rw [totP_nat ha2] at hs; omega)
    exact e
/-- one that was open is closed, its amount given -/
theorem close_wb {b : BS} (w : WB b) {k : Nat} (hk : k < b.l.length) (h0 : (atE b.l k).state = 0) {i a : Nat} (hi : i < b.p.np) (ha2 : a < b.p.na) (ha : (atE b.l k).asset = a) (hw : WF (put b.p i a (b.p.v i a + (atE b.l k).amount))) {x : EV} (hx : x.state ≠ 0)
    (e1 : x.src = (atE b.l k).src) (e2 : x.dst = (atE b.l k).dst) (e3 : x.asset = (atE b.l k).asset) (e4 : x.amount = (atE b.l k).amount) (e5 : x.hash = (atE b.l k).hash) (e6 : Bytes x.secret) :
    WB ⟨put b.p i a (b.p.v i a + (atE b.l k).amount), b.l.set k x⟩ ∧ ∀ c, totB ⟨put b.p i a (b.p.v i a + (atE b.l k).amount), b.l.set k x⟩ c = totB b c := by
  have ht : ∀ c, totB ⟨put b.p i a (b.p.v i a + (atE b.l k).amount), b.l.set k x⟩ c = totB b c := by
    intro c
    unfold totB
    rw [totP_put_any hi ha2, List.length_set, lockedN_set hk h0 hx (Nat.le_refl _), ha]
    by_cases e : c = (a : Int)
    · subst e
      rw [if_pos rfl, if_pos ⟨hk, rfl⟩]; omega
    · rw [if_neg e, if_neg (fun q => e q.2.symm)]; omega
  refine ⟨⟨hw, fun q hq => ?_, fun c hc => by rw [ht]; exact w.sum c hc⟩, ht⟩
  simp only [List.length_set] at hq
  simp only [atE_set x hq]
  by_cases e : k = q
  · subst e
    rw [if_pos rfl, e1, e2, e3, e4, e5]
    obtain ⟨h1, h2, h3, h4, h5, h6, h7⟩ := w.each k hk
    exact ⟨h1, h2, h3, h4, h5, h6, e6⟩
  · rw [if_neg e]
    exact w.each q hq
/-- Claim: nothing, or closed with its secret, the amount its receiver's -/
theorem claim_cases {b : BS} (w : WB b) (who id : Int) {s : List Int} (hs : Bytes s) (clock : Int) : (∃ e : Int, e ≠ 0 ∧ claimB b who id s clock = (e, b)) ∨
    ∃ k i a : Nat, id = k ∧ k < b.l.length ∧ who = i ∧ i < b.p.np ∧ a < b.p.na ∧ (atE b.l k).dst = who ∧ (atE b.l k).state = 0 ∧ ¬ (atE b.l k).due ≤ clock ∧ tickB clock = true ∧ s.length = 32 ∧ sha s = (atE b.l k).hash ∧ (atE b.l k).asset = a ∧
      claimB b who id s clock = (0, ⟨put b.p i a (b.p.v i a + (atE b.l k).amount), b.l.set k { atE b.l k with state := 1, secret := s }⟩) ∧
      WB ⟨put b.p i a (b.p.v i a + (atE b.l k).amount), b.l.set k { atE b.l k with state := 1, secret := s }⟩ ∧
      ∀ c, totB ⟨put b.p i a (b.p.v i a + (atE b.l k).amount), b.l.set k { atE b.l k with state := 1, secret := s }⟩ c = totB b c := by
  unfold claimB
  by_cases h1 : hasE b.l id = false
  · rw [if_pos h1]; exact .inl ⟨8, by decide, rfl⟩
  · rw [if_neg h1]
    obtain ⟨k, rfl, hk⟩ := hasE_nat (by simpa using h1)
    simp only [Int.toNat_natCast]
    by_cases h2 : (atE b.l k).dst ≠ who
    · rw [if_pos h2]; exact .inl ⟨14, by decide, rfl⟩
    · rw [if_neg h2]
      by_cases h3 : (atE b.l k).state ≠ 0
      · rw [if_pos h3]; exact .inl ⟨9, by decide, rfl⟩
      · rw [if_neg h3]
        by_cases h4 : (atE b.l k).due ≤ clock ∨ tickB clock = false
        · rw [if_pos h4]; exact .inl ⟨11, by decide, rfl⟩
        · rw [if_neg h4]
          by_cases h5 : s.length ≠ 32
          · rw [if_pos h5]; exact .inl ⟨2, by decide, rfl⟩
          · rw [if_neg h5]
            by_cases h6 : sha s ≠ (atE b.l k).hash
            · rw [if_pos h6]; exact .inl ⟨10, by decide, rfl⟩
            · rw [if_neg h6]
              have d := Decidable.not_not.1 h2
              have s0 := Decidable.not_not.1 h3
              obtain ⟨i, a, e1, e2, hi, ha, hg, hw⟩ := give_back w hk s0 (who := who) (by rw [← d]; exact (w.each k hk).2.1)
              rw [hg, if_neg (by simp)]
              obtain ⟨c1, c2⟩ := close_wb w hk s0 hi ha e2 hw (x := { atE b.l k with state := 1, secret := s }) (by simp) rfl rfl rfl rfl rfl hs
              exact .inr ⟨k, i, a, rfl, hk, e1, hi, ha, d, s0, fun q => h4 (.inl q), by simpa using fun q => h4 (.inr q), Decidable.not_not.1 h5, Decidable.not_not.1 h6, e2, rfl, c1, c2⟩
/-- Refund: nothing, or closed, the amount its sender's -/
theorem refund_cases {b : BS} (w : WB b) (who id clock : Int) : (∃ e : Int, e ≠ 0 ∧ refundB b who id clock = (e, b)) ∨
    ∃ k i a : Nat, id = k ∧ k < b.l.length ∧ who = i ∧ i < b.p.np ∧ a < b.p.na ∧ (atE b.l k).src = who ∧ (atE b.l k).state = 0 ∧ ¬ clock < (atE b.l k).due ∧ tickB clock = true ∧ (atE b.l k).asset = a ∧
      refundB b who id clock = (0, ⟨put b.p i a (b.p.v i a + (atE b.l k).amount), b.l.set k { atE b.l k with state := 2 }⟩) ∧
      WB ⟨put b.p i a (b.p.v i a + (atE b.l k).amount), b.l.set k { atE b.l k with state := 2 }⟩ ∧
      ∀ c, totB ⟨put b.p i a (b.p.v i a + (atE b.l k).amount), b.l.set k { atE b.l k with state := 2 }⟩ c = totB b c := by
  unfold refundB
  by_cases h1 : hasE b.l id = false
  · rw [if_pos h1]; exact .inl ⟨8, by decide, rfl⟩
  · rw [if_neg h1]
    obtain ⟨k, rfl, hk⟩ := hasE_nat (by simpa using h1)
    simp only [Int.toNat_natCast]
    by_cases h2 : (atE b.l k).src ≠ who
    · rw [if_pos h2]; exact .inl ⟨14, by decide, rfl⟩
    · rw [if_neg h2]
      by_cases h3 : (atE b.l k).state ≠ 0
      · rw [if_pos h3]; exact .inl ⟨9, by decide, rfl⟩
      · rw [if_neg h3]
        by_cases h4 : clock < (atE b.l k).due ∨ tickB clock = false
        · rw [if_pos h4]; exact .inl ⟨11, by decide, rfl⟩
        · rw [if_neg h4]
          have d := Decidable.not_not.1 h2
          have s0 := Decidable.not_not.1 h3
          obtain ⟨i, a, e1, e2, hi, ha, hg, hw⟩ := give_back w hk s0 (who := who) (by rw [← d]; exact (w.each k hk).1)
          rw [hg, if_neg (by simp)]
          obtain ⟨c1, c2⟩ := close_wb w hk s0 hi ha e2 hw (x := { atE b.l k with state := 2 }) (by simp) rfl rfl rfl rfl rfl (w.each k hk).2.2.2.2.2.2
          exact .inr ⟨k, i, a, rfl, hk, e1, hi, ha, d, s0, fun q => h4 (.inl q), by simpa using fun q => h4 (.inr q), e2, rfl, c1, c2⟩
theorem WB.none {b : BS} (w : WB b) {a : Int} (ha : isA b.p a = false) : ∀ {k : Nat}, k ≤ b.l.length → lockedN b.l a k = 0
  | 0, _ => rfl
  | k + 1, hk => by
    have h1 := w.none ha (k := k) (by omega)
    have h2 := (w.each k (by omega)).2.2.1
    show lockedN b.l a k + (if (atE b.l k).state = 0 ∧ (atE b.l k).asset = a then (atE b.l k).amount else 0) = 0
    rw [h1, if_neg]
    · rfl
    · rintro ⟨-, e⟩
      rw [e, ha] at h2
      cases h2
/-- a total, part by part, is an amount -/
theorem WB.part {b : BS} (w : WB b) (a : Int) {k : Nat} (hk : k ≤ b.l.length) : 0 ≤ totP b.p a + lockedN b.l a k ∧ totP b.p a + lockedN b.l a k ≤ 4611686018427387904 := by
  have h0 := w.locked a hk
  have ht : 0 ≤ totP b.p a := by
    unfold totP
    cases ha : isA b.p a with
    | false => rw [if_neg (by decide)]; exact Int.le_refl _
    | true =>
      obtain ⟨c, rfl, hc⟩ := isA_nat ha
      rw [if_pos rfl, Int.toNat_natCast]
      exact w.p.tot0 hc
  refine ⟨by omega, ?_⟩
  cases ha : isA b.p a with
  | false =>
    rw [w.none ha hk]
    unfold totP
    rw [ha, if_neg (by decide)]
    omega
  | true =>
    have h1 := w.locked_mono a hk (Nat.le_refl _)
    have h2 := w.sum a ha
    unfold totB at h2
    omega
end Go.Proofs.Ytcebjpfmpagfjaa.Escrow

namespace Go.Proofs.Ytcebjpfmpagfjaa.Escrow
open Go.Proofs.Ytcebjpfmpagfjaa.Num Go.Proofs.Ytcebjpfmpagfjaa.Sha Go.Proofs.Ytcebjpfmpagfjaa.Purse

/-- a book that began as b0, behind k calls -/
structure Inv (b0 : BS) (k : Nat) (b : BS) : Prop where
  wb : WB b
  len : b.l.length ≤ k
  tot : ∀ c, totB b c = totB b0 c
section
variable {b0 b : BS} {k : Nat}
theorem Inv.hashes (h : Inv b0 k b) : ∀ j, j < b.l.length → Bytes (atE b.l j).hash := fun j hj => (h.wb.each j hj).2.2.2.2.2.1
theorem Inv.next (h : Inv b0 k b) : Inv b0 (k + 1) b := ⟨h.wb, by have := h.len; omega, h.tot⟩
theorem Inv.lock (h : Inv b0 k b) (i j a n : Int) {hs : List Int} (hb : Bytes hs) (due clock : Int) : Inv b0 (k + 1) (lockB b i j a n hs due clock).2 := by
  obtain ⟨h1, h2, -, -⟩ := lock_wb (i := i) (j := j) (a := a) (n := n) (due := due) (clock := clock) h.wb hb
  refine ⟨h1, ?_, fun c => by rw [h2, h.tot]⟩
  by_cases k0 : (lockB b i j a n hs due clock).1.2 = 0
  · obtain ⟨_, _, _, -, -, -, -, -, -, -, -, -, -, -, he⟩ := lock_inv k0
    rw [he]
    have := h.len
    simp
    omega
  · rw [(lock_no k0).1]
    have := h.len
    omega
theorem Inv.claim (h : Inv b0 k b) (who id : Int) {s : List Int} (hs : Bytes s) (clock : Int) : Inv b0 (k + 1) (claimB b who id s clock).2 := by
  rcases claim_cases h.wb who id hs clock with ⟨e, -, he⟩ | ⟨_, _, _, -, -, -, -, -, -, -, -, -, -, -, -, he, w, ht⟩
  · rw [he]; exact h.next
  · rw [he]
    exact ⟨w, by have := h.len; simp; omega, fun c => by rw [ht, h.tot]⟩
theorem Inv.refund (h : Inv b0 k b) (who id clock : Int) : Inv b0 (k + 1) (refundB b who id clock).2 := by
  rcases refund_cases h.wb who id clock with ⟨e, -, he⟩ | ⟨_, _, _, -, -, -, -, -, -, -, -, -, -, he, w, ht⟩
  · rw [he]; exact h.next
  · rw [he]
    exact ⟨w, by have := h.len; simp; omega, fun c => by rw [ht, h.tot]⟩
end
end Go.Proofs.Ytcebjpfmpagfjaa.Escrow

namespace Go.Proofs.Ytcebjpfmpagfjaa.Escrow
open Go.Proofs.Ytcebjpfmpagfjaa.Num Go.Proofs.Ytcebjpfmpagfjaa.Sha Go.Proofs.Ytcebjpfmpagfjaa.Purse

section
variable {b b' : BS} {id : Int} {we : EV} {had : Bool}
theorem getB_has (h : getB b id = (we, had)) : had = hasE b.l id ∧ (had = true → we = atE b.l id.toNat) := by
  unfold getB at h
  cases hE : hasE b.l id with
  | true =>
    rw [if_pos hE] at h
    injection h with h1 h2
    exact ⟨h2.symm, fun _ => h1.symm⟩
  | false =>
    rw [if_neg (by rw [hE]; simp)] at h
    injection h with h1 h2
    exact ⟨h2.symm, fun e => by rw [← h2] at e; cases e⟩
theorem getB_lock {i j a n due clock : Int} {h : List Int} (hG : getB b id = (we, true)) : getB (lockB b i j a n h due clock).2 id = (we, true) := by
  obtain ⟨h1, h2⟩ := getB_has hG
  obtain ⟨k, rfl, hk⟩ := hasE_nat h1.symm
  by_cases k0 : (lockB b i j a n h due clock).1.2 = 0
  · obtain ⟨i', j', a', -, -, -, -, -, -, -, -, -, -, -, he⟩ := lock_inv k0
    rw [he]
    unfold getB
    rw [if_pos (hasE_iff.2 ⟨by omega, by simp; omega⟩), h2 rfl]
    simp only [Int.toNat_natCast]
    rw [atE_append_left hk]
  · rw [(lock_no k0).1]
    exact hG
theorem getB_set {l : List EV} {p : PS} {k : Nat} {x : EV} (hk : k < l.length) : (getB ⟨p, l.set k x⟩ k).2 = true := by
  unfold getB
  rw [if_pos (hasE_iff.2 ⟨by omega, by simp; omega⟩)]
theorem claim_out (w : WB b) (who : Int) {s : List Int} (hs : Bytes s) (clock : Int) (hG : getB b id = (we, had)) :
    (∃ e : Int, e ≠ 0 ∧ claimB b who id s clock = (e, b)) ∨ (∃ c, claimB b who id s clock = (0, c) ∧ had = true ∧ we.state = 0 ∧ we.dst = who ∧ clock < we.due ∧ s.length = 32 ∧ sha s = we.hash ∧ (getB c id).2 = true) := by
  rcases claim_cases w who id hs clock with h | ⟨k, i, a, rfl, hk, -, -, -, d, s0, ht, -, hl, hh, -, he, -, -⟩
  · exact .inl h
  · obtain ⟨h1, h2⟩ := getB_has hG
    have h3 : had = true := by rw [h1]; exact hasE_iff.2 ⟨by omega, by omega⟩
    have h4 := h2 h3
    rw [Int.toNat_natCast] at h4
    rw [h4]
    exact .inr ⟨_, he, h3, s0, d, by omega, hl, hh, getB_set hk⟩
theorem refund_out (w : WB b) (who clock : Int) (hG : getB b id = (we, had)) :
    (∃ e : Int, e ≠ 0 ∧ refundB b who id clock = (e, b)) ∨ (∃ c, refundB b who id clock = (0, c) ∧ had = true ∧ we.state = 0 ∧ we.src = who ∧ ¬ clock < we.due ∧ (getB c id).2 = true) := by
  rcases refund_cases w who id clock with h | ⟨k, i, a, rfl, hk, -, -, -, d, s0, ht, -, -, he, -, -⟩
  · exact .inl h
  · obtain ⟨h1, h2⟩ := getB_has hG
    have h3 : had = true := by rw [h1]; exact hasE_iff.2 ⟨by omega, by omega⟩
    have h4 := h2 h3
    rw [Int.toNat_natCast] at h4
    rw [h4]
    exact .inr ⟨_, he, h3, s0, d, ht, getB_set hk⟩
/-- what stands of an escrow behind a call: there was none; it is as it was; or it was open, and the call went through -/
def TailOk (ev : Int) (we : EV) (had : Bool) (r : EV × Bool) : Prop := had = false ∨ (had = true ∧ r = (we, true)) ∨ (had = true ∧ r.2 = true ∧ ev = 0 ∧ we.state = 0)
theorem TailOk.same {ev : Int} (h : getB b id = (we, had)) : TailOk ev we had (getB b id) := by
  rw [h]
  cases had
  · exact .inl rfl
  · exact .inr (.inl ⟨rfl, rfl⟩)
theorem TailOk.lock {ev i j a n due clock : Int} {t : List Int} (h : getB b id = (we, had)) : TailOk ev we had (getB (lockB b i j a n t due clock).2 id) := by
  cases had
  · exact .inl rfl
  · exact .inr (.inl ⟨rfl, getB_lock h⟩)
/-- what all have at first -/
theorem tot_start {n : Nat} {X : Nat → List Int} {a : Nat} (ha : a < (X 0).length) : totB ⟨newP n X, []⟩ a = tot (startV X) n a := by
  show totP (newP n X) a + 0 = _
  rw [Int.add_zero, totP_nat (s := newP n X) ha]
  rfl
end
end Go.Proofs.Ytcebjpfmpagfjaa.Escrow
