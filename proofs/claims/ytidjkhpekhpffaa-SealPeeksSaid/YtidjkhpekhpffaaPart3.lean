/-
  Parts laid together: ShaSpec MacSpec SealSpec.
-/
import Derived.Test.YtidjkhpekhpffaaPart2
import Derived.Test.YtidjkhpekhpffaaPart1

namespace Go.Proofs.Ytidjkhpekhpffaa.Sha

theorem mod32 (x : Int) : W32 (x % 4294967296) := by unfold W32; omega
/-- word i of a block of bytes -/
def wordOf (b : List Int) (i : Nat) : Int :=
  bits .or .u32 (bits .or .u32 (bits .or .u32 (at_ b (4 * i) * 16777216) (at_ b (4 * i + 1) * 65536)) (at_ b (4 * i + 2) * 256)) (at_ b (4 * i + 3))
theorem wordOf32 (b : List Int) (i : Nat) : W32 (wordOf b i) := bits32 _ _ _
def near (y : Int) : Int := bits .xor .u32 (bits .xor .u32 (rotr y 17) (rotr y 19)) (y / 1024)
def far (x : Int) : Int := bits .xor .u32 (bits .xor .u32 (rotr x 7) (rotr x 18)) (x / 8)
theorem near32 (y : Int) : W32 (near y) := bits32 _ _ _
theorem far32 (y : Int) : W32 (far y) := bits32 _ _ _
/-- the next word: of those 2, 7, 15, 16 before it -/
def nxw (y b x d : Int) : Int := (near y + b + far x + d) % 4294967296
def nxl (l : List Int) : Int := nxw (at_ l (l.length - 2)) (at_ l (l.length - 7)) (at_ l (l.length - 15)) (at_ l (l.length - 16))
def grow (l : List Int) : Nat → List Int
  | 0 => l
  | n + 1 => let m := grow l n; m ++ [nxl m]
theorem grow_len (l : List Int) (n : Nat) : (grow l n).length = l.length + n := by
  induction n with
  | zero => rfl
  | succ n ih => simp [grow, ih]; omega
theorem grow_old (l : List Int) (n i : Nat) (h : i < l.length) : at_ (grow l n) i = at_ l i := by
  induction n with
  | zero => rfl
  | succ n ih => rw [grow, at_append_left (by rw [grow_len]; omega), ih]
theorem grow_less (l : List Int) (n m i : Nat) (hm : m ≤ n) (h : i < l.length + m) : at_ (grow l n) i = at_ (grow l m) i := by
  induction n with
  | zero => obtain rfl : m = 0 := by omega
            rfl
  | succ n ih =>
    by_cases e : m = n + 1
    · subst e; rfl
    · rw [grow, at_append_left (by rw [grow_len]; omega), ih (by omega)]
theorem grow_new (l : List Int) (h16 : 16 ≤ l.length) (n i : Nat) (h0 : l.length ≤ i) (h : i < l.length + n) :
    at_ (grow l n) i = nxw (at_ (grow l n) (i - 2)) (at_ (grow l n) (i - 7)) (at_ (grow l n) (i - 15)) (at_ (grow l n) (i - 16)) := by
  obtain ⟨k, rfl⟩ : ∃ k, i = l.length + k := ⟨i - l.length, by omega⟩
  rw [grow_less l n (k + 1) _ (by omega) (by omega), grow_less l n k (l.length + k - 2) (by omega) (by omega), grow_less l n k (l.length + k - 7) (by omega) (by omega),
    grow_less l n k (l.length + k - 15) (by omega) (by omega), grow_less l n k (l.length + k - 16) (by omega) (by omega)]
  rw [grow, at_append_right (by rw [grow_len]; omega), grow_len, Nat.sub_self]
  simp only [nxl, grow_len]
  rfl

/-- the 64 words of a block -/
def sched (b : List Int) : List Int := grow ((List.range 16).map (wordOf b)) 48
theorem sched_len (b : List Int) : (sched b).length = 64 := by simp [sched, grow_len]
theorem sched_lo (b : List Int) (i : Nat) (h : i < 16) : at_ (sched b) i = wordOf b i := by
  rw [sched, grow_old _ _ _ (by simpa using h), at_range _ _ _ h]
theorem sched_hi (b : List Int) (i : Nat) (h0 : 16 ≤ i) (h : i < 64) : at_ (sched b) i = nxw (at_ (sched b) (i - 2)) (at_ (sched b) (i - 7)) (at_ (sched b) (i - 15)) (at_ (sched b) (i - 16)) :=
  grow_new _ (by simp) 48 i (by simpa using h0) (by simpa using h)
theorem sched32 (b : List Int) (i : Nat) : W32 (at_ (sched b) i) := by
  by_cases h : i < 16
  · rw [sched_lo b i h]; exact wordOf32 _ _
  · by_cases h2 : i < 64
    · rw [sched_hi b i (by omega) h2]; unfold nxw W32; omega
    · unfold at_; rw [List.getD_eq_getElem?_getD, List.getElem?_eq_none (by rw [sched_len]; omega)]; exact ⟨by simp, by simp⟩

/-- eight words -/
structure S8 where
  a : Int
  b : Int
  c : Int
  d : Int
  e : Int
  f : Int
  g : Int
  h : Int
def S8.toL (s : S8) : List Int := [s.a, s.b, s.c, s.d, s.e, s.f, s.g, s.h]
def S8.ok (s : S8) : Prop := W32 s.a ∧ W32 s.b ∧ W32 s.c ∧ W32 s.d ∧ W32 s.e ∧ W32 s.f ∧ W32 s.g ∧ W32 s.h
def not32 (x : Int) : Int := bits .xor .u32 IntKind.u32.max x
def ch (e f g : Int) : Int := bits .xor .u32 (bits .and .u32 e f) (bits .and .u32 (not32 e) g)
def maj (a b c : Int) : Int := bits .xor .u32 (bits .xor .u32 (bits .and .u32 a b) (bits .and .u32 a c)) (bits .and .u32 b c)
def step (s : S8) (k w : Int) : S8 :=
  let t1 := (s.h + turns3 s.e 6 11 25 + ch s.e s.f s.g + k + w) % 4294967296
  let t2 := (turns3 s.a 2 13 22 + maj s.a s.b s.c) % 4294967296
  ⟨(t1 + t2) % 4294967296, s.a, s.b, s.c, (s.d + t1) % 4294967296, s.e, s.f, s.g⟩
theorem step_ok {s : S8} (h : s.ok) (k w : Int) : (step s k w).ok := by
  obtain ⟨h1, h2, h3, h4, h5, h6, h7, h8⟩ := h
  refine ⟨?_, h1, h2, h3, ?_, h5, h6, h7⟩
  · exact mod32 _
  · exact mod32 _
def rnds (s : S8) (w : Nat → Int) : Nat → S8
  | 0 => s
  | n + 1 => step (rnds s w n) (kW n : Nat) (w n)
theorem rnds_ok {s : S8} (h : s.ok) (w : Nat → Int) (n : Nat) : (rnds s w n).ok := by
  induction n with
  | zero => exact h
  | succ n ih => exact step_ok ih _ _
def S8.add (s t : S8) : S8 := ⟨(s.a + t.a) % 4294967296, (s.b + t.b) % 4294967296, (s.c + t.c) % 4294967296, (s.d + t.d) % 4294967296, (s.e + t.e) % 4294967296, (s.f + t.f) % 4294967296, (s.g + t.g) % 4294967296, (s.h + t.h) % 4294967296⟩
theorem S8.add_ok (s t : S8) : (s.add t).ok := by
  unfold S8.add S8.ok W32
  refine ⟨?_, ?_, ?_, ?_, ?_, ?_, ?_, ?_⟩ <;> constructor <;> simp only <;> omega
theorem S8.add_at (s t : S8) (i : Nat) (h : i < 8) : at_ (s.add t).toL i = (at_ s.toL i + at_ t.toL i) % 4294967296 := by
  match i, h with
  | 0, _ | 1, _ | 2, _ | 3, _ | 4, _ | 5, _ | 6, _ | 7, _ => rfl
theorem S8.at32 {s : S8} (h : s.ok) (i : Nat) : W32 (at_ s.toL i) := by
  obtain ⟨h1, h2, h3, h4, h5, h6, h7, h8⟩ := h
  match i with
  | 0 => exact h1
  | 1 => exact h2
  | 2 => exact h3
  | 3 => exact h4
  | 4 => exact h5
  | 5 => exact h6
  | 6 => exact h7
  | 7 => exact h8
  | n + 8 => exact ⟨by simp [at_, S8.toL], by simp [at_, S8.toL]⟩
/-- a block of 64 bytes, worked into the state -/
def mixed (s : S8) (b : List Int) : S8 := s.add (rnds s (at_ (sched b)) 64)
theorem mixed_ok (s : S8) (b : List Int) : (mixed s b).ok := S8.add_ok _ _
/-- the first n blocks of l -/
def blocks (s : S8) : Nat → List Int → S8
  | 0, _ => s
  | n + 1, l => blocks (mixed s (l.take 64)) n (l.drop 64)
theorem blocks_ok {s : S8} (h : s.ok) (n : Nat) (l : List Int) : (blocks s n l).ok := by
  induction n generalizing s l with
  | zero => exact h
  | succ n ih => exact ih (mixed_ok _ _) _
theorem blocks_add (s : S8) (n m : Nat) (l : List Int) : blocks s (n + m) l = blocks (blocks s n l) m (l.drop (64 * n)) := by
  induction n generalizing s l with
  | zero => simp [blocks]
  | succ n ih =>
    rw [show n + 1 + m = n + m + 1 by omega]
    simp only [blocks]
    rw [ih, List.drop_drop]
    congr 2
    omega
theorem blocks_take (s : S8) (n : Nat) (l : List Int) (m : Nat) (h : 64 * n ≤ m) : blocks s n (l.take m) = blocks s n l := by
  induction n generalizing s l m with
  | zero => rfl
  | succ n ih =>
    simp only [blocks]
    rw [List.take_take, show min 64 m = 64 by omega, List.drop_take, ih _ _ _ (by omega)]
theorem blocks_append (s : S8) (n : Nat) (l r : List Int) (h : 64 * n ≤ l.length) : blocks s n (l ++ r) = blocks s n l := by
  rw [← blocks_take s n (l ++ r) l.length h, List.take_left]
def S0 : S8 := ⟨(hW 0 : Nat), (hW 1 : Nat), (hW 2 : Nat), (hW 3 : Nat), (hW 4 : Nat), (hW 5 : Nat), (hW 6 : Nat), (hW 7 : Nat)⟩
theorem S0_ok : S0.ok := by
  have h := hW_lt
  have h0 := h 0 (by omega); have h1 := h 1 (by omega); have h2 := h 2 (by omega); have h3 := h 3 (by omega)
  have h4 := h 4 (by omega); have h5 := h 5 (by omega); have h6 := h 6 (by omega); have h7 := h 7 (by omega)
  unfold S8.ok S0 W32
  refine ⟨?_, ?_, ?_, ?_, ?_, ?_, ?_, ?_⟩ <;> constructor <;> simp only <;> omega
theorem S0_at (i : Nat) (h : i < 8) : at_ S0.toL i = (hW i : Nat) := by
  match i, h with
  | 0, _ | 1, _ | 2, _ | 3, _ | 4, _ | 5, _ | 6, _ | 7, _ => rfl
/-- the state behind the whole blocks of a text -/
def st (l : List Int) : S8 := blocks S0 (l.length / 64) l
theorem st_ok (l : List Int) : (st l).ok := blocks_ok S0_ok _ _
/-- one more block behind a text of whole blocks -/
theorem st_block (l b : List Int) (hl : l.length % 64 = 0) (hb : b.length = 64) : st (l ++ b) = mixed (st l) b := by
  unfold st
  rw [List.length_append, hb, show (l.length + 64) / 64 = l.length / 64 + 1 by omega, blocks_add, blocks_append _ _ _ _ (by omega)]
  rw [show 64 * (l.length / 64) = l.length by omega, List.drop_left]
  simp only [blocks]
  rw [List.take_of_length_le (by omega)]
/-- less than a block behind a text changes nothing yet -/
theorem st_rest (l r : List Int) (h : l.length % 64 + r.length < 64) : st (l ++ r) = st l := by
  unfold st
  rw [List.length_append, show (l.length + r.length) / 64 = l.length / 64 by omega, blocks_append _ _ _ _ (by omega)]

/-- the 8 bytes of a count, the greatest first -/
def be8 (n : Nat) : List Int := (List.range 8).map fun i => ((n / 256 ^ (7 - i) % 256 : Nat) : Int)
/-- how many noughts stand between the 1 and the count -/
def padn (n : Nat) : Nat := (119 - n % 64) % 64
def tail (n : Nat) : List Int := 128 :: (List.replicate (padn n) 0 ++ be8 (n * 8))
theorem tail_len (n : Nat) : (tail n).length = 9 + padn n := by simp [tail, be8]; omega
theorem padded_len (l : List Int) : (l ++ tail l.length).length % 64 = 0 := by
  rw [List.length_append, tail_len]; unfold padn; omega
/-- the sum of a text: 32 bytes -/
def out8 (s : S8) : List Int := s.toL.flatMap fun x => [x / 16777216 % 256, x / 65536 % 256, x / 256 % 256, x % 256]
def sha (l : List Int) : List Int := out8 (st (l ++ tail l.length))
theorem out8_len (s : S8) : (out8 s).length = 32 := rfl
theorem sha_len (l : List Int) : (sha l).length = 32 := rfl

theorem sha_none : (sha []).take 4 = [0xe3, 0xb0, 0xc4, 0x42] := by decide +kernel
theorem sha_abc : (sha [97, 98, 99]).take 4 = [0xba, 0x78, 0x16, 0xbf] := by decide +kernel

/- what both the code and the document use: sums of states, rounds, bytes put out, the end -/
/-- the sum of two lists of eight, as far as k -/
def addTo (s v : List Int) (k : Nat) : List Int := (List.range 8).map fun i => if i < k then (at_ s i + at_ v i) % 4294967296 else at_ s i
theorem addTo_len (s v : List Int) (k : Nat) : (addTo s v k).length = 8 := by simp [addTo]
theorem addTo_at (s v : List Int) (k i : Nat) (h : i < 8) : at_ (addTo s v k) i = if i < k then (at_ s i + at_ v i) % 4294967296 else at_ s i := at_range _ _ _ h
theorem addTo_0 (s v : List Int) (h : s.length = 8) : addTo s v 0 = s := by
  apply at_ext
  · rw [addTo_len, h]
  · intro i hi
    rw [addTo_len] at hi
    rw [addTo_at _ _ _ _ hi]; simp
theorem addTo_8 (s v : S8) : addTo s.toL v.toL 8 = (s.add v).toL := by
  apply at_ext
  · rw [addTo_len]; rfl
  · intro i hi
    rw [addTo_len] at hi
    rw [addTo_at _ _ _ _ hi, if_pos hi, S8.add_at _ _ _ hi]
theorem addTo_set (s v : List Int) (k : Nat) : (addTo s v k).set k ((at_ s k + at_ v k) % 4294967296) = addTo s v (k + 1) := by
  apply at_ext
  · rw [List.length_set, addTo_len, addTo_len]
  · intro i hi
    rw [List.length_set, addTo_len] at hi
    rw [at_set _ _ _ _ (by rw [addTo_len]; exact hi), addTo_at _ _ _ _ hi, addTo_at _ _ _ _ hi]
    by_cases h : k = i
    · subst h; simp
    · rw [if_neg h]
      by_cases h2 : i < k
      · rw [if_pos h2, if_pos (by omega)]
      · rw [if_neg h2, if_neg (by omega)]
theorem round_end {s r : S8} {W : Nat → Int} {k : Nat} {t1 t2 : Int} (h : rnds s W k = r)
    (h1 : t1 = (r.h + turns3 r.e 6 11 25 + ch r.e r.f r.g + (kW k : Nat) + W k) % 4294967296) (h2 : t2 = (turns3 r.a 2 13 22 + maj r.a r.b r.c) % 4294967296) :
    rnds s W (k + 1) = ⟨(t1 + t2) % 4294967296, r.a, r.b, r.c, (r.d + t1) % 4294967296, r.e, r.f, r.g⟩ := by
  rw [rnds, h, h1, h2]; rfl
/-- the first k words of a state, as bytes -/
def outK (s : S8) (k : Nat) : List Int := (List.range k).flatMap fun i => [at_ s.toL i / 16777216 % 256, at_ s.toL i / 65536 % 256, at_ s.toL i / 256 % 256, at_ s.toL i % 256]
theorem outK_8 (s : S8) : outK s 8 = out8 s := rfl
theorem outK_len (s : S8) (k : Nat) : (outK s k).length = 4 * k := by
  induction k with
  | zero => rfl
  | succ k ih =>
    have : outK s (k + 1) = outK s k ++ [at_ s.toL k / 16777216 % 256, at_ s.toL k / 65536 % 256, at_ s.toL k / 256 % 256, at_ s.toL k % 256] := by simp [outK, List.range_succ]
    rw [this, List.length_append, ih]; simp; omega
theorem outK_succ (s : S8) (k : Nat) : outK s (k + 1) = outK s k ++ [at_ s.toL k / 16777216 % 256, at_ s.toL k / 65536 % 256, at_ s.toL k / 256 % 256, at_ s.toL k % 256] := by simp [outK, List.range_succ]
theorem out8_bytes {s : S8} : Bytes (out8 s) := by
  intro x hx
  unfold out8 at hx
  obtain ⟨y, hy, hx⟩ := List.mem_flatMap.1 hx
  simp only [List.mem_cons, List.not_mem_nil, or_false] at hx
  rcases hx with rfl | rfl | rfl | rfl <;> constructor <;> omega
theorem sha_bytes (l : List Int) : Bytes (sha l) := out8_bytes
theorem padn_le (L : Nat) : padn L ≤ 63 := by unfold padn; omega
theorem be8_bytes (n : Nat) : Bytes (be8 n) := by
  intro x hx
  unfold be8 at hx
  obtain ⟨i, _, rfl⟩ := List.mem_map.1 hx
  omega
theorem tail_bytes (L : Nat) : Bytes (tail L) := by
  intro x hx
  unfold tail at hx
  rcases List.mem_cons.1 hx with rfl | hx
  · omega
  · rcases List.mem_append.1 hx with hx | hx
    · obtain ⟨_, rfl⟩ := List.mem_replicate.1 hx; omega
    · exact be8_bytes _ x hx
end Go.Proofs.Ytidjkhpekhpffaa.Sha

namespace Go.Proofs.Ytidjkhpekhpffaa.Mac
open Go.Proofs.Ytidjkhpekhpffaa.Sha

theorem bits8 (op : BinOp) (a b : Int) : 0 ≤ bits op .u8 a b ∧ bits op .u8 a b ≤ 255 := by
  unfold bits
  cases op <;> simp only [IntKind.wrap_u8] <;> omega
/-- the key, noughts behind it, with c against each: its first k bytes so far -/
def kpK (key : List Int) (c : Int) (k : Nat) : List Int := (List.range 64).map fun i => if i < k then bits .xor .u8 (at_ key i) c else at_ key i
def kp (key : List Int) (c : Int) : List Int := (List.range 64).map fun i => bits .xor .u8 (at_ key i) c
theorem kpK_len (key : List Int) (c : Int) (k : Nat) : (kpK key c k).length = 64 := by simp [kpK]
theorem kp_len (key : List Int) (c : Int) : (kp key c).length = 64 := by simp [kp]
theorem kpK_at (key : List Int) (c : Int) (k i : Nat) (h : i < 64) : at_ (kpK key c k) i = if i < k then bits .xor .u8 (at_ key i) c else at_ key i := at_range _ _ _ h
theorem kp_at (key : List Int) (c : Int) (i : Nat) (h : i < 64) : at_ (kp key c) i = bits .xor .u8 (at_ key i) c := at_range _ _ _ h
theorem kp_bytes (key : List Int) (c : Int) : Bytes (kp key c) := by
  intro x hx
  obtain ⟨i, _, rfl⟩ := List.mem_map.1 hx
  exact bits8 _ _ _
theorem kpK_64 (key : List Int) (c : Int) : kpK key c 64 = kp key c := by
  apply at_ext
  · rw [kpK_len, kp_len]
  · intro i hi
    rw [kpK_len] at hi
    rw [kpK_at _ _ _ _ hi, kp_at _ _ _ hi, if_pos hi]
theorem kpK_set (key : List Int) (c : Int) (k : Nat) : (kpK key c k).set k (bits .xor .u8 (at_ key k) c) = kpK key c (k + 1) := by
  apply at_ext
  · rw [List.length_set, kpK_len, kpK_len]
  · intro i hi
    rw [List.length_set, kpK_len] at hi
    have hs : at_ ((kpK key c k).set k (bits .xor .u8 (at_ key k) c)) i = if k = i then bits .xor .u8 (at_ key k) c else at_ (kpK key c k) i := by
      simp [at_, List.getD_eq_getElem?_getD, List.getElem?_set]
      by_cases hk : k = i
      · subst hk; simp [kpK_len, hi]
      · simp [hk]
    rw [hs, kpK_at _ _ _ _ hi, kpK_at _ _ _ _ hi]
    by_cases h : k = i
    · subst h; simp
    · rw [if_neg h]
      by_cases h2 : i < k
      · rw [if_pos h2, if_pos (by omega)]
      · rw [if_neg h2, if_neg (by omega)]
/-- the copy into 64 noughts -/
theorem kpK_0 (key : List Int) (c : Int) (h : key.length ≤ 64) : (List.replicate 64 (0 : Int)).take 0 ++ key ++ (List.replicate 64 (0 : Int)).drop (0 + key.length) = kpK key c 0 := by
  apply at_ext
  · rw [kpK_len]; simp; omega
  · intro i hi
    have h64 : i < 64 := by simp at hi; omega
    rw [kpK_at _ _ _ _ h64, if_neg (by omega)]
    by_cases hk : i < key.length
    · rw [at_append_left (by simpa using hk), at_append_right (by simp)]; simp
    · rw [at_append_right (by simp; omega), at_out (l := key) (by omega)]
      simp only [at_, List.getD_eq_getElem?_getD, List.getElem?_drop, List.getElem?_replicate]
      split <;> rfl
theorem kp_nought (key : List Int) (c : Int) : kp (key ++ [0]) c = kp key c := by
  apply at_ext
  · rw [kp_len, kp_len]
  · intro i hi
    rw [kp_len] at hi
    rw [kp_at _ _ _ hi, kp_at _ _ _ hi]
    congr 1
    by_cases h : i < key.length
    · rw [at_append_left h]
    · rw [at_append_right (by omega), at_out (l := key) (by omega)]
      by_cases h2 : i - key.length = 0
      · rw [h2]; rfl
      · exact at_out (by simp; omega)

/-- a key of more than a block counts as its hash -/
def keyOf (key : List Int) : List Int := if 64 < key.length then sha key else key
def hmacK (key text : List Int) : List Int := sha (kp key 92 ++ sha (kp key 54 ++ text))
def hmac (key text : List Int) : List Int := hmacK (keyOf key) text
theorem keyOf_big {key : List Int} (h : 64 < key.length) : keyOf key = sha key := if_pos h
theorem keyOf_small {key : List Int} (h : ¬ 64 < key.length) : keyOf key = key := if_neg h
theorem hmac_len (key text : List Int) : (hmac key text).length = 32 := rfl
theorem hmac_hash {key : List Int} (h : 64 < key.length) (text : List Int) : hmac (sha key) text = hmac key text := by
  unfold hmac
  rw [keyOf_big h, keyOf_small (by rw [sha_len]; omega)]
theorem hmac_nought {key : List Int} (h : key.length < 64) (text : List Int) : hmac (key ++ [0]) text = hmac key text := by
  unfold hmac hmacK
  rw [keyOf_small (show ¬ 64 < key.length by omega), keyOf_small (by simp; omega), kp_nought, kp_nought]

/-- what Equal reckons of the first k bytes -/
def dif (f g : Nat → Int) : Nat → Int
  | 0 => 0
  | k + 1 => bits .or .u8 (dif f g k) (bits .xor .u8 (f k) (g k))
theorem dif8 (f g : Nat → Int) (k : Nat) : 0 ≤ dif f g k ∧ dif f g k ≤ 255 := by
  cases k with
  | zero => exact ⟨by simp [dif], by simp [dif]⟩
  | succ k => exact bits8 _ _ _
theorem xor0 (a b : Int) (ha : 0 ≤ a ∧ a ≤ 255) (hb : 0 ≤ b ∧ b ≤ 255) : bits .xor .u8 a b = 0 ↔ a = b := by
  rw [u8_xor a b ha.1 (by omega) hb.1 (by omega)]
  constructor
  · intro h
    have h2 : a.toNat ^^^ b.toNat = 0 := by exact_mod_cast h
    have h3 : a.toNat = b.toNat := by
      apply Nat.eq_of_testBit_eq
      intro i
      have := congrArg (fun n => n.testBit i) h2
      simp only [Nat.testBit_xor, Nat.zero_testBit] at this
      revert this
      cases a.toNat.testBit i <;> cases b.toNat.testBit i <;> simp
    omega
  · rintro rfl
    simp
theorem or0 (a b : Int) (ha : 0 ≤ a ∧ a ≤ 255) (hb : 0 ≤ b ∧ b ≤ 255) : bits .or .u8 a b = 0 ↔ a = 0 ∧ b = 0 := by
  rw [u8_or a b ha.1 (by omega) hb.1 (by omega)]
  constructor
  · intro h
    have h2 : a.toNat ||| b.toNat = 0 := by exact_mod_cast h
    have h3 := Nat.or_eq_zero_iff.1 h2
    omega
  · rintro ⟨rfl, rfl⟩
    rfl
theorem dif_zero {f g : Nat → Int} (hf : ∀ i, 0 ≤ f i ∧ f i ≤ 255) (hg : ∀ i, 0 ≤ g i ∧ g i ≤ 255) (k : Nat) : dif f g k = 0 ↔ ∀ i, i < k → f i = g i := by
  induction k with
  | zero => simp [dif]
  | succ k ih =>
    rw [dif, or0 _ _ (dif8 _ _ _) (bits8 _ _ _), ih, xor0 _ _ (hf k) (hg k)]
    constructor
    · rintro ⟨h1, h2⟩ i hi
      by_cases e : i = k
      · subst e; exact h2
      · exact h1 i (by omega)
    · intro h
      exact ⟨fun i hi => h i (by omega), h k (by omega)⟩
theorem sameB_dif {xs ys : List Int} (hx : Bytes xs) (hy : Bytes ys) (hl : xs.length = ys.length) : decide (dif (at_ xs) (at_ ys) xs.length = 0) = sameB xs ys := by
  unfold sameB
  apply decide_eq_decide.2
  rw [dif_zero hx.at_ hy.at_]
  constructor
  · intro h; exact at_ext hl h
  · rintro rfl i _; rfl
theorem hi_there : (hmac (List.replicate 20 11) [72, 105, 32, 84, 104, 101, 114, 101]).take 4 = [0xb0, 0x34, 0x4c, 0x61] := by decide +kernel
end Go.Proofs.Ytidjkhpekhpffaa.Mac

namespace Go.Proofs.Ytidjkhpekhpffaa.Seal
open Go.Proofs.Ytidjkhpekhpffaa.Sha Go.Proofs.Ytidjkhpekhpffaa.Wire Go.Proofs.Ytidjkhpekhpffaa.Mac

/-- a note -/
structure NV where
  party : Int
  which : Int
  way : Int
  seq : Int
  body : List Int
@[ext] theorem NV.ext' {n m : NV} (h1 : n.party = m.party) (h2 : n.which = m.which) (h3 : n.way = m.way) (h4 : n.seq = m.seq) (h5 : n.body = m.body) : n = m := by
  cases n; cases m; simp_all
def wayN (n : NV) : Prop := 0 ≤ n.party ∧ n.party < 16 ∧ (n.which = 0 ∨ n.which = 1) ∧ (n.way = 0 ∨ n.way = 1)
def mayN (n : NV) : Prop := wayN n ∧ 1 ≤ n.seq ∧ n.seq < 4294967296
instance (n : NV) : Decidable (wayN n) := by unfold wayN; infer_instance
instance (n : NV) : Decidable (mayN n) := by unfold mayN; infer_instance
def headN (n : NV) : List Int := [110] ++ be n.party.toNat 1 ++ be n.which.toNat 1 ++ be n.way.toNat 1 ++ be n.seq.toNat 4 ++ be n.body.length 4
def textN (n : NV) : List Int := headN n ++ n.body
def errN (n : NV) : Int := if mayN n then (if 60000 < n.body.length then 3 else 0) else 1
def noteN (key : List Int) (n : NV) : List Int := textN n ++ hmac key (textN n)
def sealN (key : List Int) (n : NV) : Int × List Int := (errN n, if errN n = 0 then noteN key n else [])
theorem errN_ok {n : NV} : errN n = 0 ↔ mayN n ∧ n.body.length ≤ 60000 := by
  unfold errN
  by_cases h : mayN n
  · rw [if_pos h]
    by_cases h2 : 60000 < n.body.length
    · rw [if_pos h2]; constructor
      · intro h3; omega
      · intro h3; omega
    · rw [if_neg h2]; exact ⟨fun _ => ⟨h, by omega⟩, fun _ => rfl⟩
  · rw [if_neg h]; constructor
    · intro h3; omega
    · intro h3; exact absurd h3.1 h
theorem headN_len (n : NV) : (headN n).length = 12 := by simp [headN, be_len]
theorem headN_bytes (n : NV) : Bytes (headN n) := by
  unfold headN
  refine (((((Bytes.append ?_ (be_bytes _ _)).append (be_bytes _ _)).append (be_bytes _ _)).append (be_bytes _ _)).append (be_bytes _ _))
  intro x hx
  simp at hx
  omega
theorem textN_len (n : NV) : (textN n).length = 12 + n.body.length := by
  simp only [textN, List.length_append, headN_len]
theorem textN_bytes (n : NV) (hb : Bytes n.body) : Bytes (textN n) := (headN_bytes n).append hb
theorem hmac_byt (key text : List Int) : Bytes (hmac key text) := by
  unfold hmac hmacK
  intro x hx
  unfold sha out8 at hx
  obtain ⟨y, hy, hx⟩ := List.mem_flatMap.1 hx
  simp only [List.mem_cons, List.not_mem_nil, or_false] at hx
  rcases hx with rfl | rfl | rfl | rfl <;> constructor <;> omega
theorem noteN_len (key : List Int) (n : NV) : (noteN key n).length = 44 + n.body.length := by
  simp only [noteN, List.length_append, textN_len, hmac_len]; omega
theorem noteN_bytes (key : List Int) (n : NV) (hb : Bytes n.body) : Bytes (noteN key n) := (textN_bytes n hb).append (hmac_byt _ _)

/-- what is read of bytes -/
def nS (b : List Int) : Nat := val ((b.drop 4).take 4)
def nN (b : List Int) : Nat := val ((b.drop 8).take 4)
/-- the head of a note, as Peek takes it -/
def headOkN (b : List Int) : Prop := at_ b 0 = 110 ∧ at_ b 1 < 16 ∧ at_ b 2 ≤ 1 ∧ at_ b 3 ≤ 1 ∧ nN b ≤ 60000
def peekOk (b : List Int) : Prop := 44 ≤ b.length ∧ headOkN b ∧ b.length = 44 + nN b
instance (b : List Int) : Decidable (headOkN b) := by unfold headOkN; infer_instance
instance (b : List Int) : Decidable (peekOk b) := by unfold peekOk; infer_instance
def peekN (b : List Int) : Int × Int × Int × Int := if peekOk b then (at_ b 1, at_ b 2, at_ b 3, 0) else (0, 0, 0, 2)
def openE (key b : List Int) : Int := if peekOk b ∧ nS b ≠ 0 then (if hmac key (b.take (b.length - 32)) = b.drop (b.length - 32) then 0 else 4) else 2
def noteV (b : List Int) : NV := ⟨at_ b 1, at_ b 2, at_ b 3, nS b, (b.take (b.length - 32)).drop 12⟩
def openN (key b : List Int) : NV × Int := if openE key b = 0 then (noteV b, 0) else (⟨0, 0, 0, 0, []⟩, openE key b)
theorem openE_cases (key b : List Int) : openE key b = 0 ∧ peekOk b ∧ nS b ≠ 0 ∧ hmac key (b.take (b.length - 32)) = b.drop (b.length - 32) ∨ openE key b = 2 ∧ ¬ (peekOk b ∧ nS b ≠ 0) ∨ openE key b = 4 ∧ peekOk b ∧ nS b ≠ 0 ∧ hmac key (b.take (b.length - 32)) ≠ b.drop (b.length - 32) := by
  unfold openE
  by_cases h : peekOk b ∧ nS b ≠ 0
  · rw [if_pos h]
    by_cases h2 : hmac key (b.take (b.length - 32)) = b.drop (b.length - 32)
    · rw [if_pos h2]; exact .inl ⟨rfl, h.1, h.2, h2⟩
    · rw [if_neg h2]; exact .inr (.inr ⟨rfl, h.1, h.2, h2⟩)
  · rw [if_neg h]; exact .inr (.inl ⟨rfl, h⟩)

/-! what was sealed is opened -/
theorem be_one (n : Int) (h : 0 ≤ n ∧ n < 256) : be n.toNat 1 = [n] := by
  have h2 : n.toNat < 256 := by omega
  simp only [be, Nat.pow_zero, Nat.div_one, List.cons.injEq, and_true]
  rw [Nat.mod_eq_of_lt h2]; omega
theorem headN_is {n : NV} (h : mayN n) : headN n = [110, n.party, n.which, n.way] ++ be n.seq.toNat 4 ++ be n.body.length 4 := by
  obtain ⟨⟨h1, h2, h3, h4⟩, -⟩ := h
  unfold headN
  rw [be_one _ ⟨h1, by omega⟩, be_one _ (by omega), be_one _ (by omega)]
  rfl
theorem noteN_is (key : List Int) {n : NV} (h : mayN n) : noteN key n = [110, n.party, n.which, n.way] ++ (be n.seq.toNat 4 ++ (be n.body.length 4 ++ (n.body ++ hmac key (textN n)))) := by
  unfold noteN
  rw [textN, headN_is h]
  simp only [List.append_assoc]
theorem note_parts (key : List Int) {n : NV} (h : mayN n) (hl : n.body.length ≤ 60000) :
    at_ (noteN key n) 0 = 110 ∧ at_ (noteN key n) 1 = n.party ∧ at_ (noteN key n) 2 = n.which ∧ at_ (noteN key n) 3 = n.way ∧ (nS (noteN key n) : Int) = n.seq ∧ nN (noteN key n) = n.body.length ∧ (noteN key n).take ((noteN key n).length - 32) = textN n ∧ (noteN key n).drop ((noteN key n).length - 32) = hmac key (textN n) := by
  have hT : (noteN key n).length - 32 = (textN n).length := by rw [noteN_len, textN_len]; omega
  have hs : n.seq.toNat < 256 ^ 4 := by have := h.2; simp only [show (256 : Nat) ^ 4 = 4294967296 from rfl]; omega
  have hb : n.body.length < 256 ^ 4 := by simp only [show (256 : Nat) ^ 4 = 4294967296 from rfl]; omega
  refine ⟨?_, ?_, ?_, ?_, ?_, ?_, ?_, ?_⟩
  · rw [noteN_is key h]; rfl
  · rw [noteN_is key h]; rfl
  · rw [noteN_is key h]; rfl
  · rw [noteN_is key h]; rfl
  · unfold nS
    rw [noteN_is key h, List.drop_left' (by rfl), List.take_left' (be_len _ _), val_be _ _ hs]
    have := h.2; omega
  · unfold nN
    rw [noteN_is key h, ← List.append_assoc, List.drop_left' (by simp [be_len]), List.take_left' (be_len _ _), val_be _ _ hb]
  · rw [hT]; unfold noteN; rw [List.take_left' rfl]
  · rw [hT]; unfold noteN; rw [List.drop_left' rfl]
theorem peek_note (key : List Int) {n : NV} (h : mayN n) (hl : n.body.length ≤ 60000) : peekOk (noteN key n) := by
  obtain ⟨e0, e1, e2, e3, -, e5, -, -⟩ := note_parts key h hl
  refine ⟨by rw [noteN_len]; omega, ⟨e0, ?_, ?_, ?_, by rw [e5]; omega⟩, by rw [noteN_len, e5]⟩
  · rw [e1]; exact h.1.2.1
  · rw [e2]; have := h.1.2.2.1; omega
  · rw [e3]; have := h.1.2.2.2; omega
theorem noteV_note (key : List Int) {n : NV} (h : mayN n) (hl : n.body.length ≤ 60000) : noteV (noteN key n) = n := by
  obtain ⟨-, e1, e2, e3, e4, -, e6, -⟩ := note_parts key h hl
  unfold noteV
  rw [e1, e2, e3, e4, e6]
  unfold textN
  rw [List.drop_left' (headN_len n)]
theorem open_note (key : List Int) {n : NV} (h : mayN n) (hl : n.body.length ≤ 60000) : openN key (noteN key n) = (n, 0) := by
  obtain ⟨-, -, -, -, e4, -, e6, e7⟩ := note_parts key h hl
  have hE : openE key (noteN key n) = 0 := by
    unfold openE
    rw [if_pos ⟨peek_note key h hl, by have := h.2; omega⟩, e6, e7, if_pos rfl]
  unfold openN
  rw [if_pos hE, noteV_note key h hl]
theorem peekN_note (key : List Int) {n : NV} (h : mayN n) (hl : n.body.length ≤ 60000) : peekN (noteN key n) = (n.party, n.which, n.way, 0) := by
  obtain ⟨-, e1, e2, e3, -, -, -, -⟩ := note_parts key h hl
  unfold peekN
  rw [if_pos (peek_note key h hl), e1, e2, e3]
/-- notes that differ are other bytes -/
theorem note_inj (key : List Int) {n m : NV} (h : mayN n) (hl : n.body.length ≤ 60000) (h' : mayN m) (hl' : m.body.length ≤ 60000) (e : noteN key n = noteN key m) : n = m := by
  rw [← noteV_note key h hl, e, noteV_note key h' hl']
/-- a length that does not fit -/
theorem nN_app (b c : List Int) (h : 12 ≤ b.length) : nN (b ++ c) = nN b := by
  unfold nN
  rw [List.drop_append_of_le_length (by omega), List.take_append_of_le_length (by simp; omega)]
theorem not_more {b : List Int} (h : peekOk b) (x : Int) : ¬ peekOk (b ++ [x]) := by
  rintro ⟨-, -, k⟩
  obtain ⟨h1, -, h2⟩ := h
  rw [nN_app _ _ (by omega), List.length_append, List.length_singleton] at k
  omega
theorem not_less {b : List Int} (h : peekOk b) (k : Nat) (hk : k < b.length) : ¬ peekOk (b.take k) := by
  rintro ⟨k1, -, k2⟩
  obtain ⟨h1, -, h2⟩ := h
  have e : nN (b.take k) = nN b := by
    conv => rhs; rw [← List.take_append_drop k b]
    rw [nN_app _ _ (by rw [List.length_take] at k1 ⊢; omega)]
  rw [e, List.length_take] at k2
  omega
end Go.Proofs.Ytidjkhpekhpffaa.Seal
