/-
  SHA-256 as plain lists of whole numbers: the words of a block, the rounds, whole blocks, the end of a text, the sum. No program in sight.
-/
import Derived.Test.YtfioaofmmplgcaaShaMath
import Derived.Test.YtfioaofmmplgcaaPure
namespace Go.Proofs.Ytfioaofmmplgcaa.Sha

theorem mod32 (x : Int) : W32 (x % 4294967296) := by unfold W32; omega
/-- word i of a block of bytes -/
def wordOf (b : List Int) (i : Nat) : Int :=
  bits .or .u32 (bits .or .u32 (bits .or .u32 (at_ b (4 * i) * 16777216) (at_ b (4 * i + 1) * 65536)) (at_ b (4 * i + 2) * 256)) (at_ b (4 * i + 3))
theorem wordOf32 (b : List Int) (i : Nat) : W32 (wordOf b i) := bits32 _ _ _
def near (y : Int) : Int := bits .xor .u32 (bits .xor .u32 (rotr y 17) (rotr y 19)) (y / 1024)
def far (x : Int) : Int := bits .xor .u32 (bits .xor .u32 (rotr x 7) (rotr x 18)) (x / 8)
theorem near32 (y : Int) : W32 (near y) := bits32 _ _ _
theorem far32 (y : Int) : W32 (far y) := bits32 _ _ _
/-- the next word: of those 2, 7, 15, 16 before it -/
def nxw (y b x d : Int) : Int := (near y + b + far x + d) % 4294967296
def nxl (l : List Int) : Int := nxw (at_ l (l.length - 2)) (at_ l (l.length - 7)) (at_ l (l.length - 15)) (at_ l (l.length - 16))
def grow (l : List Int) : Nat → List Int
  | 0 => l
  | n + 1 => let m := grow l n; m ++ [nxl m]
theorem grow_len (l : List Int) (n : Nat) : (grow l n).length = l.length + n := by
  induction n with
  | zero => rfl
  | succ n ih => simp [grow, ih]; omega
theorem grow_old (l : List Int) (n i : Nat) (h : i < l.length) : at_ (grow l n) i = at_ l i := by
  induction n with
  | zero => rfl
  | succ n ih => rw [grow, at_append_left (by rw [grow_len]; omega), ih]
theorem grow_less (l : List Int) (n m i : Nat) (hm : m ≤ n) (h : i < l.length + m) : at_ (grow l n) i = at_ (grow l m) i := by
  induction n with
  | zero => obtain rfl : m = 0 := by omega
            rfl
  | succ n ih =>
    by_cases e : m = n + 1
    · subst e; rfl
    · rw [grow, at_append_left (by rw [grow_len]; omega), ih (by omega)]
theorem grow_new (l : List Int) (h16 : 16 ≤ l.length) (n i : Nat) (h0 : l.length ≤ i) (h : i < l.length + n) :
    at_ (grow l n) i = nxw (at_ (grow l n) (i - 2)) (at_ (grow l n) (i - 7)) (at_ (grow l n) (i - 15)) (at_ (grow l n) (i - 16)) := by
  obtain ⟨k, rfl⟩ : ∃ k, i = l.length + k := ⟨i - l.length, by omega⟩
  rw [grow_less l n (k + 1) _ (by omega) (by omega), grow_less l n k (l.length + k - 2) (by omega) (by omega), grow_less l n k (l.length + k - 7) (by omega) (by omega),
    grow_less l n k (l.length + k - 15) (by omega) (by omega), grow_less l n k (l.length + k - 16) (by omega) (by omega)]
  rw [grow, at_append_right (by rw [grow_len]; omega), grow_len, Nat.sub_self]
  simp only [nxl, grow_len]
  rfl

/-- the 64 words of a block -/
def sched (b : List Int) : List Int := grow ((List.range 16).map (wordOf b)) 48
theorem sched_len (b : List Int) : (sched b).length = 64 := by simp [sched, grow_len]
theorem sched_lo (b : List Int) (i : Nat) (h : i < 16) : at_ (sched b) i = wordOf b i := by
  rw [sched, grow_old _ _ _ (by simpa using h), at_range _ _ _ h]
theorem sched_hi (b : List Int) (i : Nat) (h0 : 16 ≤ i) (h : i < 64) : at_ (sched b) i = nxw (at_ (sched b) (i - 2)) (at_ (sched b) (i - 7)) (at_ (sched b) (i - 15)) (at_ (sched b) (i - 16)) :=
  grow_new _ (by simp) 48 i (by simpa using h0) (by simpa using h)
theorem sched32 (b : List Int) (i : Nat) : W32 (at_ (sched b) i) := by
  by_cases h : i < 16
  · rw [sched_lo b i h]; exact wordOf32 _ _
  · by_cases h2 : i < 64
    · rw [sched_hi b i (by omega) h2]; unfold nxw W32; omega
    · unfold at_; rw [List.getD_eq_getElem?_getD, List.getElem?_eq_none (by rw [sched_len]; omega)]; exact ⟨by simp, by simp⟩

/-- eight words -/
structure S8 where
  a : Int
  b : Int
  c : Int
  d : Int
  e : Int
  f : Int
  g : Int
  h : Int
def S8.toL (s : S8) : List Int := [s.a, s.b, s.c, s.d, s.e, s.f, s.g, s.h]
def S8.ok (s : S8) : Prop := W32 s.a ∧ W32 s.b ∧ W32 s.c ∧ W32 s.d ∧ W32 s.e ∧ W32 s.f ∧ W32 s.g ∧ W32 s.h
def not32 (x : Int) : Int := bits .xor .u32 IntKind.u32.max x
def ch (e f g : Int) : Int := bits .xor .u32 (bits .and .u32 e f) (bits .and .u32 (not32 e) g)
def maj (a b c : Int) : Int := bits .xor .u32 (bits .xor .u32 (bits .and .u32 a b) (bits .and .u32 a c)) (bits .and .u32 b c)
def step (s : S8) (k w : Int) : S8 :=
  let t1 := (s.h + turns3 s.e 6 11 25 + ch s.e s.f s.g + k + w) % 4294967296
  let t2 := (turns3 s.a 2 13 22 + maj s.a s.b s.c) % 4294967296
  ⟨(t1 + t2) % 4294967296, s.a, s.b, s.c, (s.d + t1) % 4294967296, s.e, s.f, s.g⟩
theorem step_ok {s : S8} (h : s.ok) (k w : Int) : (step s k w).ok := by
  obtain ⟨h1, h2, h3, h4, h5, h6, h7, h8⟩ := h
  refine ⟨?_, h1, h2, h3, ?_, h5, h6, h7⟩
  · exact mod32 _
  · exact mod32 _
def rnds (s : S8) (w : Nat → Int) : Nat → S8
  | 0 => s
  | n + 1 => step (rnds s w n) (kW n : Nat) (w n)
theorem rnds_ok {s : S8} (h : s.ok) (w : Nat → Int) (n : Nat) : (rnds s w n).ok := by
  induction n with
  | zero => exact h
  | succ n ih => exact step_ok ih _ _
def S8.add (s t : S8) : S8 := ⟨(s.a + t.a) % 4294967296, (s.b + t.b) % 4294967296, (s.c + t.c) % 4294967296, (s.d + t.d) % 4294967296, (s.e + t.e) % 4294967296, (s.f + t.f) % 4294967296, (s.g + t.g) % 4294967296, (s.h + t.h) % 4294967296⟩
theorem S8.add_ok (s t : S8) : (s.add t).ok := by
  unfold S8.add S8.ok W32
  refine ⟨?_, ?_, ?_, ?_, ?_, ?_, ?_, ?_⟩ <;> constructor <;> simp only <;> omega
theorem S8.add_at (s t : S8) (i : Nat) (h : i < 8) : at_ (s.add t).toL i = (at_ s.toL i + at_ t.toL i) % 4294967296 := by
  match i, h with
  | 0, _ | 1, _ | 2, _ | 3, _ | 4, _ | 5, _ | 6, _ | 7, _ => rfl
theorem S8.at32 {s : S8} (h : s.ok) (i : Nat) : W32 (at_ s.toL i) := by
  obtain ⟨h1, h2, h3, h4, h5, h6, h7, h8⟩ := h
  match i with
  | 0 => exact h1
  | 1 => exact h2
  | 2 => exact h3
  | 3 => exact h4
  | 4 => exact h5
  | 5 => exact h6
  | 6 => exact h7
  | 7 => exact h8
  | n + 8 => exact ⟨by simp [at_, S8.toL], by simp [at_, S8.toL]⟩
/-- a block of 64 bytes, worked into the state -/
def mixed (s : S8) (b : List Int) : S8 := s.add (rnds s (at_ (sched b)) 64)
theorem mixed_ok (s : S8) (b : List Int) : (mixed s b).ok := S8.add_ok _ _
/-- the first n blocks of l -/
def blocks (s : S8) : Nat → List Int → S8
  | 0, _ => s
  | n + 1, l => blocks (mixed s (l.take 64)) n (l.drop 64)
theorem blocks_ok {s : S8} (h : s.ok) (n : Nat) (l : List Int) : (blocks s n l).ok := by
  induction n generalizing s l with
  | zero => exact h
  | succ n ih => exact ih (mixed_ok _ _) _
theorem blocks_add (s : S8) (n m : Nat) (l : List Int) : blocks s (n + m) l = blocks (blocks s n l) m (l.drop (64 * n)) := by
  induction n generalizing s l with
  | zero => simp [blocks]
  | succ n ih =>
    rw [show n + 1 + m = n + m + 1 by omega]
    simp only [blocks]
    rw [ih, List.drop_drop]
    congr 2
    omega
theorem blocks_take (s : S8) (n : Nat) (l : List Int) (m : Nat) (h : 64 * n ≤ m) : blocks s n (l.take m) = blocks s n l := by
  induction n generalizing s l m with
  | zero => rfl
  | succ n ih =>
    simp only [blocks]
    rw [List.take_take, show min 64 m = 64 by omega, List.drop_take, ih _ _ _ (by omega)]
theorem blocks_append (s : S8) (n : Nat) (l r : List Int) (h : 64 * n ≤ l.length) : blocks s n (l ++ r) = blocks s n l := by
  rw [← blocks_take s n (l ++ r) l.length h, List.take_left]
def S0 : S8 := ⟨(hW 0 : Nat), (hW 1 : Nat), (hW 2 : Nat), (hW 3 : Nat), (hW 4 : Nat), (hW 5 : Nat), (hW 6 : Nat), (hW 7 : Nat)⟩
theorem S0_ok : S0.ok := by
  have h := hW_lt
  have h0 := h 0 (by omega); have h1 := h 1 (by omega); have h2 := h 2 (by omega); have h3 := h 3 (by omega)
  have h4 := h 4 (by omega); have h5 := h 5 (by omega); have h6 := h 6 (by omega); have h7 := h 7 (by omega)
  unfold S8.ok S0 W32
  refine ⟨?_, ?_, ?_, ?_, ?_, ?_, ?_, ?_⟩ <;> constructor <;> simp only <;> omega
theorem S0_at (i : Nat) (h : i < 8) : at_ S0.toL i = (hW i : Nat) := by
  match i, h with
  | 0, _ | 1, _ | 2, _ | 3, _ | 4, _ | 5, _ | 6, _ | 7, _ => rfl
/-- the state behind the whole blocks of a text -/
def st (l : List Int) : S8 := blocks S0 (l.length / 64) l
theorem st_ok (l : List Int) : (st l).ok := blocks_ok S0_ok _ _
/-- one more block behind a text of whole blocks -/
theorem st_block (l b : List Int) (hl : l.length % 64 = 0) (hb : b.length = 64) : st (l ++ b) = mixed (st l) b := by
  unfold st
  rw [List.length_append, hb, show (l.length + 64) / 64 = l.length / 64 + 1 by omega, blocks_add, blocks_append _ _ _ _ (by omega)]
  rw [show 64 * (l.length / 64) = l.length by omega, List.drop_left]
  simp only [blocks]
  rw [List.take_of_length_le (by omega)]
/-- less than a block behind a text changes nothing yet -/
theorem st_rest (l r : List Int) (h : l.length % 64 + r.length < 64) : st (l ++ r) = st l := by
  unfold st
  rw [List.length_append, show (l.length + r.length) / 64 = l.length / 64 by omega, blocks_append _ _ _ _ (by omega)]

/-- the 8 bytes of a count, the greatest first -/
def be8 (n : Nat) : List Int := (List.range 8).map fun i => ((n / 256 ^ (7 - i) % 256 : Nat) : Int)
/-- how many noughts stand between the 1 and the count -/
def padn (n : Nat) : Nat := (119 - n % 64) % 64
def tail (n : Nat) : List Int := 128 :: (List.replicate (padn n) 0 ++ be8 (n * 8))
theorem tail_len (n : Nat) : (tail n).length = 9 + padn n := by simp [tail, be8]; omega
theorem padded_len (l : List Int) : (l ++ tail l.length).length % 64 = 0 := by
  rw [List.length_append, tail_len]; unfold padn; omega
/-- the sum of a text: 32 bytes -/
def out8 (s : S8) : List Int := s.toL.flatMap fun x => [x / 16777216 % 256, x / 65536 % 256, x / 256 % 256, x % 256]
def sha (l : List Int) : List Int := out8 (st (l ++ tail l.length))
theorem out8_len (s : S8) : (out8 s).length = 32 := rfl
theorem sha_len (l : List Int) : (sha l).length = 32 := rfl

theorem sha_none : (sha []).take 4 = [0xe3, 0xb0, 0xc4, 0x42] := by decide +kernel
theorem sha_abc : (sha [97, 98, 99]).take 4 = [0xba, 0x78, 0x16, 0xbf] := by decide +kernel

/- what both the code and the document use: sums of states, rounds, bytes put out, the end -/
/-- the sum of two lists of eight, as far as k -/
def addTo (s v : List Int) (k : Nat) : List Int := (List.range 8).map fun i => if i < k then (at_ s i + at_ v i) % 4294967296 else at_ s i
theorem addTo_len (s v : List Int) (k : Nat) : (addTo s v k).length = 8 := by simp [addTo]
theorem addTo_at (s v : List Int) (k i : Nat) (h : i < 8) : at_ (addTo s v k) i = if i < k then (at_ s i + at_ v i) % 4294967296 else at_ s i := at_range _ _ _ h
theorem addTo_0 (s v : List Int) (h : s.length = 8) : addTo s v 0 = s := by
  apply at_ext
  · rw [addTo_len, h]
  · intro i hi
    rw [addTo_len] at hi
    rw [addTo_at _ _ _ _ hi]; simp
theorem addTo_8 (s v : S8) : addTo s.toL v.toL 8 = (s.add v).toL := by
  apply at_ext
  · rw [addTo_len]; rfl
  · intro i hi
    rw [addTo_len] at hi
    rw [addTo_at _ _ _ _ hi, if_pos hi, S8.add_at _ _ _ hi]
theorem addTo_set (s v : List Int) (k : Nat) : (addTo s v k).set k ((at_ s k + at_ v k) % 4294967296) = addTo s v (k + 1) := by
  apply at_ext
  · rw [List.length_set, addTo_len, addTo_len]
  · intro i hi
    rw [List.length_set, addTo_len] at hi
    rw [at_set _ _ _ _ (by rw [addTo_len]; exact hi), addTo_at _ _ _ _ hi, addTo_at _ _ _ _ hi]
    by_cases h : k = i
    · subst h; simp
    · rw [if_neg h]
      by_cases h2 : i < k
      · rw [if_pos h2, if_pos (by omega)]
      · rw [if_neg h2, if_neg (by omega)]
theorem round_end {s r : S8} {W : Nat → Int} {k : Nat} {t1 t2 : Int} (h : rnds s W k = r)
    (h1 : t1 = (r.h + turns3 r.e 6 11 25 + ch r.e r.f r.g + (kW k : Nat) + W k) % 4294967296) (h2 : t2 = (turns3 r.a 2 13 22 + maj r.a r.b r.c) % 4294967296) :
    rnds s W (k + 1) = ⟨(t1 + t2) % 4294967296, r.a, r.b, r.c, (r.d + t1) % 4294967296, r.e, r.f, r.g⟩ := by
  rw [rnds, h, h1, h2]; rfl
/-- the first k words of a state, as bytes -/
def outK (s : S8) (k : Nat) : List Int := (List.range k).flatMap fun i => [at_ s.toL i / 16777216 % 256, at_ s.toL i / 65536 % 256, at_ s.toL i / 256 % 256, at_ s.toL i % 256]
theorem outK_8 (s : S8) : outK s 8 = out8 s := rfl
theorem outK_len (s : S8) (k : Nat) : (outK s k).length = 4 * k := by
  induction k with
  | zero => rfl
  | succ k ih =>
    have : outK s (k + 1) = outK s k ++ [at_ s.toL k / 16777216 % 256, at_ s.toL k / 65536 % 256, at_ s.toL k / 256 % 256, at_ s.toL k % 256] := by simp [outK, List.range_succ]
    rw [this, List.length_append, ih]; simp; omega
theorem outK_succ (s : S8) (k : Nat) : outK s (k + 1) = outK s k ++ [at_ s.toL k / 16777216 % 256, at_ s.toL k / 65536 % 256, at_ s.toL k / 256 % 256, at_ s.toL k % 256] := by simp [outK, List.range_succ]
theorem out8_bytes {s : S8} : Bytes (out8 s) := by
  intro x hx
  unfold out8 at hx
  obtain ⟨y, hy, hx⟩ := List.mem_flatMap.1 hx
  simp only [List.mem_cons, List.not_mem_nil, or_false] at hx
  rcases hx with rfl | rfl | rfl | rfl <;> constructor <;> omega
theorem sha_bytes (l : List Int) : Bytes (sha l) := out8_bytes
theorem padn_le (L : Nat) : padn L ≤ 63 := by unfold padn; omega
theorem be8_bytes (n : Nat) : Bytes (be8 n) := by
  intro x hx
  unfold be8 at hx
  obtain ⟨i, _, rfl⟩ := List.mem_map.1 hx
  omega
theorem tail_bytes (L : Nat) : Bytes (tail L) := by
  intro x hx
  unfold tail at hx
  rcases List.mem_cons.1 hx with rfl | hx
  · omega
  · rcases List.mem_append.1 hx with hx | hx
    · obtain ⟨_, rfl⟩ := List.mem_replicate.1 hx; omega
    · exact be8_bytes _ x hx
end Go.Proofs.Ytfioaofmmplgcaa.Sha
